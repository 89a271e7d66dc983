/- Power13; no condition. -/
import Derived.Test.YtgdejlofkjdkoaaDoorLvl
namespace Go.Proofs.YtgdejlofkjdkoaaDoor
open Go.RowKit Go.ChangeShapes Go.WideShapes Go.ChangeAt
set_option linter.unusedVariables false
set_option linter.unusedSimpArgs false
set_option maxRecDepth 8000
/-- may Power13 be asked? -/
def pwB (zs : List Int) (st : Int) : Bool := decide (zs.length ≤ 128) && lvB zs && decide (0 ≤ st ∧ st ≤ 255)
def pwR (zs : List Int) (st : Int) : Int := if pwB zs st = true then pw zs st else 0
set_option maxHeartbeats 3200000 in
theorem powerI_c (v : Value) (zs : List Int) (st : Int) (w : World) (h : Rd .i64 w v zs) : Calls Tryd.prog 16 #[v, .int .i64 st] w fun e w' => e = .returned (.tuple #[.int .i64 (pwR zs st), .bool (pwB zs st)]) ∧ Below w.heap.size w w' := by
  have HR : Hid (Rd .i64 w v zs) := h
  have HB : Hid (Below w.heap.size w w) := Below.refl _ _
  obtain ⟨a, cap, rfl, h1, h2, -⟩ := h
  unfold maxLen at h2
  have HE : Hid (pwB zs st = (decide (zs.length ≤ 128) && lvB zs && decide (0 ≤ st ∧ st ≤ 255))) := rfl
  have HRR : Hid (pwR zs st = if pwB zs st = true then pw zs st else 0) := rfl
  have HFF : Hid (pwB zs st = false → Ending.returned (.tuple #[.int .i64 0, .bool false]) = .returned (.tuple #[.int .i64 (pwR zs st), .bool (pwB zs st)])) := fun e => by rw [HRR.out, if_neg (by rw [e]; simp), e]
  by_cases hl : (zs.length : Int) ≤ 128
  case neg =>
    have hld : decide ((128 : Int) < (zs.length : Int)) = true := by simp; omega
    have HF : Hid (pwB zs st = false) := by show _ = _; rw [HE.out]; have : decide (zs.length ≤ 128) = false := by simp; omega
                                            rw [this]; rfl
    clear hl
    go_enter Tryd.func16, Tryd.ntmps16
    go_wp2
    go_ret2
    exact ⟨HFF.out HF.out, HB.out⟩
  have hld : decide ((128 : Int) < (zs.length : Int)) = false := by simp; omega
  have HL : Hid (decide (zs.length ≤ 128) = true) := by show _ = _; simp; omega
  have hl' : zs.length ≤ 128 := by omega
  go_enter Tryd.func16, Tryd.ntmps16
  go_wp2_with (fail)
  refine (levels_c _ zs _ HR.out).mono ?_
  rintro e w1 ⟨rfl, b1⟩
  have HB1 : Hid (Below w.heap.size w w1) := b1
  obtain ⟨x, hx⟩ : ∃ x, lvB zs = x := ⟨_, rfl⟩
  rw [hx]
  have HX : Hid (lvB zs = x) := hx
  clear b1 hx
  cases x with
  | false =>
    have HF : Hid (pwB zs st = false) := by show _ = _; rw [HE.out, HX.out]; simp
    go_wp2
    go_ret2
    exact ⟨HFF.out HF.out, HB1.out⟩
  | true =>
  go_wp2_with (fail)
  refine (within_c _ _ _ _).mono ?_
  rintro e w2 ⟨rfl, hw⟩
  rw [hw]
  clear hw w2
  by_cases c : 0 ≤ st ∧ st ≤ 255
  case neg =>
    have d : decide (0 ≤ st ∧ st ≤ 255) = false := by rw [decide_eq_false_iff_not]; exact c
    have HF : Hid (pwB zs st = false) := by show _ = _; rw [HE.out, d]; simp
    rw [d]
    clear c d
    go_wp2
    go_ret2
    exact ⟨HFF.out HF.out, HB1.out⟩
  have d : decide (0 ≤ st ∧ st ≤ 255) = true := by rw [decide_eq_true_eq]; exact c
  have HT : Hid (pwB zs st = true) := by show _ = _; rw [HE.out, d, HX.out, HL.out]; rfl
  rw [d]
  go_wp2_with (fail)
  refine (quarterI_c w1).mono ?_
  rintro e w2 ⟨g, rfl, hq, hg, hb⟩
  have HQ : Hid (Qt w2 g) := hq
  have HB2 : Hid (Below w.heap.size w w2) := belowCall HB1.out hb HB1.out.size
  clear hq hb
  go_wp2_with (fail)
  refine (powI_c g _ zs st c.1 c.2 hl' (lvB_P HX.out) w2 HQ.out (HR.out.below HB2.out)).mono ?_
  rintro e w3 ⟨rfl, b3⟩
  have HB3 : Hid (Below w.heap.size w w3) := belowCall HB2.out b3 HB2.out.size
  clear b3
  go_wp2
  go_ret2
  exact ⟨by rw [HRR.out, if_pos HT.out, HT.out]; rfl, HB3.out⟩

end Go.Proofs.YtgdejlofkjdkoaaDoor

/- Power13; no condition. -/
import Derived.Test.YtgdejlofkjdkoaaLvl
namespace Go.Proofs.Ytgdejlofkjdkoaa
open Go.RowKit Go.ChangeShapes Go.WideShapes Go.ChangeAt
set_option linter.unusedVariables false
set_option linter.unusedSimpArgs false
set_option maxRecDepth 8000
/-- may Power13 be asked? -/
def pwB (zs : List Int) (st : Int) : Bool := decide (zs.length ≤ 128) && lvB zs && decide (0 ≤ st ∧ st ≤ 255)
def pwR (zs : List Int) (st : Int) : Int := if pwB zs st = true then pw zs st else 0
set_option maxHeartbeats 3200000 in
theorem powerI_c (v : Value) (zs : List Int) (st : Int) (w : World) (h : Rd .i64 w v zs) : Calls Try.prog 13 #[v, .int .i64 st] w fun e w' => e = .returned (.tuple #[.int .i64 (pwR zs st), .bool (pwB zs st)]) ∧ Below w.heap.size w w' := by
  have HR : Hid (Rd .i64 w v zs) := h
  have HB : Hid (Below w.heap.size w w) := Below.refl _ _
  obtain ⟨a, cap, rfl, h1, h2, -⟩ := h
  unfold maxLen at h2
  have HE : Hid (pwB zs st = (decide (zs.length ≤ 128) && lvB zs && decide (0 ≤ st ∧ st ≤ 255))) := rfl
  have HRR : Hid (pwR zs st = if pwB zs st = true then pw zs st else 0) := rfl
  have HFF : Hid (pwB zs st = false → Ending.returned (.tuple #[.int .i64 0, .bool false]) = .returned (.tuple #[.int .i64 (pwR zs st), .bool (pwB zs st)])) := fun e => by rw [HRR.out, if_neg (by rw [e]; simp), e]
  by_cases hl : (zs.length : Int) ≤ 128
  case neg =>
    have hld : decide ((128 : Int) < (zs.length : Int)) = true := by simp; omega
    have HF : Hid (pwB zs st = false) := by show _ = _; rw [HE.out]; have : decide (zs.length ≤ 128) = false := by simp; omega
                                            rw [this]; rfl
    clear hl
    go_enter Try.func13, Try.ntmps13
    go_wp2
    go_ret2
    exact ⟨HFF.out HF.out, HB.out⟩
  have hld : decide ((128 : Int) < (zs.length : Int)) = false := by simp; omega
  have HL : Hid (decide (zs.length ≤ 128) = true) := by show _ = _; simp; omega
  have hl' : zs.length ≤ 128 := by omega
  go_enter Try.func13, Try.ntmps13
  go_wp2_with (fail)
  refine (levels_c _ zs _ HR.out).mono ?_
  rintro e w1 ⟨rfl, b1⟩
  have HB1 : Hid (Below w.heap.size w w1) := b1
  obtain ⟨x, hx⟩ : ∃ x, lvB zs = x := ⟨_, rfl⟩
  rw [hx]
  have HX : Hid (lvB zs = x) := hx
  clear b1 hx
  cases x with
  | false =>
    have HF : Hid (pwB zs st = false) := by show _ = _; rw [HE.out, HX.out]; simp
    go_wp2
    go_ret2
    exact ⟨HFF.out HF.out, HB1.out⟩
  | true =>
  go_wp2_with (fail)
  refine (within_c _ _ _ _).mono ?_
  rintro e w2 ⟨rfl, hw⟩
  rw [hw]
  clear hw w2
  by_cases c : 0 ≤ st ∧ st ≤ 255
  case neg =>
    have d : decide (0 ≤ st ∧ st ≤ 255) = false := by rw [decide_eq_false_iff_not]; exact c
    have HF : Hid (pwB zs st = false) := by show _ = _; rw [HE.out, d]; simp
    rw [d]
    clear c d
    go_wp2
    go_ret2
    exact ⟨HFF.out HF.out, HB1.out⟩
  have d : decide (0 ≤ st ∧ st ≤ 255) = true := by rw [decide_eq_true_eq]; exact c
  have HT : Hid (pwB zs st = true) := by show _ = _; rw [HE.out, d, HX.out, HL.out]; rfl
  rw [d]
  go_wp2_with (fail)
  refine (quarterI_c w1).mono ?_
  rintro e w2 ⟨g, rfl, hq, hg, hb⟩
  have HQ : Hid (Qt w2 g) := hq
  have HB2 : Hid (Below w.heap.size w w2) := belowCall HB1.out hb HB1.out.size
  clear hq hb
  go_wp2_with (fail)
  refine (powI_c g _ zs st c.1 c.2 hl' (lvB_P HX.out) w2 HQ.out (HR.out.below HB2.out)).mono ?_
  rintro e w3 ⟨rfl, b3⟩
  have HB3 : Hid (Below w.heap.size w w3) := belowCall HB2.out b3 HB2.out.size
  clear b3
  go_wp2
  go_ret2
  exact ⟨by rw [HRR.out, if_pos HT.out, HT.out]; rfl, HB3.out⟩
set_option maxHeartbeats 3200000 in
theorem powerM_c (v : Value) (zs : List Int) (st : Int) (w : World) (h : Rd .i64 w v zs) : Calls Try.prog 11 #[v, .int .i64 st] w fun e w' => e = .returned (.tuple #[.int .i64 (pwR zs st), .bool (pwB zs st)]) ∧ Below w.heap.size w w' := by
  have HR : Hid (Rd .i64 w v zs) := h
  have HB : Hid (Below w.heap.size w w) := Below.refl _ _
  obtain ⟨a, cap, rfl, h1, h2, -⟩ := h
  unfold maxLen at h2
  have HE : Hid (pwB zs st = (decide (zs.length ≤ 128) && lvB zs && decide (0 ≤ st ∧ st ≤ 255))) := rfl
  have HRR : Hid (pwR zs st = if pwB zs st = true then pw zs st else 0) := rfl
  have HFF : Hid (pwB zs st = false → Ending.returned (.tuple #[.int .i64 0, .bool false]) = .returned (.tuple #[.int .i64 (pwR zs st), .bool (pwB zs st)])) := fun e => by rw [HRR.out, if_neg (by rw [e]; simp), e]
  go_enter Try.func11, Try.ntmps11
  go_wp2_with (fail)
  refine (levelsM_c _ zs 128 (by omega) _ HR.out).mono ?_
  rintro e w1 ⟨rfl, b1⟩
  have HB1 : Hid (Below w.heap.size w w1) := b1
  obtain ⟨x, hx⟩ : ∃ x, (decide (zs.length ≤ 128) && lvB zs) = x := ⟨_, rfl⟩
  rw [hx]
  have HX : Hid ((decide (zs.length ≤ 128) && lvB zs) = x) := hx
  clear b1 hx
  cases x with
  | false =>
    have HF : Hid (pwB zs st = false) := by show _ = _; rw [HE.out, HX.out]; simp
    go_wp2
    go_ret2
    exact ⟨HFF.out HF.out, HB1.out⟩
  | true =>
  have hxx := HX.out
  rw [Bool.and_eq_true, decide_eq_true_eq] at hxx
  have hl' := hxx.1
  have HLL : Hid (lvP zs) := lvB_P hxx.2
  clear hxx
  go_wp2_with (fail)
  refine (in_c _ _ _ _).mono ?_
  rintro e w2 ⟨rfl, hw⟩
  rw [hw]
  clear hw w2
  by_cases c : 0 ≤ st ∧ st ≤ 255
  case neg =>
    have d : decide (0 ≤ st ∧ st ≤ 255) = false := by rw [decide_eq_false_iff_not]; exact c
    have HF : Hid (pwB zs st = false) := by show _ = _; rw [HE.out, d]; simp
    rw [d]
    clear c d
    go_wp2
    go_ret2
    exact ⟨HFF.out HF.out, HB1.out⟩
  have d : decide (0 ≤ st ∧ st ≤ 255) = true := by rw [decide_eq_true_eq]; exact c
  have HT : Hid (pwB zs st = true) := by show _ = _; rw [HE.out, d, HX.out]; rfl
  rw [d]
  go_wp2_with (fail)
  refine (tableM_c w1).mono ?_
  rintro e w2 ⟨vt, rfl, ho, hb⟩
  have HQ : Hid (Rd .i64 w2 vt wvR) := ho.rd
  have HB2 : Hid (Below w.heap.size w w2) := belowCall HB1.out hb HB1.out.size
  clear ho hb
  go_wp2_with (fail)
  refine (powM_c vt _ zs st c.1 c.2 hl' HLL.out w2 HQ.out (HR.out.below HB2.out)).mono ?_
  rintro e w3 ⟨rfl, b3⟩
  have HB3 : Hid (Below w.heap.size w w3) := belowCall HB2.out b3 HB2.out.size
  clear b3
  go_wp2
  go_ret2
  exact ⟨by rw [HRR.out, if_pos HT.out, HT.out]; rfl, HB3.out⟩

set_option maxHeartbeats 3200000 in
theorem powerLaw (v : Value) (zs : List Int) (st : Int) (w : World) (h : Rd .i64 w v zs) (hst : (Lit.int .i64 st).wf = true) : Calls Try.prog 5 #[v, .int .i64 st] w fun e w' => e = .returned (.bool true) ∧ Below w.heap.size w w' := by
  have HR : Hid (Rd .i64 w v zs) := h
  have HB : Hid (Below w.heap.size w w) := Below.refl _ _
  obtain ⟨a, cap, rfl, h1, h2, -⟩ := h
  unfold maxLen at h2
  by_cases hl : (1048576 : Int) < (zs.length : Int)
  · go_enter Try.func5, Try.ntmps5
    go_wp2
    go_ret
    exact ⟨rfl, HB.out⟩
  have hl' : zs.length ≤ 1048576 := by omega
  go_enter Try.func5, Try.ntmps5
  go_wp2_with (fail)
  refine (toI _ zs w HR.out hl').mono ?_
  rintro e w1 ⟨v1, rfl, o1, b1⟩
  have HO1 : Hid (Rd .i64 w1 v1 zs) := o1.rd
  have HB1 : Hid (Below w.heap.size w w1) := b1
  clear o1 b1
  go_wp2_with (fail)
  refine (powerM_c v1 zs st w1 HO1.out).mono ?_
  rintro e w2 ⟨rfl, b2⟩
  have HB2 : Hid (Below w.heap.size w w2) := belowCall HB1.out b2 HB1.out.size
  clear b2
  go_wp2_with (fail)
  refine (toI _ zs w2 (HR.out.below HB2.out) hl').mono ?_
  rintro e w3 ⟨v3, rfl, o3, b3⟩
  have HO3 : Hid (Rd .i64 w3 v3 zs) := o3.rd
  have HB3 : Hid (Below w.heap.size w w3) := belowCall HB2.out b3 HB2.out.size
  clear o3 b3
  go_wp2_with (fail)
  refine (powerI_c v3 zs st w3 HO3.out).mono ?_
  rintro e w4 ⟨rfl, b4⟩
  have HO4 : Hid (Rd .i64 w4 v3 zs) := HO3.out.below b4
  have HB4 : Hid (Below w.heap.size w w4) := belowCall HB3.out b4 HB3.out.size
  clear b4
  obtain ⟨p, hp⟩ : ∃ p, pwR zs st = p := ⟨_, rfl⟩
  obtain ⟨q, hq⟩ : ∃ q, pwB zs st = q := ⟨_, rfl⟩
  rw [hp, hq]
  have e1 : (p != p) = false := by simp
  have e2 : (q != q) = false := by simp
  clear hp hq
  go_wp2_with (fail)
  refine (toI _ zs w4 (HR.out.below HB4.out) hl').mono ?_
  rintro e w5 ⟨v5, rfl, o5, b5⟩
  have HO5 : Hid (Rd .i64 w5 v5 zs) := o5.rd
  have HO5' : Hid (Rd .i64 w5 v3 zs) := HO4.out.below b5
  have HB5 : Hid (Below w.heap.size w w5) := belowCall HB4.out b5 HB4.out.size
  clear o5 b5
  go_wp2_with (fail)
  refine (eqIS v3 v5 zs w5 HO5'.out HO5.out).mono ?_
  rintro e w6 ⟨rfl, b6⟩
  have HB6 : Hid (Below w.heap.size w w6) := belowCall HB5.out b6 HB5.out.size
  clear b6
  go_wp2
  go_ret
  exact ⟨rfl, HB6.out⟩

end Go.Proofs.Ytgdejlofkjdkoaa

/- burstBitsOk; no condition. -/
import Derived.Test.YtomgdlnpajfjhaaBrs
namespace Go.Proofs.Ytomgdlnpajfjhaa
open Go.RowKit Go.ChangeShapes Go.WideShapes Go.ChangeAt
set_option linter.unusedVariables false
set_option linter.unusedSimpArgs false
set_option maxRecDepth 8000

def bbB (zs : List Int) : Bool := bsB zs && decide ((zs.length : Int) ≤ 320)
set_option maxHeartbeats 1600000 in
theorem burstBits_c (v : Value) (zs : List Int) (w : World) (h : Rd .i64 w v zs) : Calls Try.prog 25 #[v] w fun e w' => e = .returned (.bool (bbB zs)) ∧ Below w.heap.size w w' := by
  have HR : Hid (Rd .i64 w v zs) := h
  obtain ⟨a, cap, rfl, h1, h2, -⟩ := h
  unfold maxLen at h2
  have HE : Hid (bbB zs = (bsB zs && decide ((zs.length : Int) ≤ 320))) := rfl
  go_enter Try.func25, Try.ntmps25
  by_cases hl : (zs.length : Int) ≤ 320
  case neg =>
    have HF : Hid (bbB zs = false) := by show _ = _; rw [HE.out, decide_eq_false hl]; simp
    have hd : decide ((zs.length : Int) ≤ 320) = false := decide_eq_false hl
    have he : ((zs.length : Int) ≤ 320) = False := eq_false hl
    clear hl
    go_wp2
    go_ret
    exact ⟨by rw [HF.out]; rfl, Below.refl _ _⟩
  have hd : decide ((zs.length : Int) ≤ 320) = true := decide_eq_true hl
  have HD : Hid (decide ((zs.length : Int) ≤ 320) = true) := hd
  go_wp2_with (fail)
  refine (areBits_c _ zs _ HR.out).mono ?_
  rintro e w1 ⟨rfl, b1⟩
  have HB1 : Hid (Below w.heap.size w w1) := b1
  clear b1
  go_wp2
  go_ret
  exact ⟨by rw [HE.out, HD.out, Bool.and_true]; rfl, HB1.out⟩

end Go.Proofs.Ytomgdlnpajfjhaa

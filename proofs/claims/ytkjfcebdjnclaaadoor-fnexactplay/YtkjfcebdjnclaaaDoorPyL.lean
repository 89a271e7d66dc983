/- The law of Play; the table is as it was laid. -/
import Derived.Test.YtkjfcebdjnclaaaDoorPyC
import Derived.Test.YtkjfcebdjnclaaaDoorPym
namespace Go.Proofs.YtkjfcebdjnclaaaDoor
open Go.RowKit Go.ChangeShapes Go.WideShapes Go.ChangeAt
set_option linter.unusedVariables false
set_option linter.unusedSimpArgs false
set_option maxRecDepth 8000

set_option maxHeartbeats 3200000 in
theorem playLaw (p : Pl) (v : Value) (ls : List Pk) (w : World) (h : Rg 18 pkC w v ls) (hb : ∀ k ∈ ls, PkBy k) (hG : ChG w) : Calls Tryd.prog 12 #[.agg (plA p v)] w fun e w' => e = .returned (.bool true) ∧ Below w.heap.size w w' := by
  by_cases hn : ls.length ≤ 1048576
  case neg =>
    have HR0 : Hid (Rg 18 pkC w v ls) := h
    have HN : Hid (¬ ls.length ≤ 1048576) := hn
    obtain ⟨a, cap, rfl, -⟩ := h
    obtain ⟨W0, hW0⟩ : ∃ W, w.alloc (Obj.cells (plA p (.slice a ls.length cap)) 63) = W := ⟨_, rfl⟩
    have HB0 : Hid (Below w.heap.size w W0) := by rw [← hW0]; exact (Below.refl _ _).alloc (Nat.le_refl _) _
    have HK0 : Hid (Blk W0 w.heap.size (plA p (.slice a ls.length cap)) 63) := by rw [← hW0]; exact Blk.new _ _ _
    have k0 := HK0.out.cell 0
    have k1 := HK0.out.cell 1
    have k2 := HK0.out.cell 2
    have k3 := HK0.out.cell 3
    have k4 := HK0.out.cell 4
    have k5 := HK0.out.cell 5
    simp at k0 k1 k2 k3 k4 k5
    clear hn hb hG
    go_enter Tryd.func12, Tryd.ntmps12
    go_wp2_with (fail)
    clear hW0
    have hsz := szPl_c p _ ls 1048576 W0 (HR0.out.below HB0.out) (by omega) (by omega)
    rw [if_pos (by have := HN.out; omega)] at hsz
    refine hsz.mono ?_
    rintro e w1 ⟨rfl, b1⟩
    have HB1 : Hid (Below w.heap.size w w1) := belowCall HB0.out b1 HB0.out.size
    clear b1 hsz k0 k1 k2 k3 k4 k5
    go_wp2
    go_ret
    exact ⟨rfl, HB1.out⟩
  case pos =>
  by_cases hP : PyP p ls
  · exact pyCore p (pyF p ls) v ls (ls.drop (pcF ls (p.n + 1))) (lvF ls p.n p.x).1 true w h hG (by rw [lvF_len]; omega) (by simp; omega) (fun W u hu => (playM_c p u ls W hu hn hb).mono fun e w' hh => hh.1 hP) (fun W u hu hg => (playI_c p u ls W hu hn hg hb).mono fun e w' hh => hh.1 hP) hn
  · exact pyCore p p v ls ls [] false w h hG (by simp) hn (fun W u hu => (playM_c p u ls W hu hn hb).mono fun e w' hh => hh.2 hP) (fun W u hu hg => (playI_c p u ls W hu hn hg hb).mono fun e w' hh => hh.2 hP) hn

end Go.Proofs.YtkjfcebdjnclaaaDoor

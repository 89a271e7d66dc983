/- The law of Put; no condition. -/
import Derived.Test.YtlgogikogmndmaaPuC
namespace Go.Proofs.Ytlgogikogmndmaa
open Go.RowKit Go.ChangeShapes Go.WideShapes Go.ChangeAt
set_option linter.unusedVariables false
set_option linter.unusedSimpArgs false
set_option maxRecDepth 8000

theorem puF_len (p : Pl) (k : Pk) (ls : List Pk) : (puF p k ls).2.length ≤ ls.length + 1 := by
  unfold puF
  split
  · simp
  · simp only [List.length_append, List.length_take, List.length_cons, List.length_drop]; omega
set_option maxHeartbeats 3200000 in
theorem putLaw (p : Pl) (v : Value) (ls : List Pk) (k : Pk) (w : World) (h : Rg 18 pkC w v ls) : Calls Try.prog 4 #[.agg (plA p v), .agg (pkA k)] w fun e w' => e = .returned (.bool true) ∧ Below w.heap.size w w' := by
  by_cases hn : ls.length ≤ 1048576
  case neg =>
    have HR0 : Hid (Rg 18 pkC w v ls) := h
    have HN : Hid (¬ ls.length ≤ 1048576) := hn
    obtain ⟨a, cap, rfl, -⟩ := h
    obtain ⟨GA, hGA⟩ : ∃ g, w.heap.size = g := ⟨_, rfl⟩
    obtain ⟨W0, hW0⟩ : ∃ W, (w.alloc (Obj.cells (plA p (.slice a ls.length cap)) 24)).alloc (Obj.cells (pkA k) 35) = W := ⟨_, rfl⟩
    have HB0 : Hid (Below w.heap.size w W0) := by rw [← hW0]; exact ((Below.refl _ _).alloc (Nat.le_refl _) _).alloc (by simp) _
    have HK0 : Hid (Blk W0 GA (plA p (.slice a ls.length cap)) 24) := by rw [← hW0, ← hGA]; exact (Blk.new _ _ _).alloc _
    have HW0 : Hid ((w.alloc (Obj.cells (plA p (.slice a ls.length cap)) 24)).alloc (Obj.cells (pkA k) 35) = W0 ∧ w.heap.size = GA) := ⟨hW0, hGA⟩
    have k0 := HK0.out.cell 0
    have k1 := HK0.out.cell 1
    have k2 := HK0.out.cell 2
    have k3 := HK0.out.cell 3
    have k4 := HK0.out.cell 4
    have k5 := HK0.out.cell 5
    simp at k0 k1 k2 k3 k4 k5
    clear hn hW0 hGA
    go_enter Try.func4, Try.ntmps4
    go_upto_region 1 with fail
    rw [HW0.out.1, HW0.out.2]
    clear HW0
    go_wp2_with (fail)
    have hsz := szPl_c p _ ls 1048576 W0 (HR0.out.below HB0.out) (by omega) (by omega)
    rw [if_pos (by have := HN.out; omega)] at hsz
    refine hsz.mono ?_
    rintro e w1 ⟨rfl, b1⟩
    have HB1 : Hid (Below w.heap.size w w1) := belowCall HB0.out b1 HB0.out.size
    clear b1 hsz k0 k1 k2 k3 k4 k5
    go_wp2
    go_ret
    exact ⟨rfl, HB1.out⟩
  case pos =>
  by_cases hP : PuP p k ls
  · exact puCore p (puF p k ls).1 k v ls (puF p k ls).2 true w h (by have := puF_len p k ls; omega) (fun W u hu => (putM_c p k u ls W hu hn).mono fun e w' hh => hh.1 hP) (fun W u hu => (putI_c p k u ls W hu hn).mono fun e w' hh => hh.1 hP) hn
  · exact puCore p p k v ls ls false w h (by omega) (fun W u hu => (putM_c p k u ls W hu hn).mono fun e w' hh => hh.2 hP) (fun W u hu => (putI_c p k u ls W hu hn).mono fun e w' hh => hh.2 hP) hn

end Go.Proofs.Ytlgogikogmndmaa

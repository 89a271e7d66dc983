/- Players marked, and held; no condition. -/
import Derived.Test.YtlgogikogmndmaaPlh
import Derived.Test.YtlgogikogmndmaaPkm
namespace Go.Proofs.Ytlgogikogmndmaa
open Go.RowKit Go.ChangeShapes Go.WideShapes Go.ChangeAt
set_option linter.unusedVariables false
set_option linter.unusedSimpArgs false
set_option maxRecDepth 8000

set_option maxHeartbeats 3200000 in
theorem markPl_c (p : Pl) (v : Value) (ls : List Pk) (q : Int) (base : Nat) (w : World) (h : Og 18 pkC 38 base w v ls) (h0 : 0 ≤ q) (hq : q + 18 * ls.length ≤ 1152921504606846976) :
    Calls Try.prog 15 #[.agg (plA p v), .int .i64 q] w fun e w' => e = .returned (.int .i64 (q + 18 * ls.length)) ∧ Og 18 pkC 38 base w' v (mkg (mkPk q) ls.length) ∧ w.grownBy w' v.ownBlock := by
  obtain ⟨W1, hW1⟩ : ∃ W, w.alloc (Obj.cells (plA p v) 29) = W := ⟨_, rfl⟩
  have K1 : Blk W1 w.heap.size (plA p v) 29 := by rw [← hW1]; exact Blk.new _ _ _
  have HO : Hid (Og 18 pkC 38 base W1 v ls) := by rw [← hW1]; exact h.below ((Below.refl _ _).alloc (Nat.le_refl _) _)
  have HG : Hid (w.grownBy W1 v.ownBlock) := by rw [← hW1]; exact World.grownBy_alloc w _ _
  have x5 := K1.cell 5
  simp at x5
  clear K1 h
  go_enter Try.func15, Try.ntmps15
  go_wp2_with (fail)
  refine (markPkS_c v ls q base W1 HO.out h0 hq).mono ?_
  rintro e w1 ⟨rfl, o1, g1⟩
  have HF : Hid (Og 18 pkC 38 base w1 v (mkg (mkPk q) ls.length) ∧ w.grownBy w1 v.ownBlock) := ⟨o1, grown_trans HG.out g1⟩
  clear o1 g1 x5
  go_wp2
  go_ret
  exact ⟨rfl, HF.out⟩
set_option maxHeartbeats 3200000 in
theorem heldPl_c (p : Pl) (v : Value) (q : Int) (n : Nat) (w : World) (h : Rg 18 pkC w v (mkg (mkPk q) n)) (h0 : 0 ≤ q) (hq : q + 18 * n ≤ 1152921504606846976) :
    Calls Try.prog 16 #[.agg (plA p v), .int .i64 q] w fun e w' => e = .returned (.int .i64 (q + 18 * n)) ∧ Below w.heap.size w w' := by
  obtain ⟨W1, hW1⟩ : ∃ W, w.alloc (Obj.cells (plA p v) 29) = W := ⟨_, rfl⟩
  have K1 : Blk W1 w.heap.size (plA p v) 29 := by rw [← hW1]; exact Blk.new _ _ _
  have HB : Hid (Below w.heap.size w W1) := by rw [← hW1]; exact (Below.refl _ _).alloc (Nat.le_refl _) _
  have HR : Hid (Rg 18 pkC W1 v (mkg (mkPk q) n)) := h.below HB.out
  have x5 := K1.cell 5
  simp at x5
  clear K1 h
  go_enter Try.func16, Try.ntmps16
  go_wp2_with (fail)
  refine (heldPkS_c v q n W1 HR.out h0 hq).mono ?_
  rintro e w1 ⟨rfl, b1⟩
  have HF : Hid (Below w.heap.size w w1) := belowCall HB.out b1 HB.out.size
  have hnn : ¬ (q + 18 * (n : Int) < 0) := by omega
  clear b1 x5
  go_wp2
  go_ret
  exact ⟨rfl, HF.out⟩

end Go.Proofs.Ytlgogikogmndmaa

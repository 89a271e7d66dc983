/- Players copied; no condition. -/
import Derived.Test.YtkjfcebdjnclaaaDoorApk
import Derived.Test.YtkjfcebdjnclaaaDoorPlo
import Derived.Test.YtkjfcebdjnclaaaDoorPlh
namespace Go.Proofs.YtkjfcebdjnclaaaDoor
open Go.RowKit Go.ChangeShapes Go.WideShapes Go.ChangeAt
set_option linter.unusedVariables false
set_option linter.unusedSimpArgs false
set_option maxRecDepth 8000

/-- a player whose store is one's own -/
def CpR (p : Pl) (ls : List Pk) (w : World) (e : Ending) (w' : World) : Prop := ∃ v', e = .returned (.agg (plA p v')) ∧ Og 18 pkC 40 w.heap.size w' v' ls ∧ Below w.heap.size w w'
set_option maxHeartbeats 3200000 in
theorem copyI_c (p : Pl) (v : Value) (ls : List Pk) (w : World) (h : Rg 18 pkC w v ls) (hn : ls.length ≤ 1048576) : Calls Tryd.prog 77 #[.agg (plA p v)] w (CpR p ls w) := by
  have HR : Hid (Rg 18 pkC w v ls) := h
  have HN : Hid (ls.length ≤ 1048576) := hn
  obtain ⟨a, cap, rfl, h1, h2, -⟩ := h
  obtain ⟨W2, hW2⟩ : ∃ W, (w.alloc (Obj.cells (plA p (.slice a ls.length cap)) 42)).alloc (Obj.cells (plA ⟨0, 0, 0, 0, 0⟩ (.slice none 0 0)) 42) = W := ⟨_, rfl⟩
  obtain ⟨g, hg⟩ : ∃ g, w.heap.size = g := ⟨_, rfl⟩
  have HB2 : Hid (Below w.heap.size w W2) := by rw [← hW2]; exact ((Below.refl _ _).alloc (Nat.le_refl _) _).alloc (by simp) _
  have HP2 : Hid (Blk W2 g (plA p (.slice a ls.length cap)) 42) := by rw [← hW2, ← hg]; exact (Blk.new _ _ _).alloc _
  have HZ2 : Hid (Blk W2 (g + 1) (plA ⟨0, 0, 0, 0, 0⟩ (.slice none 0 0)) 42) := by rw [← hW2, ← hg]; exact Blk.newAt _ _ _ _ (by simp)
  have HG : Hid (w.heap.size = g) := hg
  have HW2 : Hid ((w.alloc (Obj.cells (plA p (.slice a ls.length cap)) 42)).alloc (Obj.cells (plA ⟨0, 0, 0, 0, 0⟩ (.slice none 0 0)) 42) = W2) := hW2
  clear hW2 hg hn
  go_enter Tryd.func77, Tryd.ntmps77
  go_wp2_with (fail)
  rw [HW2.out, HG.out]
  refine (clonP_c _ ls W2 (HR.out.below HB2.out) (by have := HN.out; omega)).mono ?_
  rintro e w4 ⟨v', rfl, o4, b4⟩
  have K5 := HP2.out.below b4 (Nat.lt_of_lt_of_le HP2.out.lt (Nat.le_refl _))
  have K6 := HZ2.out.below b4 (Nat.lt_of_lt_of_le HZ2.out.lt (Nat.le_refl _))
  have B4 : Below w.heap.size w w4 := HB2.out.trans (b4.mono (Nat.le_trans HB2.out.size (Nat.le_refl _)))
  obtain ⟨a', cap', rfl⟩ := o4.form
  have hgw := HG.out
  have hlt2 := HZ2.out.lt
  have c5 := K5.cell 5
  have f5 := K5.frozen 5
  simp at c5
  have hne : Below w.heap.size w (w4.setCell ⟨g, 5, none⟩ (.slice a' ls.length cap')) := B4.setCell (by dsimp only; omega) _
  have K7 : Blk (w4.setCell ⟨g, 5, none⟩ (.slice a' ls.length cap')) g (plA p (.slice a' ls.length cap')) 42 := K5.set 5 _
  have K8 : Blk (w4.setCell ⟨g, 5, none⟩ (.slice a' ls.length cap')) (g + 1) (plA ⟨0, 0, 0, 0, 0⟩ (.slice none 0 0)) 42 := K6.other _ _ (by dsimp only; omega)
  have ow : Og 18 pkC 40 W2.heap.size (w4.setCell ⟨g, 5, none⟩ (.slice a' ls.length cap')) (.slice a' ls.length cap') ls := ownsRow_setCell_below (a := ⟨g, 5, none⟩) o4 (by dsimp only; omega) _
  obtain ⟨W7, hW7⟩ : ∃ W, w4.setCell ⟨g, 5, none⟩ (.slice a' ls.length cap') = W := ⟨_, rfl⟩
  rw [hW7] at K7 K8 hne ow
  have HF : Hid (Below w.heap.size w W7 ∧ Og 18 pkC 40 W2.heap.size W7 (.slice a' ls.length cap') ls ∧ g + 1 < W2.heap.size) := ⟨hne, ow, HZ2.out.lt⟩
  have HW7 : Hid (w4.setCell ⟨g, 5, none⟩ (.slice a' ls.length cap') = W7) := hW7
  have HK7 : Hid (Blk W7 g (plA p (.slice a' ls.length cap')) 42) := K7
  have HK8 : Hid (Blk W7 (g + 1) (plA ⟨0, 0, 0, 0, 0⟩ (.slice none 0 0)) 42) := K8
  clear K5 K6 K7 K8 B4 b4 HP2 HZ2 hW7 hne ow o4 hgw hlt2
  go_wp2_with (first | (rw [HW7.out]; refine wpList_load_row rfl 42 _ rfl g rfl 42 (plA p (.slice a' ls.length cap')) (0, 0) _ HK7.out Tryd.underlying42 rfl (by kernel_rfl) ?_) | refine wpList_store_row rfl 42 _ _ rfl (g + 1) (plA p (.slice a' ls.length cap')) rfl rfl 42 (plA ⟨0, 0, 0, 0, 0⟩ (.slice none 0 0)) HK8.out (by kernel_rfl) rfl (by simp [Value.oneCell']) ?_)
  have h3 := HK8.out.row (plA p (.slice a' ls.length cap'))
  refine bodyPost_ret (v := .agg (plA p (.slice a' ls.length cap'))) (results_cell_row rfl _ _ _ 42 _ (0, 0) _ rfl h3 Tryd.underlying42 rfl (by kernel_rfl)) rfl ⟨_, rfl, ?_, belowRow HF.out.1 _ (by have := HG.out; omega) _⟩
  have hh := HG.out
  have h4 : Og 18 pkC 40 W2.heap.size (W7.setRow (g + 1) (plA p (.slice a' ls.length cap'))) (.slice a' ls.length cap') ls := by
    refine World.ownsRow.kept (row := some (g + 1)) HF.out.2.1 ⟨rfl, rfl, rfl, by simp, fun i _ hi => setRow_other W7 _ i _ (fun e => hi (by simp [e]))⟩ ?_
    cases a' with
    | none => exact .inl rfl
    | some ad =>
      refine .inr fun e => ?_
      have h2 := (HF.out.2.1.lt ad.block rfl).1
      have h3 := HF.out.2.2
      simp [Value.ownBlock] at e
      omega
  exact Og.mono h4 HB2.out.size
set_option maxHeartbeats 3200000 in
theorem copyM_c (p : Pl) (v : Value) (ls : List Pk) (w : World) (h : Rg 18 pkC w v ls) (hn : ls.length ≤ 1048576) : Calls Tryd.prog 85 #[.agg (plA p v)] w (CpR p ls w) := by
  have HR : Hid (Rg 18 pkC w v ls) := h
  have HN : Hid (ls.length ≤ 1048576) := hn
  obtain ⟨a, cap, rfl, h1, h2, -⟩ := h
  obtain ⟨W2, hW2⟩ : ∃ W, (w.alloc (Obj.cells (plA p (.slice a ls.length cap)) 42)).alloc (Obj.cells (plA ⟨0, 0, 0, 0, 0⟩ (.slice none 0 0)) 42) = W := ⟨_, rfl⟩
  obtain ⟨g, hg⟩ : ∃ g, w.heap.size = g := ⟨_, rfl⟩
  have HB2 : Hid (Below w.heap.size w W2) := by rw [← hW2]; exact ((Below.refl _ _).alloc (Nat.le_refl _) _).alloc (by simp) _
  have HP2 : Hid (Blk W2 g (plA p (.slice a ls.length cap)) 42) := by rw [← hW2, ← hg]; exact (Blk.new _ _ _).alloc _
  have HZ2 : Hid (Blk W2 (g + 1) (plA ⟨0, 0, 0, 0, 0⟩ (.slice none 0 0)) 42) := by rw [← hW2, ← hg]; exact Blk.newAt _ _ _ _ (by simp)
  have HG : Hid (w.heap.size = g) := hg
  have HW2 : Hid ((w.alloc (Obj.cells (plA p (.slice a ls.length cap)) 42)).alloc (Obj.cells (plA ⟨0, 0, 0, 0, 0⟩ (.slice none 0 0)) 42) = W2) := hW2
  clear hW2 hg hn
  go_enter Tryd.func85, Tryd.ntmps85
  have HA : Hid (Below W2.heap.size W2 (W2.alloc (Obj.cells #[] 40))) := (Below.refl _ _).alloc (Nat.le_refl _) _
  have HO : Hid (Og 18 pkC 40 W2.heap.size (W2.alloc (Obj.cells #[] 40)) (.slice (some ⟨W2.heap.size, 0, none⟩) 0 0) []) := World.ownsRow_lit (e := 40) (size := 18) (base := W2.heap.size) W2 #[] 0 (by omega) (by simp) (by simp)
  have HRA : Hid (Rg 18 pkC (W2.alloc (Obj.cells #[] 40)) (.slice a ls.length cap) ls) := HR.out.below (belowCall HB2.out HA.out HB2.out.size)
  have hS2 : W2.heap.size = w.heap.size + 1 + 1 := by have := HW2.out; rw [← this]; simp
  have HS2 : Hid (w.heap.size + 1 + 1 = W2.heap.size) := hS2.symm
  clear hS2
  go_wp2_with (at_builtin; rw [HW2.out, HS2.out]; refine appPk Tryd.underlying36 rfl _ _ rfl W2.heap.size _ [] rfl HO.out _ ls rfl HRA.out (by have := HN.out; simp; omega) (by simp) ?_)
  intro v' w4 o4 g4
  try rw [HG.out]
  have b4 : Below W2.heap.size W2 w4 := HA.out.trans (grown_below g4 (by simp) (fun k e => by simp [Value.ownBlock] at e; omega))
  have o4 : Og 18 pkC 40 W2.heap.size w4 v' ls := o4
  clear g4 HA HO HRA
  have K5 := HP2.out.below b4 (Nat.lt_of_lt_of_le HP2.out.lt (Nat.le_refl _))
  have K6 := HZ2.out.below b4 (Nat.lt_of_lt_of_le HZ2.out.lt (Nat.le_refl _))
  have B4 : Below w.heap.size w w4 := HB2.out.trans (b4.mono (Nat.le_trans HB2.out.size (Nat.le_refl _)))
  obtain ⟨a', cap', rfl⟩ := o4.form
  have hgw := HG.out
  have hlt2 := HZ2.out.lt
  have c5 := K5.cell 5
  have f5 := K5.frozen 5
  simp at c5
  have hne : Below w.heap.size w (w4.setCell ⟨g, 5, none⟩ (.slice a' ls.length cap')) := B4.setCell (by dsimp only; omega) _
  have K7 : Blk (w4.setCell ⟨g, 5, none⟩ (.slice a' ls.length cap')) g (plA p (.slice a' ls.length cap')) 42 := K5.set 5 _
  have K8 : Blk (w4.setCell ⟨g, 5, none⟩ (.slice a' ls.length cap')) (g + 1) (plA ⟨0, 0, 0, 0, 0⟩ (.slice none 0 0)) 42 := K6.other _ _ (by dsimp only; omega)
  have ow : Og 18 pkC 40 W2.heap.size (w4.setCell ⟨g, 5, none⟩ (.slice a' ls.length cap')) (.slice a' ls.length cap') ls := ownsRow_setCell_below (a := ⟨g, 5, none⟩) o4 (by dsimp only; omega) _
  obtain ⟨W7, hW7⟩ : ∃ W, w4.setCell ⟨g, 5, none⟩ (.slice a' ls.length cap') = W := ⟨_, rfl⟩
  rw [hW7] at K7 K8 hne ow
  have HF : Hid (Below w.heap.size w W7 ∧ Og 18 pkC 40 W2.heap.size W7 (.slice a' ls.length cap') ls ∧ g + 1 < W2.heap.size) := ⟨hne, ow, HZ2.out.lt⟩
  have HW7 : Hid (w4.setCell ⟨g, 5, none⟩ (.slice a' ls.length cap') = W7) := hW7
  have HK7 : Hid (Blk W7 g (plA p (.slice a' ls.length cap')) 42) := K7
  have HK8 : Hid (Blk W7 (g + 1) (plA ⟨0, 0, 0, 0, 0⟩ (.slice none 0 0)) 42) := K8
  clear K5 K6 K7 K8 B4 b4 HP2 HZ2 hW7 hne ow o4 hgw hlt2
  go_wp2_with (first | (rw [HW7.out]; refine wpList_load_row rfl 42 _ rfl g rfl 42 (plA p (.slice a' ls.length cap')) (0, 0) _ HK7.out Tryd.underlying42 rfl (by kernel_rfl) ?_) | refine wpList_store_row rfl 42 _ _ rfl (g + 1) (plA p (.slice a' ls.length cap')) rfl rfl 42 (plA ⟨0, 0, 0, 0, 0⟩ (.slice none 0 0)) HK8.out (by kernel_rfl) rfl (by simp [Value.oneCell']) ?_)
  have h3 := HK8.out.row (plA p (.slice a' ls.length cap'))
  refine bodyPost_ret (v := .agg (plA p (.slice a' ls.length cap'))) (results_cell_row rfl _ _ _ 42 _ (0, 0) _ rfl h3 Tryd.underlying42 rfl (by kernel_rfl)) rfl ⟨_, rfl, ?_, belowRow HF.out.1 _ (by have := HG.out; omega) _⟩
  have hh := HG.out
  have h4 : Og 18 pkC 40 W2.heap.size (W7.setRow (g + 1) (plA p (.slice a' ls.length cap'))) (.slice a' ls.length cap') ls := by
    refine World.ownsRow.kept (row := some (g + 1)) HF.out.2.1 ⟨rfl, rfl, rfl, by simp, fun i _ hi => setRow_other W7 _ i _ (fun e => hi (by simp [e]))⟩ ?_
    cases a' with
    | none => exact .inl rfl
    | some ad =>
      refine .inr fun e => ?_
      have h2 := (HF.out.2.1.lt ad.block rfl).1
      have h3 := HF.out.2.2
      simp [Value.ownBlock] at e
      omega
  exact Og.mono h4 HB2.out.size

end Go.Proofs.YtkjfcebdjnclaaaDoor

/- Players: helpers of the laws; no condition. -/
import Derived.Test.YtkjfcebdjnclaaaDoorPli
import Derived.Test.YtkjfcebdjnclaaaDoorPkm
namespace Go.Proofs.YtkjfcebdjnclaaaDoor
open Go.RowKit Go.ChangeShapes Go.WideShapes Go.ChangeAt
set_option linter.unusedVariables false
set_option linter.unusedSimpArgs false
set_option maxRecDepth 8000

set_option maxHeartbeats 1600000 in
theorem szPl_c (p : Pl) (v : Value) (ls : List Pk) (left : Int) (w : World) (h : Rg 18 pkC w v ls) (h0 : 0 ≤ left) (hl : left ≤ 1048576) :
    Calls Tryd.prog 43 #[.agg (plA p v), .int .i64 left] w fun e w' => e = .returned (.int .i64 (if left < ls.length then -1 else left - ls.length)) ∧ Below w.heap.size w w' := by
  have HR : Hid (Rg 18 pkC w v ls) := h
  obtain ⟨a, cap, rfl, h1, h2, -⟩ := h
  obtain ⟨W1, hW1⟩ : ∃ W, w.alloc (Obj.cells (plA p (.slice a ls.length cap)) 63) = W := ⟨_, rfl⟩
  have K1 : Blk W1 w.heap.size (plA p (.slice a ls.length cap)) 63 := by rw [← hW1]; exact Blk.new _ _ _
  have HB : Hid (Below w.heap.size w W1) := by rw [← hW1]; exact (Below.refl _ _).alloc (Nat.le_refl _) _
  have x0 := K1.cell 0
  have x1 := K1.cell 1
  have x2 := K1.cell 2
  have x3 := K1.cell 3
  have x4 := K1.cell 4
  have x5 := K1.cell 5
  simp at x0 x1 x2 x3 x4 x5
  clear K1
  by_cases c : left < (ls.length : Int)
  · rw [if_pos c]
    have HC : Hid (left < (ls.length : Int)) := c
    clear c
    go_enter Tryd.func43, Tryd.ntmps43
    go_wp2_with (fail)
    have hc := szPkS_c _ ls left W1 (HR.out.below HB.out) h0 hl
    rw [if_pos HC.out] at hc
    refine hc.mono ?_
    rintro e w1 ⟨rfl, hw⟩
    rw [hw]
    clear hw w1 hc
    go_wp2
    go_ret
    exact ⟨rfl, HB.out⟩
  · rw [if_neg c]
    have HC : Hid (¬ left < (ls.length : Int)) := c
    clear c
    go_enter Tryd.func43, Tryd.ntmps43
    go_wp2_with (fail)
    have hc := szPkS_c _ ls left W1 (HR.out.below HB.out) h0 hl
    rw [if_neg (show ¬ left < (ls.length : Int) by have := HC.out; omega)] at hc
    refine hc.mono ?_
    rintro e w1 ⟨rfl, hw⟩
    rw [hw]
    have g : ¬ left - (ls.length : Int) < 0 := by have := HC.out; omega
    clear hw w1 hc
    go_wp2
    go_ret
    exact ⟨rfl, HB.out⟩
set_option maxHeartbeats 3200000 in
theorem toPl_c (p : Pl) (v : Value) (ls : List Pk) (w : World) (h : Rg 18 pkC w v ls) (hn : ls.length ≤ 1048576) :
    Calls Tryd.prog 44 #[.agg (plA p v)] w fun e w' => ∃ v', e = .returned (.agg (plA p v')) ∧ Og 18 pkC 40 w.heap.size w' v' ls ∧ Below w.heap.size w w' := by
  have HR : Hid (Rg 18 pkC w v ls) := h
  have HN : Hid (ls.length ≤ 1048576) := hn
  obtain ⟨a, cap, rfl, h1, h2, -⟩ := h
  obtain ⟨W1, hW1⟩ : ∃ W, w.alloc (Obj.cells (plA p (.slice a ls.length cap)) 63) = W := ⟨_, rfl⟩
  have K1 : Blk W1 w.heap.size (plA p (.slice a ls.length cap)) 63 := by rw [← hW1]; exact Blk.new _ _ _
  have B1 : Below w.heap.size w W1 := by rw [← hW1]; exact (Below.refl _ _).alloc (Nat.le_refl _) _
  have s1 : W1.heap.size = w.heap.size + 1 := by rw [← hW1]; simp
  have hlt : w.heap.size < W1.heap.size := by omega
  obtain ⟨W3, hW3⟩ : ∃ W, (W1.alloc (Obj.cells (plA ⟨0, 0, 0, 0, 0⟩ (.slice none 0 0)) 42)).alloc (Obj.cells (plA p (.slice none 0 0)) 42) = W := ⟨_, rfl⟩
  have HB3 : Hid (Below w.heap.size w W3) := by rw [← hW3]; exact (B1.alloc (by omega) _).alloc (by simp; omega) _
  have HK : Hid (Blk W3 (w.heap.size + 1) (plA ⟨0, 0, 0, 0, 0⟩ (.slice none 0 0)) 42 ∧ Blk W3 (w.heap.size + 1 + 1) (plA p (.slice none 0 0)) 42) := by
    rw [← hW3]
    exact ⟨(Blk.newAt _ _ _ _ (by rw [s1])).alloc _, Blk.newAt _ _ _ _ (by simp [s1])⟩
  have HW3 : Hid ((W1.alloc (Obj.cells (plA ⟨0, 0, 0, 0, 0⟩ (.slice none 0 0)) 42)).alloc (Obj.cells (plA p (.slice none 0 0)) 42) = W3) := hW3
  have x0 := K1.cell 0
  have x1 := K1.cell 1
  have x2 := K1.cell 2
  have x3 := K1.cell 3
  have x4 := K1.cell 4
  have x5 := K1.cell 5
  simp at x0 x1 x2 x3 x4 x5
  clear K1 B1 hW3 hn
  go_enter Tryd.func44, Tryd.ntmps44
  go_wp2_with (fail)
  rw [HW3.out]
  refine (toPkS_c _ ls W3 (HR.out.below HB3.out) HN.out).mono ?_
  rintro e w4 ⟨v', rfl, o4, b4⟩
  have K5 := HK.out.1.below b4 HK.out.1.lt
  have K6 := HK.out.2.below b4 HK.out.2.lt
  have B4 : Below w.heap.size w w4 := belowCall HB3.out b4 HB3.out.size
  obtain ⟨a', cap', rfl⟩ := o4.form
  have c5 := K6.cell 5
  have f5 := K6.frozen 5
  simp at c5
  have hne : Below w.heap.size w (w4.setCell ⟨w.heap.size + 1 + 1, 5, none⟩ (.slice a' ls.length cap')) := B4.setCell (by simp; omega) _
  have K7 : Blk (w4.setCell ⟨w.heap.size + 1 + 1, 5, none⟩ (.slice a' ls.length cap')) (w.heap.size + 1 + 1) (plA p (.slice a' ls.length cap')) 42 := K6.set 5 _
  have K8 : Blk (w4.setCell ⟨w.heap.size + 1 + 1, 5, none⟩ (.slice a' ls.length cap')) (w.heap.size + 1) (plA ⟨0, 0, 0, 0, 0⟩ (.slice none 0 0)) 42 := K5.other _ _ (by dsimp only; omega)
  have ow : Og 18 pkC 40 W3.heap.size (w4.setCell ⟨w.heap.size + 1 + 1, 5, none⟩ (.slice a' ls.length cap')) (.slice a' ls.length cap') ls := by
    refine World.ownsRow.kept (row := some (w.heap.size + 1 + 1)) o4 ⟨rfl, rfl, rfl, by simp, fun i _ hi => heap_setCell_other w4 _ i _ (fun e => hi (by simp [e]))⟩ ?_
    cases a' with
    | none => exact .inl rfl
    | some ad =>
      refine .inr fun e => ?_
      have h2 := (o4.lt ad.block rfl).1
      have h3 := HK.out.2.lt
      simp [Value.ownBlock] at e
      omega
  obtain ⟨W7, hW7⟩ : ∃ W, w4.setCell ⟨w.heap.size + 1 + 1, 5, none⟩ (.slice a' ls.length cap') = W := ⟨_, rfl⟩
  rw [hW7] at K7 K8 hne ow
  have HF : Hid (Below w.heap.size w W7 ∧ Og 18 pkC 40 W3.heap.size W7 (.slice a' ls.length cap') ls ∧ w.heap.size + 1 + 1 < W3.heap.size) := ⟨hne, ow, HK.out.2.lt⟩
  have HW7 : Hid (w4.setCell ⟨w.heap.size + 1 + 1, 5, none⟩ (.slice a' ls.length cap') = W7) := hW7
  have HK7 : Hid (Blk W7 (w.heap.size + 1 + 1) (plA p (.slice a' ls.length cap')) 42) := K7
  have HK8 : Hid (Blk W7 (w.heap.size + 1) (plA ⟨0, 0, 0, 0, 0⟩ (.slice none 0 0)) 42) := K8
  clear K5 K6 K7 K8 B4 b4 HK HB3 HW3 x0 x1 x2 x3 x4 x5 hW1 hW7 hne ow o4
  go_wp2_with (first | (rw [HW7.out]; refine wpList_load_row rfl 42 _ rfl (w.heap.size + 1 + 1) rfl 42 (plA p (.slice a' ls.length cap')) (0, 0) _ HK7.out Tryd.underlying42 rfl (by kernel_rfl) ?_) | refine wpList_store_row rfl 42 _ _ rfl (w.heap.size + 1) (plA p (.slice a' ls.length cap')) rfl rfl 42 (plA ⟨0, 0, 0, 0, 0⟩ (.slice none 0 0)) HK8.out (by kernel_rfl) rfl (by simp [Value.oneCell']) ?_)
  have h3 := HK8.out.row (plA p (.slice a' ls.length cap'))
  refine bodyPost_ret (v := .agg (plA p (.slice a' ls.length cap'))) (results_cell_row rfl _ _ _ 42 _ (0, 0) _ rfl h3 Tryd.underlying42 rfl (by kernel_rfl)) rfl ⟨_, rfl, ?_, belowRow HF.out.1 _ (by omega) _⟩
  have ho := HF.out.2.1
  have hs := HF.out.2.2
  refine Og.mono (base := W3.heap.size) ?_ (by omega)
  refine World.ownsRow.kept (row := some (w.heap.size + 1)) ho ⟨rfl, rfl, rfl, by simp, fun i _ hi => setRow_other W7 _ i _ (fun e => hi (by simp [e]))⟩ ?_
  cases a' with
  | none => exact .inl rfl
  | some ad =>
    refine .inr fun e => ?_
    have h2 := (ho.lt ad.block rfl).1
    simp [Value.ownBlock] at e
    omega
set_option maxHeartbeats 3200000 in
theorem eqPl_t (p : Pl) (v v' : Value) (ls : List Pk) (w : World) (h : Rg 18 pkC w v ls) (h' : Rg 18 pkC w v' ls) :
    Calls Tryd.prog 45 #[.agg (plA p v), .agg (plA p v')] w fun e w' => e = .returned (.bool true) ∧ Below w.heap.size w w' := by
  obtain ⟨W1, hW1⟩ : ∃ W, (w.alloc (Obj.cells (plA p v) 42)).alloc (Obj.cells (plA p v') 42) = W := ⟨_, rfl⟩
  have HB : Hid (Below w.heap.size w W1) := by rw [← hW1]; exact ((Below.refl _ _).alloc (Nat.le_refl _) _).alloc (by simp) _
  have K0 : Blk W1 w.heap.size (plA p v) 42 := by rw [← hW1]; exact (Blk.new _ _ _).alloc _
  have K1 : Blk W1 (w.heap.size + 1) (plA p v') 42 := by rw [← hW1]; exact Blk.newAt _ _ _ _ (by simp)
  have HR : Hid (Rg 18 pkC W1 v ls ∧ Rg 18 pkC W1 v' ls) := ⟨h.below HB.out, h'.below HB.out⟩
  have x0 := K0.cell 0
  have x1 := K0.cell 1
  have x2 := K0.cell 2
  have x3 := K0.cell 3
  have x4 := K0.cell 4
  have x5 := K0.cell 5
  simp at x0 x1 x2 x3 x4 x5
  have y0 := K1.cell 0
  have y1 := K1.cell 1
  have y2 := K1.cell 2
  have y3 := K1.cell 3
  have y4 := K1.cell 4
  have y5 := K1.cell 5
  simp at y0 y1 y2 y3 y4 y5
  have n0 : (p.n != p.n) = false := by simp
  have n1 : (p.d != p.d) = false := by simp
  have n2 : (p.l != p.l) = false := by simp
  have n3 : (p.g != p.g) = false := by simp
  have n4 : (p.x != p.x) = false := by simp
  clear K0 K1 h h'
  go_enter Tryd.func45, Tryd.ntmps45
  go_wp2_with (fail)
  refine (eqPkS_t _ _ ls W1 HR.out.1 HR.out.2).mono ?_
  rintro e w2 ⟨rfl, b2⟩
  have HB2 : Hid (Below w.heap.size w w2) := belowCall HB.out b2 HB.out.size
  clear b2 HR HB hW1 x0 x1 x2 x3 x4 x5 y0 y1 y2 y3 y4 y5
  go_wp2
  go_ret
  exact ⟨rfl, HB2.out⟩

end Go.Proofs.YtkjfcebdjnclaaaDoor

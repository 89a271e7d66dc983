/- Contracts of the laws' helpers that copy and compare halves; no condition. -/
import Derived.Test.YtljejjfhlpjlfaaSig
namespace Go.Proofs.Ytljejjfhlpjlfaa
open Go.RowKit Go.ChangeShapes Go.WideShapes Go.ChangeAt
set_option linter.unusedVariables false
set_option linter.unusedSimpArgs false
set_option maxRecDepth 8000
abbrev H2 (s c : Int) : Array Value := #[.int .i64 s, .int .i64 c]
abbrev H4 (s c s' c' : Int) : Array Value := #[.int .i64 s, .int .i64 c, .int .i64 s', .int .i64 c']
/-- a duo's cells -/
abbrev D5 (s c s' c' : Int) (v : Value) : Array Value := #[.int .i64 s, .int .i64 c, .int .i64 s', .int .i64 c', v]
theorem size27 : (Try.prog.info? 27).map (·.size) = some 2 := by kernel_rfl
theorem size28 : (Try.prog.info? 28).map (·.size) = some 4 := by kernel_rfl
theorem size31 : (Try.prog.info? 31).map (·.size) = some 5 := by kernel_rfl
theorem toHalf_c (x y : Int) (w : World) : Calls Try.prog 64 #[.agg (H2 x y)] w fun e w' => e = .returned (.agg (H2 x y)) ∧ Below w.heap.size w w' := by
  go_enter Try.func64, Try.ntmps64
  go_wp2
  have h1 : ((((w.alloc (Obj.cells (H2 x y) 40)).alloc (Obj.cells (H2 x y) 27)).alloc (Obj.cells (H2 x y) 27))).heap[w.heap.size + 1]? = some (.cells (H2 x y) 27 (0, 0)) :=
    ((Blk.newAt _ (w.heap.size + 1) _ 27 (by simp)).alloc _ : Blk _ _ _ _)
  exact bodyPost_ret (v := .agg (H2 x y)) (results_cell_row rfl _ _ _ 27 _ (0, 0) _ rfl h1 Try.underlying27 rfl size27) rfl ⟨rfl, (((Below.refl _ _).alloc (Nat.le_refl _) _).alloc (by simp) _).alloc (by simp; omega) _⟩
theorem eqHalf_c (x y x' y' : Int) (w : World) : Calls Try.prog 66 #[.agg (H2 x y), .agg (H2 x' y')] w fun e w' => e = .returned (.bool (decide ((x, y) = (x', y')))) ∧ Below w.heap.size w w' := by
  have hb : Below w.heap.size w ((w.alloc (Obj.cells (H2 x y) 27)).alloc (Obj.cells (H2 x' y') 27)) := ((Below.refl _ _).alloc (Nat.le_refl _) _).alloc (by simp) _
  have HB : Hid _ := hb
  clear hb
  go_enter Try.func66, Try.ntmps66
  go_wp2
  all_goals
    go_ret
    refine ⟨?_, HB.out⟩
    simp_all
set_option maxHeartbeats 1600000 in
theorem toHalfA2_c (s c s' c' : Int) (w : World) : Calls Try.prog 44 #[.agg (H4 s c s' c')] w fun e w' => e = .returned (.agg (H4 s c s' c')) ∧ Below w.heap.size w w' := by
  obtain ⟨W0, hW0⟩ : ∃ W0, ((w.alloc (Obj.cells (H4 s c s' c') 41)).alloc (Obj.cells (H4 0 0 0 0) 28)).alloc (Obj.cells (H4 0 0 0 0) 28) = W0 := ⟨_, rfl⟩
  have z0 : W0.heap.size = w.heap.size + 3 := by rw [← hW0]; simp
  have HB : Hid (Below w.heap.size w W0) := by rw [← hW0]; exact (((Below.refl _ _).alloc (Nat.le_refl _) _).alloc (by simp) _).alloc (by simp; omega) _
  have K0 : Hid (Blk W0 w.heap.size (H4 s c s' c') 41) := by rw [← hW0]; exact ((Blk.new _ _ _).alloc _).alloc _
  have K1 : Hid (Blk W0 (w.heap.size + 1) (H4 0 0 0 0) 28) := by rw [← hW0]; exact (Blk.newAt _ (w.heap.size + 1) _ 28 (by simp)).alloc _
  have K2 : Hid (Blk W0 (w.heap.size + 1 + 1) (H4 0 0 0 0) 28) := by rw [← hW0]; exact Blk.newAt _ (w.heap.size + 1 + 1) _ 28 (by simp)
  go_enter Try.func44, Try.ntmps44
  go_wp2
  clear hW0
  go_loopw [4] (fun i wr => Hid (Blk wr w.heap.size (H4 s c s' c') 41 ∧ Blk wr (w.heap.size + 1) (H4 0 0 0 0) 28 ∧ Below w.heap.size w wr) ∧ ((i = .int .i64 0 ∧ Hid (Blk wr (w.heap.size + 1 + 1) (H4 0 0 0 0) 28)) ∨ (i = .int .i64 1 ∧ Hid (Blk wr (w.heap.size + 1 + 1) (H4 s c 0 0) 28)) ∨ (i = .int .i64 2 ∧ Hid (Blk wr (w.heap.size + 1 + 1) (H4 s c s' c') 28)))) (fun i _ => 2 - (intOf i).toNat)
  case atStart => exact ⟨⟨K0.out, K1.out, HB.out⟩, .inl ⟨rfl, K2.out⟩⟩
  case round =>
    clear K0 K1 K2 HB z0
    obtain ⟨⟨q0, q1, hb⟩, ⟨rfl, q2⟩ | ⟨rfl, q2⟩ | ⟨rfl, q2⟩⟩ := hrel
    · have c0 := q0.cell 0
      have c1 := q0.cell 1
      simp at c0 c1
      have HH : Hid _ := hb
      have H0 : Hid (Blk wr w.heap.size (H4 s c s' c') 41) := q0
      have H1 : Hid (Blk wr (w.heap.size + 1) (H4 0 0 0 0) 28) := q1
      clear q0 q1 hb
      go_wp2_with (fail)
      refine (toHalf_c _ _ _).mono ?_
      rintro e w2 ⟨rfl, b2⟩
      have l2 := q2.out.lt
      have q2' := q2.out.below b2 l2
      have d0 := q2'.cell 0
      have d1 := q2'.cell 1
      have f0 := q2'.frozen 0
      have f1 := q2'.frozen 1
      simp at d0 d1
      have X0 : Hid (Blk ((w2.setCell ⟨w.heap.size + 1 + 1, 0, none⟩ (.int .i64 s)).setCell ⟨w.heap.size + 1 + 1, 1, none⟩ (.int .i64 c)) w.heap.size (H4 s c s' c') 41) := ((H0.out.below b2 (by omega)).other _ _ (by simp; omega)).other _ _ (by simp; omega)
      have X1 : Hid (Blk ((w2.setCell ⟨w.heap.size + 1 + 1, 0, none⟩ (.int .i64 s)).setCell ⟨w.heap.size + 1 + 1, 1, none⟩ (.int .i64 c)) (w.heap.size + 1) (H4 0 0 0 0) 28) := ((H1.out.below b2 (by omega)).other _ _ (by simp)).other _ _ (by simp)
      have X2 : Hid (Blk ((w2.setCell ⟨w.heap.size + 1 + 1, 0, none⟩ (.int .i64 s)).setCell ⟨w.heap.size + 1 + 1, 1, none⟩ (.int .i64 c)) (w.heap.size + 1 + 1) (H4 s c 0 0) 28) := (q2'.set 0 (.int .i64 s)).set 1 (.int .i64 c)
      have XB : Hid (Below w.heap.size w ((w2.setCell ⟨w.heap.size + 1 + 1, 0, none⟩ (.int .i64 s)).setCell ⟨w.heap.size + 1 + 1, 1, none⟩ (.int .i64 c))) := ((belowCall HH.out b2 HH.out.size).setCell (by dsimp only; omega) _).setCell (by dsimp only; omega) _
      clear q2 q2' H0 H1 HH b2 c0 c1
      go_wp2
      go_roundw
      case rel => exact ⟨⟨X0.out, X1.out, XB.out⟩, .inr (.inl ⟨by go_num, X2.out⟩)⟩
      case measure => simp [intOf]
    · have c0 := q0.cell 2
      have c1 := q0.cell 3
      simp at c0 c1
      have HH : Hid _ := hb
      have H0 : Hid (Blk wr w.heap.size (H4 s c s' c') 41) := q0
      have H1 : Hid (Blk wr (w.heap.size + 1) (H4 0 0 0 0) 28) := q1
      clear q0 q1 hb
      go_wp2_with (fail)
      refine (toHalf_c _ _ _).mono ?_
      rintro e w2 ⟨rfl, b2⟩
      have l2 := q2.out.lt
      have q2' := q2.out.below b2 l2
      have d0 := q2'.cell 2
      have d1 := q2'.cell 3
      have f0 := q2'.frozen 2
      have f1 := q2'.frozen 3
      simp at d0 d1
      have X0 : Hid (Blk ((w2.setCell ⟨w.heap.size + 1 + 1, 2, none⟩ (.int .i64 s')).setCell ⟨w.heap.size + 1 + 1, 3, none⟩ (.int .i64 c')) w.heap.size (H4 s c s' c') 41) := ((H0.out.below b2 (by omega)).other _ _ (by simp; omega)).other _ _ (by simp; omega)
      have X1 : Hid (Blk ((w2.setCell ⟨w.heap.size + 1 + 1, 2, none⟩ (.int .i64 s')).setCell ⟨w.heap.size + 1 + 1, 3, none⟩ (.int .i64 c')) (w.heap.size + 1) (H4 0 0 0 0) 28) := ((H1.out.below b2 (by omega)).other _ _ (by simp)).other _ _ (by simp)
      have X2 : Hid (Blk ((w2.setCell ⟨w.heap.size + 1 + 1, 2, none⟩ (.int .i64 s')).setCell ⟨w.heap.size + 1 + 1, 3, none⟩ (.int .i64 c')) (w.heap.size + 1 + 1) (H4 s c s' c') 28) := (q2'.set 2 (.int .i64 s')).set 3 (.int .i64 c')
      have XB : Hid (Below w.heap.size w ((w2.setCell ⟨w.heap.size + 1 + 1, 2, none⟩ (.int .i64 s')).setCell ⟨w.heap.size + 1 + 1, 3, none⟩ (.int .i64 c'))) := ((belowCall HH.out b2 HH.out.size).setCell (by dsimp only; omega) _).setCell (by dsimp only; omega) _
      clear q2 q2' H0 H1 HH b2 c0 c1
      go_wp2
      go_roundw
      case rel => exact ⟨⟨X0.out, X1.out, XB.out⟩, .inr (.inr ⟨by go_num, X2.out⟩)⟩
      case measure => simp [intOf]
    · have c0 := q2.out.cell 0
      have c1 := q2.out.cell 1
      have c2 := q2.out.cell 2
      have c3 := q2.out.cell 3
      have d0 := q1.cell 0
      have d1 := q1.cell 1
      have d2 := q1.cell 2
      have d3 := q1.cell 3
      have f0 := q1.frozen 0
      have f1 := q1.frozen 1
      have f2 := q1.frozen 2
      have f3 := q1.frozen 3
      simp at c0 c1 c2 c3 d0 d1 d2 d3
      have Q1 : Hid (Blk ((((wr.setCell ⟨w.heap.size + 1, 0, none⟩ (.int .i64 s)).setCell ⟨w.heap.size + 1, 1, none⟩ (.int .i64 c)).setCell ⟨w.heap.size + 1, 2, none⟩ (.int .i64 s')).setCell ⟨w.heap.size + 1, 3, none⟩ (.int .i64 c')) (w.heap.size + 1) (H4 s c s' c') 28) := (((q1.set 0 (.int .i64 s)).set 1 (.int .i64 c)).set 2 (.int .i64 s')).set 3 (.int .i64 c')
      have B3 : Hid (Below w.heap.size w ((((wr.setCell ⟨w.heap.size + 1, 0, none⟩ (.int .i64 s)).setCell ⟨w.heap.size + 1, 1, none⟩ (.int .i64 c)).setCell ⟨w.heap.size + 1, 2, none⟩ (.int .i64 s')).setCell ⟨w.heap.size + 1, 3, none⟩ (.int .i64 c'))) := (((hb.setCell (by dsimp only; omega) _).setCell (by dsimp only; omega) _).setCell (by dsimp only; omega) _).setCell (by dsimp only; omega) _
      clear q0 q1 q2 hb
      go_wp2
      exact bodyPost_ret (v := .agg (H4 s c s' c')) (results_cell_row rfl _ _ _ 28 _ (0, 0) _ rfl Q1.out Try.underlying28 rfl size28) rfl ⟨rfl, B3.out⟩
end Go.Proofs.Ytljejjfhlpjlfaa

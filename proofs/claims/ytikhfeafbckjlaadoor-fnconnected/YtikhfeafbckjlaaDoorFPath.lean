/- The path of an inlet; no condition. -/
import Derived.Test.YtikhfeafbckjlaaDoorFFind
namespace Go.Proofs.YtikhfeafbckjlaaDoor
open Go.RowKit Go.ChangeShapes Go.WideShapes Go.ChangeAt
set_option linter.unusedVariables false
set_option linter.unusedSimpArgs false
set_option maxRecDepth 8000
/-- what a call answers that hands back the first path, or the one that is none -/
def PaE (q : Int × Int × Int → Bool) (ps : Tri) (w : World) (e : Ending) (w' : World) : Prop :=
  ∃ x y z, e = .returned (.agg (P3 x y z)) ∧ ((∃ k, Fst q ps k ∧ ps[k]? = some (x, y, z)) ∨ (None3 q ps ∧ (x, y, z) = (-1, -1, -1))) ∧ Below w.heap.size w w'
set_option maxHeartbeats 1600000 in
theorem findFrom_c (s p m : Int) (v : Value) (ps : Tri) (f : Int) (B : Nat) (w : World) (h : Rt w v ps) (hB : Blk w B #[.int .i64 f] 3) (hN : NoP w) :
   Calls Tryd.prog 60 #[.agg (F4 s p m v), .func (.func 61) #[] #[.pointer (some ⟨B, 0, none⟩)]] w (PaE (fun x => x.1 == f) ps w) := by
  obtain ⟨W2, hW2⟩ : ∃ W2, ((w.alloc (Obj.cells (F4 s p m v) 26)).alloc (Obj.cells (P3 0 0 0) 35)) = W2 := ⟨_, rfl⟩
  have z2 : W2.heap.size = w.heap.size + 2 := by rw [← hW2]; simp
  have k0 : Blk W2 w.heap.size (F4 s p m v) 26 := hW2 ▸ (Blk.new _ _ _).alloc _
  have k1 : Blk W2 (w.heap.size + 1) (P3 0 0 0) 35 := hW2 ▸ Blk.newAt _ _ _ _ (by simp)
  have bl : Below w.heap.size w W2 := hW2 ▸ ((Below.refl _ _).alloc (Nat.le_refl _) _).alloc (by simp) _
  have HB2 : Hid (Below w.heap.size w W2) := bl
  have HR : Hid (Rt W2 v ps) := h.below bl
  have HK : Hid (Blk W2 w.heap.size (F4 s p m v) 26 ∧ Blk W2 (w.heap.size + 1) (P3 0 0 0) 35) := ⟨k0, k1⟩
  have HKB : Hid (Blk W2 B #[.int .i64 f] 3) := hB.below bl hB.lt
  have HNP : Hid (NoP w ∧ 0 < w.heap.size) := ⟨hN, hN.lt⟩
  have HRT : Hid (Rt w v ps) := h
  obtain ⟨a, cap, rfl, h1, h2, h3⟩ := h
  unfold maxLen at h2
  have c3 := k0.cell 3
  simp at c3
  clear k0 k1 bl hN hB
  go_enter Tryd.func60, Tryd.ntmps60
  go_wp2_with (fail)
  refine (indexFrom_c _ ps f B W2 HR.out HKB.out).mono ?_
  rintro e w3 ⟨r, rfl, hr, b3⟩
  have q0 := HK.out.1.below b3 (by omega)
  have q1 := HK.out.2.below b3 (by omega)
  have B3 : Below w.heap.size w w3 := belowCall HB2.out b3 (by omega)
  have hn3 := HNP.out.1.below B3 HNP.out.2
  obtain ⟨n0, n1, n2⟩ := hn3
  have hs3 : w.heap.size + 2 ≤ w3.heap.size := by have := b3.size; omega
  have hz0 : 0 < w.heap.size := HNP.out.2
  have d0 := q1.cell 0
  have d1 := q1.cell 1
  have d2 := q1.cell 2
  have e0 := q1.frozen 0
  have e1 := q1.frozen 1
  have e2 := q1.frozen 2
  clear c3 hW2 b3
  have c3 := q0.cell 3
  simp at c3 d0 d1 d2
  have HQ : Hid (∀ x y z : Int, Blk (((w3.setCell ⟨w.heap.size + 1, 0, none⟩ (.int .i64 x)).setCell ⟨w.heap.size + 1, 1, none⟩ (.int .i64 y)).setCell ⟨w.heap.size + 1, 2, none⟩ (.int .i64 z)) (w.heap.size + 1) (P3 x y z) 35 ∧ Below w.heap.size w (((w3.setCell ⟨w.heap.size + 1, 0, none⟩ (.int .i64 x)).setCell ⟨w.heap.size + 1, 1, none⟩ (.int .i64 y)).setCell ⟨w.heap.size + 1, 2, none⟩ (.int .i64 z))) := fun x y z =>
    ⟨((q1.set 0 (.int .i64 x)).set 1 (.int .i64 y)).set 2 (.int .i64 z), ((B3.setCell (by dsimp only; omega) _).setCell (by dsimp only; omega) _).setCell (by dsimp only; omega) _⟩
  rcases hr with ⟨k, rfl, hk⟩ | ⟨rfl, hno⟩
  · obtain ⟨hkl, hk1, hk2⟩ := hk
    have HF : Hid (Fst (fun x => x.1 == f) ps k) := ⟨hkl, hk1, hk2⟩
    rcases h3 with h3 | ⟨b, off, rfl, h4⟩
    · subst h3; simp at hkl
    have hc := h4 k hkl
    have hcb : b < w.heap.size := block_lt_of_cell hc.1
    obtain ⟨x, ex⟩ : ∃ x, ps[k].1 = x := ⟨_, rfl⟩
    obtain ⟨y, ey⟩ : ∃ y, ps[k].2.1 = y := ⟨_, rfl⟩
    obtain ⟨z, ez⟩ : ∃ z, ps[k].2.2 = z := ⟨_, rfl⟩
    have HX : Hid (ps[k]? = some (x, y, z)) := by show ps[k]? = some (x, y, z); rw [List.getElem?_eq_getElem hkl, ← ex, ← ey, ← ez]
    rw [ex, ey, ez] at hc
    have g0 := (B3.cell (p := ⟨b, off + k * 3, none⟩) hcb).trans hc.1
    have g1 := (B3.cell (p := ⟨b, off + k * 3 + 1, none⟩) hcb).trans hc.2.1
    have g2 := (B3.cell (p := ⟨b, off + k * 3 + 2, none⟩) hcb).trans hc.2.2
    have hk0 : ¬ ((k : Int) < 0) := by omega
    clear h4 hc ex ey ez B3 q0 q1 hk1 hk2 HR HK HKB HNP HRT HB2 n0 n1 n2
    go_wp2
    exact bodyPost_ret (v := .agg (P3 x y z)) (results_cell_row rfl _ _ _ 35 _ (0, 0) _ rfl (HQ.out x y z).1 Tryd.underlying35 rfl size38) rfl ⟨x, y, z, rfl, .inl ⟨k, HF.out, HX.out⟩, (HQ.out x y z).2⟩
  · have HN : Hid (None3 (fun x => x.1 == f) ps) := hno
    clear B3 q0 q1 hno HR HK HKB HNP HRT HB2 h3
    go_wp2
    exact bodyPost_ret (v := .agg (P3 (-1) (-1) (-1))) (results_cell_row rfl _ _ _ 35 _ (0, 0) _ rfl (HQ.out (-1) (-1) (-1)).1 Tryd.underlying35 rfl size38) rfl ⟨-1, -1, -1, rfl, .inr ⟨HN.out, rfl⟩, (HQ.out (-1) (-1) (-1)).2⟩
set_option maxHeartbeats 1600000 in
theorem pathFrom_c (s p m : Int) (v : Value) (ps : Tri) (f : Int) (w : World) (h : Rt w v ps) (hN : NoP w) :
   Calls Tryd.prog 38 #[.agg (F4 s p m v), .int .i64 f] w (PaE (fun x => x.1 == f) ps w) := by
  obtain ⟨W3, hW3⟩ : ∃ W3, (((w.alloc (Obj.cells (F4 s p m v) 26)).alloc (Obj.cells #[.int .i64 f] 3)).alloc (Obj.cells (P3 0 0 0) 35)) = W3 := ⟨_, rfl⟩
  have z3 : W3.heap.size = w.heap.size + 3 := by rw [← hW3]; simp
  have k0 : Blk W3 w.heap.size (F4 s p m v) 26 := hW3 ▸ ((Blk.new _ _ _).alloc _).alloc _
  have k1 : Blk W3 (w.heap.size + 1) #[.int .i64 f] 3 := hW3 ▸ (Blk.newAt _ _ _ _ (by simp)).alloc _
  have k2 : Blk W3 (w.heap.size + 2) (P3 0 0 0) 35 := hW3 ▸ Blk.newAt _ _ _ _ (by simp)
  have bl : Below w.heap.size w W3 := hW3 ▸ (((Below.refl _ _).alloc (Nat.le_refl _) _).alloc (by simp) _).alloc (by simp; omega) _
  have HB3 : Hid (Below w.heap.size w W3) := bl
  have HF : Hid (Calls Tryd.prog 60 #[.agg (F4 s p m v), .func (.func 61) #[] #[.pointer (some ⟨w.heap.size + 1, 0, none⟩)]] W3 (PaE (fun x => x.1 == f) ps W3)) := findFrom_c s p m v ps f (w.heap.size + 1) W3 (h.below bl) k1 (hN.below bl hN.lt)
  have HK : Hid (Blk W3 (w.heap.size + 2) (P3 0 0 0) 35) := k2
  obtain ⟨a, cap, rfl, -⟩ := h
  have c0 := k0.cell 0
  have c1 := k0.cell 1
  have c2 := k0.cell 2
  have c3 := k0.cell 3
  simp at c0 c1 c2 c3
  clear k0 k1 k2 bl hN
  go_enter Tryd.func38, Tryd.ntmps38
  go_wp2_with (fail)
  refine HF.out.mono ?_
  rintro e w4 ⟨x, y, z, rfl, hx, b4⟩
  have q2 := HK.out.below b4 (by omega)
  have B4 : Below w.heap.size w w4 := belowCall HB3.out b4 (by omega)
  have d0 := q2.cell 0
  have d1 := q2.cell 1
  have d2 := q2.cell 2
  have e0 := q2.frozen 0
  have e1 := q2.frozen 1
  have e2 := q2.frozen 2
  simp at d0 d1 d2
  have HQ : Hid (Blk (((w4.setCell ⟨w.heap.size + 2, 0, none⟩ (.int .i64 x)).setCell ⟨w.heap.size + 2, 1, none⟩ (.int .i64 y)).setCell ⟨w.heap.size + 2, 2, none⟩ (.int .i64 z)) (w.heap.size + 2) (P3 x y z) 35 ∧ Below w.heap.size w (((w4.setCell ⟨w.heap.size + 2, 0, none⟩ (.int .i64 x)).setCell ⟨w.heap.size + 2, 1, none⟩ (.int .i64 y)).setCell ⟨w.heap.size + 2, 2, none⟩ (.int .i64 z))) :=
    ⟨((q2.set 0 (.int .i64 x)).set 1 (.int .i64 y)).set 2 (.int .i64 z), ((B4.setCell (by dsimp only; omega) _).setCell (by dsimp only; omega) _).setCell (by dsimp only; omega) _⟩
  have HX : Hid ((∃ k, Fst (fun x => x.1 == f) ps k ∧ ps[k]? = some (x, y, z)) ∨ (None3 (fun x => x.1 == f) ps ∧ (x, y, z) = (-1, -1, -1))) := hx
  clear hx b4 q2 B4 HF HK HB3 hW3 c0 c1 c2 c3
  go_wp2
  exact bodyPost_ret (v := .agg (P3 x y z)) (results_cell_row rfl _ _ _ 35 _ (0, 0) _ rfl HQ.out.1 Tryd.underlying35 rfl size38) rfl ⟨x, y, z, rfl, HX.out, HQ.out.2⟩
end Go.Proofs.YtikhfeafbckjlaaDoor

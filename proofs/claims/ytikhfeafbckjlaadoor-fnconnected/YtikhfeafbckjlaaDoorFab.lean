/- Contracts of the laws' helpers that copy and compare fabrics; no condition. -/
import Derived.Test.YtikhfeafbckjlaaDoorPth
namespace Go.Proofs.YtikhfeafbckjlaaDoor
open Go.RowKit Go.ChangeShapes Go.WideShapes Go.ChangeAt
set_option linter.unusedVariables false
set_option linter.unusedSimpArgs false
set_option maxRecDepth 8000
theorem grown_set (w : World) (g k : Nat) (x : Value) : w.grownBy (w.setCell ⟨g, k, none⟩ x) (some g) :=
  ⟨rfl, rfl, rfl, by simp, fun i _ hi => heap_setCell_other w ⟨g, k, none⟩ i x (fun e => hi (by simp [e]))⟩
set_option maxHeartbeats 1600000 in
theorem toFabric_c (s p m : Int) (v : Value) (ls : Tri) (w : World) (h : Rt w v ls) (hn : ls.length ≤ 1048576) :
   Calls Tryd.prog 22 #[.agg (F4 s p m v)] w fun e w' => ∃ v', e = .returned (.agg (F4 s p m v')) ∧ Ot 35 w.heap.size w' v' ls ∧ Below w.heap.size w w' := by
  have hb : Below w.heap.size w (((w.alloc (Obj.cells (F4 s p m v) 43)).alloc (Obj.cells (F4 0 0 0 (.slice none 0 0)) 26)).alloc (Obj.cells (F4 s p m (.slice none 0 0)) 26)) := (((Below.refl _ _).alloc (Nat.le_refl _) _).alloc (by simp) _).alloc (by simp; omega) _
  have HB : Hid _ := hb
  have HH : Hid (Rt (((w.alloc (Obj.cells (F4 s p m v) 43)).alloc (Obj.cells (F4 0 0 0 (.slice none 0 0)) 26)).alloc (Obj.cells (F4 s p m (.slice none 0 0)) 26)) v ls) := h.below hb
  have k1 : Blk (((w.alloc (Obj.cells (F4 s p m v) 43)).alloc (Obj.cells (F4 0 0 0 (.slice none 0 0)) 26)).alloc (Obj.cells (F4 s p m (.slice none 0 0)) 26)) (w.heap.size + 1) (F4 0 0 0 (.slice none 0 0)) 26 := (Blk.newAt _ (w.heap.size + 1) _ 26 (by simp)).alloc _
  have k2 : Blk (((w.alloc (Obj.cells (F4 s p m v) 43)).alloc (Obj.cells (F4 0 0 0 (.slice none 0 0)) 26)).alloc (Obj.cells (F4 s p m (.slice none 0 0)) 26)) (w.heap.size + 1 + 1) (F4 s p m (.slice none 0 0)) 26 := Blk.newAt _ (w.heap.size + 1 + 1) _ 26 (by simp)
  have K : Hid (Blk _ _ _ _ ∧ Blk _ _ _ _) := ⟨k1, k2⟩
  obtain ⟨a, cap, rfl, -⟩ := h
  obtain ⟨mm, hmm⟩ : ∃ mm, ls.length = mm := ⟨_, rfl⟩
  rw [hmm] at HB HH K ⊢
  clear hb k1 k2 hmm
  go_enter Tryd.func22, Tryd.ntmps22
  go_wp2_with (fail)
  refine (toPathS_c _ _ _ HH.out hn).mono ?_
  rintro e w2 ⟨v', rfl, hO, b2⟩
  have q1 := K.out.1.below b2 (by simp)
  have q2 := K.out.2.below b2 (by simp)
  have hbb := belowCall HB.out b2 HB.out.size
  obtain ⟨a', cap', rfl, -⟩ := hO.rd
  have hoff : ∀ k, k < w.heap.size + 3 → (Value.slice a' ls.length cap').ownBlock ≠ some k := fun k hk e => by
    have := (World.ownsRow.lt hO k e).1
    simp at this; omega
  have keep : ∀ (W W' : World) (k : Nat), k < w.heap.size + 3 → W.grownBy W' (some k) → Ot 35 w.heap.size W (.slice a' ls.length cap') ls → Ot 35 w.heap.size W' (.slice a' ls.length cap') ls := by
    intro W W' k hk hg hh
    exact World.ownsRow.kept hh hg (.inr (hoff k hk))
  have start : Ot 35 w.heap.size w2 (.slice a' ls.length cap') ls := hO.mono (by simp; omega)
  have c0 := q2.cell 0
  have c1 := q2.cell 1
  have c2 := q2.cell 2
  have c3 := q2.cell 3
  have f0 := q2.frozen 0
  have f1 := q2.frozen 1
  have f2 := q2.frozen 2
  have f3 := q2.frozen 3
  have d0 := q1.cell 0
  have d1 := q1.cell 1
  have d2 := q1.cell 2
  have d3 := q1.cell 3
  have e0 := q1.frozen 0
  have e1 := q1.frozen 1
  have e2 := q1.frozen 2
  have e3 := q1.frozen 3
  simp at c0 c1 c2 c3 d0 d1 d2 d3
  have Q1 := ((((q1.other ⟨w.heap.size + 1 + 1, 3, none⟩ (.slice a' ls.length cap') (by simp)).set 0 (.int .i64 s)).set 1 (.int .i64 p)).set 2 (.int .i64 m)).set 3 (.slice a' ls.length cap')
  have H1 : Hid _ := Q1
  have g1 := keep _ _ _ (by omega) (grown_set w2 (w.heap.size + 1 + 1) 3 (.slice a' ls.length cap')) start
  have g2 := keep _ _ _ (by omega) (grown_set _ (w.heap.size + 1) 0 (.int .i64 s)) g1
  have g3 := keep _ _ _ (by omega) (grown_set _ (w.heap.size + 1) 1 (.int .i64 p)) g2
  have g4 := keep _ _ _ (by omega) (grown_set _ (w.heap.size + 1) 2 (.int .i64 m)) g3
  have g5 := keep _ _ _ (by omega) (grown_set _ (w.heap.size + 1) 3 (.slice a' ls.length cap')) g4
  have G3 : Hid _ := g5
  have b3 : Below w.heap.size w (((((w2.setCell ⟨w.heap.size + 1 + 1, 3, none⟩ (.slice a' ls.length cap')).setCell ⟨w.heap.size + 1, 0, none⟩ (.int .i64 s)).setCell ⟨w.heap.size + 1, 1, none⟩ (.int .i64 p)).setCell ⟨w.heap.size + 1, 2, none⟩ (.int .i64 m)).setCell ⟨w.heap.size + 1, 3, none⟩ (.slice a' ls.length cap')) := ((((hbb.setCell (by dsimp only; omega) _).setCell (by dsimp only; omega) _).setCell (by dsimp only; omega) _).setCell (by dsimp only; omega) _).setCell (by dsimp only; omega) _
  have B3 : Hid _ := b3
  clear K HB HH q1 q2 Q1 g1 g2 g3 g4 g5 b3 hoff keep start hO hbb b2
  go_wp2
  exact bodyPost_ret (v := .agg (F4 s p m (.slice a' ls.length cap'))) (results_cell_row rfl _ _ _ 26 _ (0, 0) _ rfl H1.out Tryd.underlying26 rfl size29) rfl ⟨_, rfl, G3.out, B3.out⟩
set_option maxHeartbeats 1600000 in
theorem eqFabric_c (s p m s' p' m' : Int) (v v' : Value) (xs ys : Tri) (w : World) (h : Rt w v xs) (h' : Rt w v' ys) :
   Calls Tryd.prog 23 #[.agg (F4 s p m v), .agg (F4 s' p' m' v')] w fun e w' => e = .returned (.bool (decide ((s, p, m, xs) = (s', p', m', ys)))) ∧ Below w.heap.size w w' := by
  have hb : Below w.heap.size w ((w.alloc (Obj.cells (F4 s p m v) 26)).alloc (Obj.cells (F4 s' p' m' v') 26)) := ((Below.refl _ _).alloc (Nat.le_refl _) _).alloc (by simp) _
  have HB : Hid _ := hb
  have HH : Hid (Rt ((w.alloc (Obj.cells (F4 s p m v) 26)).alloc (Obj.cells (F4 s' p' m' v') 26)) v xs ∧ Rt ((w.alloc (Obj.cells (F4 s p m v) 26)).alloc (Obj.cells (F4 s' p' m' v') 26)) v' ys) := ⟨h.below hb, h'.below hb⟩
  obtain ⟨a, cap, rfl, -⟩ := h
  obtain ⟨a', cap', rfl, -⟩ := h'
  clear hb
  go_enter Tryd.func23, Tryd.ntmps23
  go_wp2_with (go_at_call 30; refine (eqPathS_c _ _ _ _ _ HH.out.1 HH.out.2).mono ?_; rintro e w2 ⟨rfl, b2⟩)
  all_goals
    clear HH
    go_ret
    refine ⟨by simp_all, ?_⟩
    first | exact HB.out | exact belowCall HB.out b2 HB.out.size
end Go.Proofs.YtikhfeafbckjlaaDoor

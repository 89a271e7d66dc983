/- Copies of a fabric: the model's and the program's; no condition. -/
import Derived.Test.YtikhfeafbckjlaaDoorTLaw
namespace Go.Proofs.YtikhfeafbckjlaaDoor
open Go.RowKit Go.ChangeShapes Go.WideShapes Go.ChangeAt
set_option linter.unusedVariables false
set_option linter.unusedSimpArgs false
set_option maxRecDepth 8000
set_option maxHeartbeats 1600000 in
theorem l3Copy_c (s p m : Int) (v : Value) (ls : Tri) (w : World) (h : Rt w v ls) (hn : ls.length ≤ 4194304) :
   Calls Tryd.prog 44 #[.agg (F4 s p m v)] w fun e w' => ∃ v', e = .returned (.agg (F4 s p m v')) ∧ Ot 35 w.heap.size w' v' ls ∧ Below w.heap.size w w' := by
  obtain ⟨W2, hW2⟩ : ∃ W2, ((w.alloc (Obj.cells (F4 s p m v) 26)).alloc (Obj.cells (F4 0 0 0 (.slice none 0 0)) 26)) = W2 := ⟨_, rfl⟩
  have z2 : W2.heap.size = w.heap.size + 2 := by rw [← hW2]; simp
  have k0 : Blk W2 w.heap.size (F4 s p m v) 26 := hW2 ▸ (Blk.new _ _ _).alloc _
  have k1 : Blk W2 (w.heap.size + 1) (F4 0 0 0 (.slice none 0 0)) 26 := hW2 ▸ Blk.newAt _ _ _ _ (by simp)
  have bl : Below w.heap.size w W2 := hW2 ▸ ((Below.refl _ _).alloc (Nat.le_refl _) _).alloc (by simp) _
  have HO : Hid (Ot 35 w.heap.size (W2.alloc (Obj.cells #[] 35)) (.slice (some ⟨w.heap.size + 2, 0, none⟩) 0 0) []) := by
    have := World.ownsRow_lit (e := 35) (size := 3) (base := w.heap.size) W2 #[] 0 (by omega) (by simp) (by simp)
    rw [z2] at this; exact this
  have HB3 : Hid (Below w.heap.size w (W2.alloc (Obj.cells #[] 35))) := bl.alloc (by omega) _
  have HR : Hid (Rt (W2.alloc (Obj.cells #[] 35)) v ls) := h.below HB3.out
  have HK : Hid (Blk (W2.alloc (Obj.cells #[] 35)) w.heap.size (F4 s p m v) 26 ∧ Blk (W2.alloc (Obj.cells #[] 35)) (w.heap.size + 1) (F4 0 0 0 (.slice none 0 0)) 26) := ⟨k0.alloc _, k1.alloc _⟩
  have HZ : Hid (W2.heap.size = w.heap.size + 2) := z2
  obtain ⟨a, cap, e, -⟩ := h
  obtain ⟨n, hn'⟩ : ∃ n, ls.length = n := ⟨_, rfl⟩
  rw [hn'] at e
  subst e
  have HN : Hid (ls.length = n) := hn'
  have c0 := k0.cell 0
  have c1 := k0.cell 1
  have c2 := k0.cell 2
  have c3 := k0.cell 3
  simp at c0 c1 c2 c3
  clear hn' k0 k1 bl
  go_enter Tryd.func44, Tryd.ntmps44
  go_wp2_with (at_builtin; refine appTri rfl _ _ rfl w.heap.size _ [] rfl HO.out _ ls rfl HR.out (by simp; omega) (by simp; omega) ?_)
  intro v' w3 ho hg hb
  have hs3 : w.heap.size + 3 ≤ w3.heap.size := by have := hg.size; simp at this; omega
  have q0 : Blk w3 w.heap.size (F4 s p m (.slice a n cap)) 26 := (hg.block _ (by simp; omega) (by simp [Value.ownBlock])).trans HK.out.1
  have q1 : Blk w3 (w.heap.size + 1) (F4 0 0 0 (.slice none 0 0)) 26 := (hg.block _ (by simp; omega) (by simp [Value.ownBlock])).trans HK.out.2
  have b3 : Below w.heap.size w w3 := HB3.out.trans (grown_below hg (by simp; omega) (fun k e => by simp [Value.ownBlock] at e; omega))
  have hvb : ∀ k, v'.ownBlock = some k → w.heap.size + 2 ≤ k := fun k e => by
    rcases hb with hb | hb
    · rw [hb] at e; simp [Value.ownBlock] at e; omega
    · rw [hb] at e; simp at e; omega
  obtain ⟨a', cap', rfl, -⟩ := own_form ho
  clear c0 c1 c2 c3 hW2
  have c0 := q0.cell 0
  have c1 := q0.cell 1
  have c2 := q0.cell 2
  have c3 := q0.cell 3
  have f3 := q0.frozen 3
  have d0 := q1.cell 0
  have d1 := q1.cell 1
  have d2 := q1.cell 2
  have d3 := q1.cell 3
  have e0 := q1.frozen 0
  have e1 := q1.frozen 1
  have e2 := q1.frozen 2
  have e3 := q1.frozen 3
  simp at c0 c1 c2 c3 d0 d1 d2 d3
  have Q1 := ((((q1.other ⟨w.heap.size, 3, none⟩ (.slice a' ls.length cap') (by simp)).set 0 (.int .i64 s)).set 1 (.int .i64 p)).set 2 (.int .i64 m)).set 3 (.slice a' ls.length cap')
  have H1 : Hid _ := Q1
  have keep : ∀ (W W' : World) (k : Nat), k < w.heap.size + 2 → W.grownBy W' (some k) → Ot 35 w.heap.size W (.slice a' ls.length cap') ls → Ot 35 w.heap.size W' (.slice a' ls.length cap') ls := fun W W' k hk hg hh => World.ownsRow.kept hh hg (.inr (fun e => by have := hvb k e; omega))
  have g1 := keep _ _ _ (by omega) (grown_set w3 w.heap.size 3 (.slice a' ls.length cap')) ho
  have g2 := keep _ _ _ (by omega) (grown_set _ (w.heap.size + 1) 0 (.int .i64 s)) g1
  have g3 := keep _ _ _ (by omega) (grown_set _ (w.heap.size + 1) 1 (.int .i64 p)) g2
  have g4 := keep _ _ _ (by omega) (grown_set _ (w.heap.size + 1) 2 (.int .i64 m)) g3
  have g5 := keep _ _ _ (by omega) (grown_set _ (w.heap.size + 1) 3 (.slice a' ls.length cap')) g4
  have G5 : Hid _ := g5
  have b4 : Below w.heap.size w (((((w3.setCell ⟨w.heap.size, 3, none⟩ (.slice a' ls.length cap')).setCell ⟨w.heap.size + 1, 0, none⟩ (.int .i64 s)).setCell ⟨w.heap.size + 1, 1, none⟩ (.int .i64 p)).setCell ⟨w.heap.size + 1, 2, none⟩ (.int .i64 m)).setCell ⟨w.heap.size + 1, 3, none⟩ (.slice a' ls.length cap')) := ((((b3.setCell (by dsimp only; omega) _).setCell (by dsimp only; omega) _).setCell (by dsimp only; omega) _).setCell (by dsimp only; omega) _).setCell (by dsimp only; omega) _
  have B4 : Hid _ := b4
  clear ho hg hb HO HR HK HB3 q0 q1 Q1 keep g1 g2 g3 g4 g5 b4 b3 hvb
  go_wp2
  exact bodyPost_ret (v := .agg (F4 s p m (.slice a' ls.length cap'))) (results_cell_row rfl _ _ _ 26 _ (0, 0) _ rfl H1.out Tryd.underlying26 rfl size29) rfl ⟨_, rfl, G5.out, B4.out⟩
set_option maxHeartbeats 1600000 in
theorem copyFabric_c (s p m : Int) (v : Value) (ls : Tri) (w : World) (h : Rt w v ls) (hn : ls.length ≤ 4194304) :
   Calls Tryd.prog 36 #[.agg (F4 s p m v)] w fun e w' => ∃ v', e = .returned (.agg (F4 s p m v')) ∧ Ot 35 w.heap.size w' v' ls ∧ Below w.heap.size w w' := by
  obtain ⟨W2, hW2⟩ : ∃ W2, ((w.alloc (Obj.cells (F4 s p m v) 26)).alloc (Obj.cells (F4 0 0 0 (.slice none 0 0)) 26)) = W2 := ⟨_, rfl⟩
  have z2 : W2.heap.size = w.heap.size + 2 := by rw [← hW2]; simp
  have k0 : Blk W2 w.heap.size (F4 s p m v) 26 := hW2 ▸ (Blk.new _ _ _).alloc _
  have k1 : Blk W2 (w.heap.size + 1) (F4 0 0 0 (.slice none 0 0)) 26 := hW2 ▸ Blk.newAt _ _ _ _ (by simp)
  have bl : Below w.heap.size w W2 := hW2 ▸ ((Below.refl _ _).alloc (Nat.le_refl _) _).alloc (by simp) _
  have HB2 : Hid (Below w.heap.size w W2) := bl
  have HR : Hid (Rt W2 v ls) := h.below bl
  have HK : Hid (Blk W2 w.heap.size (F4 s p m v) 26 ∧ Blk W2 (w.heap.size + 1) (F4 0 0 0 (.slice none 0 0)) 26) := ⟨k0, k1⟩
  have HZ : Hid (W2.heap.size = w.heap.size + 2) := z2
  obtain ⟨a, cap, e, hle, hcm, -⟩ := h
  subst e
  unfold maxLen at hcm
  have c0 := k0.cell 0
  have c1 := k0.cell 1
  have c2 := k0.cell 2
  have c3 := k0.cell 3
  simp at c0 c1 c2 c3
  obtain ⟨i0, hi, hy0, hy1, hy2⟩ := info_parts infoPath
  clear k0 k1 bl
  go_enter Tryd.func36, Tryd.ntmps36
  go_wp2_with (at_make; refine wpList_make_full _ rfl _ _ 24 rfl W2.heap.size 35 i0 (.agg #[.int .i64 0, .int .i64 0, .int .i64 0]) 3 Tryd.underlying24 hi hy0 hy1 .i64 .i64 _ _ ls.length rfl rfl rfl rfl (by rw [hy2]; omega) (by unfold maxLen; omega) (Nat.le_refl _) ?_)
  intro w2 ho2 hg2

  have hb2 : Below W2.heap.size W2 w2 := grown_below hg2 (Nat.le_refl _) (by simp)
  have HB3 : Hid (Below w.heap.size w w2) := HB2.out.trans (hb2.mono (by omega))
  have HR3 : Hid (Rt w2 (.slice a ls.length cap) ls) := HR.out.below hb2
  have q0 : Blk w2 w.heap.size (F4 s p m (.slice a ls.length cap)) 26 := HK.out.1.below hb2 (by omega)
  have q1 : Blk w2 (w.heap.size + 1) (F4 0 0 0 (.slice none 0 0)) 26 := HK.out.2.below hb2 (by omega)
  have HQ : Hid (Blk w2 w.heap.size (F4 s p m (.slice a ls.length cap)) 26 ∧ Blk w2 (w.heap.size + 1) (F4 0 0 0 (.slice none 0 0)) 26) := ⟨q0, q1⟩
  have HO2 : Hid (w2.ownsRow w.heap.size 35 3 (.slice (some ⟨w.heap.size + 2, 0, none⟩) ls.length ls.length) ls.length (tr (List.replicate ls.length (0, 0, 0)))) := by
    have t : Ot 35 (w.heap.size + 2) w2 (.slice (some ⟨w.heap.size + 2, 0, none⟩) ls.length ls.length) (List.replicate ls.length (0, 0, 0)) := by rw [Ot, List.length_replicate, ← tr_replicate]; exact ho2
    have t2 := t.mono (show w.heap.size ≤ w.heap.size + 2 by omega)
    rw [Ot, List.length_replicate] at t2; exact t2
  have s2 : w.heap.size + 3 ≤ w2.heap.size := by
    have := World.ownsRow.lt HO2.out (w.heap.size + 2) rfl
    omega
  clear c0 c1 c2 c3 hW2
  have c0 := q0.cell 0
  have c1 := q0.cell 1
  have c2 := q0.cell 2
  have c3 := q0.cell 3
  simp at c0 c1 c2 c3
  clear ho2 hg2 hb2 HB2 HR HK q0 q1
  obtain ⟨w3, hrun, ho, hg⟩ := copyRun (w := w2) 3 w.heap.size (w.heap.size + 2) ls.length (List.replicate ls.length (0, 0, 0)) ls HO2.out (by simp) _ HR3.out
  have HRUN : Hid _ := hrun
  have HOG : Hid (Ot 35 w.heap.size w3 (.slice (some ⟨w.heap.size + 2, 0, none⟩) ls.length ls.length) ls ∧ w2.grownBy w3 (some (w.heap.size + 2))) := ⟨ho, hg⟩
  clear hrun ho hg
  go_wp2
  rw [HRUN.out]
  obtain ⟨ho, hg⟩ := HOG.out
  clear HOG HRUN
  have hs3 : w.heap.size + 3 ≤ w3.heap.size := by have := hg.size; omega
  have q0 : Blk w3 w.heap.size (F4 s p m (.slice a ls.length cap)) 26 := (hg.block _ (by omega) (by simp)).trans HQ.out.1
  have q1 : Blk w3 (w.heap.size + 1) (F4 0 0 0 (.slice none 0 0)) 26 := (hg.block _ (by omega) (by simp)).trans HQ.out.2
  have b3 : Below w.heap.size w w3 := HB3.out.trans (grown_below hg (by omega) (fun k e => by simp at e; omega))
  clear c0 c1 c2 c3
  have c0 := q0.cell 0
  have c1 := q0.cell 1
  have c2 := q0.cell 2
  have c3 := q0.cell 3
  have d0 := q1.cell 0
  have d1 := q1.cell 1
  have d2 := q1.cell 2
  have d3 := q1.cell 3
  have e0 := q1.frozen 0
  have e1 := q1.frozen 1
  have e2 := q1.frozen 2
  have e3 := q1.frozen 3
  simp at c0 c1 c2 c3 d0 d1 d2 d3
  have Q1 := (((q1.set 0 (.int .i64 s)).set 1 (.int .i64 p)).set 2 (.int .i64 m)).set 3 (.slice (some ⟨w.heap.size + 2, 0, none⟩) ls.length ls.length)
  have H1 : Hid _ := Q1
  have keep : ∀ (W W' : World) (k : Nat), k < w.heap.size + 2 → W.grownBy W' (some k) → Ot 35 w.heap.size W (.slice (some ⟨w.heap.size + 2, 0, none⟩) ls.length ls.length) ls → Ot 35 w.heap.size W' (.slice (some ⟨w.heap.size + 2, 0, none⟩) ls.length ls.length) ls := fun W W' k hk hg hh => World.ownsRow.kept hh hg (.inr (by simp [Value.ownBlock]; omega))
  have g2 := keep _ _ _ (by omega) (grown_set w3 (w.heap.size + 1) 0 (.int .i64 s)) ho
  have g3 := keep _ _ _ (by omega) (grown_set _ (w.heap.size + 1) 1 (.int .i64 p)) g2
  have g4 := keep _ _ _ (by omega) (grown_set _ (w.heap.size + 1) 2 (.int .i64 m)) g3
  have g5 := keep _ _ _ (by omega) (grown_set _ (w.heap.size + 1) 3 (.slice (some ⟨w.heap.size + 2, 0, none⟩) ls.length ls.length)) g4
  have G5 : Hid _ := g5
  have b4 : Below w.heap.size w ((((w3.setCell ⟨w.heap.size + 1, 0, none⟩ (.int .i64 s)).setCell ⟨w.heap.size + 1, 1, none⟩ (.int .i64 p)).setCell ⟨w.heap.size + 1, 2, none⟩ (.int .i64 m)).setCell ⟨w.heap.size + 1, 3, none⟩ (.slice (some ⟨w.heap.size + 2, 0, none⟩) ls.length ls.length)) := (((b3.setCell (by dsimp only; omega) _).setCell (by dsimp only; omega) _).setCell (by dsimp only; omega) _).setCell (by dsimp only; omega) _
  have B4 : Hid _ := b4
  clear ho hg HO2 HR3 HQ HB3 q0 q1 Q1 keep g2 g3 g4 g5 b4 b3
  go_wp2
  exact bodyPost_ret (v := .agg (F4 s p m (.slice (some ⟨w.heap.size + 2, 0, none⟩) ls.length ls.length))) (results_cell_row rfl _ _ _ 26 _ (0, 0) _ rfl H1.out Tryd.underlying26 rfl size29) rfl ⟨_, rfl, G5.out, B4.out⟩
end Go.Proofs.YtikhfeafbckjlaaDoor

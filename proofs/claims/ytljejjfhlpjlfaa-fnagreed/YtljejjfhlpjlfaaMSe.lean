/- The model's l5Send and l5Copy; no condition. -/
import Derived.Test.YtljejjfhlpjlfaaEvI
namespace Go.Proofs.Ytljejjfhlpjlfaa
open Go.RowKit Go.ChangeShapes Go.WideShapes Go.ChangeAt
set_option linter.unusedVariables false
set_option linter.unusedSimpArgs false
set_option maxRecDepth 8000

set_option maxHeartbeats 3200000 in
theorem l5Send_c (base : Nat) (s c s' c' : Int) (v : Value) (ls : Tri) (fr kd ca : Int) (w : World) (h : Ot 66 base w v ls) (hbs : base ≤ w.heap.size) (hl : ls.length ≤ 4194304) (hf0 : 0 ≤ fr) (hf1 : fr ≤ 1) :
    Calls Try.prog 61 #[.agg (D5 s c s' c' v), .int .i64 fr, .int .i64 kd, .int .i64 ca] w (DuS base w v (s, c, s', c', ls ++ [(1 - fr, kd, ca)])) := by
  obtain ⟨W0, hW0⟩ : ∃ W0, (w.alloc (Obj.cells (D5 s c s' c' v) 31)).alloc (Obj.cells (D5 0 0 0 0 (.slice none 0 0)) 31) = W0 := ⟨_, rfl⟩
  have HB : Hid (Bx w base v W0 w.heap.size (w.heap.size + 1) s c s' c' v ls) := Bx.start h (by rw [← hW0]; exact ((Below.refl _ _).alloc (Nat.le_refl _) _).alloc (by simp) _) (by rw [← hW0]; exact (Blk.new _ _ _).alloc _) (by rw [← hW0]; exact Blk.newAt _ (w.heap.size + 1) _ 31 (by simp)) (Nat.le_refl _) (by omega) (by omega)
  obtain ⟨a, cap, hv, -⟩ := own_form h
  obtain ⟨n, hn⟩ : ∃ n, ls.length = n := ⟨_, rfl⟩
  rw [hn] at hv
  subst hv
  have HN : Hid (ls.length = n) := hn
  clear h hn
  have c0 := HB.out.box.cell 0
  have cf0 := HB.out.box.frozen 0
  have c1 := HB.out.box.cell 1
  have cf1 := HB.out.box.frozen 1
  have c2 := HB.out.box.cell 2
  have cf2 := HB.out.box.frozen 2
  have c3 := HB.out.box.cell 3
  have cf3 := HB.out.box.frozen 3
  have c4 := HB.out.box.cell 4
  have cf4 := HB.out.box.frozen 4
  have r0 := HB.out.res.cell 0
  have rf0 := HB.out.res.frozen 0
  have r1 := HB.out.res.cell 1
  have rf1 := HB.out.res.frozen 1
  have r2 := HB.out.res.cell 2
  have rf2 := HB.out.res.frozen 2
  have r3 := HB.out.res.cell 3
  have rf3 := HB.out.res.frozen 3
  have r4 := HB.out.res.cell 4
  have rf4 := HB.out.res.frozen 4
  simp at c0 c1 c2 c3 c4 r0 r1 r2 r3 r4
  have cl := HB.out.box.lt
  have rl := HB.out.res.lt
  have cn := HB.out.ne
  skip
  have HO1 := oneSig HB.out.own (1 - fr) kd ca
  have HO : Hid (Ot 66 base (W0.alloc (Obj.cells (P3 (1 - fr) kd ca) 66)) (.slice a n cap) ls) := HO1.1
  have HR1 : Hid (Rt (W0.alloc (Obj.cells (P3 (1 - fr) kd ca) 66)) (.slice (some ⟨W0.heap.size, 0, none⟩) 1 1) [(1 - fr, kd, ca)]) := HO1.2
  have HBS : Hid (base ≤ (W0.alloc (Obj.cells (P3 (1 - fr) kd ca) 66)).heap.size) := by have := HB.out.gr.size; show base ≤ _; simp; omega
  have HL : Hid (ls.length ≤ 4194304) := hl
  clear HO1 hl hbs
  go_enter Try.func61, Try.ntmps61
  go_wp2_with (at_builtin; refine appTri rfl _ _ rfl base _ _ rfl HO.out _ _ rfl HR1.out (by have := HL.out; simp only [List.length_cons, List.length_nil]; omega) HBS.out ?_)
  intro v' w3 ho hg hb
  obtain ⟨k1, hB3⟩ := HB.out.app ho hg hb
  obtain ⟨a', cap', hv', -⟩ := own_form ho
  rw [show (ls ++ [(1 - fr, kd, ca)]).length = n + 1 by simp [HN.out]] at hv'
  subst hv'
  have HB3 : Hid (Bx w base (.slice a n cap) (w3.setCell ⟨w.heap.size, 4, none⟩ (.slice a' (n + 1) cap')) w.heap.size (w.heap.size + 1) s c s' c' (.slice a' (n + 1) cap') (ls ++ [(1 - fr, kd, ca)])) := hB3
  clear hW0 hB3 HB HO HR1 HBS ho hg hb c0 c1 c2 c3 c4 cf0 cf1 cf2 cf3 cf4 r0 r1 r2 r3 r4 rf0 rf1 rf2 rf3 rf4 cl rl cn
  have d4 := k1.cell 4
  have e4 := k1.frozen 4
  simp at d4
  obtain ⟨W4, hW4⟩ : ∃ W, w3.setCell ⟨w.heap.size, 4, none⟩ (.slice a' (n + 1) cap') = W := ⟨_, rfl⟩
  rw [hW4] at HB3
  clear k1
  have c0 := HB3.out.box.cell 0
  have cf0 := HB3.out.box.frozen 0
  have c1 := HB3.out.box.cell 1
  have cf1 := HB3.out.box.frozen 1
  have c2 := HB3.out.box.cell 2
  have cf2 := HB3.out.box.frozen 2
  have c3 := HB3.out.box.cell 3
  have cf3 := HB3.out.box.frozen 3
  have c4 := HB3.out.box.cell 4
  have cf4 := HB3.out.box.frozen 4
  have r0 := HB3.out.res.cell 0
  have rf0 := HB3.out.res.frozen 0
  have r1 := HB3.out.res.cell 1
  have rf1 := HB3.out.res.frozen 1
  have r2 := HB3.out.res.cell 2
  have rf2 := HB3.out.res.frozen 2
  have r3 := HB3.out.res.cell 3
  have rf3 := HB3.out.res.frozen 3
  have r4 := HB3.out.res.cell 4
  have rf4 := HB3.out.res.frozen 4
  simp at c0 c1 c2 c3 c4 r0 r1 r2 r3 r4
  have cl := HB3.out.box.lt
  have rl := HB3.out.res.lt
  have cn := HB3.out.ne
  skip
  have HF : Hid _ := HB3.out.ret
  clear HB3
  go_wp2
  exact bodyPost_ret (v := .agg (D5 s c s' c' (.slice a' (n + 1) cap'))) (results_cell_row rfl _ _ _ 31 _ (0, 0) _ rfl (HF.out _ rfl).1 Try.underlying31 rfl size31) rfl (HF.out _ rfl).2.2

set_option maxHeartbeats 3200000 in
theorem l5Copy_c (s c s' c' : Int) (v : Value) (ls : Tri) (w : World) (h : Rt w v ls) (hn : ls.length ≤ 4194304) :
    Calls Try.prog 39 #[.agg (D5 s c s' c' v)] w (DuS w.heap.size w (.slice none 0 0) (s, c, s', c', ls)) := by
  obtain ⟨W0, hW0⟩ : ∃ W0, (w.alloc (Obj.cells (D5 s c s' c' v) 31)).alloc (Obj.cells (D5 0 0 0 0 (.slice none 0 0)) 31) = W0 := ⟨_, rfl⟩
  have z0 : W0.heap.size = w.heap.size + 2 := by rw [← hW0]; simp
  have k0 : Blk W0 w.heap.size (D5 s c s' c' v) 31 := by rw [← hW0]; exact (Blk.new _ _ _).alloc _
  have k1 : Blk W0 (w.heap.size + 1) (D5 0 0 0 0 (.slice none 0 0)) 31 := by rw [← hW0]; exact Blk.newAt _ (w.heap.size + 1) _ 31 (by simp)
  have bl : Below w.heap.size w W0 := by rw [← hW0]; exact ((Below.refl _ _).alloc (Nat.le_refl _) _).alloc (by simp) _
  have HO : Hid (Ot 66 w.heap.size (W0.alloc (Obj.cells #[] 66)) (.slice (some ⟨w.heap.size + 2, 0, none⟩) 0 0) []) := by
    have := World.ownsRow_lit (e := 66) (size := 3) (base := w.heap.size) W0 #[] 0 (by omega) (by simp) (by simp)
    rw [z0] at this; exact this
  have HB3 : Hid (Below w.heap.size w (W0.alloc (Obj.cells #[] 66))) := bl.alloc (by omega) _
  have HR : Hid (Rt (W0.alloc (Obj.cells #[] 66)) v ls) := h.below HB3.out
  have HK : Hid (Blk (W0.alloc (Obj.cells #[] 66)) w.heap.size (D5 s c s' c' v) 31 ∧ Blk (W0.alloc (Obj.cells #[] 66)) (w.heap.size + 1) (D5 0 0 0 0 (.slice none 0 0)) 31) := ⟨k0.alloc _, k1.alloc _⟩
  have HZ : Hid (W0.heap.size = w.heap.size + 2) := z0
  have HL : Hid (ls.length ≤ 4194304) := hn
  obtain ⟨a, cap, e, -⟩ := h
  obtain ⟨n, hn'⟩ : ∃ n, ls.length = n := ⟨_, rfl⟩
  rw [hn'] at e
  subst e
  have HN : Hid (ls.length = n) := hn'
  have c4 := k0.cell 4
  simp at c4
  clear hn' k0 k1 bl hn
  go_enter Try.func39, Try.ntmps39
  go_wp2_with (at_builtin; refine appTri rfl _ _ rfl w.heap.size _ [] rfl HO.out _ ls rfl HR.out (by have := HL.out; simp; omega) (by have := HZ.out; simp; omega) ?_)
  intro v' w3 ho hg hb
  have ho : Ot 66 w.heap.size w3 v' ls := by simpa using ho
  have q0 : Blk w3 w.heap.size (D5 s c s' c' (.slice a n cap)) 31 := HK.out.1.grown hg (by simp [Value.ownBlock])
  have q1 : Blk w3 (w.heap.size + 1) (D5 0 0 0 0 (.slice none 0 0)) 31 := HK.out.2.grown hg (by simp [Value.ownBlock])
  have b3 : Below w.heap.size w w3 := HB3.out.trans (grown_below hg (by have := HZ.out; simp; omega) (fun k e => by simp [Value.ownBlock] at e; omega))
  have hvb : ∀ k, v'.ownBlock = some k → w.heap.size + 2 ≤ k := fun k e => by
    have := HZ.out
    rcases hb with hb | hb
    · rw [hb] at e; simp [Value.ownBlock] at e; omega
    · rw [hb] at e; simp at e; omega
  have hB : Bx w w.heap.size (.slice none 0 0) (w3.setCell ⟨w.heap.size, 4, none⟩ v') w.heap.size (w.heap.size + 1) s c s' c' v' ls :=
    Bx.fresh (q0.set 4 v') (q1.other _ _ (by simp)) (ho.keepB (grown_set _ _ _ _) (fun e => by have := hvb _ e; omega)) (b3.setCell (Nat.le_refl _) _) (Nat.le_refl _) (by omega) (by omega) (fun e => by have := hvb _ e; omega) (fun e => by have := hvb _ e; omega)
  obtain ⟨a', cap', hv', -⟩ := own_form ho
  rw [HN.out] at hv'
  subst hv'
  have HB : Hid (Bx w w.heap.size (.slice none 0 0) (w3.setCell ⟨w.heap.size, 4, none⟩ (.slice a' n cap')) w.heap.size (w.heap.size + 1) s c s' c' (.slice a' n cap') ls) := hB
  have d4 := q0.cell 4
  have e4 := q0.frozen 4
  simp at d4
  obtain ⟨W4, hW4⟩ : ∃ W, w3.setCell ⟨w.heap.size, 4, none⟩ (.slice a' n cap') = W := ⟨_, rfl⟩
  rw [hW4] at HB
  clear hB q0 q1 b3 hvb ho hg hb HO HR HK HB3 c4 hW0 z0
  have c0 := HB.out.box.cell 0
  have cf0 := HB.out.box.frozen 0
  have c1 := HB.out.box.cell 1
  have cf1 := HB.out.box.frozen 1
  have c2 := HB.out.box.cell 2
  have cf2 := HB.out.box.frozen 2
  have c3 := HB.out.box.cell 3
  have cf3 := HB.out.box.frozen 3
  have c4 := HB.out.box.cell 4
  have cf4 := HB.out.box.frozen 4
  have r0 := HB.out.res.cell 0
  have rf0 := HB.out.res.frozen 0
  have r1 := HB.out.res.cell 1
  have rf1 := HB.out.res.frozen 1
  have r2 := HB.out.res.cell 2
  have rf2 := HB.out.res.frozen 2
  have r3 := HB.out.res.cell 3
  have rf3 := HB.out.res.frozen 3
  have r4 := HB.out.res.cell 4
  have rf4 := HB.out.res.frozen 4
  simp at c0 c1 c2 c3 c4 r0 r1 r2 r3 r4
  have cl := HB.out.box.lt
  have rl := HB.out.res.lt
  have cn := HB.out.ne
  skip
  have HF : Hid _ := HB.out.ret
  clear HB
  go_wp2
  exact bodyPost_ret (v := .agg (D5 s c s' c' (.slice a' n cap'))) (results_cell_row rfl _ _ _ 31 _ (0, 0) _ rfl (HF.out _ rfl).1 Try.underlying31 rfl size31) rfl (HF.out _ rfl).2.2
end Go.Proofs.Ytljejjfhlpjlfaa

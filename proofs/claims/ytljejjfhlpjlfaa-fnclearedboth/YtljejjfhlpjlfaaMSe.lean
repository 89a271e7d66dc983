/- The model's l5Send and l5Copy; no condition. -/
import Derived.Test.YtljejjfhlpjlfaaEvI
namespace Go.Proofs.Ytljejjfhlpjlfaa
open Go.RowKit Go.ChangeShapes Go.WideShapes Go.ChangeAt
set_option linter.unusedVariables false
set_option linter.unusedSimpArgs false
set_option maxRecDepth 8000

set_option maxHeartbeats 3200000 in
theorem l5Send_c (base : Nat) (s c s' c' : Int) (v : Value) (ls : Tri) (fr kd ca : Int) (w : World) (h : Ot 66 base w v ls) (hbs : base ≤ w.heap.size) (hl : ls.length ≤ 4194304) (hf0 : 0 ≤ fr) (hf1 : fr ≤ 1) :
    Calls Try.prog 61 #[.agg (D5 s c s' c' v), .int .i64 fr, .int .i64 kd, .int .i64 ca] w (DuS base w v (s, c, s', c', ls ++ [(1 - fr, kd, ca)])) := by
  obtain ⟨W0, hW0⟩ : ∃ W0, (w.alloc (Obj.cells (D5 s c s' c' v) 31)).alloc (Obj.cells (D5 0 0 0 0 (.slice none 0 0)) 31) = W0 := ⟨_, rfl⟩
  have HB : Hid (Bx w base v W0 w.heap.size (w.heap.size + 1) s c s' c' v ls) := Bx.start h (by rw [← hW0]; exact ((Below.refl _ _).alloc (Nat.le_refl _) _).alloc (by simp) _) (by rw [← hW0]; exact (Blk.new _ _ _).alloc _) (by rw [← hW0]; exact Blk.newAt _ (w.heap.size + 1) _ 31 (by simp)) (Nat.le_refl _) (by omega) (by omega)
  obtain ⟨a, cap, hv, -⟩ := own_form h
  obtain ⟨n, hn⟩ : ∃ n, ls.length = n := ⟨_, rfl⟩
  rw [hn] at hv
  subst hv
  have HN : Hid (ls.length = n) := hn
  clear h hn
  have c0 := HB.out.box.cell 0
  have cf0 := HB.out.box.frozen 0
  have c1 := HB.out.box.cell 1
  have cf1 := HB.out.box.frozen 1
  have c2 := HB.out.box.cell 2
  have cf2 := HB.out.box.frozen 2
  have c3 := HB.out.box.cell 3
  have cf3 := HB.out.box.frozen 3
  have c4 := HB.out.box.cell 4
  have cf4 := HB.out.box.frozen 4
  have r0 := HB.out.res.cell 0
  have rf0 := HB.out.res.frozen 0
  have r1 := HB.out.res.cell 1
  have rf1 := HB.out.res.frozen 1
  have r2 := HB.out.res.cell 2
  have rf2 := HB.out.res.frozen 2
  have r3 := HB.out.res.cell 3
  have rf3 := HB.out.res.frozen 3
  have r4 := HB.out.res.cell 4
  have rf4 := HB.out.res.frozen 4
  simp at c0 c1 c2 c3 c4 r0 r1 r2 r3 r4
  have cl := HB.out.box.lt
  have rl := HB.out.res.lt
  have cn := HB.out.ne
  skip
  have HO1 := oneSig HB.out.own (1 - fr) kd ca
  have HO : Hid (Ot 66 base (W0.alloc (Obj.cells (P3 (1 - fr) kd ca) 66)) (.slice a n cap) ls) := HO1.1
  have HR1 : Hid (Rt (W0.alloc (Obj.cells (P3 (1 - fr) kd ca) 66)) (.slice (some ⟨W0.heap.size, 0, none⟩) 1 1) [(1 - fr, kd, ca)]) := HO1.2
  have HBS : Hid (base ≤ (W0.alloc (Obj.cells (P3 (1 - fr) kd ca) 66)).heap.size) := by have := HB.out.gr.size; show base ≤ _; simp; omega
  have HL : Hid (ls.length ≤ 4194304) := hl
  clear HO1 hl hbs
  go_enter Try.func61, Try.ntmps61
  go_wp2_with (at_builtin; refine appTri rfl _ _ rfl base _ _ rfl HO.out _ _ rfl HR1.out (by have := HL.out; simp only [List.length_cons, List.length_nil]; omega) HBS.out ?_)
  intro v' w3 ho hg hb
  obtain ⟨k1, hB3⟩ := HB.out.app ho hg hb
  obtain ⟨a', cap', hv', -⟩ := own_form ho
  rw [show (ls ++ [(1 - fr, kd, ca)]).length = n + 1 by simp [HN.out]] at hv'
  subst hv'
  have HB3 : Hid (Bx w base (.slice a n cap) (w3.setCell ⟨w.heap.size, 4, none⟩ (.slice a' (n + 1) cap')) w.heap.size (w.heap.size + 1) s c s' c' (.slice a' (n + 1) cap') (ls ++ [(1 - fr, kd, ca)])) := hB3
  clear hW0 hB3 HB HO HR1 HBS ho hg hb c0 c1 c2 c3 c4 cf0 cf1 cf2 cf3 cf4 r0 r1 r2 r3 r4 rf0 rf1 rf2 rf3 rf4 cl rl cn
  have d4 := k1.cell 4
  have e4 := k1.frozen 4
  simp at d4
  obtain ⟨W4, hW4⟩ : ∃ W, w3.setCell ⟨w.heap.size, 4, none⟩ (.slice a' (n + 1) cap') = W := ⟨_, rfl⟩
  rw [hW4] at HB3
  clear k1
  have c0 := HB3.out.box.cell 0
  have cf0 := HB3.out.box.frozen 0
  have c1 := HB3.out.box.cell 1
  have cf1 := HB3.out.box.frozen 1
  have c2 := HB3.out.box.cell 2
  have cf2 := HB3.out.box.frozen 2
  have c3 := HB3.out.box.cell 3
  have cf3 := HB3.out.box.frozen 3
  have c4 := HB3.out.box.cell 4
  have cf4 := HB3.out.box.frozen 4
  have r0 := HB3.out.res.cell 0
  have rf0 := HB3.out.res.frozen 0
  have r1 := HB3.out.res.cell 1
  have rf1 := HB3.out.res.frozen 1
  have r2 := HB3.out.res.cell 2
  have rf2 := HB3.out.res.frozen 2
  have r3 := HB3.out.res.cell 3
  have rf3 := HB3.out.res.frozen 3
  have r4 := HB3.out.res.cell 4
  have rf4 := HB3.out.res.frozen 4
  simp at c0 c1 c2 c3 c4 r0 r1 r2 r3 r4
  have cl := HB3.out.box.lt
  have rl := HB3.out.res.lt
  have cn := HB3.out.ne
  skip
  have HF : Hid _ := HB3.out.ret
  clear HB3
  go_wp2
  exact bodyPost_ret (v := .agg (D5 s c s' c' (.slice a' (n + 1) cap'))) (results_cell_row rfl _ _ _ 31 _ (0, 0) _ rfl (HF.out _ rfl).1 Try.underlying31 rfl size31) rfl (HF.out _ rfl).2.2

set_option maxHeartbeats 3200000 in
theorem l5Copy_c (s c s' c' : Int) (v : Value) (ls : Tri) (w : World) (h : Rt w v ls) (hn : ls.length ≤ 4194304) :
    Calls Try.prog 39 #[.agg (D5 s c s' c' v)] w (DuS w.heap.size w (.slice none 0 0) (s, c, s', c', ls)) := by
  obtain ⟨W0, hW0⟩ : ∃ W0, (w.alloc (Obj.cells (D5 s c s' c' v) 31)).alloc (Obj.cells (D5 0 0 0 0 (.slice none 0 0)) 31) = W0 := ⟨_, rfl⟩
  have z0 : W0.heap.size = w.heap.size + 2 := by rw [← hW0]; simp
  have k0 : Blk W0 w.heap.size (D5 s c s' c' v) 31 := by rw [← hW0]; exact (Blk.new _ _ _).alloc _
  have k1 : Blk W0 (w.heap.size + 1) (D5 0 0 0 0 (.slice none 0 0)) 31 := by rw [← hW0]; exact Blk.newAt _ (w.heap.size + 1) _ 31 (by simp)
  have bl : Below w.heap.size w W0 := by rw [← hW0]; exact ((Below.refl _ _).alloc (Nat.le_refl _) _).alloc (by simp) _
  have HO : Hid (Ot 66 w.heap.size (W0.alloc (Obj.cells #[] 66)) (.slice (some ⟨w.heap.size + 2, 0, none⟩) 0 0) []) := by
    have := World.ownsRow_lit (e := 66) (size := 3) (base := w.heap.size) W0 #[] 0 (by omega) (by simp) (by simp)
    rw [z0] at this; exact this
  have HB3 : Hid (Below w.heap.size w (W0.alloc (Obj.cells #[] 66))) := bl.alloc (by omega) _
  have HR : Hid (Rt (W0.alloc (Obj.cells #[] 66)) v ls) := h.below HB3.out
  have HK : Hid (Blk (W0.alloc (Obj.cells #[] 66)) w.heap.size (D5 s c s' c' v) 31 ∧ Blk (W0.alloc (Obj.cells #[] 66)) (w.heap.size + 1) (D5 0 0 0 0 (.slice none 0 0)) 31) := ⟨k0.alloc _, k1.alloc _⟩
  have HZ : Hid (W0.heap.size = w.heap.size + 2) := z0
  have HL : Hid (ls.length ≤ 4194304) := hn
  obtain ⟨a, cap, e, -⟩ := h
  obtain ⟨n, hn'⟩ : ∃ n, ls.length = n := ⟨_, rfl⟩
  rw [hn'] at e
  subst e
  have HN : Hid (ls.length = n) := hn'
  have c4 := k0.cell 4
  simp at c4
  clear hn' k0 k1 bl hn
  go_enter Try.func39, Try.ntmps39
  go_wp2_with (at_builtin; refine appTri rfl _ _ rfl w.heap.size _ [] rfl HO.out _ ls rfl HR.out (by have := HL.out; simp; omega) (by have := HZ.out; simp; omega) ?_)
  intro v' w3 ho hg hb
  have ho : Ot 66 w.heap.size w3 v' ls := by simpa using ho
  have q0 : Blk w3 w.heap.size (D5 s c s' c' (.slice a n cap)) 31 := HK.out.1.grown hg (by simp [Value.ownBlock])
  have q1 : Blk w3 (w.heap.size + 1) (D5 0 0 0 0 (.slice none 0 0)) 31 := HK.out.2.grown hg (by simp [Value.ownBlock])
  have b3 : Below w.heap.size w w3 := HB3.out.trans (grown_below hg (by have := HZ.out; simp; omega) (fun k e => by simp [Value.ownBlock] at e; omega))
  have hvb : ∀ k, v'.ownBlock = some k → w.heap.size + 2 ≤ k := fun k e => by
    have := HZ.out
    rcases hb with hb | hb
    · rw [hb] at e; simp [Value.ownBlock] at e; omega
    · rw [hb] at e; simp at e; omega
  have hB : Bx w w.heap.size (.slice none 0 0) (w3.setCell ⟨w.heap.size, 4, none⟩ v') w.heap.size (w.heap.size + 1) s c s' c' v' ls :=
    Bx.fresh (q0.set 4 v') (q1.other _ _ (by simp)) (ho.keepB (grown_set _ _ _ _) (fun e => by have := hvb _ e; omega)) (b3.setCell (Nat.le_refl _) _) (Nat.le_refl _) (by omega) (by omega) (fun e => by have := hvb _ e; omega) (fun e => by have := hvb _ e; omega)
  obtain ⟨a', cap', hv', -⟩ := own_form ho
  rw [HN.out] at hv'
  subst hv'
  have HB : Hid (Bx w w.heap.size (.slice none 0 0) (w3.setCell ⟨w.heap.size, 4, none⟩ (.slice a' n cap')) w.heap.size (w.heap.size + 1) s c s' c' (.slice a' n cap') ls) := hB
  have d4 := q0.cell 4
  have e4 := q0.frozen 4
  simp at d4
  obtain ⟨W4, hW4⟩ : ∃ W, w3.setCell ⟨w.heap.size, 4, none⟩ (.slice a' n cap') = W := ⟨_, rfl⟩
  rw [hW4] at HB
  clear hB q0 q1 b3 hvb ho hg hb HO HR HK HB3 c4 hW0 z0
  have c0 := HB.out.box.cell 0
  have cf0 := HB.out.box.frozen 0
  have c1 := HB.out.box.cell 1
  have cf1 := HB.out.box.frozen 1
  have c2 := HB.out.box.cell 2
  have cf2 := HB.out.box.frozen 2
  have c3 := HB.out.box.cell 3
  have cf3 := HB.out.box.frozen 3
  have c4 := HB.out.box.cell 4
  have cf4 := HB.out.box.frozen 4
  have r0 := HB.out.res.cell 0
  have rf0 := HB.out.res.frozen 0
  have r1 := HB.out.res.cell 1
  have rf1 := HB.out.res.frozen 1
  have r2 := HB.out.res.cell 2
  have rf2 := HB.out.res.frozen 2
  have r3 := HB.out.res.cell 3
  have rf3 := HB.out.res.frozen 3
  have r4 := HB.out.res.cell 4
  have rf4 := HB.out.res.frozen 4
  simp at c0 c1 c2 c3 c4 r0 r1 r2 r3 r4
  have cl := HB.out.box.lt
  have rl := HB.out.res.lt
  have cn := HB.out.ne
  skip
  have HF : Hid _ := HB.out.ret
  clear HB
  go_wp2
  exact bodyPost_ret (v := .agg (D5 s c s' c' (.slice a' n cap'))) (results_cell_row rfl _ _ _ 31 _ (0, 0) _ rfl (HF.out _ rfl).1 Try.underlying31 rfl size31) rfl (HF.out _ rfl).2.2
end Go.Proofs.Ytljejjfhlpjlfaa
namespace Go.Proofs.Ytljejjfhlpjlfaa
open Go.RowKit Go.ChangeShapes Go.WideShapes Go.ChangeAt
set_option linter.unusedVariables false
set_option linter.unusedSimpArgs false
set_option maxRecDepth 8000

/-- SigSeize at half 1, as the model has it -/
def seizM (d : Dt) (p r : Int) : Dt :=
  if p = 0 then d else if d.2.2.2.1 < r then (d.1, d.2.1, 2, r, d.2.2.2.2) else if r < d.2.2.2.1 then d
  else if d.2.2.1 = 3 then (d.1, d.2.1, d.2.2.1, d.2.2.2.1, d.2.2.2.2 ++ [(1 - 1, 2, d.2.2.2.1)])
  else if d.2.2.1 = 4 then (d.1, d.2.1, d.2.2.1, d.2.2.2.1, d.2.2.2.2 ++ [(1 - 1, 3, d.2.2.2.1)]) else d
def timM (d : Dt) (i : Int) : Dt :=
  if i = 0 then (if d.1 = 1 then (d.1, d.2.1, d.2.2.1, d.2.2.2.1, d.2.2.2.2 ++ [(1 - 0, 1, d.2.1)]) else if d.1 = 4 then (d.1, d.2.1, d.2.2.1, d.2.2.2.1, d.2.2.2.2 ++ [(1 - 0, 3, d.2.1)]) else d)
  else (if d.2.2.1 = 1 then (d.1, d.2.1, d.2.2.1, d.2.2.2.1, d.2.2.2.2 ++ [(1 - 1, 1, d.2.2.2.1)]) else if d.2.2.1 = 4 then (d.1, d.2.1, d.2.2.1, d.2.2.2.1, d.2.2.2.2 ++ [(1 - 1, 3, d.2.2.2.1)]) else d)
def clrM (d : Dt) (i : Int) : Dt × Bool :=
  if i = 0 then (if d.1 = 0 ∨ d.1 = 4 then (d, false) else ((4, d.2.1, d.2.2.1, d.2.2.2.1, d.2.2.2.2 ++ [(1 - 0, 3, d.2.1)]), true))
  else (if d.2.2.1 = 0 ∨ d.2.2.1 = 4 then (d, false) else ((d.1, d.2.1, 4, d.2.2.2.1, d.2.2.2.2 ++ [(1 - 1, 3, d.2.2.2.1)]), true))


set_option maxHeartbeats 6400000 in
theorem seiz_c (base : Nat) (s c s' c' : Int) (v : Value) (ls : Tri) (p q r : Int) (w : World) (h : Ot 66 base w v ls) (hbs : base ≤ w.heap.size) (hl : ls.length ≤ 1048576) (hp0 : 0 ≤ p) (hp1 : p ≤ 1) :
    Calls Try.prog 72 #[.agg (D5 s c s' c' v), .agg (P3 p q r)] w (DuS base w v (seizM (s, c, s', c', ls) p r)) := by
  obtain ⟨W0, hW0⟩ : ∃ W0, (((w.alloc (Obj.cells (D5 s c s' c' v) 31)).alloc (Obj.cells (P3 p q r) 66)).alloc (Obj.cells (D5 0 0 0 0 (.slice none 0 0)) 31)) = W0 := ⟨_, rfl⟩
  have HB : Hid (Bx w base v W0 w.heap.size (w.heap.size + 1 + 1) s c s' c' v ls) := Bx.start h (by rw [← hW0]; exact (((Below.refl _ _).alloc (Nat.le_refl _) _).alloc (by simp) _).alloc (by simp; omega) _) (by rw [← hW0]; exact ((Blk.new _ _ _).alloc _).alloc _) (by rw [← hW0]; exact Blk.newAt _ (w.heap.size + 1 + 1) _ 31 (by simp)) (Nat.le_refl _) (by omega) (by omega)
  have HZ0 : Hid (W0.heap.size = w.heap.size + 1 + 1 + 1) := by rw [← hW0]; simp [Hid]
  have HX : Hid (Blk W0 (w.heap.size + 1) (P3 p q r) 66) := by rw [← hW0]; exact (Blk.newAt _ (w.heap.size + 1) _ 66 (by simp)).alloc _
  obtain ⟨a, cap, hv, -⟩ := own_form h
  obtain ⟨n, hn⟩ : ∃ n, ls.length = n := ⟨_, rfl⟩
  rw [hn] at hv
  subst hv
  have HN : Hid (ls.length = n) := hn
  have HL : Hid (ls.length ≤ 4194304) := by show ls.length ≤ _; omega
  have HBS : Hid (base ≤ w.heap.size) := hbs
  clear h hn hl hbs
  have c0 := HB.out.box.cell 0
  have cf0 := HB.out.box.frozen 0
  have c1 := HB.out.box.cell 1
  have cf1 := HB.out.box.frozen 1
  have c2 := HB.out.box.cell 2
  have cf2 := HB.out.box.frozen 2
  have c3 := HB.out.box.cell 3
  have cf3 := HB.out.box.frozen 3
  have c4 := HB.out.box.cell 4
  have cf4 := HB.out.box.frozen 4
  have r0 := HB.out.res.cell 0
  have rf0 := HB.out.res.frozen 0
  have r1 := HB.out.res.cell 1
  have rf1 := HB.out.res.frozen 1
  have r2 := HB.out.res.cell 2
  have rf2 := HB.out.res.frozen 2
  have r3 := HB.out.res.cell 3
  have rf3 := HB.out.res.frozen 3
  have r4 := HB.out.res.cell 4
  have rf4 := HB.out.res.frozen 4
  simp at c0 c1 c2 c3 c4 r0 r1 r2 r3 r4
  have cl := HB.out.box.lt
  have rl := HB.out.res.lt
  have cn := HB.out.ne
  skip
  obtain ⟨W1, hW1⟩ : ∃ W, W0.alloc (Obj.cells (H2 s' c') 27) = W := ⟨_, rfl⟩
  have B1 : Hid (Bx w base (.slice a n cap) W1 w.heap.size (w.heap.size + 1 + 1) s c s' c' (.slice a n cap) ls) := hW1 ▸ HB.out.alloc _
  have HH : Hid (Blk W1 (w.heap.size + 1 + 1 + 1) (H2 s' c') 27) := by rw [← hW1, ← HZ0.out]; exact Blk.new _ _ _
  have zz : W0.heap.size = w.heap.size + 1 + 1 + 1 := HZ0.out
  have HBW : Hid (base ≤ W1.heap.size) := by have := B1.out.gr.size; have := HBS.out; show base ≤ _; omega
  have HX1 : Hid (Blk W1 (w.heap.size + 1) (P3 p q r) 66) := hW1 ▸ HX.out.alloc _
  have y0 := HX1.out.cell 0
  have y1 := HX1.out.cell 1
  have y2 := HX1.out.cell 2
  simp at y0 y1 y2
  have u0 := HH.out.cell 0
  have u1 := HH.out.cell 1
  simp at u0 u1
  have e0 := B1.out.box.cell 0
  have ef0 := B1.out.box.frozen 0
  have e1 := B1.out.box.cell 1
  have ef1 := B1.out.box.frozen 1
  have e2 := B1.out.box.cell 2
  have ef2 := B1.out.box.frozen 2
  have e3 := B1.out.box.cell 3
  have ef3 := B1.out.box.frozen 3
  have e4 := B1.out.box.cell 4
  have ef4 := B1.out.box.frozen 4
  have f0 := B1.out.res.cell 0
  have ff0 := B1.out.res.frozen 0
  have f1 := B1.out.res.cell 1
  have ff1 := B1.out.res.frozen 1
  have f2 := B1.out.res.cell 2
  have ff2 := B1.out.res.frozen 2
  have f3 := B1.out.res.cell 3
  have ff3 := B1.out.res.frozen 3
  have f4 := B1.out.res.cell 4
  have ff4 := B1.out.res.frozen 4
  simp at e0 e1 e2 e3 e4 f0 f1 f2 f3 f4
  have el := B1.out.box.lt
  have fl := B1.out.res.lt
  have en := B1.out.ne
  skip
  clear HB
  have HB61 : Hid (base ≤ W1.heap.size) := HBW.out
  by_cases p0 : p = 0
  case pos =>
    subst p0
    have HP : Hid (seizM (s, c, s', c', ls) 0 r = (s, c, s', c', ls)) := by show seizM (s, c, s', c', ls) 0 r = _; simp [seizM]
    have HF : Hid _ := B1.out.ret
    clear B1
    go_enter Try.func72, Try.ntmps72
    go_wp2
    rw [HP.out]
    exact bodyPost_ret (v := .agg (D5 s c s' c' (.slice a n cap))) (results_cell_row rfl _ _ _ 31 _ (0, 0) _ rfl (HF.out _ rfl).1 Try.underlying31 rfl size31) rfl (HF.out _ rfl).2.2
  obtain rfl : p = 1 := by omega
  by_cases z1 : c' < r
  case pos =>
    have HP : Hid (seizM (s, c, s', c', ls) 1 r = (s, c, 2, r, ls)) := by show seizM (s, c, s', c', ls) 1 r = _; simp [seizM, z1]
    have B2 : Hid (Bx w base (.slice a n cap) ((W1.setCell ⟨w.heap.size, 2, none⟩ (.int .i64 2)).setCell ⟨w.heap.size, 3, none⟩ (.int .i64 r)) w.heap.size (w.heap.size + 1 + 1) s c 2 r (.slice a n cap) ls) := (B1.out.set2 2).set3 r
    go_enter Try.func72, Try.ntmps72
    obtain ⟨W2, hW2⟩ : ∃ W, (W1.setCell ⟨w.heap.size, 2, none⟩ (.int .i64 2)).setCell ⟨w.heap.size, 3, none⟩ (.int .i64 r) = W := ⟨_, rfl⟩
    rw [hW2] at B2
    have g0 := B2.out.box.cell 0
    have gf0 := B2.out.box.frozen 0
    have g1 := B2.out.box.cell 1
    have gf1 := B2.out.box.frozen 1
    have g2 := B2.out.box.cell 2
    have gf2 := B2.out.box.frozen 2
    have g3 := B2.out.box.cell 3
    have gf3 := B2.out.box.frozen 3
    have g4 := B2.out.box.cell 4
    have gf4 := B2.out.box.frozen 4
    have j0 := B2.out.res.cell 0
    have jf0 := B2.out.res.frozen 0
    have j1 := B2.out.res.cell 1
    have jf1 := B2.out.res.frozen 1
    have j2 := B2.out.res.cell 2
    have jf2 := B2.out.res.frozen 2
    have j3 := B2.out.res.cell 3
    have jf3 := B2.out.res.frozen 3
    have j4 := B2.out.res.cell 4
    have jf4 := B2.out.res.frozen 4
    simp at g0 g1 g2 g3 g4 j0 j1 j2 j3 j4
    have gl := B2.out.box.lt
    have jl := B2.out.res.lt
    have gn := B2.out.ne
    skip
    have HF : Hid _ := B2.out.ret
    clear B1 B2
    go_wp2
    rw [HP.out]
    exact bodyPost_ret (v := .agg (D5 s c 2 r (.slice a n cap))) (results_cell_row rfl _ _ _ 31 _ (0, 0) _ rfl (HF.out _ rfl).1 Try.underlying31 rfl size31) rfl (HF.out _ rfl).2.2
  have z1F : (c' < r) = False := eq_false z1
  by_cases z2 : r < c'
  case pos =>
    have HP : Hid (seizM (s, c, s', c', ls) 1 r = (s, c, s', c', ls)) := by show seizM (s, c, s', c', ls) 1 r = _; simp [seizM, z1, z2]
    have HF : Hid _ := B1.out.ret
    clear B1
    go_enter Try.func72, Try.ntmps72
    go_wp2
    rw [HP.out]
    exact bodyPost_ret (v := .agg (D5 s c s' c' (.slice a n cap))) (results_cell_row rfl _ _ _ 31 _ (0, 0) _ rfl (HF.out _ rfl).1 Try.underlying31 rfl size31) rfl (HF.out _ rfl).2.2
  have z2F : (r < c') = False := eq_false z2
  by_cases s3 : s' = 3
  case pos =>
    subst s3
    have HP : Hid (seizM (s, c, 3, c', ls) 1 r = (s, c, 3, c', ls ++ [(1 - 1, 2, c')])) := by show seizM (s, c, 3, c', ls) 1 r = _; simp [seizM, z1, z2]
    have HC : Hid (Calls Try.prog 61 #[.agg (D5 s c 3 c' (.slice a n cap)), .int .i64 1, .int .i64 2, .int .i64 c'] W1 (DuS base W1 (.slice a n cap) (s, c, 3, c', ls ++ [(1 - 1, 2, c')]))) := l5Send_c base s c 3 c' (.slice a n cap) ls 1 2 c' W1 B1.out.own HB61.out HL.out (by decide) (by decide)
    go_enter Try.func72, Try.ntmps72
    go_wp2_with (fail)
    refine HC.out.mono ?_
    rintro e Wd ⟨v', rfl, ho, hg, hx⟩
    obtain ⟨k2, HF'⟩ := B1.out.hand ho hg hx s c 3 c'
    have HF : Hid _ := HF'
    obtain ⟨a', cap', hv', -⟩ := own_form ho
    rw [show (ls ++ [(1 - 1, 2, c')] : Tri).length = n + 1 by simp [HN.out]] at hv'
    subst hv'
    have m0 := k2.cell 0
    have mf0 := k2.frozen 0
    have m1 := k2.cell 1
    have mf1 := k2.frozen 1
    have m2 := k2.cell 2
    have mf2 := k2.frozen 2
    have m3 := k2.cell 3
    have mf3 := k2.frozen 3
    have m4 := k2.cell 4
    have mf4 := k2.frozen 4
    simp at m0 m1 m2 m3 m4
    clear k2 ho hg hx B1 HF' HC
    go_wp2
    rw [HP.out]
    exact bodyPost_ret (v := .agg (D5 s c 3 c' (.slice a' (n + 1) cap'))) (results_cell_row rfl _ _ _ 31 _ (0, 0) _ rfl (HF.out _ rfl).1 Try.underlying31 rfl size31) rfl (HF.out _ rfl).2.2
  have s3F : (s' = 3) = False := eq_false s3
  have s3b : (s' == 3) = false := by simpa using s3
  by_cases s4 : s' = 4
  case pos =>
    subst s4
    have HP : Hid (seizM (s, c, 4, c', ls) 1 r = (s, c, 4, c', ls ++ [(1 - 1, 3, c')])) := by show seizM (s, c, 4, c', ls) 1 r = _; simp [seizM, z1, z2]
    have HC : Hid (Calls Try.prog 61 #[.agg (D5 s c 4 c' (.slice a n cap)), .int .i64 1, .int .i64 3, .int .i64 c'] W1 (DuS base W1 (.slice a n cap) (s, c, 4, c', ls ++ [(1 - 1, 3, c')]))) := l5Send_c base s c 4 c' (.slice a n cap) ls 1 3 c' W1 B1.out.own HB61.out HL.out (by decide) (by decide)
    go_enter Try.func72, Try.ntmps72
    go_wp2_with (fail)
    refine HC.out.mono ?_
    rintro e Wd ⟨v', rfl, ho, hg, hx⟩
    obtain ⟨k2, HF'⟩ := B1.out.hand ho hg hx s c 4 c'
    have HF : Hid _ := HF'
    obtain ⟨a', cap', hv', -⟩ := own_form ho
    rw [show (ls ++ [(1 - 1, 3, c')] : Tri).length = n + 1 by simp [HN.out]] at hv'
    subst hv'
    have m0 := k2.cell 0
    have mf0 := k2.frozen 0
    have m1 := k2.cell 1
    have mf1 := k2.frozen 1
    have m2 := k2.cell 2
    have mf2 := k2.frozen 2
    have m3 := k2.cell 3
    have mf3 := k2.frozen 3
    have m4 := k2.cell 4
    have mf4 := k2.frozen 4
    simp at m0 m1 m2 m3 m4
    clear k2 ho hg hx B1 HF' HC
    go_wp2
    rw [HP.out]
    exact bodyPost_ret (v := .agg (D5 s c 4 c' (.slice a' (n + 1) cap'))) (results_cell_row rfl _ _ _ 31 _ (0, 0) _ rfl (HF.out _ rfl).1 Try.underlying31 rfl size31) rfl (HF.out _ rfl).2.2
  have s4F : (s' = 4) = False := eq_false s4
  have s4b : (s' == 4) = false := by simpa using s4
  have HP : Hid (seizM (s, c, s', c', ls) 1 r = (s, c, s', c', ls)) := by show seizM (s, c, s', c', ls) 1 r = _; simp [seizM, z1, z2, s3, s4]
  have HF : Hid _ := B1.out.ret
  clear B1
  go_enter Try.func72, Try.ntmps72
  go_wp2
  rw [HP.out]
  exact bodyPost_ret (v := .agg (D5 s c s' c' (.slice a n cap))) (results_cell_row rfl _ _ _ 31 _ (0, 0) _ rfl (HF.out _ rfl).1 Try.underlying31 rfl size31) rfl (HF.out _ rfl).2.2

set_option maxHeartbeats 6400000 in
theorem tim0_c (base : Nat) (s c s' c' : Int) (v : Value) (ls : Tri)  (w : World) (h : Ot 66 base w v ls) (hbs : base ≤ w.heap.size) (hl : ls.length ≤ 1048576)  :
    Calls Try.prog 55 #[.agg (D5 s c s' c' v), .int .i64 0] w (DuS base w v (timM (s, c, s', c', ls) 0)) := by
  obtain ⟨W0, hW0⟩ : ∃ W0, ((w.alloc (Obj.cells (D5 s c s' c' v) 31)).alloc (Obj.cells (D5 0 0 0 0 (.slice none 0 0)) 31)) = W0 := ⟨_, rfl⟩
  have HB : Hid (Bx w base v W0 w.heap.size (w.heap.size + 1) s c s' c' v ls) := Bx.start h (by rw [← hW0]; exact ((Below.refl _ _).alloc (Nat.le_refl _) _).alloc (by simp) _) (by rw [← hW0]; exact (Blk.new _ _ _).alloc _) (by rw [← hW0]; exact Blk.newAt _ (w.heap.size + 1) _ 31 (by simp)) (Nat.le_refl _) (by omega) (by omega)
  have HZ0 : Hid (W0.heap.size = w.heap.size + 1 + 1) := by rw [← hW0]; simp [Hid]
  obtain ⟨a, cap, hv, -⟩ := own_form h
  obtain ⟨n, hn⟩ : ∃ n, ls.length = n := ⟨_, rfl⟩
  rw [hn] at hv
  subst hv
  have HN : Hid (ls.length = n) := hn
  have HL : Hid (ls.length ≤ 4194304) := by show ls.length ≤ _; omega
  have HBS : Hid (base ≤ w.heap.size) := hbs
  clear h hn hl hbs
  have c0 := HB.out.box.cell 0
  have cf0 := HB.out.box.frozen 0
  have c1 := HB.out.box.cell 1
  have cf1 := HB.out.box.frozen 1
  have c2 := HB.out.box.cell 2
  have cf2 := HB.out.box.frozen 2
  have c3 := HB.out.box.cell 3
  have cf3 := HB.out.box.frozen 3
  have c4 := HB.out.box.cell 4
  have cf4 := HB.out.box.frozen 4
  have r0 := HB.out.res.cell 0
  have rf0 := HB.out.res.frozen 0
  have r1 := HB.out.res.cell 1
  have rf1 := HB.out.res.frozen 1
  have r2 := HB.out.res.cell 2
  have rf2 := HB.out.res.frozen 2
  have r3 := HB.out.res.cell 3
  have rf3 := HB.out.res.frozen 3
  have r4 := HB.out.res.cell 4
  have rf4 := HB.out.res.frozen 4
  simp at c0 c1 c2 c3 c4 r0 r1 r2 r3 r4
  have cl := HB.out.box.lt
  have rl := HB.out.res.lt
  have cn := HB.out.ne
  skip
  obtain ⟨W1, hW1⟩ : ∃ W, W0.alloc (Obj.cells (H2 s c) 27) = W := ⟨_, rfl⟩
  have B1 : Hid (Bx w base (.slice a n cap) W1 w.heap.size (w.heap.size + 1) s c s' c' (.slice a n cap) ls) := hW1 ▸ HB.out.alloc _
  have HH : Hid (Blk W1 (w.heap.size + 1 + 1) (H2 s c) 27) := by rw [← hW1, ← HZ0.out]; exact Blk.new _ _ _
  have zz : W0.heap.size = w.heap.size + 1 + 1 := HZ0.out
  have HBW : Hid (base ≤ W1.heap.size) := by have := B1.out.gr.size; have := HBS.out; show base ≤ _; omega
  have u0 := HH.out.cell 0
  have u1 := HH.out.cell 1
  simp at u0 u1
  have e0 := B1.out.box.cell 0
  have ef0 := B1.out.box.frozen 0
  have e1 := B1.out.box.cell 1
  have ef1 := B1.out.box.frozen 1
  have e2 := B1.out.box.cell 2
  have ef2 := B1.out.box.frozen 2
  have e3 := B1.out.box.cell 3
  have ef3 := B1.out.box.frozen 3
  have e4 := B1.out.box.cell 4
  have ef4 := B1.out.box.frozen 4
  have f0 := B1.out.res.cell 0
  have ff0 := B1.out.res.frozen 0
  have f1 := B1.out.res.cell 1
  have ff1 := B1.out.res.frozen 1
  have f2 := B1.out.res.cell 2
  have ff2 := B1.out.res.frozen 2
  have f3 := B1.out.res.cell 3
  have ff3 := B1.out.res.frozen 3
  have f4 := B1.out.res.cell 4
  have ff4 := B1.out.res.frozen 4
  simp at e0 e1 e2 e3 e4 f0 f1 f2 f3 f4
  have el := B1.out.box.lt
  have fl := B1.out.res.lt
  have en := B1.out.ne
  skip
  clear HB
  have HB61 : Hid (base ≤ W1.heap.size) := HBW.out
  by_cases s1 : s = 1
  case pos =>
    subst s1
    have HP : Hid (timM (1, c, s', c', ls) 0 = (1, c, s', c', ls ++ [(1 - 0, 1, c)])) := by show timM (1, c, s', c', ls) 0 = _; simp [timM]
    have HC : Hid (Calls Try.prog 61 #[.agg (D5 1 c s' c' (.slice a n cap)), .int .i64 0, .int .i64 1, .int .i64 c] W1 (DuS base W1 (.slice a n cap) (1, c, s', c', ls ++ [(1 - 0, 1, c)]))) := l5Send_c base 1 c s' c' (.slice a n cap) ls 0 1 c W1 B1.out.own HB61.out HL.out (by decide) (by decide)
    go_enter Try.func55, Try.ntmps55
    go_wp2_with (fail)
    refine HC.out.mono ?_
    rintro e Wd ⟨v', rfl, ho, hg, hx⟩
    obtain ⟨k2, HF'⟩ := B1.out.hand ho hg hx 1 c s' c'
    have HF : Hid _ := HF'
    obtain ⟨a', cap', hv', -⟩ := own_form ho
    rw [show (ls ++ [(1 - 0, 1, c)] : Tri).length = n + 1 by simp [HN.out]] at hv'
    subst hv'
    have m0 := k2.cell 0
    have mf0 := k2.frozen 0
    have m1 := k2.cell 1
    have mf1 := k2.frozen 1
    have m2 := k2.cell 2
    have mf2 := k2.frozen 2
    have m3 := k2.cell 3
    have mf3 := k2.frozen 3
    have m4 := k2.cell 4
    have mf4 := k2.frozen 4
    simp at m0 m1 m2 m3 m4
    clear k2 ho hg hx B1 HF' HC
    go_wp2
    rw [HP.out]
    exact bodyPost_ret (v := .agg (D5 1 c s' c' (.slice a' (n + 1) cap'))) (results_cell_row rfl _ _ _ 31 _ (0, 0) _ rfl (HF.out _ rfl).1 Try.underlying31 rfl size31) rfl (HF.out _ rfl).2.2
  have s1F : (s = 1) = False := eq_false s1
  have s1b : (s == 1) = false := by simpa using s1
  by_cases s4 : s = 4
  case pos =>
    subst s4
    have HP : Hid (timM (4, c, s', c', ls) 0 = (4, c, s', c', ls ++ [(1 - 0, 3, c)])) := by show timM (4, c, s', c', ls) 0 = _; simp [timM]
    have HC : Hid (Calls Try.prog 61 #[.agg (D5 4 c s' c' (.slice a n cap)), .int .i64 0, .int .i64 3, .int .i64 c] W1 (DuS base W1 (.slice a n cap) (4, c, s', c', ls ++ [(1 - 0, 3, c)]))) := l5Send_c base 4 c s' c' (.slice a n cap) ls 0 3 c W1 B1.out.own HB61.out HL.out (by decide) (by decide)
    go_enter Try.func55, Try.ntmps55
    go_wp2_with (fail)
    refine HC.out.mono ?_
    rintro e Wd ⟨v', rfl, ho, hg, hx⟩
    obtain ⟨k2, HF'⟩ := B1.out.hand ho hg hx 4 c s' c'
    have HF : Hid _ := HF'
    obtain ⟨a', cap', hv', -⟩ := own_form ho
    rw [show (ls ++ [(1 - 0, 3, c)] : Tri).length = n + 1 by simp [HN.out]] at hv'
    subst hv'
    have m0 := k2.cell 0
    have mf0 := k2.frozen 0
    have m1 := k2.cell 1
    have mf1 := k2.frozen 1
    have m2 := k2.cell 2
    have mf2 := k2.frozen 2
    have m3 := k2.cell 3
    have mf3 := k2.frozen 3
    have m4 := k2.cell 4
    have mf4 := k2.frozen 4
    simp at m0 m1 m2 m3 m4
    clear k2 ho hg hx B1 HF' HC
    go_wp2
    rw [HP.out]
    exact bodyPost_ret (v := .agg (D5 4 c s' c' (.slice a' (n + 1) cap'))) (results_cell_row rfl _ _ _ 31 _ (0, 0) _ rfl (HF.out _ rfl).1 Try.underlying31 rfl size31) rfl (HF.out _ rfl).2.2
  have s4F : (s = 4) = False := eq_false s4
  have s4b : (s == 4) = false := by simpa using s4
  have HP : Hid (timM (s, c, s', c', ls) 0 = (s, c, s', c', ls)) := by show timM (s, c, s', c', ls) 0 = _; simp [timM, s1, s4]
  have HF : Hid _ := B1.out.ret
  clear B1
  go_enter Try.func55, Try.ntmps55
  go_wp2
  rw [HP.out]
  exact bodyPost_ret (v := .agg (D5 s c s' c' (.slice a n cap))) (results_cell_row rfl _ _ _ 31 _ (0, 0) _ rfl (HF.out _ rfl).1 Try.underlying31 rfl size31) rfl (HF.out _ rfl).2.2

set_option maxHeartbeats 6400000 in
theorem tim1_c (base : Nat) (s c s' c' : Int) (v : Value) (ls : Tri)  (w : World) (h : Ot 66 base w v ls) (hbs : base ≤ w.heap.size) (hl : ls.length ≤ 1048576)  :
    Calls Try.prog 55 #[.agg (D5 s c s' c' v), .int .i64 1] w (DuS base w v (timM (s, c, s', c', ls) 1)) := by
  obtain ⟨W0, hW0⟩ : ∃ W0, ((w.alloc (Obj.cells (D5 s c s' c' v) 31)).alloc (Obj.cells (D5 0 0 0 0 (.slice none 0 0)) 31)) = W0 := ⟨_, rfl⟩
  have HB : Hid (Bx w base v W0 w.heap.size (w.heap.size + 1) s c s' c' v ls) := Bx.start h (by rw [← hW0]; exact ((Below.refl _ _).alloc (Nat.le_refl _) _).alloc (by simp) _) (by rw [← hW0]; exact (Blk.new _ _ _).alloc _) (by rw [← hW0]; exact Blk.newAt _ (w.heap.size + 1) _ 31 (by simp)) (Nat.le_refl _) (by omega) (by omega)
  have HZ0 : Hid (W0.heap.size = w.heap.size + 1 + 1) := by rw [← hW0]; simp [Hid]
  obtain ⟨a, cap, hv, -⟩ := own_form h
  obtain ⟨n, hn⟩ : ∃ n, ls.length = n := ⟨_, rfl⟩
  rw [hn] at hv
  subst hv
  have HN : Hid (ls.length = n) := hn
  have HL : Hid (ls.length ≤ 4194304) := by show ls.length ≤ _; omega
  have HBS : Hid (base ≤ w.heap.size) := hbs
  clear h hn hl hbs
  have c0 := HB.out.box.cell 0
  have cf0 := HB.out.box.frozen 0
  have c1 := HB.out.box.cell 1
  have cf1 := HB.out.box.frozen 1
  have c2 := HB.out.box.cell 2
  have cf2 := HB.out.box.frozen 2
  have c3 := HB.out.box.cell 3
  have cf3 := HB.out.box.frozen 3
  have c4 := HB.out.box.cell 4
  have cf4 := HB.out.box.frozen 4
  have r0 := HB.out.res.cell 0
  have rf0 := HB.out.res.frozen 0
  have r1 := HB.out.res.cell 1
  have rf1 := HB.out.res.frozen 1
  have r2 := HB.out.res.cell 2
  have rf2 := HB.out.res.frozen 2
  have r3 := HB.out.res.cell 3
  have rf3 := HB.out.res.frozen 3
  have r4 := HB.out.res.cell 4
  have rf4 := HB.out.res.frozen 4
  simp at c0 c1 c2 c3 c4 r0 r1 r2 r3 r4
  have cl := HB.out.box.lt
  have rl := HB.out.res.lt
  have cn := HB.out.ne
  skip
  obtain ⟨W1, hW1⟩ : ∃ W, W0.alloc (Obj.cells (H2 s' c') 27) = W := ⟨_, rfl⟩
  have B1 : Hid (Bx w base (.slice a n cap) W1 w.heap.size (w.heap.size + 1) s c s' c' (.slice a n cap) ls) := hW1 ▸ HB.out.alloc _
  have HH : Hid (Blk W1 (w.heap.size + 1 + 1) (H2 s' c') 27) := by rw [← hW1, ← HZ0.out]; exact Blk.new _ _ _
  have zz : W0.heap.size = w.heap.size + 1 + 1 := HZ0.out
  have HBW : Hid (base ≤ W1.heap.size) := by have := B1.out.gr.size; have := HBS.out; show base ≤ _; omega
  have u0 := HH.out.cell 0
  have u1 := HH.out.cell 1
  simp at u0 u1
  have e0 := B1.out.box.cell 0
  have ef0 := B1.out.box.frozen 0
  have e1 := B1.out.box.cell 1
  have ef1 := B1.out.box.frozen 1
  have e2 := B1.out.box.cell 2
  have ef2 := B1.out.box.frozen 2
  have e3 := B1.out.box.cell 3
  have ef3 := B1.out.box.frozen 3
  have e4 := B1.out.box.cell 4
  have ef4 := B1.out.box.frozen 4
  have f0 := B1.out.res.cell 0
  have ff0 := B1.out.res.frozen 0
  have f1 := B1.out.res.cell 1
  have ff1 := B1.out.res.frozen 1
  have f2 := B1.out.res.cell 2
  have ff2 := B1.out.res.frozen 2
  have f3 := B1.out.res.cell 3
  have ff3 := B1.out.res.frozen 3
  have f4 := B1.out.res.cell 4
  have ff4 := B1.out.res.frozen 4
  simp at e0 e1 e2 e3 e4 f0 f1 f2 f3 f4
  have el := B1.out.box.lt
  have fl := B1.out.res.lt
  have en := B1.out.ne
  skip
  clear HB
  have HB61 : Hid (base ≤ W1.heap.size) := HBW.out
  by_cases s1 : s' = 1
  case pos =>
    subst s1
    have HP : Hid (timM (s, c, 1, c', ls) 1 = (s, c, 1, c', ls ++ [(1 - 1, 1, c')])) := by show timM (s, c, 1, c', ls) 1 = _; simp [timM]
    have HC : Hid (Calls Try.prog 61 #[.agg (D5 s c 1 c' (.slice a n cap)), .int .i64 1, .int .i64 1, .int .i64 c'] W1 (DuS base W1 (.slice a n cap) (s, c, 1, c', ls ++ [(1 - 1, 1, c')]))) := l5Send_c base s c 1 c' (.slice a n cap) ls 1 1 c' W1 B1.out.own HB61.out HL.out (by decide) (by decide)
    go_enter Try.func55, Try.ntmps55
    go_wp2_with (fail)
    refine HC.out.mono ?_
    rintro e Wd ⟨v', rfl, ho, hg, hx⟩
    obtain ⟨k2, HF'⟩ := B1.out.hand ho hg hx s c 1 c'
    have HF : Hid _ := HF'
    obtain ⟨a', cap', hv', -⟩ := own_form ho
    rw [show (ls ++ [(1 - 1, 1, c')] : Tri).length = n + 1 by simp [HN.out]] at hv'
    subst hv'
    have m0 := k2.cell 0
    have mf0 := k2.frozen 0
    have m1 := k2.cell 1
    have mf1 := k2.frozen 1
    have m2 := k2.cell 2
    have mf2 := k2.frozen 2
    have m3 := k2.cell 3
    have mf3 := k2.frozen 3
    have m4 := k2.cell 4
    have mf4 := k2.frozen 4
    simp at m0 m1 m2 m3 m4
    clear k2 ho hg hx B1 HF' HC
    go_wp2
    rw [HP.out]
    exact bodyPost_ret (v := .agg (D5 s c 1 c' (.slice a' (n + 1) cap'))) (results_cell_row rfl _ _ _ 31 _ (0, 0) _ rfl (HF.out _ rfl).1 Try.underlying31 rfl size31) rfl (HF.out _ rfl).2.2
  have s1F : (s' = 1) = False := eq_false s1
  have s1b : (s' == 1) = false := by simpa using s1
  by_cases s4 : s' = 4
  case pos =>
    subst s4
    have HP : Hid (timM (s, c, 4, c', ls) 1 = (s, c, 4, c', ls ++ [(1 - 1, 3, c')])) := by show timM (s, c, 4, c', ls) 1 = _; simp [timM]
    have HC : Hid (Calls Try.prog 61 #[.agg (D5 s c 4 c' (.slice a n cap)), .int .i64 1, .int .i64 3, .int .i64 c'] W1 (DuS base W1 (.slice a n cap) (s, c, 4, c', ls ++ [(1 - 1, 3, c')]))) := l5Send_c base s c 4 c' (.slice a n cap) ls 1 3 c' W1 B1.out.own HB61.out HL.out (by decide) (by decide)
    go_enter Try.func55, Try.ntmps55
    go_wp2_with (fail)
    refine HC.out.mono ?_
    rintro e Wd ⟨v', rfl, ho, hg, hx⟩
    obtain ⟨k2, HF'⟩ := B1.out.hand ho hg hx s c 4 c'
    have HF : Hid _ := HF'
    obtain ⟨a', cap', hv', -⟩ := own_form ho
    rw [show (ls ++ [(1 - 1, 3, c')] : Tri).length = n + 1 by simp [HN.out]] at hv'
    subst hv'
    have m0 := k2.cell 0
    have mf0 := k2.frozen 0
    have m1 := k2.cell 1
    have mf1 := k2.frozen 1
    have m2 := k2.cell 2
    have mf2 := k2.frozen 2
    have m3 := k2.cell 3
    have mf3 := k2.frozen 3
    have m4 := k2.cell 4
    have mf4 := k2.frozen 4
    simp at m0 m1 m2 m3 m4
    clear k2 ho hg hx B1 HF' HC
    go_wp2
    rw [HP.out]
    exact bodyPost_ret (v := .agg (D5 s c 4 c' (.slice a' (n + 1) cap'))) (results_cell_row rfl _ _ _ 31 _ (0, 0) _ rfl (HF.out _ rfl).1 Try.underlying31 rfl size31) rfl (HF.out _ rfl).2.2
  have s4F : (s' = 4) = False := eq_false s4
  have s4b : (s' == 4) = false := by simpa using s4
  have HP : Hid (timM (s, c, s', c', ls) 1 = (s, c, s', c', ls)) := by show timM (s, c, s', c', ls) 1 = _; simp [timM, s1, s4]
  have HF : Hid _ := B1.out.ret
  clear B1
  go_enter Try.func55, Try.ntmps55
  go_wp2
  rw [HP.out]
  exact bodyPost_ret (v := .agg (D5 s c s' c' (.slice a n cap))) (results_cell_row rfl _ _ _ 31 _ (0, 0) _ rfl (HF.out _ rfl).1 Try.underlying31 rfl size31) rfl (HF.out _ rfl).2.2

set_option maxHeartbeats 6400000 in
theorem clr0_c (base : Nat) (s c s' c' : Int) (v : Value) (ls : Tri)  (w : World) (h : Ot 66 base w v ls) (hbs : base ≤ w.heap.size) (hl : ls.length ≤ 1048576)  :
    Calls Try.prog 62 #[.agg (D5 s c s' c' v), .int .i64 0] w (DuR base w v (clrM (s, c, s', c', ls) 0).1 (clrM (s, c, s', c', ls) 0).2) := by
  obtain ⟨W0, hW0⟩ : ∃ W0, ((w.alloc (Obj.cells (D5 s c s' c' v) 31)).alloc (Obj.cells (D5 0 0 0 0 (.slice none 0 0)) 31)) = W0 := ⟨_, rfl⟩
  have HB : Hid (Bx w base v W0 w.heap.size (w.heap.size + 1) s c s' c' v ls) := Bx.start h (by rw [← hW0]; exact ((Below.refl _ _).alloc (Nat.le_refl _) _).alloc (by simp) _) (by rw [← hW0]; exact (Blk.new _ _ _).alloc _) (by rw [← hW0]; exact Blk.newAt _ (w.heap.size + 1) _ 31 (by simp)) (Nat.le_refl _) (by omega) (by omega)
  have HZ0 : Hid (W0.heap.size = w.heap.size + 1 + 1) := by rw [← hW0]; simp [Hid]
  obtain ⟨a, cap, hv, -⟩ := own_form h
  obtain ⟨n, hn⟩ : ∃ n, ls.length = n := ⟨_, rfl⟩
  rw [hn] at hv
  subst hv
  have HN : Hid (ls.length = n) := hn
  have HL : Hid (ls.length ≤ 4194304) := by show ls.length ≤ _; omega
  have HBS : Hid (base ≤ w.heap.size) := hbs
  clear h hn hl hbs
  have c0 := HB.out.box.cell 0
  have cf0 := HB.out.box.frozen 0
  have c1 := HB.out.box.cell 1
  have cf1 := HB.out.box.frozen 1
  have c2 := HB.out.box.cell 2
  have cf2 := HB.out.box.frozen 2
  have c3 := HB.out.box.cell 3
  have cf3 := HB.out.box.frozen 3
  have c4 := HB.out.box.cell 4
  have cf4 := HB.out.box.frozen 4
  have r0 := HB.out.res.cell 0
  have rf0 := HB.out.res.frozen 0
  have r1 := HB.out.res.cell 1
  have rf1 := HB.out.res.frozen 1
  have r2 := HB.out.res.cell 2
  have rf2 := HB.out.res.frozen 2
  have r3 := HB.out.res.cell 3
  have rf3 := HB.out.res.frozen 3
  have r4 := HB.out.res.cell 4
  have rf4 := HB.out.res.frozen 4
  simp at c0 c1 c2 c3 c4 r0 r1 r2 r3 r4
  have cl := HB.out.box.lt
  have rl := HB.out.res.lt
  have cn := HB.out.ne
  skip
  obtain ⟨W1, hW1⟩ : ∃ W, W0.alloc (Obj.cells (H2 s c) 27) = W := ⟨_, rfl⟩
  have B1 : Hid (Bx w base (.slice a n cap) W1 w.heap.size (w.heap.size + 1) s c s' c' (.slice a n cap) ls) := hW1 ▸ HB.out.alloc _
  have HH : Hid (Blk W1 (w.heap.size + 1 + 1) (H2 s c) 27) := by rw [← hW1, ← HZ0.out]; exact Blk.new _ _ _
  have zz : W0.heap.size = w.heap.size + 1 + 1 := HZ0.out
  have HBW : Hid (base ≤ W1.heap.size) := by have := B1.out.gr.size; have := HBS.out; show base ≤ _; omega
  have u0 := HH.out.cell 0
  have u1 := HH.out.cell 1
  simp at u0 u1
  have e0 := B1.out.box.cell 0
  have ef0 := B1.out.box.frozen 0
  have e1 := B1.out.box.cell 1
  have ef1 := B1.out.box.frozen 1
  have e2 := B1.out.box.cell 2
  have ef2 := B1.out.box.frozen 2
  have e3 := B1.out.box.cell 3
  have ef3 := B1.out.box.frozen 3
  have e4 := B1.out.box.cell 4
  have ef4 := B1.out.box.frozen 4
  have f0 := B1.out.res.cell 0
  have ff0 := B1.out.res.frozen 0
  have f1 := B1.out.res.cell 1
  have ff1 := B1.out.res.frozen 1
  have f2 := B1.out.res.cell 2
  have ff2 := B1.out.res.frozen 2
  have f3 := B1.out.res.cell 3
  have ff3 := B1.out.res.frozen 3
  have f4 := B1.out.res.cell 4
  have ff4 := B1.out.res.frozen 4
  simp at e0 e1 e2 e3 e4 f0 f1 f2 f3 f4
  have el := B1.out.box.lt
  have fl := B1.out.res.lt
  have en := B1.out.ne
  skip
  clear HB
  by_cases s0 : s = 0
  case pos =>
    subst s0
    have HP : Hid (clrM (0, c, s', c', ls) 0 = ((0, c, s', c', ls), false)) := by show clrM (0, c, s', c', ls) 0 = _; simp [clrM]
    have HF : Hid _ := B1.out.ret
    clear B1
    go_enter Try.func62, Try.ntmps62
    go_wp2
    rw [HP.out]
    exact bodyPost_ret (v := .tuple #[.agg (D5 0 c s' c' (.slice a n cap)), .bool false]) (results_D rfl _ _ _ _ _ _ _ _ _ rfl rfl (HF.out _ rfl).1) rfl ((HF.out _ rfl).2.1 false)
  have s0F : (s = 0) = False := eq_false s0
  have s0b : (s == 0) = false := by simpa using s0
  by_cases s4 : s = 4
  case pos =>
    subst s4
    have HP : Hid (clrM (4, c, s', c', ls) 0 = ((4, c, s', c', ls), false)) := by show clrM (4, c, s', c', ls) 0 = _; simp [clrM]
    have HF : Hid _ := B1.out.ret
    clear B1
    go_enter Try.func62, Try.ntmps62
    go_wp2
    rw [HP.out]
    exact bodyPost_ret (v := .tuple #[.agg (D5 4 c s' c' (.slice a n cap)), .bool false]) (results_D rfl _ _ _ _ _ _ _ _ _ rfl rfl (HF.out _ rfl).1) rfl ((HF.out _ rfl).2.1 false)
  have s4F : (s = 4) = False := eq_false s4
  have s4b : (s == 4) = false := by simpa using s4
  have B2 : Hid (Bx w base (.slice a n cap) (W1.setCell ⟨w.heap.size, 0, none⟩ (.int .i64 4)) w.heap.size (w.heap.size + 1) 4 c s' c' (.slice a n cap) ls) := B1.out.set0 4
  obtain ⟨W2, hW2⟩ : ∃ W, W1.setCell ⟨w.heap.size, 0, none⟩ (.int .i64 4) = W := ⟨_, rfl⟩
  have HH2 : Hid (Blk (W1.setCell ⟨w.heap.size, 0, none⟩ (.int .i64 4)) (w.heap.size + 1 + 1) (H2 s c) 27) := HH.out.other _ _ (by show w.heap.size + 1 + 1 ≠ w.heap.size; omega)
  rw [hW2] at B2 HH2
  have v0 := HH2.out.cell 0
  have v1 := HH2.out.cell 1
  simp at v0 v1
  have HB61 : Hid (base ≤ W2.heap.size) := by have := B2.out.gr.size; have := HBS.out; show base ≤ _; omega
  have g0 := B2.out.box.cell 0
  have gf0 := B2.out.box.frozen 0
  have g1 := B2.out.box.cell 1
  have gf1 := B2.out.box.frozen 1
  have g2 := B2.out.box.cell 2
  have gf2 := B2.out.box.frozen 2
  have g3 := B2.out.box.cell 3
  have gf3 := B2.out.box.frozen 3
  have g4 := B2.out.box.cell 4
  have gf4 := B2.out.box.frozen 4
  have j0 := B2.out.res.cell 0
  have jf0 := B2.out.res.frozen 0
  have j1 := B2.out.res.cell 1
  have jf1 := B2.out.res.frozen 1
  have j2 := B2.out.res.cell 2
  have jf2 := B2.out.res.frozen 2
  have j3 := B2.out.res.cell 3
  have jf3 := B2.out.res.frozen 3
  have j4 := B2.out.res.cell 4
  have jf4 := B2.out.res.frozen 4
  simp at g0 g1 g2 g3 g4 j0 j1 j2 j3 j4
  have gl := B2.out.box.lt
  have jl := B2.out.res.lt
  have gn := B2.out.ne
  skip
  clear B1
  have HP : Hid (clrM (s, c, s', c', ls) 0 = ((4, c, s', c', ls ++ [(1 - 0, 3, c)]), true)) := by show clrM (s, c, s', c', ls) 0 = _; simp [clrM, s0, s4]
  have HC : Hid (Calls Try.prog 61 #[.agg (D5 4 c s' c' (.slice a n cap)), .int .i64 0, .int .i64 3, .int .i64 c] W2 (DuS base W2 (.slice a n cap) (4, c, s', c', ls ++ [(1 - 0, 3, c)]))) := l5Send_c base 4 c s' c' (.slice a n cap) ls 0 3 c W2 B2.out.own HB61.out HL.out (by decide) (by decide)
  go_enter Try.func62, Try.ntmps62
  go_wp2_with (fail)
  refine HC.out.mono ?_
  rintro e Wd ⟨v', rfl, ho, hg, hx⟩
  obtain ⟨k2, HF'⟩ := B2.out.hand ho hg hx 4 c s' c'
  have HF : Hid _ := HF'
  obtain ⟨a', cap', hv', -⟩ := own_form ho
  rw [show (ls ++ [(1 - 0, 3, c)] : Tri).length = n + 1 by simp [HN.out]] at hv'
  subst hv'
  have m0 := k2.cell 0
  have mf0 := k2.frozen 0
  have m1 := k2.cell 1
  have mf1 := k2.frozen 1
  have m2 := k2.cell 2
  have mf2 := k2.frozen 2
  have m3 := k2.cell 3
  have mf3 := k2.frozen 3
  have m4 := k2.cell 4
  have mf4 := k2.frozen 4
  simp at m0 m1 m2 m3 m4
  clear k2 ho hg hx B2 HF' HC
  go_wp2
  rw [HP.out]
  exact bodyPost_ret (v := .tuple #[.agg (D5 4 c s' c' (.slice a' (n + 1) cap')), .bool true]) (results_D rfl _ _ _ _ _ _ _ _ _ rfl rfl (HF.out _ rfl).1) rfl ((HF.out _ rfl).2.1 true)

set_option maxHeartbeats 6400000 in
theorem clr1_c (base : Nat) (s c s' c' : Int) (v : Value) (ls : Tri)  (w : World) (h : Ot 66 base w v ls) (hbs : base ≤ w.heap.size) (hl : ls.length ≤ 1048576)  :
    Calls Try.prog 62 #[.agg (D5 s c s' c' v), .int .i64 1] w (DuR base w v (clrM (s, c, s', c', ls) 1).1 (clrM (s, c, s', c', ls) 1).2) := by
  obtain ⟨W0, hW0⟩ : ∃ W0, ((w.alloc (Obj.cells (D5 s c s' c' v) 31)).alloc (Obj.cells (D5 0 0 0 0 (.slice none 0 0)) 31)) = W0 := ⟨_, rfl⟩
  have HB : Hid (Bx w base v W0 w.heap.size (w.heap.size + 1) s c s' c' v ls) := Bx.start h (by rw [← hW0]; exact ((Below.refl _ _).alloc (Nat.le_refl _) _).alloc (by simp) _) (by rw [← hW0]; exact (Blk.new _ _ _).alloc _) (by rw [← hW0]; exact Blk.newAt _ (w.heap.size + 1) _ 31 (by simp)) (Nat.le_refl _) (by omega) (by omega)
  have HZ0 : Hid (W0.heap.size = w.heap.size + 1 + 1) := by rw [← hW0]; simp [Hid]
  obtain ⟨a, cap, hv, -⟩ := own_form h
  obtain ⟨n, hn⟩ : ∃ n, ls.length = n := ⟨_, rfl⟩
  rw [hn] at hv
  subst hv
  have HN : Hid (ls.length = n) := hn
  have HL : Hid (ls.length ≤ 4194304) := by show ls.length ≤ _; omega
  have HBS : Hid (base ≤ w.heap.size) := hbs
  clear h hn hl hbs
  have c0 := HB.out.box.cell 0
  have cf0 := HB.out.box.frozen 0
  have c1 := HB.out.box.cell 1
  have cf1 := HB.out.box.frozen 1
  have c2 := HB.out.box.cell 2
  have cf2 := HB.out.box.frozen 2
  have c3 := HB.out.box.cell 3
  have cf3 := HB.out.box.frozen 3
  have c4 := HB.out.box.cell 4
  have cf4 := HB.out.box.frozen 4
  have r0 := HB.out.res.cell 0
  have rf0 := HB.out.res.frozen 0
  have r1 := HB.out.res.cell 1
  have rf1 := HB.out.res.frozen 1
  have r2 := HB.out.res.cell 2
  have rf2 := HB.out.res.frozen 2
  have r3 := HB.out.res.cell 3
  have rf3 := HB.out.res.frozen 3
  have r4 := HB.out.res.cell 4
  have rf4 := HB.out.res.frozen 4
  simp at c0 c1 c2 c3 c4 r0 r1 r2 r3 r4
  have cl := HB.out.box.lt
  have rl := HB.out.res.lt
  have cn := HB.out.ne
  skip
  obtain ⟨W1, hW1⟩ : ∃ W, W0.alloc (Obj.cells (H2 s' c') 27) = W := ⟨_, rfl⟩
  have B1 : Hid (Bx w base (.slice a n cap) W1 w.heap.size (w.heap.size + 1) s c s' c' (.slice a n cap) ls) := hW1 ▸ HB.out.alloc _
  have HH : Hid (Blk W1 (w.heap.size + 1 + 1) (H2 s' c') 27) := by rw [← hW1, ← HZ0.out]; exact Blk.new _ _ _
  have zz : W0.heap.size = w.heap.size + 1 + 1 := HZ0.out
  have HBW : Hid (base ≤ W1.heap.size) := by have := B1.out.gr.size; have := HBS.out; show base ≤ _; omega
  have u0 := HH.out.cell 0
  have u1 := HH.out.cell 1
  simp at u0 u1
  have e0 := B1.out.box.cell 0
  have ef0 := B1.out.box.frozen 0
  have e1 := B1.out.box.cell 1
  have ef1 := B1.out.box.frozen 1
  have e2 := B1.out.box.cell 2
  have ef2 := B1.out.box.frozen 2
  have e3 := B1.out.box.cell 3
  have ef3 := B1.out.box.frozen 3
  have e4 := B1.out.box.cell 4
  have ef4 := B1.out.box.frozen 4
  have f0 := B1.out.res.cell 0
  have ff0 := B1.out.res.frozen 0
  have f1 := B1.out.res.cell 1
  have ff1 := B1.out.res.frozen 1
  have f2 := B1.out.res.cell 2
  have ff2 := B1.out.res.frozen 2
  have f3 := B1.out.res.cell 3
  have ff3 := B1.out.res.frozen 3
  have f4 := B1.out.res.cell 4
  have ff4 := B1.out.res.frozen 4
  simp at e0 e1 e2 e3 e4 f0 f1 f2 f3 f4
  have el := B1.out.box.lt
  have fl := B1.out.res.lt
  have en := B1.out.ne
  skip
  clear HB
  by_cases s0 : s' = 0
  case pos =>
    subst s0
    have HP : Hid (clrM (s, c, 0, c', ls) 1 = ((s, c, 0, c', ls), false)) := by show clrM (s, c, 0, c', ls) 1 = _; simp [clrM]
    have HF : Hid _ := B1.out.ret
    clear B1
    go_enter Try.func62, Try.ntmps62
    go_wp2
    rw [HP.out]
    exact bodyPost_ret (v := .tuple #[.agg (D5 s c 0 c' (.slice a n cap)), .bool false]) (results_D rfl _ _ _ _ _ _ _ _ _ rfl rfl (HF.out _ rfl).1) rfl ((HF.out _ rfl).2.1 false)
  have s0F : (s' = 0) = False := eq_false s0
  have s0b : (s' == 0) = false := by simpa using s0
  by_cases s4 : s' = 4
  case pos =>
    subst s4
    have HP : Hid (clrM (s, c, 4, c', ls) 1 = ((s, c, 4, c', ls), false)) := by show clrM (s, c, 4, c', ls) 1 = _; simp [clrM]
    have HF : Hid _ := B1.out.ret
    clear B1
    go_enter Try.func62, Try.ntmps62
    go_wp2
    rw [HP.out]
    exact bodyPost_ret (v := .tuple #[.agg (D5 s c 4 c' (.slice a n cap)), .bool false]) (results_D rfl _ _ _ _ _ _ _ _ _ rfl rfl (HF.out _ rfl).1) rfl ((HF.out _ rfl).2.1 false)
  have s4F : (s' = 4) = False := eq_false s4
  have s4b : (s' == 4) = false := by simpa using s4
  have B2 : Hid (Bx w base (.slice a n cap) (W1.setCell ⟨w.heap.size, 2, none⟩ (.int .i64 4)) w.heap.size (w.heap.size + 1) s c 4 c' (.slice a n cap) ls) := B1.out.set2 4
  obtain ⟨W2, hW2⟩ : ∃ W, W1.setCell ⟨w.heap.size, 2, none⟩ (.int .i64 4) = W := ⟨_, rfl⟩
  have HH2 : Hid (Blk (W1.setCell ⟨w.heap.size, 2, none⟩ (.int .i64 4)) (w.heap.size + 1 + 1) (H2 s' c') 27) := HH.out.other _ _ (by show w.heap.size + 1 + 1 ≠ w.heap.size; omega)
  rw [hW2] at B2 HH2
  have v0 := HH2.out.cell 0
  have v1 := HH2.out.cell 1
  simp at v0 v1
  have HB61 : Hid (base ≤ W2.heap.size) := by have := B2.out.gr.size; have := HBS.out; show base ≤ _; omega
  have g0 := B2.out.box.cell 0
  have gf0 := B2.out.box.frozen 0
  have g1 := B2.out.box.cell 1
  have gf1 := B2.out.box.frozen 1
  have g2 := B2.out.box.cell 2
  have gf2 := B2.out.box.frozen 2
  have g3 := B2.out.box.cell 3
  have gf3 := B2.out.box.frozen 3
  have g4 := B2.out.box.cell 4
  have gf4 := B2.out.box.frozen 4
  have j0 := B2.out.res.cell 0
  have jf0 := B2.out.res.frozen 0
  have j1 := B2.out.res.cell 1
  have jf1 := B2.out.res.frozen 1
  have j2 := B2.out.res.cell 2
  have jf2 := B2.out.res.frozen 2
  have j3 := B2.out.res.cell 3
  have jf3 := B2.out.res.frozen 3
  have j4 := B2.out.res.cell 4
  have jf4 := B2.out.res.frozen 4
  simp at g0 g1 g2 g3 g4 j0 j1 j2 j3 j4
  have gl := B2.out.box.lt
  have jl := B2.out.res.lt
  have gn := B2.out.ne
  skip
  clear B1
  have HP : Hid (clrM (s, c, s', c', ls) 1 = ((s, c, 4, c', ls ++ [(1 - 1, 3, c')]), true)) := by show clrM (s, c, s', c', ls) 1 = _; simp [clrM, s0, s4]
  have HC : Hid (Calls Try.prog 61 #[.agg (D5 s c 4 c' (.slice a n cap)), .int .i64 1, .int .i64 3, .int .i64 c'] W2 (DuS base W2 (.slice a n cap) (s, c, 4, c', ls ++ [(1 - 1, 3, c')]))) := l5Send_c base s c 4 c' (.slice a n cap) ls 1 3 c' W2 B2.out.own HB61.out HL.out (by decide) (by decide)
  go_enter Try.func62, Try.ntmps62
  go_wp2_with (fail)
  refine HC.out.mono ?_
  rintro e Wd ⟨v', rfl, ho, hg, hx⟩
  obtain ⟨k2, HF'⟩ := B2.out.hand ho hg hx s c 4 c'
  have HF : Hid _ := HF'
  obtain ⟨a', cap', hv', -⟩ := own_form ho
  rw [show (ls ++ [(1 - 1, 3, c')] : Tri).length = n + 1 by simp [HN.out]] at hv'
  subst hv'
  have m0 := k2.cell 0
  have mf0 := k2.frozen 0
  have m1 := k2.cell 1
  have mf1 := k2.frozen 1
  have m2 := k2.cell 2
  have mf2 := k2.frozen 2
  have m3 := k2.cell 3
  have mf3 := k2.frozen 3
  have m4 := k2.cell 4
  have mf4 := k2.frozen 4
  simp at m0 m1 m2 m3 m4
  clear k2 ho hg hx B2 HF' HC
  go_wp2
  rw [HP.out]
  exact bodyPost_ret (v := .tuple #[.agg (D5 s c 4 c' (.slice a' (n + 1) cap')), .bool true]) (results_D rfl _ _ _ _ _ _ _ _ _ rfl rfl (HF.out _ rfl).1) rfl ((HF.out _ rfl).2.1 true)
end Go.Proofs.Ytljejjfhlpjlfaa

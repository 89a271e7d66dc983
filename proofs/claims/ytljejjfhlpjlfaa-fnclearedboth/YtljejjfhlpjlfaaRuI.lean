/- The program's RunDuo; no condition; no condition. -/
import Derived.Test.YtljejjfhlpjlfaaRuA
import Derived.Test.YtljejjfhlpjlfaaEvp
namespace Go.Proofs.Ytljejjfhlpjlfaa
open Go.RowKit Go.ChangeShapes Go.WideShapes Go.ChangeAt
set_option linter.unusedVariables false
set_option linter.unusedSimpArgs false
set_option maxRecDepth 8000
set_option maxHeartbeats 12800000 in
theorem runI_c (s c s' c' : Int) (v ve : Value) (ls : Tri) (es : Mvs) (w : World) (h : Rt w v ls) (hn : ls.length ≤ 1048576) (he : Rp mf mg w ve es) :
    Calls Try.prog 18 #[.agg (D5 s c s' c' v), ve] w (RuR (s, c, s', c', ls) es w) := by
  obtain ⟨W0, hW0⟩ : ∃ W0, (w.alloc (Obj.cells (D5 s c s' c' v) 31)).alloc (Obj.cells (D5 0 0 0 0 (.slice none 0 0)) 31) = W0 := ⟨_, rfl⟩
  have kb : Below w.heap.size w W0 := by rw [← hW0]; exact ((Below.refl _ _).alloc (Nat.le_refl _) _).alloc (by simp) _
  have k0 : Blk W0 w.heap.size (D5 s c s' c' v) 31 := by rw [← hW0]; exact (Blk.new _ _ _).alloc _
  have k1 : Blk W0 (w.heap.size + 1) (D5 0 0 0 0 (.slice none 0 0)) 31 := by rw [← hW0]; exact Blk.newAt _ (w.heap.size + 1) _ 31 (by simp)
  have HZ : Hid (W0.heap.size = w.heap.size + 1 + 1) := by rw [← hW0]; simp [Hid]
  have HK : Hid ((Below w.heap.size w W0 ∧ Blk W0 w.heap.size (D5 s c s' c' v) 31) ∧ Blk W0 (w.heap.size + 1) (D5 0 0 0 0 (.slice none 0 0)) 31) := ⟨⟨kb, k0⟩, k1⟩
  have HC : Hid (Calls Try.prog 37 #[v] W0 fun e w' => ∃ v', e = .returned v' ∧ Ot 66 W0.heap.size w' v' ls ∧ Below W0.heap.size W0 w') := clone_c v ls W0 (h.below kb) hn
  have HL : Hid (ls.length ≤ 1048576) := hn
  have HE : Hid (Rp mf mg w ve es) := he
  obtain ⟨av, cap, rfl, -⟩ := h
  obtain ⟨ea, ecap, hev, hel, hec, hea⟩ := he
  unfold maxLen at hec
  obtain ⟨m, hm⟩ : ∃ m, es.length = m := ⟨_, rfl⟩
  have HM : Hid (es.length = m) := hm
  rw [hm] at hev hel
  subst hev
  clear hm
  have c4 := k0.cell 4
  simp at c4
  by_cases hbig : 300 < m
  · have hbI : (300 : Int) < (m : Int) := by omega
    have HBG : Hid (300 < es.length) := by have := HM.out; show _ < _; omega
    have HF : Hid _ := zeroD kb k1 (by omega)
    have r0 := k1.cell 0
    have rf0 := k1.frozen 0
    have r1 := k1.cell 1
    have rf1 := k1.frozen 1
    have r2 := k1.cell 2
    have rf2 := k1.frozen 2
    have r3 := k1.cell 3
    have rf3 := k1.frozen 3
    have r4 := k1.cell 4
    have rf4 := k1.frozen 4
    simp at r0 r1 r2 r3 r4
    clear k0 k1 kb hn HC HE hea
    go_enter Try.func18, Try.ntmps18
    go_wp2
    exact bodyPost_ret (v := .agg (D5 0 0 0 0 (.slice none 0 0))) (results_cell_row rfl _ _ _ 31 _ (0, 0) _ rfl (HF.out _ rfl).1 Try.underlying31 rfl size31) rfl ⟨_, fun h => absurd HBG.out (by omega), fun h => absurd HBG.out (by omega), fun _ => rfl, (HF.out _ rfl).2⟩
  have hbI : ((300 : Int) < (m : Int)) = False := eq_false (by omega)
  have HBG : Hid (es.length ≤ 300) := by have := HM.out; show _ ≤ _; omega
  clear hbig k0 k1 kb hn
  go_enter Try.func18, Try.ntmps18
  go_wp2_with (fail)
  refine HC.out.mono ?_
  rintro e w1 ⟨v', rfl, o1, b1⟩
  have q0 := HK.out.1.2.below b1 HK.out.1.2.lt
  have q2 := HK.out.2.below b1 HK.out.2.lt
  have hvb : ∀ k, v'.ownBlock = some k → w.heap.size + 1 + 1 ≤ k := fun k e => by have := (World.ownsRow.lt o1 k e).1; have := HZ.out; omega
  have bb : Below w.heap.size w w1 := HK.out.1.1.trans (b1.mono (by have := HZ.out; omega))
  have ho2 : Ot 66 w.heap.size w1 v' ls := o1.mono (by have := HZ.out; omega)
  have hb2 : Bx w w.heap.size (.slice none 0 0) (w1.setCell ⟨w.heap.size, 4, none⟩ v') w.heap.size (w.heap.size + 1) s c s' c' v' ls :=
    Bx.fresh (q0.set 4 v') (q2.other _ _ (by simp)) (ho2.keepB (grown_set _ _ _ _) (fun e => by have := hvb _ e; omega)) (bb.setCell (Nat.le_refl _) _) (Nat.le_refl _) (by omega) (by omega) (fun e => by have := hvb _ e; omega) (fun e => by have := hvb _ e; omega)
  have d4 := q0.cell 4
  have e4 := q0.frozen 4
  simp at d4
  obtain ⟨a', cap', hv', -⟩ := own_form o1
  obtain ⟨n, hn⟩ : ∃ n, ls.length = n := ⟨_, rfl⟩
  rw [hn] at hv'
  subst hv'
  have HB : Hid (Bx w w.heap.size (.slice none 0 0) (w1.setCell ⟨w.heap.size, 4, none⟩ (.slice a' n cap')) w.heap.size (w.heap.size + 1) s c s' c' (.slice a' n cap') ls) := hb2
  obtain ⟨W2, hW2⟩ : ∃ W, w1.setCell ⟨w.heap.size, 4, none⟩ (.slice a' n cap') = W := ⟨_, rfl⟩
  rw [hW2] at HB
  clear q0 q2 hvb bb ho2 hb2 o1 b1 HC HK c4 hW0 hn
  have c0 := HB.out.box.cell 0
  have cf0 := HB.out.box.frozen 0
  have c1 := HB.out.box.cell 1
  have cf1 := HB.out.box.frozen 1
  have c2 := HB.out.box.cell 2
  have cf2 := HB.out.box.frozen 2
  have c3 := HB.out.box.cell 3
  have cf3 := HB.out.box.frozen 3
  have c4 := HB.out.box.cell 4
  have cf4 := HB.out.box.frozen 4
  have r0 := HB.out.res.cell 0
  have rf0 := HB.out.res.frozen 0
  have r1 := HB.out.res.cell 1
  have rf1 := HB.out.res.frozen 1
  have r2 := HB.out.res.cell 2
  have rf2 := HB.out.res.frozen 2
  have r3 := HB.out.res.cell 3
  have rf3 := HB.out.res.frozen 3
  have r4 := HB.out.res.cell 4
  have rf4 := HB.out.res.frozen 4
  simp at c0 c1 c2 c3 c4 r0 r1 r2 r3 r4
  have cl := HB.out.box.lt
  have rl := HB.out.res.lt
  have cn := HB.out.ne
  skip
  go_wp2_with (fail)
  refine (okI_c s c s' c' _ ls W2 HB.out.own.rd).mono ?_
  rintro e W3 ⟨q, rfl, hq, b3⟩
  have B3 : Hid (Bx w w.heap.size (.slice none 0 0) W3 w.heap.size (w.heap.size + 1) s c s' c' (.slice a' n cap') ls) := HB.out.below b3
  clear hW2 HB b3 d4 e4 c0 cf0 r0 rf0 c1 cf1 r1 rf1 c2 cf2 r2 rf2 c3 cf3 r3 rf3 c4 cf4 r4 rf4 cl rl cn
  have c0 := B3.out.box.cell 0
  have cf0 := B3.out.box.frozen 0
  have c1 := B3.out.box.cell 1
  have cf1 := B3.out.box.frozen 1
  have c2 := B3.out.box.cell 2
  have cf2 := B3.out.box.frozen 2
  have c3 := B3.out.box.cell 3
  have cf3 := B3.out.box.frozen 3
  have c4 := B3.out.box.cell 4
  have cf4 := B3.out.box.frozen 4
  have r0 := B3.out.res.cell 0
  have rf0 := B3.out.res.frozen 0
  have r1 := B3.out.res.cell 1
  have rf1 := B3.out.res.frozen 1
  have r2 := B3.out.res.cell 2
  have rf2 := B3.out.res.frozen 2
  have r3 := B3.out.res.cell 3
  have rf3 := B3.out.res.frozen 3
  have r4 := B3.out.res.cell 4
  have rf4 := B3.out.res.frozen 4
  simp at c0 c1 c2 c3 c4 r0 r1 r2 r3 r4
  have cl := B3.out.box.lt
  have rl := B3.out.res.lt
  have cn := B3.out.ne
  skip
  cases q with
  | false =>
    have HNO : Hid (¬ DOt (s, c, s', c', ls)) := fun h => by have := hq.2 h; cases this
    have HF : Hid _ := B3.out.ret
    clear hq B3
    go_wp2
    exact bodyPost_ret (v := .agg (D5 s c s' c' (.slice a' n cap'))) (results_cell_row rfl _ _ _ 31 _ (0, 0) _ rfl (HF.out _ rfl).1 Try.underlying31 rfl size31) rfl ⟨_, fun _ h => absurd h HNO.out, fun _ _ => rfl, fun h => absurd HBG.out (by omega), (HF.out _ rfl).2.2⟩
  | true =>
  have HDK : Hid (DOt (s, c, s', c', ls)) := hq.1 rfl
  clear hq
  go_wp2
  clear c0 cf0 r0 rf0 c1 cf1 r1 rf1 c2 cf2 r2 rf2 c3 cf3 r3 rf3 c4 cf4 r4 rf4 cl rl cn
  go_loopw [21] (fun i wr => ∃ j : Nat, j ≤ m ∧ i = .int .i64 j ∧ Hid (∃ s1 c1 s2 c2 v1 l1, Bx w w.heap.size (.slice none 0 0) wr w.heap.size (w.heap.size + 1) s1 c1 s2 c2 v1 l1 ∧ DOk s1 c1 s2 c2 l1 ∧ (s1, c1, s2, c2, l1) = evL (es.take j) (s, c, s', c', ls))) (fun i _ => m - (intOf i).toNat)
  case atStart => exact ⟨0, Nat.zero_le _, rfl, s, c, s', c', _, ls, B3.out, HDK.out, by simp [evL]⟩
  case round =>
    obtain ⟨j, hj, rfl, hrest⟩ := hrel
    obtain ⟨s1, c1, s2, c2, v1, l1, hB, hdk, hset⟩ := hrest.out
    clear hrest B3
    have B1 : Hid (Bx w w.heap.size (.slice none 0 0) wr w.heap.size (w.heap.size + 1) s1 c1 s2 c2 v1 l1) := hB
    have HDo : Hid (DOk s1 c1 s2 c2 l1) := hdk
    have HSE : Hid ((s1, c1, s2, c2, l1) = evL (es.take j) (s, c, s', c', ls)) := hset
    obtain ⟨a1, cap1, hv1, -⟩ := own_form hB.own
    obtain ⟨n1, hn1'⟩ : ∃ n, l1.length = n := ⟨_, rfl⟩
    rw [hn1'] at hv1
    subst hv1
    clear hB hdk hset hn1'
    have k0 := B1.out.box.cell 0
    have kf0 := B1.out.box.frozen 0
    have k1 := B1.out.box.cell 1
    have kf1 := B1.out.box.frozen 1
    have k2 := B1.out.box.cell 2
    have kf2 := B1.out.box.frozen 2
    have k3 := B1.out.box.cell 3
    have kf3 := B1.out.box.frozen 3
    have k4 := B1.out.box.cell 4
    have kf4 := B1.out.box.frozen 4
    have r0 := B1.out.res.cell 0
    have rf0 := B1.out.res.frozen 0
    have r1 := B1.out.res.cell 1
    have rf1 := B1.out.res.frozen 1
    have r2 := B1.out.res.cell 2
    have rf2 := B1.out.res.frozen 2
    have r3 := B1.out.res.cell 3
    have rf3 := B1.out.res.frozen 3
    have r4 := B1.out.res.cell 4
    have rf4 := B1.out.res.frozen 4
    simp at k0 k1 k2 k3 k4 r0 r1 r2 r3 r4
    have kl := B1.out.box.lt
    have rl := B1.out.res.lt
    have kn := B1.out.ne
    skip
    by_cases hlt : j < m
    case pos =>
      have hjI : (j : Int) < (m : Int) := by omega
      have hje : j < es.length := by have := HM.out; omega
      rcases hea with hea | ⟨b, off, rfl, h4⟩
      · subst hea; simp at hje
      have hR : Rp mf mg wr (.slice (some ⟨b, off, none⟩) m ecap) es := HE.out.grown B1.out.gr (.inr (.inr (by simp [Value.ownBlock])))
      obtain ⟨x, y, hxy⟩ : ∃ x y, es[j] = (x, y) := ⟨_, _, rfl⟩
      have HXY : Hid (es[j] = (x, y)) := hxy
      have hc0 : wr.cell? ⟨b, off + j * 2, none⟩ = some (.int .i64 x) := by
        have := (h4 j hje).1; rw [hxy] at this; exact (World.cell?_of_block (w := w) (B1.out.gr.block b (block_lt_of_cell this) (by simp [Value.ownBlock]))).trans this
      have hc1 : wr.cell? ⟨b, off + j * 2 + 1, none⟩ = some (.int .i64 y) := by
        have := (h4 j hje).2; rw [hxy] at this; exact (World.cell?_of_block (w := w) (B1.out.gr.block b (block_lt_of_cell this) (by simp [Value.ownBlock]))).trans this
      clear h4 hR hxy
      have B1a : Hid (Bx w w.heap.size (.slice none 0 0) (wr.alloc (Obj.cells (H2 x y) 35)) w.heap.size (w.heap.size + 1) s1 c1 s2 c2 (.slice a1 n1 cap1) l1) := B1.out.alloc _
      have hc := happen_c w.heap.size s1 c1 s2 c2 (.slice a1 n1 cap1) l1 x y (wr.alloc (Obj.cells (H2 x y) 35)) B1a.out.own B1a.out.gr.size HDo.out
      obtain ⟨⟨⟨t1, t2, t3, t4, tl⟩, ok⟩, hT⟩ : ∃ T, happenP (s1, c1, s2, c2, l1) x y = T := ⟨_, rfl⟩
      rw [hT] at hc
      have HC : Hid (Calls Try.prog 38 #[.agg (D5 s1 c1 s2 c2 (.slice a1 n1 cap1)), .agg (H2 x y)] (wr.alloc (Obj.cells (H2 x y) 35)) (DuR w.heap.size (wr.alloc (Obj.cells (H2 x y) 35)) (.slice a1 n1 cap1) (t1, t2, t3, t4, tl) ok)) := hc
      have hTE : (doE (s1, c1, s2, c2, l1) x y).1 = (t1, t2, t3, t4, tl) := by rw [← ev_same _ _ _ _ _ _ _ HDo.out, hT]
      have hd2 : DOt (t1, t2, t3, t4, tl) := by rw [← hTE]; exact dok_doE (d := (s1, c1, s2, c2, l1)) HDo.out x y
      have HD2 : Hid (DOk t1 t2 t3 t4 tl) := hd2
      have HS2 : Hid ((t1, t2, t3, t4, tl) = evL (es.take (j + 1)) (s, c, s', c', ls)) := by show _ = _; rw [evL_take es j hje, ← HSE.out, HXY.out]; exact hTE.symm
      clear hc hT hTE hd2 HSE HXY HDo
      go_wp2_with (fail)
      refine HC.out.mono ?_
      rintro e Wd ⟨v', rfl, ho, hg, hx⟩
      obtain ⟨q1, -⟩ := B1a.out.after ho hg hx
      have hB3 := B1a.out.put ho hg hx t1 t2 t3 t4
      obtain ⟨a3, cap3, hv', -⟩ := own_form ho
      simp only at hv'
      subst hv'
      have B3 : Hid (Bx w w.heap.size (.slice none 0 0) (st5 Wd w.heap.size t1 t2 t3 t4 (.slice a3 tl.length cap3)) w.heap.size (w.heap.size + 1) t1 t2 t3 t4 (.slice a3 tl.length cap3) tl) := hB3
      clear k0 kf0 r0 rf0 k1 kf1 r1 rf1 k2 kf2 r2 rf2 k3 kf3 r3 rf3 k4 kf4 r4 rf4 kl rl kn hc0 hc1
      have m0 := q1.cell 0
      have mf0 := q1.frozen 0
      have m1 := q1.cell 1
      have mf1 := q1.frozen 1
      have m2 := q1.cell 2
      have mf2 := q1.frozen 2
      have m3 := q1.cell 3
      have mf3 := q1.frozen 3
      have m4 := q1.cell 4
      have mf4 := q1.frozen 4
      simp at m0 m1 m2 m3 m4
      clear hB3 q1 ho hg hx B1 B1a HC
      obtain ⟨W3', hW3⟩ : ∃ W, st5 Wd w.heap.size t1 t2 t3 t4 (.slice a3 tl.length cap3) = W := ⟨_, rfl⟩
      rw [hW3] at B3
      unfold st5 at hW3
      go_wp2
      go_roundw
      case rel => exact ⟨j + 1, by omega, by go_num, _, _, _, _, _, _, B3.out, HD2.out, HS2.out⟩
      case measure => simp [intOf]; omega
    case neg =>
      obtain rfl : j = m := by omega
      have hjI : ((j : Int) < (j : Int)) = False := eq_false (by omega)
      have HF : Hid _ := B1.out.ret
      have hend : (s1, c1, s2, c2, l1) = evL es (s, c, s', c', ls) := by have h := HSE.out; rw [← HM.out, List.take_length] at h; exact h
      have HEND : Hid ((s1, c1, s2, c2, l1) = evL es (s, c, s', c', ls)) := hend
      clear hend HSE B1 hea HE HDo
      go_wp2
      exact bodyPost_ret (v := .agg (D5 s1 c1 s2 c2 (.slice a1 n1 cap1))) (results_cell_row rfl _ _ _ 31 _ (0, 0) _ rfl (HF.out _ rfl).1 Try.underlying31 rfl size31) rfl ⟨_, fun _ _ => HEND.out, fun _ h => absurd HDK.out h, fun h => absurd HBG.out (by omega), (HF.out _ rfl).2.2⟩
end Go.Proofs.Ytljejjfhlpjlfaa

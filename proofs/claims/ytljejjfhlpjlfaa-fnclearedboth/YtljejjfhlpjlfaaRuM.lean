/- The model's RunDuo; no condition; no condition. -/
import Derived.Test.YtljejjfhlpjlfaaRuA
import Derived.Test.YtljejjfhlpjlfaaEvp
namespace Go.Proofs.Ytljejjfhlpjlfaa
open Go.RowKit Go.ChangeShapes Go.WideShapes Go.ChangeAt
set_option linter.unusedVariables false
set_option linter.unusedSimpArgs false
set_option maxRecDepth 8000
set_option maxHeartbeats 12800000 in
theorem runM_c (s c s' c' : Int) (v ve : Value) (ls : Tri) (es : Mvs) (w : World) (h : Rt w v ls) (hn : ls.length ≤ 1048576) (he : Rp mf mg w ve es) :
    Calls Try.prog 19 #[.agg (D5 s c s' c' v), ve] w (RuR (s, c, s', c', ls) es w) := by
  obtain ⟨W0, hW0⟩ : ∃ W0, (w.alloc (Obj.cells (D5 s c s' c' v) 31)).alloc (Obj.cells (D5 0 0 0 0 (.slice none 0 0)) 31) = W0 := ⟨_, rfl⟩
  have kb : Below w.heap.size w W0 := by rw [← hW0]; exact ((Below.refl _ _).alloc (Nat.le_refl _) _).alloc (by simp) _
  have k0 : Blk W0 w.heap.size (D5 s c s' c' v) 31 := by rw [← hW0]; exact (Blk.new _ _ _).alloc _
  have k1 : Blk W0 (w.heap.size + 1) (D5 0 0 0 0 (.slice none 0 0)) 31 := by rw [← hW0]; exact Blk.newAt _ (w.heap.size + 1) _ 31 (by simp)
  have HZ : Hid (W0.heap.size = w.heap.size + 1 + 1) := by rw [← hW0]; simp [Hid]
  have HK : Hid ((Below w.heap.size w W0 ∧ Blk W0 w.heap.size (D5 s c s' c' v) 31) ∧ Blk W0 (w.heap.size + 1) (D5 0 0 0 0 (.slice none 0 0)) 31) := ⟨⟨kb, k0⟩, k1⟩
  have HC : Hid (Calls Try.prog 39 #[.agg (D5 s c s' c' v)] W0 (DuS W0.heap.size W0 (.slice none 0 0) (s, c, s', c', ls))) := l5Copy_c s c s' c' v ls W0 (h.below kb) (by omega)
  have HL : Hid (ls.length ≤ 1048576) := hn
  have HE : Hid (Rp mf mg w ve es) := he
  obtain ⟨av, cap, rfl, -⟩ := h
  obtain ⟨ea, ecap, hev, hel, hec, hea⟩ := he
  unfold maxLen at hec
  obtain ⟨m, hm⟩ : ∃ m, es.length = m := ⟨_, rfl⟩
  have HM : Hid (es.length = m) := hm
  rw [hm] at hev hel
  subst hev
  clear hm
  have c0 := k0.cell 0
  have c1 := k0.cell 1
  have c2 := k0.cell 2
  have c3 := k0.cell 3
  have c4 := k0.cell 4
  simp at c0 c1 c2 c3 c4
  by_cases hbig : 300 < m
  · have hbI : (300 : Int) < (m : Int) := by omega
    have HBG : Hid (300 < es.length) := by have := HM.out; show _ < _; omega
    have HF : Hid _ := zeroD kb k1 (by omega)
    have r0 := k1.cell 0
    have rf0 := k1.frozen 0
    have r1 := k1.cell 1
    have rf1 := k1.frozen 1
    have r2 := k1.cell 2
    have rf2 := k1.frozen 2
    have r3 := k1.cell 3
    have rf3 := k1.frozen 3
    have r4 := k1.cell 4
    have rf4 := k1.frozen 4
    simp at r0 r1 r2 r3 r4
    clear k0 k1 kb hn HC HE hea
    go_enter Try.func19, Try.ntmps19
    go_wp2
    exact bodyPost_ret (v := .agg (D5 0 0 0 0 (.slice none 0 0))) (results_cell_row rfl _ _ _ 31 _ (0, 0) _ rfl (HF.out _ rfl).1 Try.underlying31 rfl size31) rfl ⟨_, fun h => absurd HBG.out (by omega), fun h => absurd HBG.out (by omega), fun _ => rfl, (HF.out _ rfl).2⟩
  have hbI : ((300 : Int) < (m : Int)) = False := eq_false (by omega)
  have HBG : Hid (es.length ≤ 300) := by have := HM.out; show _ ≤ _; omega
  clear hbig k0 k1 kb hn
  go_enter Try.func19, Try.ntmps19
  go_wp2_with (fail)
  refine HC.out.mono ?_
  rintro e w1 ⟨v', rfl, o1, g1, x1⟩
  have b1 : Below W0.heap.size W0 w1 := grown_below g1 (Nat.le_refl _) (fun k e => by simp [Value.ownBlock] at e)
  have q0 := HK.out.1.2.below b1 HK.out.1.2.lt
  have q2 := HK.out.2.below b1 HK.out.2.lt
  have hvb : ∀ k, v'.ownBlock = some k → w.heap.size + 1 + 1 ≤ k := fun k e => by have := (World.ownsRow.lt o1 k e).1; have := HZ.out; omega
  have bb : Below w.heap.size w w1 := HK.out.1.1.trans (b1.mono (by have := HZ.out; omega))
  have ho2 : Ot 66 w.heap.size w1 v' ls := o1.mono (by have := HZ.out; omega)
  have hb2 : Bx w w.heap.size (.slice none 0 0) (st5 w1 w.heap.size s c s' c' v') w.heap.size (w.heap.size + 1) s c s' c' v' ls :=
    Bx.fresh (put5 q0 _ _ _ _ _) (q2.grown (grown_put5 ..) (by simp)) (ho2.keepB (grown_put5 ..) (fun e => by have := hvb _ e; omega)) (bb.trans (grown_below (grown_put5 ..) bb.size (fun k e => by cases e; exact Nat.le_refl _))) (Nat.le_refl _) (by omega) (by omega) (fun e => by have := hvb _ e; omega) (fun e => by have := hvb _ e; omega)
  have d0 := q0.cell 0
  have df0 := q0.frozen 0
  have d1 := q0.cell 1
  have df1 := q0.frozen 1
  have d2 := q0.cell 2
  have df2 := q0.frozen 2
  have d3 := q0.cell 3
  have df3 := q0.frozen 3
  have d4 := q0.cell 4
  have df4 := q0.frozen 4
  simp at d0 d1 d2 d3 d4
  obtain ⟨a', cap', hv', -⟩ := own_form o1
  obtain ⟨n, hn⟩ : ∃ n, ls.length = n := ⟨_, rfl⟩
  simp only at hv'
  rw [hn] at hv'
  subst hv'
  have HB : Hid (Bx w w.heap.size (.slice none 0 0) (st5 w1 w.heap.size s c s' c' (.slice a' n cap')) w.heap.size (w.heap.size + 1) s c s' c' (.slice a' n cap') ls) := hb2
  obtain ⟨W2, hW2⟩ : ∃ W, st5 w1 w.heap.size s c s' c' (.slice a' n cap') = W := ⟨_, rfl⟩
  rw [hW2] at HB
  unfold st5 at hW2
  clear q0 q2 hvb bb ho2 hb2 o1 b1 g1 x1 HC HK c0 c1 c2 c3 c4 hW0 hn
  go_wp2
  clear hW2 d0 df0 d1 df1 d2 df2 d3 df3 d4 df4
  go_loopw [5] (fun i wr => ∃ j : Nat, j ≤ m ∧ i = .int .i64 j ∧ Hid (∃ s1 c1 s2 c2 v1 l1, Bx w w.heap.size (.slice none 0 0) wr w.heap.size (w.heap.size + 1) s1 c1 s2 c2 v1 l1 ∧ ((DOt (s, c, s', c', ls) → DOk s1 c1 s2 c2 l1 ∧ (s1, c1, s2, c2, l1) = evL (es.take j) (s, c, s', c', ls)) ∧ (¬ DOt (s, c, s', c', ls) → (s1, c1, s2, c2, l1) = (s, c, s', c', ls))))) (fun i _ => m - (intOf i).toNat)
  case atStart => exact ⟨0, Nat.zero_le _, rfl, s, c, s', c', _, ls, HB.out, fun h => ⟨h, by simp [evL]⟩, fun _ => rfl⟩
  case round =>
    obtain ⟨j, hj, rfl, hrest⟩ := hrel
    obtain ⟨s1, c1, s2, c2, v1, l1, hB, hset⟩ := hrest.out
    clear hrest HB
    have B1 : Hid (Bx w w.heap.size (.slice none 0 0) wr w.heap.size (w.heap.size + 1) s1 c1 s2 c2 v1 l1) := hB
    have HSE : Hid ((DOt (s, c, s', c', ls) → DOk s1 c1 s2 c2 l1 ∧ (s1, c1, s2, c2, l1) = evL (es.take j) (s, c, s', c', ls)) ∧ (¬ DOt (s, c, s', c', ls) → (s1, c1, s2, c2, l1) = (s, c, s', c', ls))) := hset
    have HL1 : Hid (l1.length ≤ 1048576) := by
      by_cases h : DOt (s, c, s', c', ls)
      · have := (hset.1 h).1.2.2.2.2.2.2.1; show _ ≤ _; omega
      · have e := hset.2 h
        simp only [Prod.mk.injEq] at e
        rw [e.2.2.2.2]; exact HL.out
    obtain ⟨a1, cap1, hv1, -⟩ := own_form hB.own
    obtain ⟨n1, hn1'⟩ : ∃ n, l1.length = n := ⟨_, rfl⟩
    rw [hn1'] at hv1
    subst hv1
    clear hB hset hn1'
    have k0 := B1.out.box.cell 0
    have kf0 := B1.out.box.frozen 0
    have k1 := B1.out.box.cell 1
    have kf1 := B1.out.box.frozen 1
    have k2 := B1.out.box.cell 2
    have kf2 := B1.out.box.frozen 2
    have k3 := B1.out.box.cell 3
    have kf3 := B1.out.box.frozen 3
    have k4 := B1.out.box.cell 4
    have kf4 := B1.out.box.frozen 4
    have r0 := B1.out.res.cell 0
    have rf0 := B1.out.res.frozen 0
    have r1 := B1.out.res.cell 1
    have rf1 := B1.out.res.frozen 1
    have r2 := B1.out.res.cell 2
    have rf2 := B1.out.res.frozen 2
    have r3 := B1.out.res.cell 3
    have rf3 := B1.out.res.frozen 3
    have r4 := B1.out.res.cell 4
    have rf4 := B1.out.res.frozen 4
    simp at k0 k1 k2 k3 k4 r0 r1 r2 r3 r4
    have kl := B1.out.box.lt
    have rl := B1.out.res.lt
    have kn := B1.out.ne
    skip
    by_cases hlt : j < m
    case pos =>
      have hjI : (j : Int) < (m : Int) := by omega
      have hje : j < es.length := by have := HM.out; omega
      rcases hea with hea | ⟨b, off, rfl, h4⟩
      · subst hea; simp at hje
      obtain ⟨x, y, hxy⟩ : ∃ x y, es[j] = (x, y) := ⟨_, _, rfl⟩
      have HXY : Hid (es[j] = (x, y)) := hxy
      have hc0 : wr.cell? ⟨b, off + j * 2, none⟩ = some (.int .i64 x) := by
        have := (h4 j hje).1; rw [hxy] at this; exact (World.cell?_of_block (w := w) (B1.out.gr.block b (block_lt_of_cell this) (by simp [Value.ownBlock]))).trans this
      have hc1 : wr.cell? ⟨b, off + j * 2 + 1, none⟩ = some (.int .i64 y) := by
        have := (h4 j hje).2; rw [hxy] at this; exact (World.cell?_of_block (w := w) (B1.out.gr.block b (block_lt_of_cell this) (by simp [Value.ownBlock]))).trans this
      clear h4 hxy k0 kf0 r0 rf0 k1 kf1 r1 rf1 k2 kf2 r2 rf2 k3 kf3 r3 rf3 k4 kf4 r4 rf4 kl rl kn
      obtain ⟨wq, hwq⟩ : ∃ W, wr.drew = W := ⟨_, rfl⟩
      have bd : Below wr.heap.size wr wq := hwq ▸ (Below.refl _ _).drew
      have Bq : Hid (Bx w w.heap.size (.slice none 0 0) wq w.heap.size (w.heap.size + 1) s1 c1 s2 c2 (.slice a1 n1 cap1) l1) := B1.out.below bd
      have hd0 : wq.cell? ⟨b, off + j * 2, none⟩ = some (.int .i64 x) := (bd.cell (block_lt_of_cell hc0)).trans hc0
      have hd1 : wq.cell? ⟨b, off + j * 2 + 1, none⟩ = some (.int .i64 y) := (bd.cell (block_lt_of_cell hc1)).trans hc1
      have HC : Hid (Calls Try.prog 13 #[.agg (D5 s1 c1 s2 c2 (.slice a1 n1 cap1)), .agg (H2 x y)] wq (EvR doE (s1, c1, s2, c2, l1) x y wq)) := evM_c s1 c1 s2 c2 (.slice a1 n1 cap1) l1 x y wq Bq.out.own.rd HL1.out
      have HQW : Hid (wr.drew = wq) := hwq
      clear hc0 hc1 bd B1 hwq
      go_wp2_with (fail)
      refine region_any0 (by kernel_rfl) ?_
      rw [HQW.out]
      have neT : Nonempty (At (fun _ => True)) := ⟨⟨wq, trivial⟩⟩
      refine any_pure [false, true, true, true, false, false, false, false, false, false] 7 rfl (by kernel_rfl) (fun _ _ _ _ _ h => h) ?_
      simp only [selT]
      repeat (go_big_quiet_step (fail))
      refine wpQuiet_nil ?_
      have k0 := Bq.out.box.cell 0
      have kf0 := Bq.out.box.frozen 0
      have k1 := Bq.out.box.cell 1
      have kf1 := Bq.out.box.frozen 1
      have k2 := Bq.out.box.cell 2
      have kf2 := Bq.out.box.frozen 2
      have k3 := Bq.out.box.cell 3
      have kf3 := Bq.out.box.frozen 3
      have k4 := Bq.out.box.cell 4
      have kf4 := Bq.out.box.frozen 4
      have r0 := Bq.out.res.cell 0
      have rf0 := Bq.out.res.frozen 0
      have r1 := Bq.out.res.cell 1
      have rf1 := Bq.out.res.frozen 1
      have r2 := Bq.out.res.cell 2
      have rf2 := Bq.out.res.frozen 2
      have r3 := Bq.out.res.cell 3
      have rf3 := Bq.out.res.frozen 3
      have r4 := Bq.out.res.cell 4
      have rf4 := Bq.out.res.frozen 4
      simp at k0 k1 k2 k3 k4 r0 r1 r2 r3 r4
      have kl := Bq.out.box.lt
      have rl := Bq.out.res.lt
      have kn := Bq.out.ne
      skip
      refine any_two 0 4 (by kernel_rfl) rfl rfl ?_ ?_
      · go_wp2
        refine any_one 4 (by kernel_rfl) rfl ?_
        go_wp2
        refine any_one 5 (by kernel_rfl) rfl ?_
        go_wp2_with (fail)
        refine HC.out.mono ?_
        rintro e Wd ⟨⟨⟨t1, t2, t3, t4, tl⟩, ok⟩, hr1, hr2, v', rfl, ho', hg', hx'⟩
        have hS2 : ((DOt (s, c, s', c', ls) → DOk t1 t2 t3 t4 tl ∧ (t1, t2, t3, t4, tl) = evL (es.take (j + 1)) (s, c, s', c', ls)) ∧ (¬ DOt (s, c, s', c', ls) → (t1, t2, t3, t4, tl) = (s, c, s', c', ls))) := by
          refine ⟨fun h => ?_, fun h => ?_⟩
          · obtain ⟨e1, e2⟩ := HSE.out.1 h
            have e3 : (doE (s1, c1, s2, c2, l1) x y).1 = (t1, t2, t3, t4, tl) := by rw [← hr1 e1]
            have e4 : DOt (t1, t2, t3, t4, tl) := by rw [← e3]; exact dok_doE (d := (s1, c1, s2, c2, l1)) e1 x y
            exact ⟨e4, by rw [evL_take es j hje, ← e2, HXY.out]; exact e3.symm⟩
          · have e1 := HSE.out.2 h
            have e2 : ¬ DOk s1 c1 s2 c2 l1 := fun hd => h (by simp only [Prod.mk.injEq] at e1; obtain ⟨rfl, rfl, rfl, rfl, rfl⟩ := e1; exact hd)
            have e3 := hr2 e2
            rw [← e1]; exact (Prod.mk.inj e3).1
        have HS2 : Hid ((DOt (s, c, s', c', ls) → DOk t1 t2 t3 t4 tl ∧ (t1, t2, t3, t4, tl) = evL (es.take (j + 1)) (s, c, s', c', ls)) ∧ (¬ DOt (s, c, s', c', ls) → (t1, t2, t3, t4, tl) = (s, c, s', c', ls))) := hS2
        have ho : Ot 66 w.heap.size Wd v' tl := ho'.mono Bq.out.gr.size
        have hg : wq.grownBy Wd (Value.slice a1 n1 cap1).ownBlock := ⟨hg'.os, hg'.tape, hg'.output, hg'.size, fun i hi _ => hg'.block i hi (by simp [Value.ownBlock])⟩
        have hx : Nxt wq (.slice a1 n1 cap1) v' := fun k e => (hx' k e).elim (fun h => by simp [Value.ownBlock] at h) .inr
        clear hr1 hr2 hS2 ho' hg' hx' HSE HXY HL1
        obtain ⟨q1, -⟩ := Bq.out.after ho hg hx
        have hB3 := Bq.out.put ho hg hx t1 t2 t3 t4
        obtain ⟨a3, cap3, hv', -⟩ := own_form ho
        subst hv'
        have B3 : Hid (Bx w w.heap.size (.slice none 0 0) (st5 Wd w.heap.size t1 t2 t3 t4 (.slice a3 tl.length cap3)) w.heap.size (w.heap.size + 1) t1 t2 t3 t4 (.slice a3 tl.length cap3) tl) := hB3
        clear k0 kf0 r0 rf0 k1 kf1 r1 rf1 k2 kf2 r2 rf2 k3 kf3 r3 rf3 k4 kf4 r4 rf4 kl rl kn hd0 hd1
        have m0 := q1.cell 0
        have mf0 := q1.frozen 0
        have m1 := q1.cell 1
        have mf1 := q1.frozen 1
        have m2 := q1.cell 2
        have mf2 := q1.frozen 2
        have m3 := q1.cell 3
        have mf3 := q1.frozen 3
        have m4 := q1.cell 4
        have mf4 := q1.frozen 4
        simp at m0 m1 m2 m3 m4
        clear hB3 q1 ho hg hx Bq HC
        obtain ⟨W3', hW3⟩ : ∃ W, st5 Wd w.heap.size t1 t2 t3 t4 (.slice a3 tl.length cap3) = W := ⟨_, rfl⟩
        rw [hW3] at B3
        unfold st5 at hW3
        go_wp2
        refine any_pure [false, false, false, false, false, false, true, true, true, false] 1 rfl (by kernel_rfl) (fun _ _ _ _ _ h => h) ?_
        simp only [selT]
        repeat (go_big_quiet_step (fail))
        refine wpQuiet_nil ?_
        refine any_one 9 (by kernel_rfl) rfl ?_
        go_wp2
        refine any_end (by kernel_rfl) ?_
        clear m0 m1 m2 m3 m4 mf0 mf1 mf2 mf3 mf4 hW3 neT
        go_wp2
        go_roundw
        case rel => exact ⟨j + 1, by omega, by go_num, _, _, _, _, _, _, B3.out, HS2.out⟩
        case measure => simp [intOf]; omega
      · go_wp2
        refine any_one 0 (by kernel_rfl) rfl ?_
        go_wp2
        refine any_one 5 (by kernel_rfl) rfl ?_
        go_wp2_with (fail)
        refine HC.out.mono ?_
        rintro e Wd ⟨⟨⟨t1, t2, t3, t4, tl⟩, ok⟩, hr1, hr2, v', rfl, ho', hg', hx'⟩
        have hS2 : ((DOt (s, c, s', c', ls) → DOk t1 t2 t3 t4 tl ∧ (t1, t2, t3, t4, tl) = evL (es.take (j + 1)) (s, c, s', c', ls)) ∧ (¬ DOt (s, c, s', c', ls) → (t1, t2, t3, t4, tl) = (s, c, s', c', ls))) := by
          refine ⟨fun h => ?_, fun h => ?_⟩
          · obtain ⟨e1, e2⟩ := HSE.out.1 h
            have e3 : (doE (s1, c1, s2, c2, l1) x y).1 = (t1, t2, t3, t4, tl) := by rw [← hr1 e1]
            have e4 : DOt (t1, t2, t3, t4, tl) := by rw [← e3]; exact dok_doE (d := (s1, c1, s2, c2, l1)) e1 x y
            exact ⟨e4, by rw [evL_take es j hje, ← e2, HXY.out]; exact e3.symm⟩
          · have e1 := HSE.out.2 h
            have e2 : ¬ DOk s1 c1 s2 c2 l1 := fun hd => h (by simp only [Prod.mk.injEq] at e1; obtain ⟨rfl, rfl, rfl, rfl, rfl⟩ := e1; exact hd)
            have e3 := hr2 e2
            rw [← e1]; exact (Prod.mk.inj e3).1
        have HS2 : Hid ((DOt (s, c, s', c', ls) → DOk t1 t2 t3 t4 tl ∧ (t1, t2, t3, t4, tl) = evL (es.take (j + 1)) (s, c, s', c', ls)) ∧ (¬ DOt (s, c, s', c', ls) → (t1, t2, t3, t4, tl) = (s, c, s', c', ls))) := hS2
        have ho : Ot 66 w.heap.size Wd v' tl := ho'.mono Bq.out.gr.size
        have hg : wq.grownBy Wd (Value.slice a1 n1 cap1).ownBlock := ⟨hg'.os, hg'.tape, hg'.output, hg'.size, fun i hi _ => hg'.block i hi (by simp [Value.ownBlock])⟩
        have hx : Nxt wq (.slice a1 n1 cap1) v' := fun k e => (hx' k e).elim (fun h => by simp [Value.ownBlock] at h) .inr
        clear hr1 hr2 hS2 ho' hg' hx' HSE HXY HL1
        obtain ⟨q1, -⟩ := Bq.out.after ho hg hx
        have hB3 := Bq.out.put ho hg hx t1 t2 t3 t4
        obtain ⟨a3, cap3, hv', -⟩ := own_form ho
        subst hv'
        have B3 : Hid (Bx w w.heap.size (.slice none 0 0) (st5 Wd w.heap.size t1 t2 t3 t4 (.slice a3 tl.length cap3)) w.heap.size (w.heap.size + 1) t1 t2 t3 t4 (.slice a3 tl.length cap3) tl) := hB3
        clear k0 kf0 r0 rf0 k1 kf1 r1 rf1 k2 kf2 r2 rf2 k3 kf3 r3 rf3 k4 kf4 r4 rf4 kl rl kn hd0 hd1
        have m0 := q1.cell 0
        have mf0 := q1.frozen 0
        have m1 := q1.cell 1
        have mf1 := q1.frozen 1
        have m2 := q1.cell 2
        have mf2 := q1.frozen 2
        have m3 := q1.cell 3
        have mf3 := q1.frozen 3
        have m4 := q1.cell 4
        have mf4 := q1.frozen 4
        simp at m0 m1 m2 m3 m4
        clear hB3 q1 ho hg hx Bq HC
        obtain ⟨W3', hW3⟩ : ∃ W, st5 Wd w.heap.size t1 t2 t3 t4 (.slice a3 tl.length cap3) = W := ⟨_, rfl⟩
        rw [hW3] at B3
        unfold st5 at hW3
        go_wp2
        refine any_pure [false, false, false, false, false, false, true, true, true, false] 1 rfl (by kernel_rfl) (fun _ _ _ _ _ h => h) ?_
        simp only [selT]
        repeat (go_big_quiet_step (fail))
        refine wpQuiet_nil ?_
        refine any_one 9 (by kernel_rfl) rfl ?_
        go_wp2
        refine any_end (by kernel_rfl) ?_
        clear m0 m1 m2 m3 m4 mf0 mf1 mf2 mf3 mf4 hW3 neT
        go_wp2
        go_roundw
        case rel => exact ⟨j + 1, by omega, by go_num, _, _, _, _, _, _, B3.out, HS2.out⟩
        case measure => simp [intOf]; omega
    case neg =>
      obtain rfl : j = m := by omega
      have hjI : ((j : Int) < (j : Int)) = False := eq_false (by omega)
      have HF : Hid _ := B1.out.ret
      have hend : DOt (s, c, s', c', ls) → (s1, c1, s2, c2, l1) = evL es (s, c, s', c', ls) := fun h0 => by have h := (HSE.out.1 h0).2; rw [← HM.out, List.take_length] at h; exact h
      have HEND : Hid (DOt (s, c, s', c', ls) → (s1, c1, s2, c2, l1) = evL es (s, c, s', c', ls)) := hend
      clear hend B1 hea HE
      go_wp2
      exact bodyPost_ret (v := .agg (D5 s1 c1 s2 c2 (.slice a1 n1 cap1))) (results_cell_row rfl _ _ _ 31 _ (0, 0) _ rfl (HF.out _ rfl).1 Try.underlying31 rfl size31) rfl ⟨_, fun _ h => HEND.out h, fun _ h => HSE.out.2 h, fun h => absurd HBG.out (by omega), (HF.out _ rfl).2.2⟩
end Go.Proofs.Ytljejjfhlpjlfaa

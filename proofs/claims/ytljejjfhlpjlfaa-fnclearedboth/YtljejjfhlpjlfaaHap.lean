/- The program's happenTo; no condition. -/
import Derived.Test.YtljejjfhlpjlfaaWay
namespace Go.Proofs.Ytljejjfhlpjlfaa
open Go.RowKit Go.ChangeShapes Go.WideShapes Go.ChangeAt
set_option linter.unusedVariables false
set_option linter.unusedSimpArgs false
set_option maxRecDepth 8000

/-- an event at a right duo -/
def happenP (d : Dt) (k a : Int) : Dt × Bool := if k = 5 ∨ k = 6 ∨ k = 7 then wayP d k a else if (halfP k a).2 = true then tellP d (halfP k a).1 k (0, 0, 0) else (d, false)
theorem halfP_ok {k a hf : Int} (h : halfP k a = (hf, true)) : (hf = 0 ∨ hf = 1) ∧ (1 ≤ k ∧ k ≤ 4) := by
  unfold halfP at h
  split at h
  · simp at h; omega
  split at h
  · simp at h; omega
  split at h
  · simp at h; omega
  · simp at h
set_option maxHeartbeats 12800000 in
theorem happen_c (base : Nat) (s c s' c' : Int) (v : Value) (ls : Tri) (k a : Int) (w : World) (h : Ot 66 base w v ls) (hbs : base ≤ w.heap.size) (hd : DOk s c s' c' ls) :
    Calls Try.prog 38 #[.agg (D5 s c s' c' v), .agg (H2 k a)] w (DuR base w v (happenP (s, c, s', c', ls) k a).1 (happenP (s, c, s', c', ls) k a).2) := by
  obtain ⟨W0, hW0⟩ : ∃ W0, ((w.alloc (Obj.cells (D5 s c s' c' v) 31)).alloc (Obj.cells (H2 k a) 35)).alloc (Obj.cells (D5 0 0 0 0 (.slice none 0 0)) 31) = W0 := ⟨_, rfl⟩
  have hb0 : Bx w base v W0 w.heap.size (w.heap.size + 1 + 1) s c s' c' v ls := Bx.start h (by rw [← hW0]; exact (((Below.refl _ _).alloc (Nat.le_refl _) _).alloc (by simp) _).alloc (by simp; omega) _) (by rw [← hW0]; exact ((Blk.new _ _ _).alloc _).alloc _) (by rw [← hW0]; exact Blk.newAt _ (w.heap.size + 1 + 1) _ 31 (by simp)) (Nat.le_refl _) (by omega) (by omega)
  have hx0 : Blk W0 (w.heap.size + 1) (H2 k a) 35 := by rw [← hW0]; exact (Blk.newAt _ (w.heap.size + 1) _ 35 (by simp)).alloc _
  have x0 := hx0.cell 0
  have x1 := hx0.cell 1
  simp at x0 x1
  have HX : Hid (Blk W0 (w.heap.size + 1) (H2 k a) 35) := hx0
  have HD : Hid (DOk s c s' c' ls) := hd
  have HB : Hid (Bx w base v W0 w.heap.size (w.heap.size + 1 + 1) s c s' c' v ls) := hb0
  have HBS : Hid (base ≤ w.heap.size) := hbs
  have HBW : Hid (base ≤ W0.heap.size) := by have := hb0.gr.size; show base ≤ _; omega
  clear hd hbs hx0 hb0
  obtain ⟨av, cap, hv, -⟩ := own_form h
  obtain ⟨n, hn⟩ : ∃ n, ls.length = n := ⟨_, rfl⟩
  rw [hn] at hv
  subst hv
  have HN : Hid (ls.length = n) := hn
  clear h hn
  have c0 := HB.out.box.cell 0
  have cf0 := HB.out.box.frozen 0
  have c1 := HB.out.box.cell 1
  have cf1 := HB.out.box.frozen 1
  have c2 := HB.out.box.cell 2
  have cf2 := HB.out.box.frozen 2
  have c3 := HB.out.box.cell 3
  have cf3 := HB.out.box.frozen 3
  have c4 := HB.out.box.cell 4
  have cf4 := HB.out.box.frozen 4
  have r0 := HB.out.res.cell 0
  have rf0 := HB.out.res.frozen 0
  have r1 := HB.out.res.cell 1
  have rf1 := HB.out.res.frozen 1
  have r2 := HB.out.res.cell 2
  have rf2 := HB.out.res.frozen 2
  have r3 := HB.out.res.cell 3
  have rf3 := HB.out.res.frozen 3
  have r4 := HB.out.res.cell 4
  have rf4 := HB.out.res.frozen 4
  simp at c0 c1 c2 c3 c4 r0 r1 r2 r3 r4
  have cl := HB.out.box.lt
  have rl := HB.out.res.lt
  have cn := HB.out.ne
  skip
  by_cases v5 : k = 5
  · subst v5
    obtain ⟨⟨⟨t1, t2, t3, t4, tl⟩, ok⟩, hT⟩ : ∃ T, wayP (s, c, s', c', ls) 5 a = T := ⟨_, rfl⟩
    have HP : Hid (happenP (s, c, s', c', ls) 5 a = ((t1, t2, t3, t4, tl), ok)) := by show happenP _ _ _ = _; simp [happenP, hT]
    have hc := way_c base s c s' c' (.slice av n cap) ls 5 a W0 HB.out.own HBW.out HD.out (by simp)
    rw [hT] at hc
    have HC : Hid (Calls Try.prog 58 #[.agg (D5 s c s' c' (.slice av n cap)), .agg (H2 5 a)] W0 (DuR base W0 (.slice av n cap) (t1, t2, t3, t4, tl) ok)) := hc
    clear hc hT
    go_enter Try.func38, Try.ntmps38
    go_wp2_with (fail)
    refine HC.out.mono ?_
    rintro e Wd ⟨v', rfl, ho, hg, hx⟩
    obtain ⟨k2, HF'⟩ := HB.out.hand ho hg hx t1 t2 t3 t4
    have HF : Hid _ := HF'
    clear x0 x1 hW0 c0 c1 c2 c3 c4 cf0 cf1 cf2 cf3 cf4 r0 r1 r2 r3 r4 rf0 rf1 rf2 rf3 rf4 cl rl cn
    obtain ⟨a', cap', hv', -⟩ := own_form ho
    subst hv'
    have r0 := k2.cell 0
    have rf0 := k2.frozen 0
    have r1 := k2.cell 1
    have rf1 := k2.frozen 1
    have r2 := k2.cell 2
    have rf2 := k2.frozen 2
    have r3 := k2.cell 3
    have rf3 := k2.frozen 3
    have r4 := k2.cell 4
    have rf4 := k2.frozen 4
    simp at r0 r1 r2 r3 r4
    clear k2 ho hg hx HB HF'
    go_wp2
    rw [HP.out]
    exact bodyPost_ret (v := .tuple #[.agg (D5 t1 t2 t3 t4 (.slice a' tl.length cap')), .bool ok]) (results_D rfl _ _ _ _ _ _ _ _ _ rfl rfl (HF.out _ rfl).1) rfl ((HF.out _ rfl).2.1 ok)
  by_cases v6 : k = 6
  · subst v6
    obtain ⟨⟨⟨t1, t2, t3, t4, tl⟩, ok⟩, hT⟩ : ∃ T, wayP (s, c, s', c', ls) 6 a = T := ⟨_, rfl⟩
    have HP : Hid (happenP (s, c, s', c', ls) 6 a = ((t1, t2, t3, t4, tl), ok)) := by show happenP _ _ _ = _; simp [happenP, hT]
    have hc := way_c base s c s' c' (.slice av n cap) ls 6 a W0 HB.out.own HBW.out HD.out (by simp)
    rw [hT] at hc
    have HC : Hid (Calls Try.prog 58 #[.agg (D5 s c s' c' (.slice av n cap)), .agg (H2 6 a)] W0 (DuR base W0 (.slice av n cap) (t1, t2, t3, t4, tl) ok)) := hc
    clear hc hT
    go_enter Try.func38, Try.ntmps38
    go_wp2_with (fail)
    refine HC.out.mono ?_
    rintro e Wd ⟨v', rfl, ho, hg, hx⟩
    obtain ⟨k2, HF'⟩ := HB.out.hand ho hg hx t1 t2 t3 t4
    have HF : Hid _ := HF'
    clear x0 x1 hW0 c0 c1 c2 c3 c4 cf0 cf1 cf2 cf3 cf4 r0 r1 r2 r3 r4 rf0 rf1 rf2 rf3 rf4 cl rl cn
    obtain ⟨a', cap', hv', -⟩ := own_form ho
    subst hv'
    have r0 := k2.cell 0
    have rf0 := k2.frozen 0
    have r1 := k2.cell 1
    have rf1 := k2.frozen 1
    have r2 := k2.cell 2
    have rf2 := k2.frozen 2
    have r3 := k2.cell 3
    have rf3 := k2.frozen 3
    have r4 := k2.cell 4
    have rf4 := k2.frozen 4
    simp at r0 r1 r2 r3 r4
    clear k2 ho hg hx HB HF'
    go_wp2
    rw [HP.out]
    exact bodyPost_ret (v := .tuple #[.agg (D5 t1 t2 t3 t4 (.slice a' tl.length cap')), .bool ok]) (results_D rfl _ _ _ _ _ _ _ _ _ rfl rfl (HF.out _ rfl).1) rfl ((HF.out _ rfl).2.1 ok)
  by_cases v7 : k = 7
  · subst v7
    obtain ⟨⟨⟨t1, t2, t3, t4, tl⟩, ok⟩, hT⟩ : ∃ T, wayP (s, c, s', c', ls) 7 a = T := ⟨_, rfl⟩
    have HP : Hid (happenP (s, c, s', c', ls) 7 a = ((t1, t2, t3, t4, tl), ok)) := by show happenP _ _ _ = _; simp [happenP, hT]
    have hc := way_c base s c s' c' (.slice av n cap) ls 7 a W0 HB.out.own HBW.out HD.out (by simp)
    rw [hT] at hc
    have HC : Hid (Calls Try.prog 58 #[.agg (D5 s c s' c' (.slice av n cap)), .agg (H2 7 a)] W0 (DuR base W0 (.slice av n cap) (t1, t2, t3, t4, tl) ok)) := hc
    clear hc hT
    go_enter Try.func38, Try.ntmps38
    go_wp2_with (fail)
    refine HC.out.mono ?_
    rintro e Wd ⟨v', rfl, ho, hg, hx⟩
    obtain ⟨k2, HF'⟩ := HB.out.hand ho hg hx t1 t2 t3 t4
    have HF : Hid _ := HF'
    clear x0 x1 hW0 c0 c1 c2 c3 c4 cf0 cf1 cf2 cf3 cf4 r0 r1 r2 r3 r4 rf0 rf1 rf2 rf3 rf4 cl rl cn
    obtain ⟨a', cap', hv', -⟩ := own_form ho
    subst hv'
    have r0 := k2.cell 0
    have rf0 := k2.frozen 0
    have r1 := k2.cell 1
    have rf1 := k2.frozen 1
    have r2 := k2.cell 2
    have rf2 := k2.frozen 2
    have r3 := k2.cell 3
    have rf3 := k2.frozen 3
    have r4 := k2.cell 4
    have rf4 := k2.frozen 4
    simp at r0 r1 r2 r3 r4
    clear k2 ho hg hx HB HF'
    go_wp2
    rw [HP.out]
    exact bodyPost_ret (v := .tuple #[.agg (D5 t1 t2 t3 t4 (.slice a' tl.length cap')), .bool ok]) (results_D rfl _ _ _ _ _ _ _ _ _ rfl rfl (HF.out _ rfl).1) rfl ((HF.out _ rfl).2.1 ok)
  obtain ⟨⟨hf, ok0⟩, hH⟩ : ∃ T, halfP k a = T := ⟨_, rfl⟩
  have HHP : Hid (halfP k a = (hf, ok0)) := hH
  have HNK : Hid (¬ (k = 5 ∨ k = 6 ∨ k = 7)) := by show ¬ _; omega
  have w5 : (k == 5) = false := by simpa using v5
  have F5 : (k = 5) = False := eq_false v5
  have w6 : (k == 6) = false := by simpa using v6
  have F6 : (k = 6) = False := eq_false v6
  have w7 : (k == 7) = false := by simpa using v7
  have F7 : (k = 7) = False := eq_false v7
  clear v5 v6 v7
  have hc := halfOf_c k a W0
  rw [hH] at hc
  have HC : Hid (Calls Try.prog 59 #[.agg (H2 k a)] W0 fun e w' => e = .returned (.tuple #[.int .i64 hf, .bool ok0]) ∧ Below W0.heap.size W0 w') := hc
  clear hc hH
  go_enter Try.func38, Try.ntmps38
  go_wp2_with (fail)
  refine HC.out.mono ?_
  rintro e W1 ⟨rfl, b1⟩
  have B1 : Hid (Bx w base (.slice av n cap) W1 w.heap.size (w.heap.size + 1 + 1) s c s' c' (.slice av n cap) ls) := HB.out.below b1
  have HX1 : Hid (Blk W1 (w.heap.size + 1) (H2 k a) 35) := HX.out.below b1 HX.out.lt
  have HBW1 : Hid (base ≤ W1.heap.size) := by have := b1.size; have := HBW.out; show base ≤ _; omega
  clear x0 x1 hW0 HB HX HC b1 c0 c1 c2 c3 c4 cf0 cf1 cf2 cf3 cf4 r0 r1 r2 r3 r4 rf0 rf1 rf2 rf3 rf4 cl rl cn
  have x0 := HX1.out.cell 0
  have x1 := HX1.out.cell 1
  simp at x0 x1
  have c0 := B1.out.box.cell 0
  have cf0 := B1.out.box.frozen 0
  have c1 := B1.out.box.cell 1
  have cf1 := B1.out.box.frozen 1
  have c2 := B1.out.box.cell 2
  have cf2 := B1.out.box.frozen 2
  have c3 := B1.out.box.cell 3
  have cf3 := B1.out.box.frozen 3
  have c4 := B1.out.box.cell 4
  have cf4 := B1.out.box.frozen 4
  have r0 := B1.out.res.cell 0
  have rf0 := B1.out.res.frozen 0
  have r1 := B1.out.res.cell 1
  have rf1 := B1.out.res.frozen 1
  have r2 := B1.out.res.cell 2
  have rf2 := B1.out.res.frozen 2
  have r3 := B1.out.res.cell 3
  have rf3 := B1.out.res.frozen 3
  have r4 := B1.out.res.cell 4
  have rf4 := B1.out.res.frozen 4
  simp at c0 c1 c2 c3 c4 r0 r1 r2 r3 r4
  have cl := B1.out.box.lt
  have rl := B1.out.res.lt
  have cn := B1.out.ne
  skip
  cases ok0 with
  | false =>
    have HP : Hid (happenP (s, c, s', c', ls) k a = ((s, c, s', c', ls), false)) := by show happenP _ _ _ = _; unfold happenP; rw [if_neg HNK.out, HHP.out]; simp
    have HF : Hid _ := B1.out.ret
    clear B1
    go_wp2
    rw [HP.out]
    exact bodyPost_ret (v := .tuple #[.agg (D5 s c s' c' (.slice av n cap)), .bool false]) (results_D rfl _ _ _ _ _ _ _ _ _ rfl rfl (HF.out _ rfl).1) rfl ((HF.out _ rfl).2.1 false)
  | true =>
    obtain ⟨⟨⟨t1, t2, t3, t4, tl⟩, ok⟩, hT⟩ : ∃ T, tellP (s, c, s', c', ls) hf k (0, 0, 0) = T := ⟨_, rfl⟩
    have HP : Hid (happenP (s, c, s', c', ls) k a = ((t1, t2, t3, t4, tl), ok)) := by show happenP _ _ _ = _; unfold happenP; rw [if_neg HNK.out, HHP.out]; simpa using hT
    have HTC : Hid (Calls Try.prog 60 #[.agg (D5 s c s' c' (.slice av n cap)), .agg (C5 hf k 0 0 0)] W1 (DuR base W1 (.slice av n cap) (t1, t2, t3, t4, tl) ok)) := by
      obtain ⟨hp, hk⟩ := halfP_ok HHP.out
      have hl : ls.length ≤ 40 := HD.out.2.2.2.2.2.2.1
      have hc1 := HD.out.2.2.2.2.1
      have hc2 := HD.out.2.2.2.2.2.1
      rcases hp with rfl | rfl
      · have := tell0_c base s c s' c' (.slice av n cap) ls k 0 0 0 W1 B1.out.own HBW1.out hl (by omega) (by omega) (.inl ⟨rfl, rfl, hk⟩)
        rw [hT] at this; exact this
      · have := tell1_c base s c s' c' (.slice av n cap) ls k 0 0 0 W1 B1.out.own HBW1.out hl (by omega) (by omega) (.inl ⟨rfl, rfl, hk⟩)
        rw [hT] at this; exact this
    clear hT
    go_wp2_with (fail)
    refine HTC.out.mono ?_

    rintro e Wd ⟨v', rfl, ho, hg, hx⟩
    obtain ⟨k2, HF'⟩ := B1.out.hand ho hg hx t1 t2 t3 t4
    have HF : Hid _ := HF'
    clear x0 x1 c0 c1 c2 c3 c4 cf0 cf1 cf2 cf3 cf4 r0 r1 r2 r3 r4 rf0 rf1 rf2 rf3 rf4 cl rl cn
    obtain ⟨a', cap', hv', -⟩ := own_form ho
    subst hv'
    have r0 := k2.cell 0
    have rf0 := k2.frozen 0
    have r1 := k2.cell 1
    have rf1 := k2.frozen 1
    have r2 := k2.cell 2
    have rf2 := k2.frozen 2
    have r3 := k2.cell 3
    have rf3 := k2.frozen 3
    have r4 := k2.cell 4
    have rf4 := k2.frozen 4
    simp at r0 r1 r2 r3 r4
    clear k2 ho hg hx B1 HF'
    go_wp2
    rw [HP.out]
    exact bodyPost_ret (v := .tuple #[.agg (D5 t1 t2 t3 t4 (.slice a' tl.length cap')), .bool ok]) (results_D rfl _ _ _ _ _ _ _ _ _ rfl rfl (HF.out _ rfl).1) rfl ((HF.out _ rfl).2.1 ok)
end Go.Proofs.Ytljejjfhlpjlfaa

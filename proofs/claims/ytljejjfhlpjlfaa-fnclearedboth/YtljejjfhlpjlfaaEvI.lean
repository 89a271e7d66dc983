/- The program's slices.Clone and DoEvent; no condition. -/
import Derived.Test.YtljejjfhlpjlfaaHap
import Derived.Test.YtljejjfhlpjlfaaOkI
import Derived.Lib.SliceRun
namespace Go.Proofs.Ytljejjfhlpjlfaa
open Go.RowKit Go.ChangeShapes Go.WideShapes Go.ChangeAt
set_option linter.unusedVariables false
set_option linter.unusedSimpArgs false
set_option maxRecDepth 8000

theorem Ot.nil (base : Nat) (w : World) : Ot 66 base w (.slice none 0 0) [] := ⟨rfl, .inl ⟨rfl, rfl⟩⟩
theorem Bx.fresh {w W : World} {g r : Nat} {v : Value} {s c s' c' : Int} {ls : Tri} (k : Blk W g (D5 s c s' c' v) 31) (kr : Blk W r (D5 0 0 0 0 (.slice none 0 0)) 31) (ho : Ot 66 w.heap.size W v ls) (hb : Below w.heap.size w W) (hg : w.heap.size ≤ g) (hr : w.heap.size ≤ r) (hne : g ≠ r) (ng : v.ownBlock ≠ some g) (nr : v.ownBlock ≠ some r) : Bx w w.heap.size (.slice none 0 0) W g r s c s' c' v ls :=
  ⟨k, kr, ho, ⟨hb.os, hb.tape, hb.output, hb.size, fun j hj _ => hb.block j hj⟩, fun k e => .inr ((World.ownsRow.lt ho k e).1), hg, hr, hne, ng, nr, fun k e => by cases e⟩
set_option maxHeartbeats 3200000 in
theorem clone_c (v : Value) (ls : Tri) (w : World) (h : Rt w v ls) (hn : ls.length ≤ 1048576) :
    Calls Try.prog 37 #[v] w fun e w' => ∃ v', e = .returned v' ∧ Ot 66 w.heap.size w' v' ls ∧ Below w.heap.size w w' := by
  have HR0 : Hid (Rt w v ls) := h
  obtain ⟨a, cap, rfl, -, -, h3⟩ := h
  have HL : Hid (ls.length ≤ 1048576) := hn
  have q29 : ∀ (w : World) (a : Option Addr) (n c n' c' : Nat), (binOp .eql 29 (.slice a n c) (.slice none n' c')).run Try.prog w = .ok (.bool a.isNone) w := fun w a n c n' c' => Lib.run_eql_slice_nil w _ _ a n c n' c' Try.underlying29
  cases a with
  | none =>
    obtain rfl : ls = [] := by
      rcases h3 with h3 | ⟨b, off, h3, -⟩
      · exact h3
      · cases h3
    go_enter Try.func37, Try.ntmps37
    go_wp2
    go_ret
    exact ⟨_, rfl, Ot.nil _ _, Below.refl _ _⟩
  | some p =>
    have HO : Hid (Ot 66 w.heap.size (w.alloc (Obj.cells #[] 66)) (.slice (some ⟨w.heap.size, 0, none⟩) 0 0) []) := World.ownsRow_lit (e := 66) (size := 3) (base := w.heap.size) w #[] 0 (by omega) (by simp) (by simp)
    have HB3 : Hid (Below w.heap.size w (w.alloc (Obj.cells #[] 66))) := (Below.refl _ _).alloc (Nat.le_refl _) _
    have HR : Hid (Rt (w.alloc (Obj.cells #[] 66)) (.slice (some p) ls.length cap) ls) := HR0.out.below HB3.out
    obtain ⟨n, hn'⟩ : ∃ n, ls.length = n := ⟨_, rfl⟩
    have HN : Hid (ls.length = n) := hn'
    rw [hn'] at HR ⊢
    clear h3 hn HR0 hn'
    go_enter Try.func37, Try.ntmps37
    go_wp2_with (at_builtin; refine appTri rfl _ _ rfl w.heap.size _ [] rfl HO.out _ ls rfl HR.out (by have := HL.out; simp; omega) (by simp; try omega) ?_)
    intro v' w3 ho hg hb
    have HF : Hid (Ot 66 w.heap.size w3 v' ls ∧ Below w.heap.size w w3) := ⟨by simpa using ho, HB3.out.trans (grown_below hg (by simp) (fun k e => by simp [Value.ownBlock] at e; omega))⟩
    clear ho hg hb HO HR HB3
    go_wp2
    go_ret
    exact ⟨_, rfl, HF.out.1, HF.out.2⟩
def EvR (P : Dt → Int → Int → Dt × Bool) (d : Dt) (k a : Int) (w : World) (e : Ending) (w' : World) : Prop := ∃ r : Dt × Bool, (DOk d.1 d.2.1 d.2.2.1 d.2.2.2.1 d.2.2.2.2 → r = P d k a) ∧ (¬ DOk d.1 d.2.1 d.2.2.1 d.2.2.2.1 d.2.2.2.2 → r = (d, false)) ∧ DuR w.heap.size w (.slice none 0 0) r.1 r.2 e w'
set_option maxHeartbeats 12800000 in
theorem evI_c (s c s' c' : Int) (v : Value) (ls : Tri) (k a : Int) (w : World) (h : Rt w v ls) (hn : ls.length ≤ 1048576) :
    Calls Try.prog 12 #[.agg (D5 s c s' c' v), .agg (H2 k a)] w (EvR happenP (s, c, s', c', ls) k a w) := by
  obtain ⟨W0, hW0⟩ : ∃ W0, ((w.alloc (Obj.cells (D5 s c s' c' v) 31)).alloc (Obj.cells (H2 k a) 35)).alloc (Obj.cells (D5 0 0 0 0 (.slice none 0 0)) 31) = W0 := ⟨_, rfl⟩
  have kb : Below w.heap.size w W0 := by rw [← hW0]; exact (((Below.refl _ _).alloc (Nat.le_refl _) _).alloc (by simp) _).alloc (by simp; omega) _
  have k0 : Blk W0 w.heap.size (D5 s c s' c' v) 31 := by rw [← hW0]; exact ((Blk.new _ _ _).alloc _).alloc _
  have k1 : Blk W0 (w.heap.size + 1) (H2 k a) 35 := by rw [← hW0]; exact (Blk.newAt _ (w.heap.size + 1) _ 35 (by simp)).alloc _
  have k2 : Blk W0 (w.heap.size + 1 + 1) (D5 0 0 0 0 (.slice none 0 0)) 31 := by rw [← hW0]; exact Blk.newAt _ (w.heap.size + 1 + 1) _ 31 (by simp)
  have HZ : Hid (W0.heap.size = w.heap.size + 1 + 1 + 1) := by rw [← hW0]; simp [Hid]
  have HK : Hid ((Below w.heap.size w W0 ∧ Blk W0 w.heap.size (D5 s c s' c' v) 31) ∧ Blk W0 (w.heap.size + 1) (H2 k a) 35 ∧ Blk W0 (w.heap.size + 1 + 1) (D5 0 0 0 0 (.slice none 0 0)) 31) := ⟨⟨kb, k0⟩, k1, k2⟩
  have HC : Hid (Calls Try.prog 37 #[v] W0 fun e w' => ∃ v', e = .returned v' ∧ Ot 66 W0.heap.size w' v' ls ∧ Below W0.heap.size W0 w') := clone_c v ls W0 (h.below kb) hn
  obtain ⟨av, cap, rfl, -⟩ := h
  have c4 := k0.cell 4
  simp at c4
  clear k0 k1 k2 kb hn
  go_enter Try.func12, Try.ntmps12
  go_wp2_with (fail)
  refine HC.out.mono ?_
  rintro e w1 ⟨v', rfl, o1, b1⟩
  have q0 := HK.out.1.2.below b1 HK.out.1.2.lt
  have q1 := HK.out.2.1.below b1 HK.out.2.1.lt
  have q2 := HK.out.2.2.below b1 HK.out.2.2.lt
  have hvb : ∀ k, v'.ownBlock = some k → w.heap.size + 1 + 1 + 1 ≤ k := fun k e => by have := (World.ownsRow.lt o1 k e).1; have := HZ.out; omega
  have bb : Below w.heap.size w w1 := HK.out.1.1.trans (b1.mono (by have := HZ.out; omega))
  have ho2 : Ot 66 w.heap.size w1 v' ls := o1.mono (by have := HZ.out; omega)
  have hb2 : Bx w w.heap.size (.slice none 0 0) (w1.setCell ⟨w.heap.size, 4, none⟩ v') w.heap.size (w.heap.size + 1 + 1) s c s' c' v' ls :=
    Bx.fresh (q0.set 4 v') (q2.other _ _ (by simp; omega)) (ho2.keepB (grown_set _ _ _ _) (fun e => by have := hvb _ e; omega)) (bb.setCell (Nat.le_refl _) _) (Nat.le_refl _) (by omega) (by omega) (fun e => by have := hvb _ e; omega) (fun e => by have := hvb _ e; omega)
  have d4 := q0.cell 4
  have e4 := q0.frozen 4
  simp at d4
  obtain ⟨a', cap', hv', -⟩ := own_form o1
  obtain ⟨n, hn⟩ : ∃ n, ls.length = n := ⟨_, rfl⟩
  rw [hn] at hv'
  subst hv'
  have HB : Hid (Bx w w.heap.size (.slice none 0 0) (w1.setCell ⟨w.heap.size, 4, none⟩ (.slice a' n cap')) w.heap.size (w.heap.size + 1 + 1) s c s' c' (.slice a' n cap') ls) := hb2
  have HX : Hid (Blk (w1.setCell ⟨w.heap.size, 4, none⟩ (.slice a' n cap')) (w.heap.size + 1) (H2 k a) 35) := q1.other _ _ (by simp)
  obtain ⟨W2, hW2⟩ : ∃ W, w1.setCell ⟨w.heap.size, 4, none⟩ (.slice a' n cap') = W := ⟨_, rfl⟩
  rw [hW2] at HB HX
  clear q0 q1 q2 hvb bb ho2 hb2 o1 b1 HC HK c4 hW0 hn
  have x0 := HX.out.cell 0
  have x1 := HX.out.cell 1
  simp at x0 x1
  have c0 := HB.out.box.cell 0
  have cf0 := HB.out.box.frozen 0
  have c1 := HB.out.box.cell 1
  have cf1 := HB.out.box.frozen 1
  have c2 := HB.out.box.cell 2
  have cf2 := HB.out.box.frozen 2
  have c3 := HB.out.box.cell 3
  have cf3 := HB.out.box.frozen 3
  have c4 := HB.out.box.cell 4
  have cf4 := HB.out.box.frozen 4
  have r0 := HB.out.res.cell 0
  have rf0 := HB.out.res.frozen 0
  have r1 := HB.out.res.cell 1
  have rf1 := HB.out.res.frozen 1
  have r2 := HB.out.res.cell 2
  have rf2 := HB.out.res.frozen 2
  have r3 := HB.out.res.cell 3
  have rf3 := HB.out.res.frozen 3
  have r4 := HB.out.res.cell 4
  have rf4 := HB.out.res.frozen 4
  simp at c0 c1 c2 c3 c4 r0 r1 r2 r3 r4
  have cl := HB.out.box.lt
  have rl := HB.out.res.lt
  have cn := HB.out.ne
  skip
  go_wp2_with (fail)
  refine (okI_c s c s' c' _ ls W2 HB.out.own.rd).mono ?_
  rintro e W3 ⟨q, rfl, hq, b3⟩
  have B3 : Hid (Bx w w.heap.size (.slice none 0 0) W3 w.heap.size (w.heap.size + 1 + 1) s c s' c' (.slice a' n cap') ls) := HB.out.below b3
  have HX3 : Hid (Blk W3 (w.heap.size + 1) (H2 k a) 35) := HX.out.below b3 HX.out.lt
  clear x0 x1 hW2 HB HX b3 d4 e4 c0 c1 c2 c3 c4 cf0 cf1 cf2 cf3 cf4 r0 r1 r2 r3 r4 rf0 rf1 rf2 rf3 rf4 cl rl cn
  have x0 := HX3.out.cell 0
  have x1 := HX3.out.cell 1
  simp at x0 x1
  have c0 := B3.out.box.cell 0
  have cf0 := B3.out.box.frozen 0
  have c1 := B3.out.box.cell 1
  have cf1 := B3.out.box.frozen 1
  have c2 := B3.out.box.cell 2
  have cf2 := B3.out.box.frozen 2
  have c3 := B3.out.box.cell 3
  have cf3 := B3.out.box.frozen 3
  have c4 := B3.out.box.cell 4
  have cf4 := B3.out.box.frozen 4
  have r0 := B3.out.res.cell 0
  have rf0 := B3.out.res.frozen 0
  have r1 := B3.out.res.cell 1
  have rf1 := B3.out.res.frozen 1
  have r2 := B3.out.res.cell 2
  have rf2 := B3.out.res.frozen 2
  have r3 := B3.out.res.cell 3
  have rf3 := B3.out.res.frozen 3
  have r4 := B3.out.res.cell 4
  have rf4 := B3.out.res.frozen 4
  simp at c0 c1 c2 c3 c4 r0 r1 r2 r3 r4
  have cl := B3.out.box.lt
  have rl := B3.out.res.lt
  have cn := B3.out.ne
  skip
  cases q with
  | false =>
    have HND : Hid (¬ DOk s c s' c' ls) := fun h => by have := hq.2 h; cases this
    have HF : Hid _ := B3.out.ret
    clear B3 hq
    go_wp2
    exact bodyPost_ret (v := .tuple #[.agg (D5 s c s' c' (.slice a' n cap')), .bool false]) (results_D rfl _ _ _ _ _ _ _ _ _ rfl rfl (HF.out _ rfl).1) rfl ⟨((s, c, s', c', ls), false), fun h => absurd h HND.out, fun _ => rfl, (HF.out _ rfl).2.1 false⟩
  | true =>
    have HDK : Hid (DOk s c s' c' ls) := hq.1 rfl
    clear hq
    obtain ⟨⟨⟨t1, t2, t3, t4, tl⟩, ok⟩, hT⟩ : ∃ T, happenP (s, c, s', c', ls) k a = T := ⟨_, rfl⟩
    have hc := happen_c w.heap.size s c s' c' (.slice a' n cap') ls k a W3 B3.out.own B3.out.gr.size HDK.out
    rw [hT] at hc
    have HC : Hid (Calls Try.prog 38 #[.agg (D5 s c s' c' (.slice a' n cap')), .agg (H2 k a)] W3 (DuR w.heap.size W3 (.slice a' n cap') (t1, t2, t3, t4, tl) ok)) := hc
    have HT : Hid (happenP (s, c, s', c', ls) k a = ((t1, t2, t3, t4, tl), ok)) := hT
    clear hc hT
    go_wp2_with (fail)
    refine HC.out.mono ?_
    rintro e Wd ⟨v', rfl, ho, hg, hx⟩
    obtain ⟨k2, HF'⟩ := B3.out.hand ho hg hx t1 t2 t3 t4
    have HF : Hid _ := HF'
    clear x0 x1 c0 c1 c2 c3 c4 cf0 cf1 cf2 cf3 cf4 r0 r1 r2 r3 r4 rf0 rf1 rf2 rf3 rf4 cl rl cn
    obtain ⟨a2, cap2, hv', -⟩ := own_form ho
    subst hv'
    have r0 := k2.cell 0
    have rf0 := k2.frozen 0
    have r1 := k2.cell 1
    have rf1 := k2.frozen 1
    have r2 := k2.cell 2
    have rf2 := k2.frozen 2
    have r3 := k2.cell 3
    have rf3 := k2.frozen 3
    have r4 := k2.cell 4
    have rf4 := k2.frozen 4
    simp at r0 r1 r2 r3 r4
    clear k2 ho hg hx B3 HF' HC
    go_wp2
    exact bodyPost_ret (v := .tuple #[.agg (D5 t1 t2 t3 t4 (.slice a2 tl.length cap2)), .bool ok]) (results_D rfl _ _ _ _ _ _ _ _ _ rfl rfl (HF.out _ rfl).1) rfl ⟨_, fun _ => HT.out.symm, fun h => absurd HDK.out h, (HF.out _ rfl).2.1 ok⟩
end Go.Proofs.Ytljejjfhlpjlfaa

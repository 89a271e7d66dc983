/- The model's DoEvent; no condition. -/
import Derived.Test.YtljejjfhlpjlfaaMDo
import Derived.Test.YtljejjfhlpjlfaaOkM
namespace Go.Proofs.Ytljejjfhlpjlfaa
open Go.RowKit Go.ChangeShapes Go.WideShapes Go.ChangeAt
set_option linter.unusedVariables false
set_option linter.unusedSimpArgs false
set_option maxRecDepth 8000

/-- an event at a right duo, as the model tells it -/
def doE (d : Dt) (k i : Int) : Dt × Bool := if (doM d k i).2 = true ∧ (doM d k i).1.2.2.2.2.length ≤ 40 then ((doM d k i).1, true) else (d, false)
theorem en_keep {w W W' : World} {g r N : Nat} {v : Value} {s c s' c' : Int} {ls : Tri} {row : Option Nat} (h : Bx w w.heap.size (.slice none 0 0) W g r s c s' c' v ls) (hg : W.grownBy W' row) (hr : ∀ k, row = some k → N ≤ k) (hN : g < N ∧ r < N ∧ w.heap.size ≤ N ∧ ∀ k, v.ownBlock = some k → k < N) : Bx w w.heap.size (.slice none 0 0) W' g r s c s' c' v ls := by
  have n1 : row ≠ some g := fun e => by have := hr _ e; omega
  have n2 : row ≠ some r := fun e => by have := hr _ e; omega
  refine ⟨h.box.grown hg n1, h.res.grown hg n2, ?_, ?_, h.nx, h.hg, h.hr, h.ne, h.ng, h.nr, h.old⟩
  · cases hv : v.ownBlock with
    | none => exact World.ownsRow.kept h.own hg (.inl hv)
    | some k => exact World.ownsRow.kept h.own hg (.inr (by rw [hv]; intro e; have := hr k e.symm; have := hN.2.2.2 k hv; omega))
  · exact ⟨hg.os.trans h.gr.os, hg.tape.trans h.gr.tape, hg.output.trans h.gr.output, Nat.le_trans h.gr.size hg.size, fun j hj hne => (hg.block j (Nat.lt_of_lt_of_le hj h.gr.size) (fun e => by have := hr j e.symm; omega)).trans (h.gr.block j hj hne)⟩
theorem en_st {w u : World} {g r gn base : Nat} {v v3 : Value} {s c s' c' : Int} {ls tl : Tri} (B0 : Bx w w.heap.size (.slice none 0 0) u g r s c s' c' v ls) (hz : Blk u gn (D5 0 0 0 0 (.slice none 0 0)) 31) (ho : Ot 66 base u v3 tl) (hbw : w.heap.size ≤ base) (hrb : r < base) (h3 : v3.ownBlock ≠ some gn) (hv : v.ownBlock ≠ some gn) (h1 : gn ≠ g) (h2 : gn ≠ r) (hgw : w.heap.size ≤ gn) (t1 t2 t3 t4 : Int) :
    Bx w w.heap.size (.slice none 0 0) (st5 u gn t1 t2 t3 t4 v3) g r s c s' c' v ls ∧ Bx w w.heap.size (.slice none 0 0) (st5 u gn t1 t2 t3 t4 v3) gn r t1 t2 t3 t4 v3 tl := by
  have b1 := B0.other (grown_put5 u gn t1 t2 t3 t4 v3) hgw h1 h2 hv
  exact ⟨b1, put5 hz t1 t2 t3 t4 v3, b1.res, (ho.mono hbw).keepB (grown_put5 ..) h3, b1.gr, fun k e => .inr (by have := (World.ownsRow.lt ho k e).1; omega), hgw, b1.hr, h2, h3, fun e => by have := (World.ownsRow.lt ho _ e).1; omega, b1.old⟩
theorem en_al {w u : World} {g r base : Nat} {v v3 : Value} {s c s' c' : Int} {ls tl : Tri} (B0 : Bx w w.heap.size (.slice none 0 0) u g r s c s' c' v ls) (ho : Ot 66 base u v3 tl) (hbw : w.heap.size ≤ base) (hrb : r < base) (t1 t2 t3 t4 : Int) :
    Bx w w.heap.size (.slice none 0 0) (u.alloc (Obj.cells (D5 t1 t2 t3 t4 v3) 31)) g r s c s' c' v ls ∧ Bx w w.heap.size (.slice none 0 0) (u.alloc (Obj.cells (D5 t1 t2 t3 t4 v3) 31)) u.heap.size r t1 t2 t3 t4 v3 tl := by
  have b1 := B0.alloc (Obj.cells (D5 t1 t2 t3 t4 v3) 31)
  have hl : ∀ k, v3.ownBlock = some k → base ≤ k ∧ k < u.heap.size := fun k e => World.ownsRow.lt ho k e
  exact ⟨b1, Blk.new _ _ _, b1.res, (ho.mono hbw).below ((Below.refl _ _).alloc (Nat.le_refl _) _), b1.gr, fun k e => .inr (by have := hl k e; omega), B0.gr.size, b1.hr, (by have := B0.res.lt; omega), fun e => by have := hl _ e; omega, fun e => by have := hl _ e; omega, b1.old⟩
set_option maxHeartbeats 12800000 in
theorem evM_c (s c s' c' : Int) (v : Value) (ls : Tri) (k i : Int) (w : World) (h : Rt w v ls) (hn : ls.length ≤ 1048576) :
    Calls Try.prog 13 #[.agg (D5 s c s' c' v), .agg (H2 k i)] w (EvR doE (s, c, s', c', ls) k i w) := by
  obtain ⟨W0, hW0⟩ : ∃ W0, ((w.alloc (Obj.cells (D5 s c s' c' v) 31)).alloc (Obj.cells (H2 k i) 35)).alloc (Obj.cells (D5 0 0 0 0 (.slice none 0 0)) 31) = W0 := ⟨_, rfl⟩
  have kb : Below w.heap.size w W0 := by rw [← hW0]; exact (((Below.refl _ _).alloc (Nat.le_refl _) _).alloc (by simp) _).alloc (by simp; omega) _
  have k0 : Blk W0 w.heap.size (D5 s c s' c' v) 31 := by rw [← hW0]; exact ((Blk.new _ _ _).alloc _).alloc _
  have k1 : Blk W0 (w.heap.size + 1) (H2 k i) 35 := by rw [← hW0]; exact (Blk.newAt _ (w.heap.size + 1) _ 35 (by simp)).alloc _
  have k2 : Blk W0 (w.heap.size + 1 + 1) (D5 0 0 0 0 (.slice none 0 0)) 31 := by rw [← hW0]; exact Blk.newAt _ (w.heap.size + 1 + 1) _ 31 (by simp)
  have HZ : Hid (W0.heap.size = w.heap.size + 1 + 1 + 1) := by rw [← hW0]; simp [Hid]
  have HL : Hid (ls.length ≤ 1048576) := hn
  have HK : Hid ((Below w.heap.size w W0 ∧ Blk W0 w.heap.size (D5 s c s' c' v) 31) ∧ Blk W0 (w.heap.size + 1) (H2 k i) 35 ∧ Blk W0 (w.heap.size + 1 + 1) (D5 0 0 0 0 (.slice none 0 0)) 31) := ⟨⟨kb, k0⟩, k1, k2⟩
  have HC : Hid (Calls Try.prog 39 #[.agg (D5 s c s' c' v)] W0 (DuS W0.heap.size W0 (.slice none 0 0) (s, c, s', c', ls))) := l5Copy_c s c s' c' v ls W0 (h.below kb) (by omega)
  obtain ⟨av, cap, rfl, -⟩ := h
  have c0 := k0.cell 0
  have c1 := k0.cell 1
  have c2 := k0.cell 2
  have c3 := k0.cell 3
  have c4 := k0.cell 4
  simp at c0 c1 c2 c3 c4
  clear k0 k1 k2 kb hn
  go_enter Try.func13, Try.ntmps13
  go_wp2_with (fail)
  refine HC.out.mono ?_
  rintro e w1 ⟨v', rfl, o1, g1, x1⟩
  have b1 : Below W0.heap.size W0 w1 := ⟨g1.os, g1.tape, g1.output, g1.size, fun j hj => g1.block j hj (by simp [Value.ownBlock])⟩
  have q0 := HK.out.1.2.below b1 HK.out.1.2.lt
  have q1 := HK.out.2.1.below b1 HK.out.2.1.lt
  have q2 := HK.out.2.2.below b1 HK.out.2.2.lt
  have hvb : ∀ k, v'.ownBlock = some k → w.heap.size + 1 + 1 + 1 ≤ k := fun k e => by have := (World.ownsRow.lt o1 k e).1; have := HZ.out; omega
  have bb : Below w.heap.size w w1 := HK.out.1.1.trans (b1.mono (by have := HZ.out; omega))
  have ho2 : Ot 66 w.heap.size w1 v' ls := o1.mono (by have := HZ.out; omega)
  have hb2 : Bx w w.heap.size (.slice none 0 0) (st5 w1 w.heap.size s c s' c' v') w.heap.size (w.heap.size + 1 + 1) s c s' c' v' ls :=
    Bx.fresh (put5 q0 s c s' c' v') (q2.grown (grown_put5 ..) (by intro e; have := Option.some.inj e; omega)) (ho2.keepB (grown_put5 ..) (fun e => by have := hvb _ e; omega)) (bb.trans (grown_below (grown_put5 ..) (by have := bb.size; omega) (fun k e => by cases e; exact Nat.le_refl _))) (Nat.le_refl _) (by omega) (by omega) (fun e => by have := hvb _ e; omega) (fun e => by have := hvb _ e; omega)
  have d0 := q0.cell 0
  have df0 := q0.frozen 0
  have d1 := q0.cell 1
  have df1 := q0.frozen 1
  have d2 := q0.cell 2
  have df2 := q0.frozen 2
  have d3 := q0.cell 3
  have df3 := q0.frozen 3
  have d4 := q0.cell 4
  have df4 := q0.frozen 4
  simp at d0 d1 d2 d3 d4
  obtain ⟨a', cap', hv', -⟩ := own_form o1
  obtain ⟨n, hn⟩ : ∃ n, ls.length = n := ⟨_, rfl⟩
  have HN : Hid (ls.length = n) := hn
  simp only at hv'
  rw [hn] at hv'
  subst hv'
  have HB : Hid (Bx w w.heap.size (.slice none 0 0) (st5 w1 w.heap.size s c s' c' (.slice a' n cap')) w.heap.size (w.heap.size + 1 + 1) s c s' c' (.slice a' n cap') ls) := hb2
  have HX : Hid (Blk (st5 w1 w.heap.size s c s' c' (.slice a' n cap')) (w.heap.size + 1) (H2 k i) 35) := q1.grown (grown_put5 ..) (by intro e; have := Option.some.inj e; omega)
  obtain ⟨W2, hW2⟩ : ∃ W, st5 w1 w.heap.size s c s' c' (.slice a' n cap') = W := ⟨_, rfl⟩
  rw [hW2] at HB HX
  unfold st5 at hW2
  clear q0 q1 q2 hvb bb ho2 hb2 o1 b1 g1 x1 HC HK c0 c1 c2 c3 c4 hW0 hn
  have c0 := HB.out.box.cell 0
  have cf0 := HB.out.box.frozen 0
  have c1 := HB.out.box.cell 1
  have cf1 := HB.out.box.frozen 1
  have c2 := HB.out.box.cell 2
  have cf2 := HB.out.box.frozen 2
  have c3 := HB.out.box.cell 3
  have cf3 := HB.out.box.frozen 3
  have c4 := HB.out.box.cell 4
  have cf4 := HB.out.box.frozen 4
  have r0 := HB.out.res.cell 0
  have rf0 := HB.out.res.frozen 0
  have r1 := HB.out.res.cell 1
  have rf1 := HB.out.res.frozen 1
  have r2 := HB.out.res.cell 2
  have rf2 := HB.out.res.frozen 2
  have r3 := HB.out.res.cell 3
  have rf3 := HB.out.res.frozen 3
  have r4 := HB.out.res.cell 4
  have rf4 := HB.out.res.frozen 4
  simp at c0 c1 c2 c3 c4 r0 r1 r2 r3 r4
  have cl := HB.out.box.lt
  have rl := HB.out.res.lt
  have cn := HB.out.ne
  skip
  go_wp2_with (fail)
  refine (okM_c s c s' c' _ ls W2 HB.out.own.rd).mono ?_
  rintro e W3 ⟨q, rfl, hq, b3⟩
  have B3 : Hid (Bx w w.heap.size (.slice none 0 0) W3 w.heap.size (w.heap.size + 1 + 1) s c s' c' (.slice a' n cap') ls) := HB.out.below b3
  have HX3 : Hid (Blk W3 (w.heap.size + 1) (H2 k i) 35) := HX.out.below b3 HX.out.lt
  clear hW2 HB HX b3 d0 d1 d2 d3 d4 df0 df1 df2 df3 df4 c0 c1 c2 c3 c4 cf0 cf1 cf2 cf3 cf4 r0 r1 r2 r3 r4 rf0 rf1 rf2 rf3 rf4 cl rl cn
  cases q with
  | false =>
    have HND : Hid (¬ DOk s c s' c' ls) := fun h => by have := hq.2 h; cases this
    have c0 := B3.out.box.cell 0
    have cf0 := B3.out.box.frozen 0
    have c1 := B3.out.box.cell 1
    have cf1 := B3.out.box.frozen 1
    have c2 := B3.out.box.cell 2
    have cf2 := B3.out.box.frozen 2
    have c3 := B3.out.box.cell 3
    have cf3 := B3.out.box.frozen 3
    have c4 := B3.out.box.cell 4
    have cf4 := B3.out.box.frozen 4
    have r0 := B3.out.res.cell 0
    have rf0 := B3.out.res.frozen 0
    have r1 := B3.out.res.cell 1
    have rf1 := B3.out.res.frozen 1
    have r2 := B3.out.res.cell 2
    have rf2 := B3.out.res.frozen 2
    have r3 := B3.out.res.cell 3
    have rf3 := B3.out.res.frozen 3
    have r4 := B3.out.res.cell 4
    have rf4 := B3.out.res.frozen 4
    simp at c0 c1 c2 c3 c4 r0 r1 r2 r3 r4
    have cl := B3.out.box.lt
    have rl := B3.out.res.lt
    have cn := B3.out.ne
    skip
    have HF : Hid _ := B3.out.ret
    clear B3 hq
    go_wp2
    exact bodyPost_ret (v := .tuple #[.agg (D5 s c s' c' (.slice a' n cap')), .bool false]) (results_D rfl _ _ _ _ _ _ _ _ _ rfl rfl (HF.out _ rfl).1) rfl ⟨((s, c, s', c', ls), false), fun h => absurd h HND.out, fun _ => rfl, (HF.out _ rfl).2.1 false⟩
  | true =>
  have HDK : Hid (DOk s c s' c' ls) := hq.1 rfl
  clear hq
  obtain ⟨⟨⟨t1, t2, t3, t4, tl⟩, ok⟩, hT⟩ : ∃ T, doM (s, c, s', c', ls) k i = T := ⟨_, rfl⟩
  have HT : Hid (doM (s, c, s', c', ls) k i = ((t1, t2, t3, t4, tl), ok)) := hT
  have HDO : Hid (∀ W base a2 cap2, Ot 66 base W (.slice a2 n cap2) ls → base ≤ W.heap.size → Calls Try.prog 40 #[.agg (D5 s c s' c' (.slice a2 n cap2)), .agg (H2 k i)] W (DuR base W (.slice a2 n cap2) (t1, t2, t3, t4, tl) ok)) := fun W base a2 cap2 h1 h2 => by
    have := doM_c base s c s' c' (.slice a2 n cap2) ls k i W h1 h2 HL.out HDK.out
    rw [HT.out] at this; exact this
  have HCP : Hid (∀ W, Rt W (.slice a' n cap') ls → Calls Try.prog 39 #[.agg (D5 s c s' c' (.slice a' n cap'))] W (DuS W.heap.size W (.slice none 0 0) (s, c, s', c', ls))) := fun W hW => l5Copy_c s c s' c' (.slice a' n cap') ls W hW (by have := HL.out; omega)
  clear hT
  have B0 : Hid (Bx w w.heap.size (.slice none 0 0) W3.drew w.heap.size (w.heap.size + 1 + 1) s c s' c' (.slice a' n cap') ls) := B3.out.below (Below.refl _ _).drew
  have HX0 : Hid (Blk W3.drew (w.heap.size + 1) (H2 k i) 35) := HX3.out.drew
  obtain ⟨S, hS⟩ : ∃ S : World → Prop, ∀ W, S W ↔ (Blk W w.heap.size (D5 s c s' c' (.slice a' n cap')) 31 ∧ Blk W (w.heap.size + 1) (H2 k i) 35) := ⟨_, fun _ => Iff.rfl⟩
  have HSI : Hid (∀ W, Blk W w.heap.size (D5 s c s' c' (.slice a' n cap')) 31 → Blk W (w.heap.size + 1) (H2 k i) 35 → S W) := fun W h1 h2 => (hS W).2 ⟨h1, h2⟩
  have HSD : Hid (S W3.drew) := (hS _).2 ⟨B0.out.box, HX0.out⟩
  have ne1 : Nonempty (At S) := ⟨⟨_, HSD.out⟩⟩
  have y0 : ∀ W : At S, W.wd.cell? ⟨w.heap.size, 0, none⟩ = some (.int .i64 s) := fun W => by rw [((hS _).1 W.ok).1.cell 0]; rfl
  have y1 : ∀ W : At S, W.wd.cell? ⟨w.heap.size, 1, none⟩ = some (.int .i64 c) := fun W => by rw [((hS _).1 W.ok).1.cell 1]; rfl
  have y2 : ∀ W : At S, W.wd.cell? ⟨w.heap.size, 2, none⟩ = some (.int .i64 s') := fun W => by rw [((hS _).1 W.ok).1.cell 2]; rfl
  have y3 : ∀ W : At S, W.wd.cell? ⟨w.heap.size, 3, none⟩ = some (.int .i64 c') := fun W => by rw [((hS _).1 W.ok).1.cell 3]; rfl
  have y4 : ∀ W : At S, W.wd.cell? ⟨w.heap.size, 4, none⟩ = some (.slice a' n cap') := fun W => by rw [((hS _).1 W.ok).1.cell 4]; rfl
  have x0 : ∀ W : At S, W.wd.cell? ⟨w.heap.size + 1, 0, none⟩ = some (.int .i64 k) := fun W => by rw [((hS _).1 W.ok).2.cell 0]; rfl
  have x1 : ∀ W : At S, W.wd.cell? ⟨w.heap.size + 1, 1, none⟩ = some (.int .i64 i) := fun W => by rw [((hS _).1 W.ok).2.cell 1]; rfl
  clear hS B3 HX3
  go_wp2
  refine region_anyS S (by kernel_rfl) ?_
  refine anyS_quiet [true, false, true, false, false, false, false, false, false, false] 8 rfl (by kernel_rfl) (fun _ _ _ _ _ h => h) HSD.out ?_
  simp only [selT]
  repeat (go_big_quiet_step (fail))
  refine wpQuiet_nil ?_
  clear y0 y1 y2 y3 y4 x0 x1 ne1
  obtain ⟨u0, hu0⟩ : ∃ W, W3.drew = W := ⟨_, rfl⟩
  rw [hu0] at B0 HX0 HSD ⊢
  clear hu0
  have HNN : Hid (w.heap.size < u0.heap.size ∧ w.heap.size + 1 + 1 < u0.heap.size ∧ w.heap.size ≤ u0.heap.size ∧ ∀ k, (Value.slice a' n cap').ownBlock = some k → k < u0.heap.size) := ⟨B0.out.box.lt, B0.out.res.lt, B0.out.gr.size, fun k e => (World.ownsRow.lt B0.out.own k e).2⟩
  refine anyS_two 1 7 (by kernel_rfl) rfl rfl ?_ ?_
  · go_wp2_with (fail)
    refine (HCP.out u0 B0.out.own.rd).mono ?_
    rintro e u1 ⟨v2, rfl, ou1, gu1, -⟩
    obtain ⟨a2, cap2, hv2, -⟩ := own_form ou1
    simp only at hv2
    rw [HN.out] at hv2
    subst hv2
    have blu1 : Below u0.heap.size u0 u1 := ⟨gu1.os, gu1.tape, gu1.output, gu1.size, fun j hj => gu1.block j hj (by simp [Value.ownBlock])⟩
    have Ou1 : Hid (Ot 66 u0.heap.size u1 (.slice a2 n cap2) ls) := ou1
    have Bu1 : Hid (Bx w w.heap.size (.slice none 0 0) u1 w.heap.size (w.heap.size + 1 + 1) s c s' c' (.slice a' n cap') ls) := B0.out.below blu1
    have Xu1 : Hid (Blk u1 (w.heap.size + 1) (H2 k i) 35) := HX0.out.below blu1 HX0.out.lt
    have Zu1 : Hid (u0.heap.size ≤ u1.heap.size) := blu1.size
    clear ou1 gu1 blu1
    go_wp2
    refine ⟨HSI.out _ Bu1.out.box Xu1.out, ?_⟩
    refine anyS_two 3 7 (by kernel_rfl) rfl rfl ?_ ?_
    · go_wp2_with (fail)
      refine (HDO.out u1 u0.heap.size a2 cap2 Ou1.out Zu1.out).mono ?_
      rintro e u2 ⟨v3, rfl, o3, g3, x3⟩
      have hrow : ∀ k, (Value.slice a2 n cap2).ownBlock = some k → u0.heap.size ≤ k := fun k e => (World.ownsRow.lt Ou1.out k e).1
      have B2 : Bx w w.heap.size (.slice none 0 0) u2 w.heap.size (w.heap.size + 1 + 1) s c s' c' (.slice a' n cap') ls := en_keep Bu1.out g3 hrow HNN.out
      have X2 : Blk u2 (w.heap.size + 1) (H2 k i) 35 := Xu1.out.grown g3 (fun e => by have := hrow _ e; have := HNN.out.2.1; omega)
      obtain ⟨a3, cap3, hv3, -⟩ := own_form o3
      simp only at hv3 o3
      subst hv3
      obtain ⟨e1, e2⟩ := en_al B2 o3 HNN.out.2.2.1 HNN.out.2.1 t1 t2 t3 t4
      have E1 : Hid (Bx w w.heap.size (.slice none 0 0) (u2.alloc (Obj.cells (D5 t1 t2 t3 t4 (.slice a3 tl.length cap3)) 31)) w.heap.size (w.heap.size + 1 + 1) s c s' c' (.slice a' n cap') ls) := e1
      have E2 : Hid (Bx w w.heap.size (.slice none 0 0) (u2.alloc (Obj.cells (D5 t1 t2 t3 t4 (.slice a3 tl.length cap3)) 31)) u2.heap.size (w.heap.size + 1 + 1) t1 t2 t3 t4 (.slice a3 tl.length cap3) tl) := e2
      have HS2 : Hid (S u2) := HSI.out _ B2.box X2
      have HSA : Hid (∀ o, S (u2.alloc o)) := fun o => HSI.out _ (B2.box.alloc o) (X2.alloc o)
      clear e1 e2 B2 X2 o3 g3 x3 hrow Bu1 Xu1 Ou1 HSI HDO HCP B0 HX0 HSD
      go_wp2
      refine ⟨HS2.out, ?_⟩
      refine anyS_quiet [false, false, false, false, true, true, true, false, false, false] 3 rfl (by kernel_rfl) (fun _ _ _ _ _ h => h) HS2.out ?_
      simp only [selT]
      have ne2 : Nonempty (At S) := ⟨⟨_, HS2.out⟩⟩
      repeat (go_big_quiet_step (fail))
      refine wpQuiet_nil ?_
      clear ne2
      refine anyS_one 7 (by kernel_rfl) rfl ?_
      go_wp2
      refine ⟨HSA.out _, ?_⟩
      refine anyS_one 8 (by kernel_rfl) rfl ?_
      go_wp2
      refine ⟨HSA.out _, ?_⟩
      refine anyS_one 9 (by kernel_rfl) rfl ?_
      go_wp2
      refine ⟨HSA.out _, ?_⟩
      refine anyS_end (by kernel_rfl) ?_
      obtain ⟨gn, hgn⟩ : ∃ g, u2.heap.size = g := ⟨_, rfl⟩
      obtain ⟨W5, hW5⟩ : ∃ W, u2.alloc (Obj.cells (D5 t1 t2 t3 t4 (.slice a3 tl.length cap3)) 31) = W := ⟨_, rfl⟩
      rw [hW5] at E1
      rw [hW5, hgn] at E2
      rw [hW5, hgn]
      clear hW5 hgn HS2 HSA
      have g0 := E2.out.box.cell 0
      have gf0 := E2.out.box.frozen 0
      have g1 := E2.out.box.cell 1
      have gf1 := E2.out.box.frozen 1
      have g2 := E2.out.box.cell 2
      have gf2 := E2.out.box.frozen 2
      have g3 := E2.out.box.cell 3
      have gf3 := E2.out.box.frozen 3
      have g4 := E2.out.box.cell 4
      have gf4 := E2.out.box.frozen 4
      have j0 := E2.out.res.cell 0
      have jf0 := E2.out.res.frozen 0
      have j1 := E2.out.res.cell 1
      have jf1 := E2.out.res.frozen 1
      have j2 := E2.out.res.cell 2
      have jf2 := E2.out.res.frozen 2
      have j3 := E2.out.res.cell 3
      have jf3 := E2.out.res.frozen 3
      have j4 := E2.out.res.cell 4
      have jf4 := E2.out.res.frozen 4
      simp at g0 g1 g2 g3 g4 j0 j1 j2 j3 j4
      have gl := E2.out.box.lt
      have jl := E2.out.res.lt
      have gn := E2.out.ne
      skip
      have c0 := E1.out.box.cell 0
      have cf0 := E1.out.box.frozen 0
      have c1 := E1.out.box.cell 1
      have cf1 := E1.out.box.frozen 1
      have c2 := E1.out.box.cell 2
      have cf2 := E1.out.box.frozen 2
      have c3 := E1.out.box.cell 3
      have cf3 := E1.out.box.frozen 3
      have c4 := E1.out.box.cell 4
      have cf4 := E1.out.box.frozen 4
      have r0 := E1.out.res.cell 0
      have rf0 := E1.out.res.frozen 0
      have r1 := E1.out.res.cell 1
      have rf1 := E1.out.res.frozen 1
      have r2 := E1.out.res.cell 2
      have rf2 := E1.out.res.frozen 2
      have r3 := E1.out.res.cell 3
      have rf3 := E1.out.res.frozen 3
      have r4 := E1.out.res.cell 4
      have rf4 := E1.out.res.frozen 4
      simp at c0 c1 c2 c3 c4 r0 r1 r2 r3 r4
      have cl := E1.out.box.lt
      have rl := E1.out.res.lt
      have cn := E1.out.ne
      skip
      by_cases hb : ok = true ∧ tl.length ≤ 40
      · obtain ⟨rfl, hlen⟩ := hb
        have HP : Hid (doE (s, c, s', c', ls) k i = ((t1, t2, t3, t4, tl), true)) := by show doE _ _ _ = _; simp only [doE]; rw [HT.out]; simp [hlen]
        have hli : ¬ ((40 : Int) < (tl.length : Int)) := by omega
        have HF : Hid _ := E2.out.ret
        clear E1 E2 hlen
        go_wp2
        exact bodyPost_ret (v := .tuple #[.agg (D5 t1 t2 t3 t4 (.slice a3 tl.length cap3)), .bool true]) (results_D rfl _ _ _ _ _ _ _ _ _ rfl rfl (HF.out _ rfl).1) rfl ⟨_, fun _ => HP.out.symm, fun h => absurd HDK.out h, (HF.out _ rfl).2.1 true⟩
      · have HP : Hid (doE (s, c, s', c', ls) k i = ((s, c, s', c', ls), false)) := by show doE _ _ _ = _; simp only [doE]; rw [HT.out, if_neg hb]
        have HF : Hid _ := E1.out.ret
        clear E1 E2
        cases ok with
        | false =>
          clear hb
          go_wp2
          exact bodyPost_ret (v := .tuple #[.agg (D5 s c s' c' (.slice a' n cap')), .bool false]) (results_D rfl _ _ _ _ _ _ _ _ _ rfl rfl (HF.out _ rfl).1) rfl ⟨_, fun _ => HP.out.symm, fun h => absurd HDK.out h, (HF.out _ rfl).2.1 false⟩
        | true =>
          have hli : (40 : Int) < (tl.length : Int) := by simp at hb; omega
          clear hb
          go_wp2
          exact bodyPost_ret (v := .tuple #[.agg (D5 s c s' c' (.slice a' n cap')), .bool false]) (results_D rfl _ _ _ _ _ _ _ _ _ rfl rfl (HF.out _ rfl).1) rfl ⟨_, fun _ => HP.out.symm, fun h => absurd HDK.out h, (HF.out _ rfl).2.1 false⟩
    · go_wp2
      refine ⟨HSI.out _ (Bu1.out.box.alloc _) (Xu1.out.alloc _), ?_⟩
      refine anyS_one 3 (by kernel_rfl) rfl ?_
      have OA : Hid (Ot 66 u0.heap.size (u1.alloc (Obj.cells (D5 0 0 0 0 (.slice none 0 0)) 31)) (.slice a2 n cap2) ls) := Ou1.out.below ((Below.refl _ _).alloc (Nat.le_refl _) _)
      go_wp2_with (fail)
      refine (HDO.out (u1.alloc (Obj.cells (D5 0 0 0 0 (.slice none 0 0)) 31)) u0.heap.size a2 cap2 OA.out (by have := Zu1.out; simp; omega)).mono ?_
      rintro e u2 ⟨v3, rfl, o3, g3, x3⟩
      have hrow : ∀ k, (Value.slice a2 n cap2).ownBlock = some k → u0.heap.size ≤ k := fun k e => (World.ownsRow.lt OA.out k e).1
      have B2 : Bx w w.heap.size (.slice none 0 0) u2 w.heap.size (w.heap.size + 1 + 1) s c s' c' (.slice a' n cap') ls := en_keep (Bu1.out.alloc _) g3 (fun k e => by have := hrow _ e; have := Zu1.out; omega) HNN.out
      have X2 : Blk u2 (w.heap.size + 1) (H2 k i) 35 := (Xu1.out.alloc _).grown g3 (fun e => by have := hrow _ e; have := HNN.out.2.1; have := Zu1.out; omega)
      have hz2 : Blk u2 u1.heap.size (D5 0 0 0 0 (.slice none 0 0)) 31 := (Blk.new u1 _ 31).grown g3 (fun e => by have := (World.ownsRow.lt Ou1.out _ e).2; omega)
      obtain ⟨a3, cap3, hv3, -⟩ := own_form o3
      simp only at hv3 o3
      subst hv3
      obtain ⟨e1, e2⟩ := en_st (gn := u1.heap.size) B2 hz2 o3 (by have := HNN.out.2.2.1; have := Zu1.out; omega) (by have := HNN.out.2.1; have := Zu1.out; omega) (fun e => by rcases x3 _ e with h1 | h1 <;> first | (have := (World.ownsRow.lt Ou1.out _ h1).2; omega) | (simp at h1; omega)) (fun e => by have := HNN.out.2.2.2 _ e; have := Zu1.out; omega) (by have := HNN.out.1; have := Zu1.out; omega) (by have := HNN.out.2.1; have := Zu1.out; omega) (by have := HNN.out.2.2.1; have := Zu1.out; omega) t1 t2 t3 t4
      have E1 : Hid (Bx w w.heap.size (.slice none 0 0) (st5 u2 u1.heap.size t1 t2 t3 t4 (.slice a3 tl.length cap3)) w.heap.size (w.heap.size + 1 + 1) s c s' c' (.slice a' n cap') ls) := e1
      have E2 : Hid (Bx w w.heap.size (.slice none 0 0) (st5 u2 u1.heap.size t1 t2 t3 t4 (.slice a3 tl.length cap3)) u1.heap.size (w.heap.size + 1 + 1) t1 t2 t3 t4 (.slice a3 tl.length cap3) tl) := e2
      have HS2 : Hid (S u2) := HSI.out _ B2.box X2
      have HSA : Hid (S (st5 u2 u1.heap.size t1 t2 t3 t4 (.slice a3 tl.length cap3))) := HSI.out _ e1.box (X2.grown (grown_put5 ..) (by intro e; have := Option.some.inj e; have := HNN.out.2.1; have := Zu1.out; omega))
      have z0 := hz2.cell 0
      have zf0 := hz2.frozen 0
      have z1 := hz2.cell 1
      have zf1 := hz2.frozen 1
      have z2 := hz2.cell 2
      have zf2 := hz2.frozen 2
      have z3 := hz2.cell 3
      have zf3 := hz2.frozen 3
      have z4 := hz2.cell 4
      have zf4 := hz2.frozen 4
      simp at z0 z1 z2 z3 z4
      clear e1 e2 B2 X2 o3 g3 x3 hrow hz2 Bu1 Xu1 Ou1 OA HSI HDO HCP B0 HX0 HSD
      go_wp2
      refine ⟨HS2.out, ?_⟩
      refine anyS_quiet [false, false, false, false, true, true, true, false, false, false] 2 rfl (by kernel_rfl) (fun _ _ _ _ _ h => h) HS2.out ?_
      simp only [selT]
      have ne2 : Nonempty (At S) := ⟨⟨_, HS2.out⟩⟩
      repeat (go_big_quiet_step (fail))
      refine wpQuiet_nil ?_
      clear ne2
      refine anyS_one 8 (by kernel_rfl) rfl ?_
      go_wp2
      refine ⟨HSA.out, ?_⟩
      refine anyS_one 9 (by kernel_rfl) rfl ?_
      go_wp2
      refine ⟨HSA.out, ?_⟩
      refine anyS_end (by kernel_rfl) ?_
      obtain ⟨gn, hgn⟩ : ∃ g, u1.heap.size = g := ⟨_, rfl⟩
      rw [hgn] at E1 E2 ⊢
      obtain ⟨W5, hW5⟩ : ∃ W, st5 u2 gn t1 t2 t3 t4 (.slice a3 tl.length cap3) = W := ⟨_, rfl⟩
      rw [hW5] at E1 E2
      unfold st5 at hW5
      rw [hW5]
      clear hW5 hgn HS2 HSA z0 z1 z2 z3 z4 zf0 zf1 zf2 zf3 zf4
      have g0 := E2.out.box.cell 0
      have gf0 := E2.out.box.frozen 0
      have g1 := E2.out.box.cell 1
      have gf1 := E2.out.box.frozen 1
      have g2 := E2.out.box.cell 2
      have gf2 := E2.out.box.frozen 2
      have g3 := E2.out.box.cell 3
      have gf3 := E2.out.box.frozen 3
      have g4 := E2.out.box.cell 4
      have gf4 := E2.out.box.frozen 4
      have j0 := E2.out.res.cell 0
      have jf0 := E2.out.res.frozen 0
      have j1 := E2.out.res.cell 1
      have jf1 := E2.out.res.frozen 1
      have j2 := E2.out.res.cell 2
      have jf2 := E2.out.res.frozen 2
      have j3 := E2.out.res.cell 3
      have jf3 := E2.out.res.frozen 3
      have j4 := E2.out.res.cell 4
      have jf4 := E2.out.res.frozen 4
      simp at g0 g1 g2 g3 g4 j0 j1 j2 j3 j4
      have gl := E2.out.box.lt
      have jl := E2.out.res.lt
      have gn := E2.out.ne
      skip
      have c0 := E1.out.box.cell 0
      have cf0 := E1.out.box.frozen 0
      have c1 := E1.out.box.cell 1
      have cf1 := E1.out.box.frozen 1
      have c2 := E1.out.box.cell 2
      have cf2 := E1.out.box.frozen 2
      have c3 := E1.out.box.cell 3
      have cf3 := E1.out.box.frozen 3
      have c4 := E1.out.box.cell 4
      have cf4 := E1.out.box.frozen 4
      have r0 := E1.out.res.cell 0
      have rf0 := E1.out.res.frozen 0
      have r1 := E1.out.res.cell 1
      have rf1 := E1.out.res.frozen 1
      have r2 := E1.out.res.cell 2
      have rf2 := E1.out.res.frozen 2
      have r3 := E1.out.res.cell 3
      have rf3 := E1.out.res.frozen 3
      have r4 := E1.out.res.cell 4
      have rf4 := E1.out.res.frozen 4
      simp at c0 c1 c2 c3 c4 r0 r1 r2 r3 r4
      have cl := E1.out.box.lt
      have rl := E1.out.res.lt
      have cn := E1.out.ne
      skip
      by_cases hb : ok = true ∧ tl.length ≤ 40
      · obtain ⟨rfl, hlen⟩ := hb
        have HP : Hid (doE (s, c, s', c', ls) k i = ((t1, t2, t3, t4, tl), true)) := by show doE _ _ _ = _; simp only [doE]; rw [HT.out]; simp [hlen]
        have hli : ¬ ((40 : Int) < (tl.length : Int)) := by omega
        have HF : Hid _ := E2.out.ret
        clear E1 E2 hlen
        go_wp2
        exact bodyPost_ret (v := .tuple #[.agg (D5 t1 t2 t3 t4 (.slice a3 tl.length cap3)), .bool true]) (results_D rfl _ _ _ _ _ _ _ _ _ rfl rfl (HF.out _ rfl).1) rfl ⟨_, fun _ => HP.out.symm, fun h => absurd HDK.out h, (HF.out _ rfl).2.1 true⟩
      · have HP : Hid (doE (s, c, s', c', ls) k i = ((s, c, s', c', ls), false)) := by show doE _ _ _ = _; simp only [doE]; rw [HT.out, if_neg hb]
        have HF : Hid _ := E1.out.ret
        clear E1 E2
        cases ok with
        | false =>
          clear hb
          go_wp2
          exact bodyPost_ret (v := .tuple #[.agg (D5 s c s' c' (.slice a' n cap')), .bool false]) (results_D rfl _ _ _ _ _ _ _ _ _ rfl rfl (HF.out _ rfl).1) rfl ⟨_, fun _ => HP.out.symm, fun h => absurd HDK.out h, (HF.out _ rfl).2.1 false⟩
        | true =>
          have hli : (40 : Int) < (tl.length : Int) := by simp at hb; omega
          clear hb
          go_wp2
          exact bodyPost_ret (v := .tuple #[.agg (D5 s c s' c' (.slice a' n cap')), .bool false]) (results_D rfl _ _ _ _ _ _ _ _ _ rfl rfl (HF.out _ rfl).1) rfl ⟨_, fun _ => HP.out.symm, fun h => absurd HDK.out h, (HF.out _ rfl).2.1 false⟩
  · go_wp2
    refine ⟨HSI.out _ (B0.out.box.alloc _) (HX0.out.alloc _), ?_⟩
    have BA : Hid (Bx w w.heap.size (.slice none 0 0) (u0.alloc (Obj.cells (D5 0 0 0 0 (.slice none 0 0)) 31)) w.heap.size (w.heap.size + 1 + 1) s c s' c' (.slice a' n cap') ls) := B0.out.alloc _
    have XA : Hid (Blk (u0.alloc (Obj.cells (D5 0 0 0 0 (.slice none 0 0)) 31)) (w.heap.size + 1) (H2 k i) 35) := HX0.out.alloc _
    have ZA : Hid (Blk (u0.alloc (Obj.cells (D5 0 0 0 0 (.slice none 0 0)) 31)) u0.heap.size (D5 0 0 0 0 (.slice none 0 0)) 31) := Blk.new _ _ _
    have ZS : Hid ((u0.alloc (Obj.cells (D5 0 0 0 0 (.slice none 0 0)) 31)).heap.size = u0.heap.size + 1) := by show _ = _; simp
    obtain ⟨ua, hua⟩ : ∃ W, (u0.alloc (Obj.cells (D5 0 0 0 0 (.slice none 0 0)) 31)) = W := ⟨_, rfl⟩
    rw [hua] at BA XA ZA ZS ⊢
    clear hua
    refine anyS_one 1 (by kernel_rfl) rfl ?_
    go_wp2_with (fail)
    refine (HCP.out ua BA.out.own.rd).mono ?_
    rintro e u1 ⟨v2, rfl, ou1, gu1, -⟩
    obtain ⟨a2, cap2, hv2, -⟩ := own_form ou1
    simp only at hv2
    rw [HN.out] at hv2
    subst hv2
    have blu1 : Below ua.heap.size ua u1 := ⟨gu1.os, gu1.tape, gu1.output, gu1.size, fun j hj => gu1.block j hj (by simp [Value.ownBlock])⟩
    have Ou1 : Hid (Ot 66 ua.heap.size u1 (.slice a2 n cap2) ls) := ou1
    have Bu1 : Hid (Bx w w.heap.size (.slice none 0 0) u1 w.heap.size (w.heap.size + 1 + 1) s c s' c' (.slice a' n cap') ls) := BA.out.below blu1
    have Xu1 : Hid (Blk u1 (w.heap.size + 1) (H2 k i) 35) := XA.out.below blu1 XA.out.lt
    have Zu1 : Hid (ua.heap.size ≤ u1.heap.size) := blu1.size
    have ZZ1 : Hid (Blk u1 u0.heap.size (D5 0 0 0 0 (.slice none 0 0)) 31) := ZA.out.below blu1 ZA.out.lt
    have ZZ2 : Hid (u0.heap.size + 1 ≤ u1.heap.size) := by have := Zu1.out; have := ZS.out; show _ ≤ _; omega
    have ZZ3 : Hid (Ot 66 (u0.heap.size + 1) u1 (.slice a2 n cap2) ls) := by have := Ou1.out; rw [ZS.out] at this; exact this
    clear ou1 gu1 blu1 Zu1 Ou1 ZA ZS BA XA
    go_wp2
    refine ⟨HSI.out _ Bu1.out.box Xu1.out, ?_⟩
    refine anyS_one 3 (by kernel_rfl) rfl ?_
    go_wp2_with (fail)
    refine (HDO.out u1 (u0.heap.size + 1) a2 cap2 ZZ3.out ZZ2.out).mono ?_
    rintro e u2 ⟨v3, rfl, o3, g3, x3⟩
    have hrow : ∀ k, (Value.slice a2 n cap2).ownBlock = some k → (u0.heap.size + 1) ≤ k := fun k e => (World.ownsRow.lt ZZ3.out k e).1
    have B2 : Bx w w.heap.size (.slice none 0 0) u2 w.heap.size (w.heap.size + 1 + 1) s c s' c' (.slice a' n cap') ls := en_keep (Bu1.out) g3 (fun k e => by have := hrow _ e; omega) HNN.out
    have X2 : Blk u2 (w.heap.size + 1) (H2 k i) 35 := (Xu1.out).grown g3 (fun e => by have := hrow _ e; have := HNN.out.2.1; omega)
    have hz2 : Blk u2 u0.heap.size (D5 0 0 0 0 (.slice none 0 0)) 31 := (ZZ1.out).grown g3 (fun e => by have := hrow _ e; omega)
    obtain ⟨a3, cap3, hv3, -⟩ := own_form o3
    simp only at hv3 o3
    subst hv3
    obtain ⟨e1, e2⟩ := en_st (gn := u0.heap.size) B2 hz2 o3 (by have := HNN.out.2.2.1; omega) (by have := HNN.out.2.1; omega) (fun e => by have := (World.ownsRow.lt o3 _ e).1; omega) (fun e => by have := HNN.out.2.2.2 _ e; omega) (by have := HNN.out.1; omega) (by have := HNN.out.2.1; omega) (by have := HNN.out.2.2.1; omega) t1 t2 t3 t4
    have E1 : Hid (Bx w w.heap.size (.slice none 0 0) (st5 u2 u0.heap.size t1 t2 t3 t4 (.slice a3 tl.length cap3)) w.heap.size (w.heap.size + 1 + 1) s c s' c' (.slice a' n cap') ls) := e1
    have E2 : Hid (Bx w w.heap.size (.slice none 0 0) (st5 u2 u0.heap.size t1 t2 t3 t4 (.slice a3 tl.length cap3)) u0.heap.size (w.heap.size + 1 + 1) t1 t2 t3 t4 (.slice a3 tl.length cap3) tl) := e2
    have HS2 : Hid (S u2) := HSI.out _ B2.box X2
    have HSA : Hid (S (st5 u2 u0.heap.size t1 t2 t3 t4 (.slice a3 tl.length cap3))) := HSI.out _ e1.box (X2.grown (grown_put5 ..) (by intro e; have := Option.some.inj e; have := HNN.out.2.1; omega))
    have z0 := hz2.cell 0
    have zf0 := hz2.frozen 0
    have z1 := hz2.cell 1
    have zf1 := hz2.frozen 1
    have z2 := hz2.cell 2
    have zf2 := hz2.frozen 2
    have z3 := hz2.cell 3
    have zf3 := hz2.frozen 3
    have z4 := hz2.cell 4
    have zf4 := hz2.frozen 4
    simp at z0 z1 z2 z3 z4
    clear e1 e2 B2 X2 o3 g3 x3 hrow hz2 Bu1 Xu1 ZZ1 ZZ2 ZZ3 HSI HDO HCP B0 HX0 HSD
    go_wp2
    refine ⟨HS2.out, ?_⟩
    refine anyS_quiet [false, false, false, false, true, true, true, false, false, false] 2 rfl (by kernel_rfl) (fun _ _ _ _ _ h => h) HS2.out ?_
    simp only [selT]
    have ne2 : Nonempty (At S) := ⟨⟨_, HS2.out⟩⟩
    repeat (go_big_quiet_step (fail))
    refine wpQuiet_nil ?_
    clear ne2
    refine anyS_one 8 (by kernel_rfl) rfl ?_
    go_wp2
    refine ⟨HSA.out, ?_⟩
    refine anyS_one 9 (by kernel_rfl) rfl ?_
    go_wp2
    refine ⟨HSA.out, ?_⟩
    refine anyS_end (by kernel_rfl) ?_
    obtain ⟨gn, hgn⟩ : ∃ g, u0.heap.size = g := ⟨_, rfl⟩
    rw [hgn] at E1 E2 ⊢
    obtain ⟨W5, hW5⟩ : ∃ W, st5 u2 gn t1 t2 t3 t4 (.slice a3 tl.length cap3) = W := ⟨_, rfl⟩
    rw [hW5] at E1 E2
    unfold st5 at hW5
    rw [hW5]
    clear hW5 hgn HS2 HSA z0 z1 z2 z3 z4 zf0 zf1 zf2 zf3 zf4
    have g0 := E2.out.box.cell 0
    have gf0 := E2.out.box.frozen 0
    have g1 := E2.out.box.cell 1
    have gf1 := E2.out.box.frozen 1
    have g2 := E2.out.box.cell 2
    have gf2 := E2.out.box.frozen 2
    have g3 := E2.out.box.cell 3
    have gf3 := E2.out.box.frozen 3
    have g4 := E2.out.box.cell 4
    have gf4 := E2.out.box.frozen 4
    have j0 := E2.out.res.cell 0
    have jf0 := E2.out.res.frozen 0
    have j1 := E2.out.res.cell 1
    have jf1 := E2.out.res.frozen 1
    have j2 := E2.out.res.cell 2
    have jf2 := E2.out.res.frozen 2
    have j3 := E2.out.res.cell 3
    have jf3 := E2.out.res.frozen 3
    have j4 := E2.out.res.cell 4
    have jf4 := E2.out.res.frozen 4
    simp at g0 g1 g2 g3 g4 j0 j1 j2 j3 j4
    have gl := E2.out.box.lt
    have jl := E2.out.res.lt
    have gn := E2.out.ne
    skip
    have c0 := E1.out.box.cell 0
    have cf0 := E1.out.box.frozen 0
    have c1 := E1.out.box.cell 1
    have cf1 := E1.out.box.frozen 1
    have c2 := E1.out.box.cell 2
    have cf2 := E1.out.box.frozen 2
    have c3 := E1.out.box.cell 3
    have cf3 := E1.out.box.frozen 3
    have c4 := E1.out.box.cell 4
    have cf4 := E1.out.box.frozen 4
    have r0 := E1.out.res.cell 0
    have rf0 := E1.out.res.frozen 0
    have r1 := E1.out.res.cell 1
    have rf1 := E1.out.res.frozen 1
    have r2 := E1.out.res.cell 2
    have rf2 := E1.out.res.frozen 2
    have r3 := E1.out.res.cell 3
    have rf3 := E1.out.res.frozen 3
    have r4 := E1.out.res.cell 4
    have rf4 := E1.out.res.frozen 4
    simp at c0 c1 c2 c3 c4 r0 r1 r2 r3 r4
    have cl := E1.out.box.lt
    have rl := E1.out.res.lt
    have cn := E1.out.ne
    skip
    by_cases hb : ok = true ∧ tl.length ≤ 40
    · obtain ⟨rfl, hlen⟩ := hb
      have HP : Hid (doE (s, c, s', c', ls) k i = ((t1, t2, t3, t4, tl), true)) := by show doE _ _ _ = _; simp only [doE]; rw [HT.out]; simp [hlen]
      have hli : ¬ ((40 : Int) < (tl.length : Int)) := by omega
      have HF : Hid _ := E2.out.ret
      clear E1 E2 hlen
      go_wp2
      exact bodyPost_ret (v := .tuple #[.agg (D5 t1 t2 t3 t4 (.slice a3 tl.length cap3)), .bool true]) (results_D rfl _ _ _ _ _ _ _ _ _ rfl rfl (HF.out _ rfl).1) rfl ⟨_, fun _ => HP.out.symm, fun h => absurd HDK.out h, (HF.out _ rfl).2.1 true⟩
    · have HP : Hid (doE (s, c, s', c', ls) k i = ((s, c, s', c', ls), false)) := by show doE _ _ _ = _; simp only [doE]; rw [HT.out, if_neg hb]
      have HF : Hid _ := E1.out.ret
      clear E1 E2
      cases ok with
      | false =>
        clear hb
        go_wp2
        exact bodyPost_ret (v := .tuple #[.agg (D5 s c s' c' (.slice a' n cap')), .bool false]) (results_D rfl _ _ _ _ _ _ _ _ _ rfl rfl (HF.out _ rfl).1) rfl ⟨_, fun _ => HP.out.symm, fun h => absurd HDK.out h, (HF.out _ rfl).2.1 false⟩
      | true =>
        have hli : (40 : Int) < (tl.length : Int) := by simp at hb; omega
        clear hb
        go_wp2
        exact bodyPost_ret (v := .tuple #[.agg (D5 s c s' c' (.slice a' n cap')), .bool false]) (results_D rfl _ _ _ _ _ _ _ _ _ rfl rfl (HF.out _ rfl).1) rfl ⟨_, fun _ => HP.out.symm, fun h => absurd HDK.out h, (HF.out _ rfl).2.1 false⟩
end Go.Proofs.Ytljejjfhlpjlfaa

/- The contract of the model's RunPanel; no condition but that nothing is too long; no condition. -/
import Derived.Test.YtcbeaimpmjljjaaRunM
import Derived.Test.YtcbeaimpmjljjaaDrawP
import Derived.Test.YtcbeaimpmjljjaaDLen
import Derived.Test.YtcbeaimpmjljjaaMark
namespace Go.Proofs.Ytcbeaimpmjljjaa
open Go.RowKit Go.ChangeShapes Go.WideShapes Go.ChangeAt
set_option linter.unusedVariables false
set_option linter.unusedSimpArgs false
set_option maxRecDepth 8000
/-- the slice v reads as the ops l -/
def Ro (w : World) (v : Value) (ls : List (Int × Int × Int)) : Prop :=
  ∃ a cap, v = .slice a ls.length cap ∧ ls.length ≤ cap ∧ cap ≤ maxLen ∧ (ls = [] ∨ ∃ b off, a = some ⟨b, off, none⟩ ∧ ∀ i (h : i < ls.length), w.cell? ⟨b, off + i * 3, none⟩ = some (.int .i64 ls[i].1) ∧ w.cell? ⟨b, off + i * 3 + 1, none⟩ = some (.int .i64 ls[i].2.1) ∧ w.cell? ⟨b, off + i * 3 + 2, none⟩ = some (.int .i64 ls[i].2.2))
theorem Ro.below {w w' : World} {v : Value} {ls : List (Int × Int × Int)} (h : Ro w v ls) (hb : Below w.heap.size w w') : Ro w' v ls := by
  obtain ⟨a, cap, rfl, h1, h2, h3⟩ := h
  refine ⟨a, cap, rfl, h1, h2, ?_⟩
  rcases h3 with h3 | ⟨b, off, rfl, h4⟩
  · exact .inl h3
  · refine .inr ⟨b, off, rfl, fun i hi => ?_⟩
    have hc := h4 i hi
    have hlt : b < w.heap.size := block_lt_of_cell hc.1
    exact ⟨(hb.cell hlt).trans hc.1, (hb.cell hlt).trans hc.2.1, (hb.cell hlt).trans hc.2.2⟩
theorem Oo.rd {base : Nat} {w : World} {v : Value} {ls : List (Int × Int × Int)} (h : Oo base w v ls) : Ro w v ls := by
  rcases h.2 with ⟨rfl, hn⟩ | ⟨b, cap, cur, rfl, hb, hg, hnc, hcm, hcs, ht⟩
  · exact ⟨none, 0, by rw [hn], by omega, by simp, .inl (List.eq_nil_of_length_eq_zero hn)⟩
  · refine ⟨_, cap, rfl, hnc, hcm, .inr ⟨b, 0, rfl, fun i hi => ?_⟩⟩
    have h0 := World.ownsRow.cellAt h (i * 3) (by omega)
    have h1 := World.ownsRow.cellAt h (i * 3 + 1) (by omega)
    have h2 := World.ownsRow.cellAt h (i * 3 + 2) (by omega)
    have hp := tr_at ls i hi
    rw [Nat.zero_add, h0, h1, h2]; exact hp
/-- a run at work: the panel's box, the result's, the panel, the answers so far -/
structure Rn (n : Int) (w W : World) (V K : Value) (cs : Calls2) (ks : List Int) : Prop where
  box : Blk W w.heap.size #[.int .i64 n, V] 26
  res : Blk W (w.heap.size + 1) #[.int .i64 0, .slice none 0 0] 26
  own : ∃ lo hi, w.heap.size + 3 ≤ lo ∧ hi ≤ W.heap.size ∧ OwCH lo hi W V cs ∧ ∀ k, K.ownBlock = some k → k < lo ∨ hi ≤ k
  cod : Ow .i64 3 (w.heap.size + 2) W K ks
  bel : Below w.heap.size w W
  size : w.heap.size + 3 ≤ W.heap.size
/-- what a run answers -/
def runA (n : Int) (cs : Calls2) (os : List (Int × Int × Int)) : Int × Calls2 × List Int := if 200 < os.length then (0, [], []) else (n, (runP n cs os).1, (runP n cs os).2)
def RunR (n : Int) (cs : Calls2) (os : List (Int × Int × Int)) (w : World) (e : Ending) (w' : World) : Prop :=
  ∃ v' k', e = .returned (.tuple #[.agg #[.int .i64 (runA n cs os).1, v'], k']) ∧ OwC w.heap.size w' v' (runA n cs os).2.1 ∧ Ow .i64 3 w.heap.size w' k' (runA n cs os).2.2 ∧ Below w.heap.size w w'
/-- one op of a run, in whatever order its parts are done -/
def JR (n : Int) (V : Value) (ov : Value) (j bo oo : Nat) (x y z : Int) (cs' : Calls2) (c : Int) (w0 : World) (U : Value → Value → Value → Value → Value → Value → Value → Value → Value → Value → Value → Act) (d : Nat → Bool) (A : Act) (W : World) : Prop :=
  ∃ (V' : Value) (lo hi : Nat) (u25 u26 u27 u28 u29 u30 u24 u31 u32 u8 u9 : Value), A = U u25 u26 u27 u28 u29 u30 u24 u31 u32 u8 u9 ∧ Below w0.heap.size w0 W ∧
    (d 0 = true → u25 = .agg #[.int .i64 n, V]) ∧ (d 1 = true → u26 = ov) ∧ (d 2 = true → u27 = .int .i64 j) ∧ (d 3 = true → u28 = .pointer (some ⟨bo, oo, none⟩)) ∧ (d 4 = true → u29 = .agg #[.int .i64 x, .int .i64 y, .int .i64 z]) ∧
    (d 5 = true → u30 = .tuple #[.agg #[.int .i64 n, V'], .int .i64 c] ∧ w0.heap.size ≤ lo ∧ hi ≤ W.heap.size ∧ OwCH lo hi W V' cs') ∧ (d 6 = true → d 5 = true ∧ u24 = .tuple #[.agg #[.int .i64 n, V'], .int .i64 c]) ∧
    (d 7 = true → d 6 = true ∧ u31 = .agg #[.int .i64 n, V']) ∧ (d 8 = true → d 6 = true ∧ u32 = .int .i64 c) ∧
    (d 9 = true → ∃ g8, u8 = .pointer (some ⟨g8, 0, none⟩) ∧ w0.heap.size ≤ g8 ∧ g8 < W.heap.size ∧ (d 5 = true → g8 < lo ∨ hi ≤ g8) ∧ (d 10 = false → Blk W g8 #[.int .i64 0, .slice none 0 0] 26) ∧ (d 10 = true → Blk W g8 #[.int .i64 n, V'] 26)) ∧
    (d 10 = true → d 9 = true ∧ d 7 = true) ∧ (d 11 = true → d 8 = true ∧ u9 = .int .i64 c)
theorem OwCH.slice {lo hi : Nat} {w : World} {v : Value} {cs : Calls2} (h : OwCH lo hi w v cs) : v.oneCell' = true ∧ ∃ a n c, v = .slice a n c := by
  obtain ⟨lv, h1, h2, -⟩ := h
  obtain ⟨a, c, rfl, -⟩ := own_form h2
  exact ⟨rfl, _, _, _, rfl⟩
theorem OwCH.off1 {lo hi k : Nat} {w w' : World} {v : Value} {cs : Calls2} (h : OwCH lo hi w v cs) (hg : w.grownBy w' (some k)) (hk : k < lo ∨ hi ≤ k) : OwCH lo hi w' v cs :=
  h.mid (lo' := k) (hi' := k + 1) ⟨hg.os, hg.tape, hg.output, hg.size, fun j hj ho => hg.block j hj (by simp; omega)⟩ (by omega)
theorem alloc26 (w : World) : (Instr.alloc 26 true (.tuple #[])).run Try.prog w = .ok (.pointer (some ⟨w.heap.size, 0, none⟩)) (w.alloc (.cells #[.int .i64 0, .slice none 0 0] 26)) := by kernel_rfl
theorem wp_alloc26 {o : Oper} {a : Act} {w : World} {K : Act → World → Prop} {Q : Exit → Act → World → Prop} (ho : o.op = .alloc 26)
    (h : K (a.put o.dst (.pointer (some ⟨w.heap.size, 0, none⟩))) (w.alloc (.cells #[.int .i64 0, .slice none 0 0] 26))) : o.wp Try.prog a w K Q :=
  wp_val _ (by simp only [execOp, ho, Sem.run_bind, alloc26, Result.andThen_ok, Sem.run_pure]) h
theorem range3 {w : World} {b o : Nat} {x y z : Value} (h0 : w.cell? ⟨b, o, none⟩ = some x) (h1 : w.cell? ⟨b, o + 1, none⟩ = some y) (h2 : w.cell? ⟨b, o + 2, none⟩ = some z) : w.rangeAt b o [x, y, z] := by
  intro i v hv
  rcases i with _ | _ | _ | i
  · simp at hv; subst hv; simpa using h0
  · simp at hv; subst hv; simpa using h1
  · simp at hv; subst hv; simpa using h2
  · simp at hv
theorem idxOp (b off n cap j : Nat) (hj : j < n) (W : World) : (Instr.indexAt 27 (.slice (some ⟨b, off, none⟩) n cap) (.int .i64 (j : Int))).run Try.prog W = .ok (.pointer (some ⟨b, off + j * 3, none⟩)) W := by
  have hs : (sizeOf 35).run Try.prog W = .ok 3 W := by simp [sizeOf, typeInfo, Sem.run_bind]; cases hq : Try.prog.info? 35 with
    | none => have := size35; rw [hq] at this; cases this
    | some i => have := size35; rw [hq] at this; simp at this; simp [this]
  have hji : (j : Int) < (n : Int) := by omega
  have hn : ¬ n ≤ j := by omega
  have hadd : (⟨b, off, none⟩ : Addr).add (j * 3) = ⟨b, off + j * 3, none⟩ := by unfold Addr.add; split <;> simp_all
  simp [Instr.indexAt, asIntOf, run_underlying Try.underlying27, hji, hs, hadd, hn]
theorem idxOpWp {o : Oper} {a : Act} {w : World} {K : Act → World → Prop} {Q : Exit → Act → World → Prop} (x y : Operand) (ho : o.op = .indexAddr 27 x y) (b off n cap j : Nat) (hx : a.eval x = .slice (some ⟨b, off, none⟩) n cap) (hy : a.eval y = .int .i64 (j : Int)) (hj : j < n)
    (h : K (a.put o.dst (.pointer (some ⟨b, off + j * 3, none⟩))) w) : o.wp Try.prog a w K Q :=
  wp_val _ (by simp only [execOp, ho, hx, hy, Sem.run_bind, idxOp b off n cap j hj, Result.andThen_ok, Sem.run_pure]) h
theorem World.ownsRow.lower {w : World} {base base' : Nat} {e : TypeId} {sz : Nat} {v : Value} {n : Nat} {xs : List Value} (h : w.ownsRow base e sz v n xs) (hb : base' ≤ base) : w.ownsRow base' e sz v n xs := by
  refine ⟨h.1, ?_⟩
  rcases h.2 with h2 | ⟨b, cap, cur, hv, hg, r⟩
  · exact .inl h2
  · exact .inr ⟨b, cap, cur, hv, by omega, r⟩
theorem OwC.nil (base : Nat) (w : World) : OwC base w (.slice none 0 0) [] := ⟨[], rfl, World.ownsRow_nil _ _ _ _, fun i h => absurd h (by simp)⟩
theorem appIg {ops : Array Oper} {rest : List Oper} {o : Oper} {a : Act} {w : World} {Q : Exit → Act → World → Prop} (hgd : o.guard = none) (s x : Operand)
    (ho : o.op = .call { callee := .builtin .append, args := #[s, x], argTypes := #[31, 31] }) (base : Nat) (v : Value) (zs : List Int) (hs : a.eval s = v) (hown : Ow .i64 3 base w v zs)
    (g : Nat) (z : Int) (hx : a.eval x = .slice (some ⟨g, 0, none⟩) 1 1) (hc : w.cell? ⟨g, 0, none⟩ = some (.int .i64 z)) (hl : zs.length ≤ 1099511627776) (hbase : base ≤ w.heap.size)
    (h : ∀ v' w', Ow .i64 3 base w' v' (zs ++ [z]) → w.grownBy w' v.ownBlock → (v'.ownBlock = v.ownBlock ∨ v'.ownBlock = some w.heap.size) → wpList Try.prog ops Q rest (a.put o.dst v') w') : wpList Try.prog ops Q (o :: rest) a w := by
  obtain ⟨i0, hi, hz0, hz1, hz2⟩ := info_parts toIInfo
  refine wpList_append_own_at w hgd s x 31 ho base 3 i0 (.int .i64 0) 1 8 Try.underlying31 hi hz0 hz1 hz2 rfl (by decide) v zs.length (zs.map (Value.int .i64)) hs hown ⟨g, 0, none⟩ 1 1 [.int .i64 z] hx rfl ?_ ?_ ?_ ?_ hbase ?_
  · intro j u hj
    match j, hj with
    | 0, hj => simp at hj; subst hj; simpa [Addr.add] using hc
  · intro u hu; simp at hu; subst hu; rfl
  · unfold maxLen; omega
  · omega
  · intro v' w' h1 h2 h3 h4
    refine h v' w' ?_ h2 h4
    simpa [Ow] using h1
theorem Rn.below {n : Int} {w W W' : World} {V K : Value} {cs : Calls2} {ks : List Int} (h : Rn n w W V K cs ks) (hb : Below W.heap.size W W') : Rn n w W' V K cs ks := by
  obtain ⟨lo, hi, l1, l2, l3, l4⟩ := h.own
  exact ⟨h.box.below hb h.box.lt, h.res.below hb h.res.lt, ⟨lo, hi, l1, Nat.le_trans l2 hb.size, l3.below hb, l4⟩, h.cod.below hb, h.bel.trans (hb.mono h.bel.size), Nat.le_trans h.size hb.size⟩
theorem Rn.put {n : Int} {w W W' : World} {V K K' : Value} {cs : Calls2} {ks ks' : List Int} (h : Rn n w W V K cs ks) (hg : W.grownBy W' K.ownBlock) (hO : Ow .i64 3 (w.heap.size + 2) W' K' ks') (hK : K'.ownBlock = K.ownBlock ∨ K'.ownBlock = some W.heap.size) : Rn n w W' V K' cs ks' := by
  obtain ⟨lo, hi, l1, l2, l3, l4⟩ := h.own
  have hb : ∀ k, K.ownBlock = some k → w.heap.size + 2 ≤ k := fun k e => (World.ownsRow.lt h.cod k e).1
  refine ⟨(hg.block _ h.box.lt (fun e => by have := hb _ e.symm; omega)).trans h.box, (hg.block _ h.res.lt (fun e => by have := hb _ e.symm; omega)).trans h.res, ⟨lo, hi, l1, Nat.le_trans l2 hg.size, ?_, fun k e => ?_⟩, hO, h.bel.trans (grown_below hg h.bel.size (fun k e => by have := hb k e; omega)), Nat.le_trans h.size hg.size⟩
  · cases hk : K.ownBlock with
    | none =>
      rw [hk] at hg
      exact l3.below ⟨hg.os, hg.tape, hg.output, hg.size, fun j hj => hg.block j hj (by simp)⟩
    | some k => rw [hk] at hg; exact l3.off1 hg (l4 k hk)
  · rcases hK with hK | hK
    · exact l4 k (by rw [← hK]; exact e)
    · rw [hK] at e; cases e; exact .inr l2
set_option maxHeartbeats 6400000 in
theorem runM_c (n : Int) (v : Value) (cs : Calls2) (ov : Value) (os : List (Int × Int × Int)) (w : World) (h : RdC w v cs) (ho : Ro w ov os) (hl : Lim 4000000 4000000 cs) :
   Calls Try.prog 38 #[.agg #[.int .i64 n, v], ov] w (RunR n cs os w) := by
  obtain ⟨W0, hW0⟩ : ∃ W0, ((w.alloc (Obj.cells #[.int .i64 n, v] 26)).alloc (Obj.cells #[.int .i64 0, .slice none 0 0] 26)).alloc (Obj.cells #[] 3) = W0 := ⟨_, rfl⟩
  have kb : Below w.heap.size w W0 := hW0 ▸ (((Below.refl _ _).alloc (Nat.le_refl _) _).alloc (by simp) _).alloc (by simp; omega) _
  have k0 : Blk W0 w.heap.size #[.int .i64 n, v] 26 := hW0 ▸ ((Blk.newAt _ _ _ 26 rfl).alloc _).alloc _
  have k1 : Blk W0 (w.heap.size + 1) #[.int .i64 0, .slice none 0 0] 26 := hW0 ▸ (Blk.newAt _ _ _ 26 (by simp)).alloc _
  have s0 : W0.heap.size = w.heap.size + 3 := by rw [← hW0]; simp
  have o0 : Ow .i64 3 (w.heap.size + 2) W0 (.slice (some ⟨w.heap.size + 2, 0, none⟩) 0 0) [] := by
    have := World.ownsRow_lit (e := 3) (size := 1) (base := w.heap.size + 2) ((w.alloc (Obj.cells #[.int .i64 n, v] 26)).alloc (Obj.cells #[.int .i64 0, .slice none 0 0] 26)) #[] 0 (by simp) (by simp) (by simp)
    have e : ((w.alloc (Obj.cells #[.int .i64 n, v] 26)).alloc (Obj.cells #[.int .i64 0, .slice none 0 0] 26)).heap.size = w.heap.size + 2 := by simp
    rw [hW0, e] at this
    exact this
  have HC : Hid (Calls Try.prog 58 #[.agg #[.int .i64 n, v]] W0 fun e w' => ∃ v', e = .returned (.agg #[.int .i64 n, v']) ∧ OwC W0.heap.size w' v' cs ∧ Below W0.heap.size W0 w') := copy_c n v cs W0 (h.below kb) (by have := hl.1; omega) (fun c hc => by have := hl.2 c hc; omega)
  have HK : Hid (Blk W0 w.heap.size #[.int .i64 n, v] 26 ∧ Blk W0 (w.heap.size + 1) #[.int .i64 0, .slice none 0 0] 26 ∧ Ow .i64 3 (w.heap.size + 2) W0 (.slice (some ⟨w.heap.size + 2, 0, none⟩) 0 0) [] ∧ Below w.heap.size w W0) := ⟨k0, k1, o0, kb⟩
  have HW : Hid (((w.alloc (Obj.cells #[.int .i64 n, v] 26)).alloc (Obj.cells #[.int .i64 0, .slice none 0 0] 26)).alloc (Obj.cells #[] 3) = W0) := hW0
  have HO : Hid (Ro w ov os) := ho
  have HL : Hid (Lim 4000000 4000000 cs) := hl
  have HS0 : Hid (W0.heap.size = w.heap.size + 3) := s0
  obtain ⟨rv, hrl, ⟨av, cap, rfl, -⟩, -⟩ := h
  obtain ⟨ao, co, rfl, p1, p2, p3⟩ := ho
  unfold maxLen at p2
  have c0 := k0.cell 0
  have c1 := k0.cell 1
  have d0 := k1.cell 0
  have d1 := k1.cell 1
  have f0 := k1.frozen 0
  have f1 := k1.frozen 1
  simp at c0 c1 d0 d1
  clear hW0 kb k0 k1 o0 s0 hrl hl
  go_enter Try.func38, Try.ntmps38
  by_cases hbig : 200 < os.length
  · have hA : runA n cs os = (0, [], []) := by rw [runA, if_pos hbig]
    have HA : Hid (runA n cs os = (0, [], [])) := hA
    have hb2 : (200 : Int) < os.length := by omega
    have HKB : Hid (Blk W0 (w.heap.size + 1) #[.int .i64 0, .slice none 0 0] 26) := HK.out.2.1
    clear hA p3
    go_wp2
    rw [HW.out]
    exact bodyPost_ret (v := .tuple #[.agg #[.int .i64 0, .slice none 0 0], .slice (some ⟨w.heap.size + 1 + 1, 0, none⟩) 0 0]) (results_26 rfl _ _ _ _ _ _ rfl rfl HKB.out) rfl ⟨_, _, by rw [HA.out], by rw [HA.out]; exact OwC.nil _ _, by rw [HA.out]; exact World.ownsRow.lower HK.out.2.2.1 (by omega), HK.out.2.2.2⟩
  · have hb2 : ¬ ((200 : Int) < os.length) := by omega
    go_wp2_with (fail)
    rw [HW.out]
    refine HC.out.mono ?_
    rintro e w1 ⟨v1, rfl, o1, b1⟩
    rw [HS0.out] at o1
    obtain ⟨a1, n1, q1, hv1⟩ : ∃ a1 n1 q1, v1 = .slice a1 n1 q1 := by
      obtain ⟨lv, e1, e2, -⟩ := o1
      obtain ⟨a', c', e3, -⟩ := own_form e2
      exact ⟨a', _, c', e3⟩
    subst hv1
    have q0 := HK.out.1.below b1 HK.out.1.lt
    have r0 := HK.out.2.1.below b1 HK.out.2.1.lt
    have hs1 : w.heap.size + 3 ≤ w1.heap.size := by have := b1.size; rw [HS0.out] at this; exact this
    have D0 : Hid (∀ W2, (w1.setCell ⟨w.heap.size, 0, none⟩ (.int .i64 n)).setCell ⟨w.heap.size, 1, none⟩ (.slice a1 n1 q1) = W2 → Rn n w W2 (.slice a1 n1 q1) (.slice (some ⟨w.heap.size + 2, 0, none⟩) 0 0) (runP n cs (os.take 0)).1 (runP n cs (os.take 0)).2) := by
      rintro _ rfl
      have g := grown_trans (grown_set w1 w.heap.size 0 (.int .i64 n)) (grown_set _ w.heap.size 1 (.slice a1 n1 q1))
      refine ⟨?_, (g.block _ r0.lt (by simp)).trans r0, ⟨w.heap.size + 3, _, Nat.le_refl _, Nat.le_refl _, (((o1.far (grown_set _ _ _ _) (by omega)).far (grown_set _ _ _ _) (by omega))).hi, fun k e => ?_⟩, ?_, ?_, by simp; omega⟩
      · have := (q0.set 0 (.int .i64 n)).set 1 (.slice a1 n1 q1)
        simpa using this
      · left
        have : w.heap.size + 2 = k := by simpa [Value.ownBlock] using e
        omega
      · exact World.ownsRow.kept (HK.out.2.2.1.below b1) g (.inr (by simp [Value.ownBlock]))
      · exact (HK.out.2.2.2.trans (b1.mono HK.out.2.2.2.size)).trans (grown_below g (by omega) (fun k e => by cases e; exact Nat.le_refl _))
    clear c0 c1
    have c0 := q0.cell 0
    have c1 := q0.cell 1
    have e0 := q0.frozen 0
    have e1 := q0.frozen 1
    simp at c0 c1
    clear HC HK HW q0 r0 o1 b1 d0 d1 f0 f1
    go_wp2
    obtain ⟨W2, hW2⟩ : ∃ W2, (w1.setCell ⟨w.heap.size, 0, none⟩ (.int .i64 n)).setCell ⟨w.heap.size, 1, none⟩ (.slice a1 n1 q1) = W2 := ⟨_, rfl⟩
    rw [hW2]
    have D2 : Hid (Rn n w W2 (.slice a1 n1 q1) (.slice (some ⟨w.heap.size + 2, 0, none⟩) 0 0) (runP n cs (os.take 0)).1 (runP n cs (os.take 0)).2) := D0.out W2 hW2
    clear D0 hW2 c0 c1 e0 e1
    go_loopw [6, 7] (fun K i wr => ∃ (j : Nat) (V : Value), j ≤ os.length ∧ i = .int .i64 j ∧ Hid (Rn n w wr V K (runP n cs (os.take j)).1 (runP n cs (os.take j)).2)) (fun _ i _ => os.length - (intOf i).toNat)
    case atStart => exact ⟨0, _, Nat.zero_le _, rfl, D2.out⟩
    case round =>
      obtain ⟨j, V, hj, rfl, hD⟩ := hrel
      clear D2
      by_cases hlt : j < os.length
      case neg =>
        obtain rfl : j = os.length := by omega
        obtain ⟨K, rfl⟩ : ∃ K, K = u6 := ⟨_, rfl⟩
        have D3 : Rn n w wr V K (runP n cs os).1 (runP n cs os).2 := by have := hD.out; rw [List.take_length] at this; exact this
        have HA : Hid (runA n cs os = (n, (runP n cs os).1, (runP n cs os).2)) := by
          show runA n cs os = _
          rw [runA, if_neg hbig]
        obtain ⟨lo, hi, l1, l2, l3, l4⟩ := D3.own
        obtain ⟨-, a2, n2, c2, hV⟩ := l3.slice
        subst hV
        have c0 := D3.box.cell 0
        have c1 := D3.box.cell 1
        have d0 := D3.res.cell 0
        have d1 := D3.res.cell 1
        have f0 := D3.res.frozen 0
        have f1 := D3.res.frozen 1
        simp at c0 c1 d0 d1
        have hq0 : w.heap.size < wr.heap.size := D3.box.lt
        have hq1 : w.heap.size + 1 < wr.heap.size := D3.res.lt
        have FIN : Hid (∀ W4, (wr.setCell ⟨w.heap.size + 1, 0, none⟩ (.int .i64 n)).setCell ⟨w.heap.size + 1, 1, none⟩ (.slice a2 n2 c2) = W4 → Blk W4 (w.heap.size + 1) #[.int .i64 n, .slice a2 n2 c2] 26 ∧ RunR n cs os w (.returned (.tuple #[.agg #[.int .i64 n, .slice a2 n2 c2], K])) W4) := by
          rintro _ rfl
          have g := grown_trans (grown_set wr (w.heap.size + 1) 0 (.int .i64 n)) (grown_set _ (w.heap.size + 1) 1 (.slice a2 n2 c2))
          refine ⟨?_, _, _, by rw [HA.out], ?_, ?_, ?_⟩
          · have := (D3.res.set 0 (.int .i64 n)).set 1 (.slice a2 n2 c2)
            simpa using this
          · rw [HA.out]; exact (l3.off1 g (by omega)).ow.mono (by omega)
          · rw [HA.out]
            exact World.ownsRow.lower (World.ownsRow.kept D3.cod g (.inr (fun e => by have := (World.ownsRow.lt D3.cod _ e).1; omega))) (by omega)
          · exact D3.bel.trans (grown_below g (by omega) (fun k e => by cases e; omega))
        clear hD D3 l1 l2 l3 l4 p3
        go_wp2
        exact bodyPost_ret (v := .tuple #[.agg #[.int .i64 n, .slice a2 n2 c2], K]) (results_26 rfl _ _ _ _ _ _ rfl rfl (FIN.out _ rfl).1) rfl (FIN.out _ rfl).2
      case pos =>
      rcases p3 with p3 | ⟨b, off, rfl, p4⟩
      · subst p3; simp at hlt
      obtain ⟨K, rfl⟩ : ∃ K, K = u6 := ⟨_, rfl⟩
      have pc := p4 j hlt
      have pcb : b < w.heap.size := block_lt_of_cell pc.1
      obtain ⟨x, ex⟩ : ∃ x, os[j].1 = x := ⟨_, rfl⟩
      obtain ⟨y, ey⟩ : ∃ y, os[j].2.1 = y := ⟨_, rfl⟩
      obtain ⟨z, ez⟩ : ∃ z, os[j].2.2 = z := ⟨_, rfl⟩
      have HX : Hid (os[j] = (x, y, z)) := by rw [← ex, ← ey, ← ez]; rfl
      rw [ex, ey, ez] at pc
      obtain ⟨c1, hc1⟩ : ∃ c, (runP n cs (os.take j)).1 = c := ⟨_, rfl⟩
      obtain ⟨ks, hks⟩ : ∃ k, (runP n cs (os.take j)).2 = k := ⟨_, rfl⟩
      have hlim : Lim 4000000 4000000 c1 := hc1 ▸ runP_lim (by decide) (by decide) n _ _ HL.out
      have hstep : runP n cs (os.take (j + 1)) = ((doP n c1 (x, y, z)).1, ks ++ [(doP n c1 (x, y, z)).2]) := by
        rw [List.take_succ_eq_append_getElem hlt, runP_snoc, hc1, hks, HX.out]
      rw [hc1, hks] at hD
      obtain ⟨c2, hc2⟩ : ∃ c, (doP n c1 (x, y, z)).1 = c := ⟨_, rfl⟩
      obtain ⟨kd, hkd⟩ : ∃ c, (doP n c1 (x, y, z)).2 = c := ⟨_, rfl⟩
      rw [hc2, hkd] at hstep
      have HST : Hid (runP n cs (os.take (j + 1)) = (c2, ks ++ [kd])) := hstep
      obtain ⟨lo0, hi0, l1, l0, l2, l3⟩ := hD.out.own
      have HW3 : Hid (w.heap.size + 3 ≤ wr.heap.size) := hD.out.size
      obtain ⟨w0, hw0⟩ : ∃ w0, w0 = wr.drew := ⟨_, rfl⟩
      have I0 : Below wr.heap.size wr w0 := hw0 ▸ (Below.refl _ _).drew
      have hws : wr.heap.size ≤ w0.heap.size := I0.size
      have HBX : Hid (∀ W, Below w0.heap.size w0 W → W.rangeAt w.heap.size 0 [.int .i64 n, V]) := fun W hW => by
        have hb := (hD.out.box.below I0 hD.out.box.lt).below hW (by have := hD.out.box.lt; omega)
        exact range2 (by have := hb.cell 0; simpa using this) (by have := hb.cell 1; simpa using this)
      have HOX : Hid (∀ W, Below w0.heap.size w0 W → W.rangeAt b (off + j * 3) [.int .i64 x, .int .i64 y, .int .i64 z]) := fun W hW => by
        have hbw : Below w.heap.size w W := (hD.out.bel.trans (I0.mono hD.out.bel.size)).trans (hW.mono (by have := hD.out.bel.size; omega))
        exact range3 ((hbw.cell pcb).trans pc.1) ((hbw.cell pcb).trans pc.2.1) ((hbw.cell pcb).trans pc.2.2)
      have HDO : Hid (∀ W, Below w0.heap.size w0 W → Calls Try.prog 19 #[.agg #[.int .i64 n, V], .agg #[.int .i64 x, .int .i64 y, .int .i64 z]] W (PanR n W.heap.size W (c2, kd))) := fun W hW => by
        have hr : RdC W V c1 := ((l2.ow.below I0).below hW).rd
        have := doP_c n V c1 (x, y, z) W hr (by have := hlim.1; omega) (fun c hc => by have := hlim.2 c hc; omega)
        rw [show doP n c1 (x, y, z) = (c2, kd) from Prod.ext hc2 hkd] at this
        exact this
      clear ex ey ez pc p4 hstep hlim hc1 hks hc2 hkd
      go_wp2
      refine region_invB (by kernel_rfl) (by kernel_rfl) (JR n V (.slice (some ⟨b, off, none⟩) os.length co) j b (off + j * 3) x y z c2 kd w0 (fun x25 x26 x27 x28 x29 x30 x24 x31 x32 x8 x9 => ⟨#[.agg #[.int .i64 n, .slice av rv.length cap], .slice (some ⟨b, off, none⟩) os.length co, .pointer (some ⟨w.heap.size, 0, none⟩), undef, .pointer (some ⟨w.heap.size + 1, 0, none⟩), .slice none 0 0, K, .int .i64 j, x8, x9, .slice (some ⟨w.heap.size + 1 + 1, 0, none⟩) 0 0, .slice (some ⟨b, off, none⟩) os.length co, .int .i64 os.length, .bool false, undef, undef, .agg #[.int .i64 n, .slice av rv.length cap], .agg #[.int .i64 n, .slice a1 n1 q1], .int .i64 j, .slice (some ⟨b, off, none⟩) os.length co, .int .i64 os.length, .bool true, u22, u23, x24, x25, x26, x27, x28, x29, x30, x31, x32, u33, u34, u35, u36, u37, undef, undef], []⟩)) ⟨undef, 0, 0, _, _, _, _, _, _, _, _, _, _, _, rfl, hw0 ▸ Below.refl _ _, by simp, by simp, by simp, by simp, by simp, by simp, by simp, by simp, by simp, by simp, by simp, by simp⟩ ⟨?_, ?_, ?_, ?_, ?_, ?_, ?_, ?_, ?_, ?_, ?_, ?_, trivial⟩ ?_
      · rintro d A W ⟨V', lo, hi, x25, x26, x27, x28, x29, x30, x24, x31, x32, x8, x9, rfl, I, e0, e1, e2, e3, e4, e5, e6, e7, e8, e9, e10, e11⟩ hn hd
        exact wp_load_mid 26 _ rfl w.heap.size 0 rfl [.int .i64 n, V] _ (HBX.out W I) Try.underlying26 rfl size26' ⟨V', lo, hi, _, x26, x27, x28, x29, x30, x24, x31, x32, x8, x9, rfl, I, fun _ => rfl, e1, e2, e3, e4, e5, e6, e7, e8, e9, e10, e11⟩
      · rintro d A W ⟨V', lo, hi, x25, x26, x27, x28, x29, x30, x24, x31, x32, x8, x9, rfl, I, e0, e1, e2, e3, e4, e5, e6, e7, e8, e9, e10, e11⟩ hn hd
        exact wp_val _ rfl ⟨V', lo, hi, x25, _, x27, x28, x29, x30, x24, x31, x32, x8, x9, rfl, I, e0, fun _ => rfl, e2, e3, e4, e5, e6, e7, e8, e9, e10, e11⟩
      · rintro d A W ⟨V', lo, hi, x25, x26, x27, x28, x29, x30, x24, x31, x32, x8, x9, rfl, I, e0, e1, e2, e3, e4, e5, e6, e7, e8, e9, e10, e11⟩ hn hd
        exact wp_val _ rfl ⟨V', lo, hi, x25, x26, _, x28, x29, x30, x24, x31, x32, x8, x9, rfl, I, e0, e1, fun _ => rfl, e3, e4, e5, e6, e7, e8, e9, e10, e11⟩
      · rintro d A W ⟨V', lo, hi, x25, x26, x27, x28, x29, x30, x24, x31, x32, x8, x9, rfl, I, e0, e1, e2, e3, e4, e5, e6, e7, e8, e9, e10, e11⟩ hn hd
        obtain rfl := e1 (hd ⟨1, .data⟩ (by simp) rfl)
        obtain rfl := e2 (hd ⟨2, .data⟩ (by simp) rfl)
        exact idxOpWp _ _ rfl b off os.length co j rfl rfl hlt ⟨V', lo, hi, x25, _, _, _, x29, x30, x24, x31, x32, x8, x9, rfl, I, e0, e1, e2, fun _ => rfl, e4, e5, e6, e7, e8, e9, e10, e11⟩
      · rintro d A W ⟨V', lo, hi, x25, x26, x27, x28, x29, x30, x24, x31, x32, x8, x9, rfl, I, e0, e1, e2, e3, e4, e5, e6, e7, e8, e9, e10, e11⟩ hn hd
        obtain rfl := e3 (hd ⟨3, .data⟩ (by simp) rfl)
        exact wp_load_mid 35 _ rfl b (off + j * 3) rfl [.int .i64 x, .int .i64 y, .int .i64 z] _ (HOX.out W I) Try.underlying35 rfl size35 ⟨V', lo, hi, x25, x26, x27, _, _, x30, x24, x31, x32, x8, x9, rfl, I, e0, e1, e2, e3, fun _ => rfl, e5, e6, e7, e8, e9, e10, e11⟩
      · rintro d A W ⟨V', lo, hi, x25, x26, x27, x28, x29, x30, x24, x31, x32, x8, x9, rfl, I, e0, e1, e2, e3, e4, e5, e6, e7, e8, e9, e10, e11⟩ hn hd
        obtain rfl := e0 (hd ⟨0, .data⟩ (by simp) rfl)
        obtain rfl := e4 (hd ⟨4, .data⟩ (by simp) rfl)
        refine wp_call 19 #[.agg #[.int .i64 n, V], .agg #[.int .i64 x, .int .i64 y, .int .i64 z]] (by kernel_rfl) _ (HDO.out W I) ?_
        rintro e w' ⟨V2, rfl, o2, b2⟩
        have k6 : d 6 = false := by cases h : d 6 with | false => rfl | true => exact absurd (e6 h).1 (by rw [hn]; simp)
        have k7 : d 7 = false := by cases h : d 7 with | false => rfl | true => exact absurd (e7 h).1 (by rw [k6]; simp)
        have k8 : d 8 = false := by cases h : d 8 with | false => rfl | true => exact absurd (e8 h).1 (by rw [k6]; simp)
        have k10 : d 10 = false := by cases h : d 10 with | false => rfl | true => exact absurd (e10 h).2 (by rw [k7]; simp)
        have hle : w0.heap.size ≤ W.heap.size := I.size
        refine ⟨_, rfl, V2, W.heap.size, w'.heap.size, _, x26, x27, x28, _, _, x24, x31, x32, x8, x9, rfl, I.trans (b2.mono I.size), e0, e1, e2, e3, e4, fun _ => ⟨rfl, I.size, Nat.le_refl _, o2.hi⟩, fun h => absurd h (by show ¬ d 6 = true; rw [k6]; simp), fun h => absurd h (by show ¬ d 7 = true; rw [k7]; simp), fun h => absurd h (by show ¬ d 8 = true; rw [k8]; simp), fun h9 => ?_, fun h => absurd h (by show ¬ d 10 = true; rw [k10]; simp), fun h => absurd (e11 h).1 (by rw [k8]; simp)⟩
        obtain ⟨g8, r1, r2, r3, r4, r5, r6⟩ := e9 h9
        exact ⟨g8, r1, r2, Nat.lt_of_lt_of_le r3 b2.size, fun _ => .inl r3, fun h => (r5 h).below b2 r3, fun h => absurd h (by show ¬ d 10 = true; rw [k10]; simp)⟩
      · rintro d A W ⟨V', lo, hi, x25, x26, x27, x28, x29, x30, x24, x31, x32, x8, x9, rfl, I, e0, e1, e2, e3, e4, e5, e6, e7, e8, e9, e10, e11⟩ hn hd
        obtain ⟨rfl, q⟩ := e5 (hd ⟨5, .data⟩ (by simp) rfl)
        exact wp_val _ rfl ⟨V', lo, hi, x25, x26, x27, x28, x29, _, _, x31, x32, x8, x9, rfl, I, e0, e1, e2, e3, e4, fun _ => ⟨rfl, q⟩, fun _ => ⟨hd ⟨5, .data⟩ (by simp) rfl, rfl⟩, fun h => ⟨rfl, (e7 h).2⟩, fun h => ⟨rfl, (e8 h).2⟩, e9, e10, e11⟩
      · rintro d A W ⟨V', lo, hi, x25, x26, x27, x28, x29, x30, x24, x31, x32, x8, x9, rfl, I, e0, e1, e2, e3, e4, e5, e6, e7, e8, e9, e10, e11⟩ hn hd
        obtain ⟨k5, rfl⟩ := e6 (hd ⟨6, .data⟩ (by simp) rfl)
        exact wp_val _ rfl ⟨V', lo, hi, x25, x26, x27, x28, x29, x30, _, _, x32, x8, x9, rfl, I, e0, e1, e2, e3, e4, e5, e6, fun _ => ⟨hd ⟨6, .data⟩ (by simp) rfl, rfl⟩, e8, e9, fun h => ⟨(e10 h).1, rfl⟩, e11⟩
      · rintro d A W ⟨V', lo, hi, x25, x26, x27, x28, x29, x30, x24, x31, x32, x8, x9, rfl, I, e0, e1, e2, e3, e4, e5, e6, e7, e8, e9, e10, e11⟩ hn hd
        obtain ⟨k5, rfl⟩ := e6 (hd ⟨6, .data⟩ (by simp) rfl)
        exact wp_val _ rfl ⟨V', lo, hi, x25, x26, x27, x28, x29, x30, _, x31, _, x8, x9, rfl, I, e0, e1, e2, e3, e4, e5, e6, e7, fun _ => ⟨hd ⟨6, .data⟩ (by simp) rfl, rfl⟩, e9, e10, fun h => ⟨rfl, (e11 h).2⟩⟩
      · rintro d A W ⟨V', lo, hi, x25, x26, x27, x28, x29, x30, x24, x31, x32, x8, x9, rfl, I, e0, e1, e2, e3, e4, e5, e6, e7, e8, e9, e10, e11⟩ hn hd
        have k10 : d 10 = false := by cases h : d 10 with | false => rfl | true => exact absurd (e10 h).1 (by rw [hn]; simp)
        have ba : Below W.heap.size W (W.alloc (.cells #[.int .i64 0, .slice none 0 0] 26)) := (Below.refl _ _).alloc (Nat.le_refl _) _
        refine wp_alloc26 rfl ⟨V', lo, hi, x25, x26, x27, x28, x29, x30, x24, x31, x32, _, x9, rfl, I.trans (ba.mono I.size), e0, e1, e2, e3, e4, fun h => ⟨(e5 h).1, (e5 h).2.1, Nat.le_trans (e5 h).2.2.1 ba.size, (e5 h).2.2.2.below ba⟩, e6, e7, e8, fun _ => ⟨_, rfl, I.size, by simp, fun h => .inr (e5 h).2.2.1, fun _ => Blk.new _ _ _, fun h => absurd h (by show ¬ d 10 = true; rw [k10]; simp)⟩, fun h => absurd h (by show ¬ d 10 = true; rw [k10]; simp), e11⟩
      · rintro d A W ⟨V', lo, hi, x25, x26, x27, x28, x29, x30, x24, x31, x32, x8, x9, rfl, I, e0, e1, e2, e3, e4, e5, e6, e7, e8, e9, e10, e11⟩ hn hd
        obtain ⟨g8, rfl, r2, r3, r4, r5, r6⟩ := e9 (hd ⟨9, .data⟩ (by simp) rfl)
        obtain ⟨k6, rfl⟩ := e7 (hd ⟨7, .data⟩ (by simp) rfl)
        have k5 := (e6 k6).1
        obtain ⟨t1, t2, t3, t4⟩ := e5 k5
        have hb := r5 hn
        have h1c := t4.slice.1
        have hg : W.grownBy (W.setRow g8 #[.int .i64 n, V']) (some g8) := ⟨rfl, rfl, rfl, by simp, fun k _ hk => setRow_other W g8 k _ (fun e => hk (by simp [e]))⟩
        refine wp_store_row 26 _ _ rfl g8 #[.int .i64 n, V'] rfl rfl 26 _ hb size26' rfl (by simp [Value.oneCell', h1c]; exact h1c) ⟨V', lo, hi, x25, x26, x27, x28, x29, x30, x24, _, x32, _, x9, rfl, I.trans (grown_below hg I.size (fun k e => by cases e; exact r2)), e0, e1, e2, e3, e4, fun _ => ⟨t1, t2, by simpa using t3, t4.off1 hg (r4 k5)⟩, e6, fun _ => ⟨k6, rfl⟩, e8, fun _ => ⟨g8, rfl, r2, by simpa using r3, r4, (fun h => by cases h), fun _ => setRow_heap W g8 _ _ 26 _ hb⟩, fun _ => ⟨hd ⟨9, .data⟩ (by simp) rfl, hd ⟨7, .data⟩ (by simp) rfl⟩, e11⟩
      · rintro d A W ⟨V', lo, hi, x25, x26, x27, x28, x29, x30, x24, x31, x32, x8, x9, rfl, I, e0, e1, e2, e3, e4, e5, e6, e7, e8, e9, e10, e11⟩ hn hd
        obtain ⟨k6, rfl⟩ := e8 (hd ⟨8, .data⟩ (by simp) rfl)
        exact wp_val _ rfl ⟨V', lo, hi, x25, x26, x27, x28, x29, x30, x24, x31, _, x8, _, rfl, I, e0, e1, e2, e3, e4, e5, e6, e7, e8, e9, e10, fun _ => ⟨hd ⟨8, .data⟩ (by simp) rfl, rfl⟩⟩
      · rintro d A W ⟨V', lo, hi, x25, x26, x27, x28, x29, x30, x24, x31, x32, x8, x9, rfl, I, e0, e1, e2, e3, e4, e5, e6, e7, e8, e9, e10, e11⟩ hd
        obtain rfl := e0 (hd 0 (by decide))
        obtain rfl := e1 (hd 1 (by decide))
        obtain rfl := e2 (hd 2 (by decide))
        obtain rfl := e3 (hd 3 (by decide))
        obtain rfl := e4 (hd 4 (by decide))
        obtain ⟨rfl, t2, t3, t4⟩ := e5 (hd 5 (by decide))
        obtain ⟨-, rfl⟩ := e6 (hd 6 (by decide))
        obtain ⟨-, rfl⟩ := e7 (hd 7 (by decide))
        obtain ⟨-, rfl⟩ := e8 (hd 8 (by decide))
        obtain ⟨g8, rfl, r2, r3, r4, -, r6⟩ := e9 (hd 9 (by decide))
        obtain ⟨-, rfl⟩ := e11 (hd 11 (by decide))
        have r4 := r4 (hd 5 (by decide))
        have r6 := r6 (hd 10 (by decide))
        obtain ⟨-, a2, n2, c2', hV2⟩ := t4.slice
        subst hV2
        have IW : Below wr.heap.size wr W := I0.trans (I.mono hws)
        have k0 := hD.out.box.below IW hD.out.box.lt
        have k1 := hD.out.res.below IW hD.out.res.lt
        have hcod : Ow .i64 3 (w.heap.size + 2) W K ks := hD.out.cod.below IW
        have hKb : ∀ k, K.ownBlock = some k → k < wr.heap.size := fun k e => (World.ownsRow.lt hD.out.cod k e).2
        have hbel : Below w.heap.size w W := hD.out.bel.trans (IW.mono hD.out.bel.size)
        have hwr3 : w.heap.size + 1 < wr.heap.size := hD.out.res.lt
        have hW3 : w.heap.size + 3 ≤ wr.heap.size := HW3.out
        have hWs : wr.heap.size ≤ W.heap.size := IW.size
        have D3 : Hid (∀ W3, (W.setCell ⟨w.heap.size, 0, none⟩ (.int .i64 n)).setCell ⟨w.heap.size, 1, none⟩ (.slice a2 n2 c2') = W3 → Rn n w W3 (.slice a2 n2 c2') K c2 ks ∧ W3.heap.size = W.heap.size) := by
          rintro _ rfl
          have g := grown_trans (grown_set W w.heap.size 0 (.int .i64 n)) (grown_set _ w.heap.size 1 (.slice a2 n2 c2'))
          refine ⟨⟨?_, (g.block _ k1.lt (by simp)).trans k1, ⟨lo, hi, ?_, by simpa using t3, ?_, fun k e => ?_⟩, ?_, ?_, by simp; omega⟩, by simp⟩
          · have := (k0.set 0 (.int .i64 n)).set 1 (.slice a2 n2 c2')
            simpa using this
          · have h3 : w.heap.size + 3 ≤ wr.heap.size := HW3.out
            omega
          · exact (t4.off1 (grown_set _ _ _ _) (by omega)).off1 (grown_set _ _ _ _) (by omega)
          · left; have := hKb k e; omega
          · exact World.ownsRow.kept hcod g (.inr (fun e => by have := (World.ownsRow.lt hcod _ e).1; omega))
          · exact hbel.trans (grown_below g (by omega) (fun k e => by cases e; exact Nat.le_refl _))
        have v0 := r6.cell 0
        have v1 := r6.cell 1
        have b0 := k0.cell 0
        have b1' := k0.cell 1
        have bf0 := k0.frozen 0
        have bf1 := k0.frozen 1
        simp at v0 v1 b0 b1'
        clear e0 e1 e2 e3 e4 e5 e6 e7 e8 e9 e10 e11 hd t4 r6 k0 k1 hcod hbel IW HBX HOX HDO I0 hw0
        dsimp only
        obtain ⟨W3, hW3'⟩ : ∃ W3, (W.setCell ⟨w.heap.size, 0, none⟩ (.int .i64 n)).setCell ⟨w.heap.size, 1, none⟩ (.slice a2 n2 c2') = W3 := ⟨_, rfl⟩
        obtain ⟨D4, hs4⟩ := D3.out W3 hW3'
        have HS4 : Hid (W3.heap.size = W.heap.size) := hs4
        have D5 : Hid (Rn n w (W3.alloc (Obj.cells #[.int .i64 kd] 3)) (.slice a2 n2 c2') K c2 ks) := D4.below ((Below.refl _ _).alloc (Nat.le_refl _) _)
        have HCE : Hid ((W3.alloc (Obj.cells #[.int .i64 kd] 3)).cell? ⟨W3.heap.size, 0, none⟩ = some (.int .i64 kd)) := cell_box _ _ _ 0
        have hkl : ks.length ≤ 1099511627776 := by
          have := runP_len n cs (os.take (j + 1))
          rw [HST.out] at this
          simp at this
          omega
        have HBS : Hid (w.heap.size + 2 ≤ (W3.alloc (Obj.cells #[.int .i64 kd] 3)).heap.size) := by
          show _ ≤ _
          have := D5.out.size; omega
        have HW3' : Hid ((W.setCell ⟨w.heap.size, 0, none⟩ (.int .i64 n)).setCell ⟨w.heap.size, 1, none⟩ (.slice a2 n2 c2') = W3) := hW3'
        rw [HS4.out] at HCE
        clear D3 D4 hW3' hs4
        go_wp2_with (at_builtin; rw [HW3'.out]; refine appIg rfl _ _ rfl (w.heap.size + 2) _ ks rfl D5.out.cod W.heap.size kd rfl HCE.out hkl HBS.out ?_)
        intro v' w5 ho5 hg5 hb5
        have D6 : Hid (Rn n w w5 (.slice a2 n2 c2') v' (runP n cs (os.take (j + 1))).1 (runP n cs (os.take (j + 1))).2) := by
          show Rn _ _ _ _ _ _ _
          rw [HST.out]; exact D5.out.put hg5 ho5 (by simpa using hb5)
        clear ho5 hg5 hb5 D5 HCE HBS HST
        go_wp2
        go_roundw
        case rel => exact ⟨j + 1, .slice a2 n2 c2', by omega, by go_num, D6⟩
        case measure => simp [intOf]; omega
end Go.Proofs.Ytcbeaimpmjljjaa

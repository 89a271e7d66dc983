/- A caller given; no condition. -/
import Derived.Test.YtpmmgbinogokfaaBeg
namespace Go.Proofs.Ytpmmgbinogokfaa
open Go.RowKit Go.ChangeShapes Go.WideShapes Go.ChangeAt
set_option linter.unusedVariables false
set_option linter.unusedSimpArgs false
set_option maxRecDepth 8000
theorem int_news {w : World} {b off : Nat} {zs : List Int} (h4 : ∀ i, i < zs.length → w.cell? ⟨b, off + i, none⟩ = some (.int .i64 (zs.getD i 0))) :
    ∀ j u, (zs.map (Value.int .i64))[j]? = some u → w.cell? ((⟨b, off, none⟩ : Addr).add j) = some u := by
  intro j u hu
  have hj : j < zs.length := by have := (List.getElem?_eq_some_iff.1 hu).1; simpa using this
  rw [Addr.add_lit, h4 j hj]
  rw [List.getElem?_map, List.getElem?_eq_getElem hj] at hu
  simp [List.getElem?_eq_getElem hj] at hu ⊢
  exact hu
/-- ints put behind a row of one's own -/
theorem appIs {ops : Array Oper} {rest : List Oper} {o : Oper} {a : Act} {w : World} {Q : Exit → Act → World → Prop} (hgd : o.guard = none) (s x : Operand)
    (ho : o.op = .call { callee := .builtin .append, args := #[s, x], argTypes := #[32, 32] }) (base : Nat) (v : Value) (l0 : List Int) (hs : a.eval s = v) (hown : Ow .i64 3 base w v l0)
    (v2 : Value) (ls : List Int) (hx : a.eval x = v2) (hr : Rd .i64 w v2 ls) (hl : l0.length + ls.length ≤ 1099511627776) (hbase : base ≤ w.heap.size)
    (h : ∀ v' w', Ow .i64 3 base w' v' (l0 ++ ls) → w.grownBy w' v.ownBlock → (v'.ownBlock = v.ownBlock ∨ v'.ownBlock = some w.heap.size) → wpList Try.prog ops Q rest (a.put o.dst v') w') : wpList Try.prog ops Q (o :: rest) a w := by
  obtain ⟨i0, hi, hz0, hz1, hz2⟩ := info_parts toIInfo
  obtain ⟨av, cap, rfl, h1, h2, h3⟩ := hr
  by_cases hav : av = none
  · subst hav
    have hl0 : ls = [] := by
      rcases h3 with h3 | ⟨b, off, e, -⟩
      · exact h3
      · cases e
    subst hl0
    refine wpList_plain hgd fun K hK => ?_
    have hx' : a.eval x = .slice none 0 cap := hx
    obtain ⟨v', w', hr, q1, q2, q3⟩ : ∃ v' w', (Builtin.append_ #[32, 32] o.type #[v, .slice none 0 cap]).run Try.prog w = .ok v' w' ∧ Ow .i64 3 base w' v' (l0 ++ []) ∧ w.grownBy w' v.ownBlock ∧ (v'.ownBlock = v.ownBlock ∨ v'.ownBlock = some w.heap.size) := by
      refine ⟨v, w, ?_, by simpa using hown, grown_refl _ _, .inl rfl⟩
      rcases hown.2 with ⟨rfl, h0⟩ | ⟨g, cp, cur, rfl, _, _, hnc, _⟩
      · simp [Builtin.append_, run_underlying Try.underlying32, sizeOf, typeInfo, hi, Builtin.lenOf, Builtin.firstCells]
      · simp [Builtin.append_, run_underlying Try.underlying32, sizeOf, typeInfo, hi, Builtin.lenOf, Builtin.firstCells, hnc, storeCells]
    unfold Oper.wp execOp
    simp only [ho, resolve, invoke, builtin, Sem.run_bind, Sem.run_pure, Result.andThen_ok, List.map_toArray, List.map_cons, List.map_nil, hs, hx', hr]
    exact hK _ _ (h v' w' q1 q2 q3)
  · obtain ⟨ad, rfl⟩ : ∃ ad, av = some ad := by cases av with | none => exact absurd rfl hav | some ad => exact ⟨ad, rfl⟩
    refine wpList_append_own_at w hgd s x 32 ho base 3 i0 (.int .i64 0) 1 8 Try.underlying32 hi hz0 hz1 hz2 rfl (by decide) v l0.length (l0.map (Value.int .i64)) hs hown ad ls.length cap (ls.map (Value.int .i64)) hx (by simp) ?_ ?_ ?_ ?_ hbase ?_
    · rcases h3 with rfl | ⟨b, off, e, h4⟩
      · intro j u hu; simp at hu
      · cases e
        exact int_news h4
    · intro u hu; simp at hu; obtain ⟨q, -, rfl⟩ := hu; rfl
    · unfold maxLen; omega
    · omega
    · intro v' w' g1 g2 g3 g4
      refine h v' w' ?_ g2 g4
      rw [Ow, List.map_append, List.length_append]; exact g1
theorem Lv.pushCall {B : Nat} {W W' : World} {L : Nat} {now g : Int} {va vq vc v' : Value} {gs : List Ag} {qs : List Wt} {cs cs' : List Int} (h : Lv B W L now g va vq vc gs qs cs) (hg : W.grownBy W' vc.ownBlock) (ho : Ow .i64 3 B W' v' cs') (hv : v'.ownBlock = vc.ownBlock ∨ v'.ownBlock = some W.heap.size) :
    Lv B (W'.setCell ⟨L, 4, none⟩ v') L now g va vq v' gs qs cs' := by
  have hb : Blk W' L (L5 now va vq g vc) 83 := by rw [Blk, hg.block L h.blk.lt (Ne.symm h.nvc)]; exact h.blk
  have h1 : Og 3 agC 36 B W' va gs := World.ownsRow.kept h.ag hg (by
    cases hx : va.ownBlock with
    | none => exact .inl rfl
    | some k => exact .inr (fun e => by rcases h.nca with h2 | h2; rw [h2] at e; cases e; exact h2 (by rw [hx, e])))
  have h2 : Rg 4 wtC W' vq qs := h.qu.grown hg (by
    rcases h.ncq with h2 | h2 | h2
    · exact .inl h2
    · rw [h2]; cases vq.ownBlock <;> simp
    · exact .inr (.inr h2))
  have hL : v'.ownBlock ≠ some L := by
    rcases hv with e | e
    · rw [e]; exact h.nvc
    · rw [e]; simp; have := h.blk.lt; omega
  have hs := grown_set' W' L 4 v'
  refine ⟨hb.set 4 _, h.lb, World.ownsRow.kept h1 hs (.inr h.nva), h2.grown hs (by rcases h.nvq with h | h; exact .inl h; exact .inr (.inr h)), World.ownsRow.kept ho hs (.inr hL), h.nva, h.nvq, hL, h.naq, ?_, ?_⟩
  · rcases hv with e | e
    · rw [e]; exact h.nca
    · rw [e]; exact .inr fun e2 => by have := (h.ag.lt _ e2.symm).2; omega
  · rcases hv with e | e
    · rw [e]; exact h.ncq
    · rcases h.qu.blk wtC_len (by decide) with h3 | h3
      · exact .inl h3
      · exact .inr (.inr fun e2 => by rw [e] at e2; have := h3 _ e2; omega)
set_option maxHeartbeats 3200000 in
theorem could_c (B L P : Nat) (now g : Int) (va vq vc : Value) (gs : List Ag) (qs : List Wt) (cs : List Int) (q : Wt) (w : World) (h : Lv B w L now g va vq vc gs qs cs) (hs : SkOk gs) (hP : w.cell? ⟨P, 0, none⟩ = some (.pointer (some ⟨L, 0, none⟩))) :
   Calls Try.prog 84 #[.agg #[.int .i64 q.1, .int .i64 q.2.1, .int .i64 q.2.2.1, .int .i64 q.2.2.2], .pointer (some ⟨P, 0, none⟩)] w fun e w' => e = .returned (.bool (goB gs q)) ∧ Below w.heap.size w w' := by
  obtain ⟨W1, hW1⟩ : ∃ W1, w.alloc (Obj.cells #[.int .i64 q.1, .int .i64 q.2.1, .int .i64 q.2.2.1, .int .i64 q.2.2.2] 74) = W1 := ⟨_, rfl⟩
  have b1 : Below w.heap.size w W1 := hW1 ▸ (Below.refl _ _).alloc (Nat.le_refl _) _
  have k1 : Blk W1 w.heap.size #[.int .i64 q.1, .int .i64 q.2.1, .int .i64 q.2.2.1, .int .i64 q.2.2.2] 74 := hW1 ▸ Blk.new _ _ _
  have l1 := h.below b1
  obtain ⟨a0, p0, rfl⟩ := h.ag.form
  have z0 : ∀ W : Ov W1, W.wd.cell? ⟨w.heap.size, 0, none⟩ = some (.int .i64 q.1) := ov_cell (k1.cell 0)
  have z1 : ∀ W : Ov W1, W.wd.cell? ⟨w.heap.size, 1, none⟩ = some (.int .i64 q.2.1) := ov_cell (k1.cell 1)
  have z2 : ∀ W : Ov W1, W.wd.cell? ⟨w.heap.size, 2, none⟩ = some (.int .i64 q.2.2.1) := ov_cell (k1.cell 2)
  have z3 : ∀ W : Ov W1, W.wd.cell? ⟨w.heap.size, 3, none⟩ = some (.int .i64 q.2.2.2) := ov_cell (k1.cell 3)
  have y1 : ∀ W : Ov W1, W.wd.cell? ⟨L, 1, none⟩ = some (.slice a0 gs.length p0) := ov_cell (l1.blk.cell 1)
  have yP : ∀ W : Ov W1, W.wd.cell? ⟨P, 0, none⟩ = some (.pointer (some ⟨L, 0, none⟩)) := ov_cell ((b1.cell (block_lt_of_cell hP)).trans hP)
  have ne : Nonempty (Ov W1) := ⟨⟨_, Below.refl _ _⟩⟩
  obtain ⟨u, hu⟩ : ∃ u, optI (taker gs q.2.1) = u := ⟨_, rfl⟩
  have HU : Hid (goB gs q = decide (u ≥ 0)) := by
    show goB gs q = decide (u ≥ 0)
    rw [goB, ← hu]
    cases taker gs q.2.1 <;> simp [optI]
  have HC : Hid (∀ W : Ov W1, Calls Try.prog 85 #[.slice a0 gs.length p0, .agg #[.int .i64 q.1, .int .i64 q.2.1, .int .i64 q.2.2.1, .int .i64 q.2.2.2]] W.wd fun e w'' => e = .returned (.int .i64 u) ∧ ∃ W' : Ov W1, w'' = W'.wd) := fun W => ov_call (by rw [← hu]; exact agentFor_c _ gs q W.wd ((l1.below W.ok).ag.rd agC_len) hs)
  have B1 : Hid (Below w.heap.size w W1) := b1
  have HW1 : Hid (_ = W1) := hW1
  clear b1 k1 l1 h hW1 hP hu
  go_enter Try.func84, Try.ntmps84
  go_wp2_with (fail)
  rw [HW1.out]
  refine region_over (by kernel_rfl) (by kernel_rfl) ?_
  repeat (go_big_quiet_step (first | (go_at_call 85; exact HC.out _)))
  refine wpQuiet_nil ?_
  rintro _ ⟨W, rfl⟩
  have HBW : Hid (Below w.heap.size w W.wd) := belowCall B1.out W.ok B1.out.size
  clear z0 z1 z2 z3 y1 yP HC
  go_wp2
  go_ret
  exact ⟨by rw [HU.out]; rfl, HBW.out⟩
set_option maxHeartbeats 6400000 in
theorem give_c (B L : Nat) (now g : Int) (va vq vc : Value) (gs : List Ag) (qs : List Wt) (cs : List Int) (p a : Nat) (q : Wt) (x : Ag) (w : World) (h : Lv B w L now g va vq vc gs qs cs) (hs : SkOk gs) (hn : qs.length ≤ 1048576) (hgn : gs.length ≤ 1048576) (hcn : cs.length ≤ 1048576) (hg0 : 0 ≤ g) (hg1 : g ≤ 1000000000) (hp : qs[p]? = some q) (ht : taker gs q.2.1 = some a) (hx : gs[a]? = some x) :
   Calls Try.prog 88 #[.pointer (some ⟨L, 0, none⟩), .int .i64 p] w fun e w' => e = .returned (.tuple #[]) ∧ ∃ va' vq' vc', Lv B w' L now (g + 1) va' vq' vc' (gs.set a (x.1, q.1, now)) (qs.eraseIdx p) (cs ++ [q.1]) ∧ Below B w w' ∧ Fr (fun k => k = L ∨ va.ownBlock = some k ∨ vc.ownBlock = some k) w w' := by
  have hBw : B ≤ w.heap.size := Nat.le_trans h.lb (Nat.le_of_lt h.blk.lt)
  have hLw := h.blk.lt
  obtain ⟨hpl, hpe⟩ := List.getElem?_eq_some_iff.1 hp
  obtain ⟨hal, hae⟩ := List.getElem?_eq_some_iff.1 hx
  obtain ⟨b, cap, rfl, hbL, hBb, hbw, hcap⟩ := h.agb hal
  obtain ⟨aq, cq, rfl, q1, q2, q3⟩ := h.qu
  obtain ⟨b', off, rfl, h4⟩ : ∃ b off, aq = some ⟨b, off, none⟩ ∧ ∀ i (h : i < qs.length), w.rangeAt b (off + i * 4) (wtC qs[i]) := by
    rcases q3 with h | h
    · subst h; simp at hpl
    · exact h
  unfold maxLen at q2
  have hr := h4 p hpl
  rw [hpe] at hr
  have e0 : w.cell? ⟨b', off + p * 4, none⟩ = some (.int .i64 q.1) := hr 0 _ rfl
  have e1 : w.cell? ⟨b', off + p * 4 + 1, none⟩ = some (.int .i64 q.2.1) := hr 1 _ rfl
  have e2 : w.cell? ⟨b', off + p * 4 + 2, none⟩ = some (.int .i64 q.2.2.1) := hr 2 _ rfl
  have e3 : w.cell? ⟨b', off + p * 4 + 3, none⟩ = some (.int .i64 q.2.2.2) := hr 3 _ rfl
  obtain ⟨m, hm⟩ : ∃ m, gs.length = m := ⟨_, rfl⟩
  obtain ⟨mq, hmq⟩ : ∃ m, qs.length = m := ⟨_, rfl⟩
  have HM : Hid (gs.length = m ∧ qs.length = mq) := ⟨hm, hmq⟩
  have HL0 : Hid (Lv B w L now g (.slice (some ⟨b, 0, none⟩) gs.length cap) (.slice (some ⟨b', off, none⟩) qs.length cq) vc gs qs cs) := h
  have c2 := h.blk.cell 2
  simp at c2
  rw [hmq] at c2 hpl q1
  have hpi : (p : Int) < (mq : Int) := by omega
  have hpi0 : (0 : Int) ≤ (p : Int) := by omega
  have hai : (a : Int) < (m : Int) := by omega
  have hai0 : (0 : Int) ≤ (a : Int) := by omega
  have ham : a < m := by omega
  obtain ⟨W1, hW1⟩ : ∃ W1, w.alloc (Obj.cells #[.int .i64 q.1, .int .i64 q.2.1, .int .i64 q.2.2.1, .int .i64 q.2.2.2] 74) = W1 := ⟨_, rfl⟩
  have b1 : Below w.heap.size w W1 := hW1 ▸ (Below.refl _ _).alloc (Nat.le_refl _) _
  have k1 : Blk W1 w.heap.size #[.int .i64 q.1, .int .i64 q.2.1, .int .i64 q.2.2.1, .int .i64 q.2.2.2] 74 := hW1 ▸ Blk.new _ _ _
  have l1 := h.below b1
  rw [hm, hmq] at l1
  have L1 : Hid (Lv B W1 L now g (.slice (some ⟨b, 0, none⟩) m cap) (.slice (some ⟨b', off, none⟩) mq cq) vc gs qs cs) := l1
  have K1 : Hid (Blk W1 w.heap.size #[.int .i64 q.1, .int .i64 q.2.1, .int .i64 q.2.2.1, .int .i64 q.2.2.2] 74) := k1
  have B1 : Hid (Below B w W1) := b1.mono hBw
  have B01 : Hid (Below w.heap.size w W1) := b1
  have z0 : ∀ W : Ov W1, W.wd.cell? ⟨w.heap.size, 0, none⟩ = some (.int .i64 q.1) := ov_cell (k1.cell 0)
  have z1 : ∀ W : Ov W1, W.wd.cell? ⟨w.heap.size, 1, none⟩ = some (.int .i64 q.2.1) := ov_cell (k1.cell 1)
  have z2 : ∀ W : Ov W1, W.wd.cell? ⟨w.heap.size, 2, none⟩ = some (.int .i64 q.2.2.1) := ov_cell (k1.cell 2)
  have z3 : ∀ W : Ov W1, W.wd.cell? ⟨w.heap.size, 3, none⟩ = some (.int .i64 q.2.2.2) := ov_cell (k1.cell 3)
  have y1 : ∀ W : Ov W1, W.wd.cell? ⟨L, 1, none⟩ = some (.slice (some ⟨b, 0, none⟩) m cap) := ov_cell (l1.blk.cell 1)
  have ne : Nonempty (Ov W1) := ⟨⟨_, Below.refl _ _⟩⟩
  have HC : Hid (∀ W : Ov W1, Calls Try.prog 85 #[.slice (some ⟨b, 0, none⟩) m cap, .agg #[.int .i64 q.1, .int .i64 q.2.1, .int .i64 q.2.2.1, .int .i64 q.2.2.2]] W.wd fun e w'' => e = .returned (.int .i64 (a : Int)) ∧ ∃ W' : Ov W1, w'' = W'.wd) := fun W => ov_call (by
    have := agentFor_c (.slice (some ⟨b, 0, none⟩) m cap) gs q W.wd ((l1.below W.ok).ag.rd agC_len) hs
    rw [ht] at this; exact this)
  have HX : Hid (gs[a]? = some x) := hx
  have HP : Hid (qs[p]? = some q) := hp
  have HW1 : Hid (w.alloc (Obj.cells #[.int .i64 q.1, .int .i64 q.2.1, .int .i64 q.2.2.1, .int .i64 q.2.2.2] 74) = W1) := hW1
  clear h4 hr h q3 hm hmq b1 k1 l1 hW1 ht hs hp hx hpe hae
  go_enter Try.func88, Try.ntmps88
  go_wp2_with (fail)
  rw [HW1.out]
  clear e0 e1 e2 e3 c2 HW1
  refine region_over (by kernel_rfl) (by kernel_rfl) ?_
  repeat (go_big_quiet_step (first | (go_at_call 85; exact HC.out _)))
  refine wpQuiet_nil ?_
  rintro _ ⟨W, rfl⟩
  have L2 : Hid (Lv B W.wd L now g (.slice (some ⟨b, 0, none⟩) m cap) (.slice (some ⟨b', off, none⟩) mq cq) vc gs qs cs) := L1.out.below W.ok
  have K2 : Hid (Blk W.wd w.heap.size #[.int .i64 q.1, .int .i64 q.2.1, .int .i64 q.2.2.1, .int .i64 q.2.2.2] 74) := K1.out.below W.ok K1.out.lt
  have B2 : Hid (Below B w W.wd) := B1.out.trans (W.ok.mono (Nat.le_trans hBw (by have := K1.out.lt; omega)))
  have F2 : Hid (Below w.heap.size w W.wd) := belowCall B01.out W.ok B01.out.size
  obtain ⟨W2, hW2⟩ : ∃ W2, W.wd = W2 := ⟨_, rfl⟩
  rw [hW2] at L2 K2 B2 F2 ⊢
  clear hW2 z0 z1 z2 z3 y1 HC ne W L1 K1 B1 B01
  obtain ⟨x1, x2, x3⟩ := x
  have hOb : w.heap.size ≠ b := by
    intro e
    rcases L2.out.ag.2 with ⟨h2, -⟩ | ⟨b2, cap2, cur, h2, -, h3, -⟩
    · cases h2
    · cases h2
      have h4 := K2.out
      rw [Blk, e, h3] at h4
      cases h4
  have HG : Hid (∀ W, W2.grownBy W (some b) → W.cell? ⟨L, 0, none⟩ = some (.int .i64 now) ∧ W.cell? ⟨w.heap.size, 0, none⟩ = some (.int .i64 q.1)) := fun W hW => by
    have hk : Blk W L (L5 now (.slice (some ⟨b, 0, none⟩) m cap) (.slice (some ⟨b', off, none⟩) mq cq) g vc) 83 := by rw [Blk, hW.block L L2.out.blk.lt (by simp; exact Ne.symm hbL)]; exact L2.out.blk
    have hk2 : Blk W w.heap.size #[.int .i64 q.1, .int .i64 q.2.1, .int .i64 q.2.2.1, .int .i64 q.2.2.2] 74 := by rw [Blk, hW.block _ K2.out.lt (by simpa using hOb)]; exact K2.out
    exact ⟨hk.cell 0, hk2.cell 0⟩
  have HSL : Hid (∀ y : Ag, (gs.set a y).length = m) := fun y => by simpa using HM.out.1
  go_wp2
  refine region_det [.pointer (some ⟨b, a * 3, none⟩), .pointer (some ⟨b, a * 3, none⟩), .pointer (some ⟨w.heap.size, 0, none⟩), .int .i64 q.1, .pointer (some ⟨L, 0, none⟩), .pointer (some ⟨L, 0, none⟩), .pointer (some ⟨L, 0, none⟩), .int .i64 now,
      .pointer (some ⟨b, a * 3, none⟩), .pointer (some ⟨b, a * 3 + 1, none⟩), undef, .pointer (some ⟨b, a * 3, none⟩), .pointer (some ⟨b, a * 3 + 2, none⟩), undef]
    (fun d W => W2.grownBy W (some b) ∧ Og 3 agC 36 B W (.slice (some ⟨b, 0, none⟩) m cap) (gs.set a (x1, (if d 10 = true then q.1 else x2), (if d 13 = true then now else x3)))) (by kernel_rfl) (by kernel_rfl)
    (by simp only [putAll, Act.put, List.setIfInBounds_toArray, List.set_cons_succ, List.set_cons_zero]; exact rfl) ⟨⟨rfl, rfl, rfl, Nat.le_refl _, fun _ _ _ => rfl⟩, by simp only [Bool.false_eq_true, if_false]; rw [set_self HX.out]; exact L2.out.ag⟩ ⟨?_, ?_, ?_, ?_, ?_, ?_, ?_, ?_, ?_, ?_, ?_, ?_, ?_, ?_, trivial⟩ ?_
  case refine_15 =>
    rintro d W ⟨G, O⟩ hn'
    have h10 := hn' 10 (by decide)
    have h13 := hn' 13 (by decide)
    rw [h10, h13] at O
    have L3 : Hid (Lv B W L now g (.slice (some ⟨b, 0, none⟩) m cap) (.slice (some ⟨b', off, none⟩) mq cq) vc (gs.set a (x1, q.1, now)) qs cs) := by
      show Lv _ _ _ _ _ _ _ _ _ _ _
      have hL := L2.out
      have hM := HM.out.1
      subst hM
      have := hL.setAgent W (gs.set a (x1, q.1, now)) (by simp) G (by simpa using O)
      simpa using this
    have K3 : Hid (Blk W w.heap.size #[.int .i64 q.1, .int .i64 q.2.1, .int .i64 q.2.2.1, .int .i64 q.2.2.2] 74) := by
      show Blk _ _ _ _
      rw [Blk, G.block _ K2.out.lt (by simpa using hOb)]; exact K2.out
    have B3 : Hid (Below B w W) := B2.out.trans (grown_below G (by have := B2.out.size; omega) (fun k e => by cases e; exact hBb))
    have F3 : Hid (Fr (fun k => k = L ∨ (Value.slice (some ⟨b, 0, none⟩) gs.length cap).ownBlock = some k ∨ vc.ownBlock = some k) w W) := (Fr.ofBelow F2.out).trans (Fr.ofGrown G (fun k e => .inr (.inl (by simpa [Value.ownBlock] using e))))
    clear G O hn' h10 h13 L2 K2 B2 HG HL0 F2
    go_wp2_with (fail)
    refine (leave_c B L now g _ _ vc (gs.set a (x1, q.1, now)) qs cs p W L3.out hn (by have := HM.out.2; omega)).mono ?_
    rintro e w4 ⟨rfl, vq4, l4, b4, g4⟩
    have hbx : w.heap.size ≠ L := by omega
    have L4 : Hid (Lv B w4 L now g (.slice (some ⟨b, 0, none⟩) m cap) vq4 vc (gs.set a (x1, q.1, now)) (qs.eraseIdx p) cs) := l4
    have K4 : Hid (Blk w4 w.heap.size #[.int .i64 q.1, .int .i64 q.2.1, .int .i64 q.2.2.1, .int .i64 q.2.2.2] 74) := by
      show Blk _ _ _ _
      rw [Blk, g4.block _ K3.out.lt (by simpa using hbx)]; exact K3.out
    have B4 : Hid (Below B w w4) := B3.out.trans b4
    have F4 : Hid (Fr (fun k => k = L ∨ (Value.slice (some ⟨b, 0, none⟩) gs.length cap).ownBlock = some k ∨ vc.ownBlock = some k) w w4) := F3.out.trans (Fr.ofGrown g4 (fun k e => .inl (Option.some.inj e).symm))
    have HVC : Hid (vc.ownBlock ≠ some w.heap.size) := by
      show vc.ownBlock ≠ some w.heap.size
      intro e
      have h1 := l4.ca
      rcases h1.2 with ⟨h2, -⟩ | ⟨b2, cap2, cur, h2, -, h3, -⟩
      · rw [h2] at e; cases e
      · rw [h2] at e; simp [Value.ownBlock] at e
        have h4 := K4.out
        rw [Blk, ← e, h3] at h4
        cases h4
    obtain ⟨ac, cc, hvc, -⟩ := own_form l4.ca
    obtain ⟨mc, hmc⟩ : ∃ mc, cs.length = mc := ⟨_, rfl⟩
    have HMC : Hid (cs.length = mc) := hmc
    rw [hmc] at hvc hcn
    obtain ⟨S, hS⟩ : ∃ S : World → Prop, ∀ W, S W ↔ (Blk W L (L5 now (.slice (some ⟨b, 0, none⟩) m cap) vq4 g vc) 83 ∧ Blk W w.heap.size #[.int .i64 q.1, .int .i64 q.2.1, .int .i64 q.2.2.1, .int .i64 q.2.2.2] 74) := ⟨_, fun _ => Iff.rfl⟩
    have u4 : ∀ W : At S, W.wd.cell? ⟨L, 4, none⟩ = some (.slice ac mc cc) := fun W => by rw [← hvc]; exact ((hS _).1 W.ok).1.cell 4
    have z0 : ∀ W : At S, W.wd.cell? ⟨w.heap.size, 0, none⟩ = some (.int .i64 q.1) := fun W => ((hS _).1 W.ok).2.cell 0
    have ne : Nonempty (At S) := ⟨⟨w4, (hS _).2 ⟨l4.blk, K4.out⟩⟩⟩
    have HS : Hid (∀ W, S W ↔ (Blk W L (L5 now (.slice (some ⟨b, 0, none⟩) m cap) vq4 g vc) 83 ∧ Blk W w.heap.size #[.int .i64 q.1, .int .i64 q.2.1, .int .i64 q.2.2.1, .int .i64 q.2.2.2] 74)) := hS
    have HVE : Hid (vc = .slice ac mc cc) := hvc
    clear l4 b4 g4 L3 K3 B3 hS hvc hmc
    go_wp2_with (fail)
    refine region_mixA [true, true, true, true, true, true, true, false, false, false, false, false] 9 2 S (by kernel_rfl) rfl (by kernel_rfl) (fun _ _ _ _ _ h => h) ((HS.out _).2 ⟨L4.out.blk.drew, K4.out.drew⟩) ?_
    simp only [selT, selF]
    repeat (go_big_quiet_step (fail))
    refine wpQuiet_nil ?_
    refine tail_step ?_
    clear u4 z0 ne
    obtain ⟨W5, hW5⟩ : ∃ W5, (w4.alloc (Obj.cells #[.int .i64 q.1] 3)).drew = W5 := ⟨_, rfl⟩
    have b5 : Below w4.heap.size w4 W5 := hW5 ▸ ((Below.refl _ _).alloc (Nat.le_refl _) _).drew
    have B5 : Hid (Below w4.heap.size w4 W5) := b5
    have X5 : Hid (Rd .i64 W5 (.slice (some ⟨w4.heap.size, 0, none⟩) 1 1) [q.1]) := by
      refine ⟨_, 1, rfl, by simp, by simp [maxLen], .inr ⟨w4.heap.size, 0, rfl, fun i hi => ?_⟩⟩
      obtain rfl : i = 0 := by simpa using hi
      have kk : Blk W5 w4.heap.size #[.int .i64 q.1] 3 := hW5 ▸ (Blk.new _ _ 3).drew
      simpa using kk.cell 0
    have HW5 : Hid ((w4.alloc (Obj.cells #[.int .i64 q.1] 3)).drew = W5) := hW5
    have L5' : Hid (Lv B W5 L now g (.slice (some ⟨b, 0, none⟩) m cap) vq4 (.slice ac mc cc) (gs.set a (x1, q.1, now)) (qs.eraseIdx p) cs) := by
      show Lv _ _ _ _ _ _ _ _ _ _ _
      rw [← HVE.out]; exact L4.out.below b5
    have hB5 : B ≤ W5.heap.size := by have := b5.size; have := B4.out.size; omega
    clear b5 hW5
    go_wp2
    try rw [HW5.out]
    refine ⟨(HS.out _).2 ⟨(L4.out.below B5.out).blk, K4.out.below B5.out K4.out.lt⟩, tail_step ?_⟩
    refine appIs rfl _ _ rfl B _ cs rfl L5'.out.ca _ [q.1] rfl X5.out (by simp; have := HMC.out; omega) hB5 ?_
    intro v6 w6 o6 g6 hv6
    have L7 := L5'.out.pushCall g6 o6 hv6
    have HVC5 : (Value.slice ac mc cc).ownBlock ≠ some w.heap.size := by have := HVC.out; rw [HVE.out] at this; exact this
    have S6 : Hid (S w6) := by
      refine (HS.out _).2 ⟨?_, ?_⟩
      · rw [HVE.out, Blk, g6.block L L5'.out.blk.lt (Ne.symm L5'.out.nvc)]; exact L5'.out.blk
      · rw [Blk, g6.block _ (K4.out.below B5.out K4.out.lt).lt (Ne.symm HVC5)]; exact K4.out.below B5.out K4.out.lt
    have hk6 : Blk w6 L (L5 now (.slice (some ⟨b, 0, none⟩) m cap) vq4 g vc) 83 := ((HS.out _).1 S6.out).1
    have d4 := hk6.cell 4
    have f4 := hk6.frozen 4
    have d3 := hk6.cell 3
    have f3 := hk6.frozen 3
    simp at d4 d3
    have B6 : Below B w w6 := by
      have h1 : Below B w W5 := B4.out.trans (B5.out.mono (by have := B4.out.size; omega))
      exact h1.trans (grown_below g6 hB5 (fun k e => (World.ownsRow.lt L5'.out.ca k e).1))
    have L8 := L7.setGiven (g + 1)
    have F7 : Hid (Fr (fun k => k = L ∨ (Value.slice (some ⟨b, 0, none⟩) gs.length cap).ownBlock = some k ∨ vc.ownBlock = some k) w ((w6.setCell ⟨L, 4, none⟩ v6).setCell ⟨L, 3, none⟩ (.int .i64 (g + 1)))) :=
      ((F4.out.trans (Fr.ofBelow B5.out)).trans (Fr.ofGrown g6 (fun k e => .inr (.inr (by rw [HVE.out]; exact e))))).trans (Fr.ofGrown (grown_trans (grown_set' _ L 4 _) (grown_set' _ L 3 _)) (fun k e => .inl (Option.some.inj e).symm))
    have HF : Hid (Lv B ((w6.setCell ⟨L, 4, none⟩ v6).setCell ⟨L, 3, none⟩ (.int .i64 (g + 1))) L now (g + 1) (.slice (some ⟨b, 0, none⟩) m cap) vq4 v6 (gs.set a (x1, q.1, now)) (qs.eraseIdx p) (cs ++ [q.1]) ∧ Below B w ((w6.setCell ⟨L, 4, none⟩ v6).setCell ⟨L, 3, none⟩ (.int .i64 (g + 1)))) :=
      ⟨L8, (B6.setCell (by dsimp only; exact L4.out.lb) _).setCell (by dsimp only; exact L4.out.lb) _⟩
    obtain ⟨a6, c6, h9, -⟩ := own_form o6
    rw [show (cs ++ [q.1]).length = cs.length + 1 by simp] at h9
    subst h9
    clear L7 L8 B6 hk6 o6 g6 hv6 L5' X5 B5 K4 L4 B4 HVC5
    go_wp2
    refine ⟨S6.out, tail_end ?_⟩
    clear S6
    go_wp2
    go_end0
    exact ⟨rfl, ⟨_, _, _, HF.out.1⟩, HF.out.2, F7.out⟩
  all_goals (try (rintro d W ⟨G, O⟩ hn' hd; obtain ⟨c0, c1⟩ := HG.out W G))
  iterate 10
    · go_wp2
      exact ⟨rfl, rfl, G, O⟩
  · obtain ⟨d0, d1, d2, f0, f1, f2⟩ := Og.cells O (HSL.out _) (set_at HX.out)
    have hO := own_set1 agC_len O (HSL.out _) a 1 _ (x1, q.1, (if d 13 = true then now else x3)) (.int .i64 q.1) (set_at HX.out) (by decide) rfl
    rw [List.set_set] at hO
    have HO : Hid (Og 3 agC 36 B (W.setCell ⟨b, a * 3 + 1, none⟩ (.int .i64 q.1)) (.slice (some ⟨b, 0, none⟩) m cap) (gs.set a (x1, q.1, (if d 13 = true then now else x3)))) := hO
    have HGG : Hid (W2.grownBy (W.setCell ⟨b, a * 3 + 1, none⟩ (.int .i64 q.1)) (some b)) := grown_trans G (grown_set' _ _ _ _)
    clear hO O G
    go_wp2
    exact ⟨rfl, rfl, HGG.out, HO.out⟩
  iterate 2
    · go_wp2
      exact ⟨rfl, rfl, G, O⟩
  · obtain ⟨d0, d1, d2, f0, f1, f2⟩ := Og.cells O (HSL.out _) (set_at HX.out)
    have hO := own_set1 agC_len O (HSL.out _) a 2 _ (x1, (if d 10 = true then q.1 else x2), now) (.int .i64 now) (set_at HX.out) (by decide) rfl
    rw [List.set_set] at hO
    have HO : Hid (Og 3 agC 36 B (W.setCell ⟨b, a * 3 + 2, none⟩ (.int .i64 now)) (.slice (some ⟨b, 0, none⟩) m cap) (gs.set a (x1, (if d 10 = true then q.1 else x2), now))) := hO
    have HGG : Hid (W2.grownBy (W.setCell ⟨b, a * 3 + 2, none⟩ (.int .i64 now)) (some b)) := grown_trans G (grown_set' _ _ _ _)
    clear hO O G
    go_wp2
    exact ⟨rfl, rfl, HGG.out, HO.out⟩
end Go.Proofs.Ytpmmgbinogokfaa

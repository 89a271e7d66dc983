/- All clashes, the program; no condition. -/
import Derived.Test.YtfaflnhembceoaaClN
import Derived.Test.YtfaflnhembceoaaRkB
import Derived.Test.YtfaflnhembceoaaSkL
namespace Go.Proofs.Ytfaflnhembceoaa
open Go.RowKit Go.ChangeShapes Go.WideShapes Go.ChangeAt
set_option linter.unusedVariables false
set_option linter.unusedSimpArgs false
set_option maxRecDepth 8000

theorem appChS {ops : Array Oper} {rest : List Oper} {o : Oper} {a : Act} {w : World} {Q : Exit → Act → World → Prop} (hgd : o.guard = none) (s x : Operand)
    (ho : o.op = .call { callee := .builtin .append, args := #[s, x], argTypes := #[42, 42] }) (base : Nat) (v : Value) (l0 : List Ch) (hs : a.eval s = v) (hown : Og 5 chC 82 base w v l0)
    (v2 : Value) (ls : List Ch) (hx : a.eval x = v2) (hr : Rg 5 chC w v2 ls) (hl : l0.length + ls.length ≤ 1000000) (hbase : base ≤ w.heap.size)
    (h : ∀ v' w', Og 5 chC 82 base w' v' (l0 ++ ls) → w.grownBy w' v.ownBlock → wpList Try.prog ops Q rest (a.put o.dst v') w') : wpList Try.prog ops Q (o :: rest) a w := by
  obtain ⟨i0, hi, hz0, hz1, hz2⟩ := info_parts infoCh
  obtain ⟨av, cap, rfl, h1, h2, h3⟩ := hr
  by_cases hav : av = none
  · subst hav
    have hl0 : ls = [] := by
      rcases h3 with h3 | ⟨b, off, e, -⟩
      · exact h3
      · cases e
    subst hl0
    refine wpList_plain hgd fun K hK => ?_
    have hx' : a.eval x = .slice none 0 cap := hx
    obtain ⟨v', w', hr, q1, q2⟩ : ∃ v' w', (Builtin.append_ #[42, 42] o.type #[v, .slice none 0 cap]).run Try.prog w = .ok v' w' ∧ Og 5 chC 82 base w' v' (l0 ++ []) ∧ w.grownBy w' v.ownBlock := by
      refine ⟨v, w, ?_, by simpa using hown, grown_refl _ _⟩
      rcases hown.2 with ⟨rfl, h0⟩ | ⟨g, cp, cur, rfl, _, _, hnc, _⟩
      · simp [Builtin.append_, run_underlying Try.underlying42, sizeOf, typeInfo, hi, Builtin.lenOf, Builtin.firstCells]
      · simp [Builtin.append_, run_underlying Try.underlying42, sizeOf, typeInfo, hi, Builtin.lenOf, Builtin.firstCells, hnc, storeCells]
    unfold Oper.wp execOp
    simp only [ho, resolve, invoke, builtin, Sem.run_bind, Sem.run_pure, Result.andThen_ok, List.map_toArray, List.map_cons, List.map_nil, hs, hx', hr]
    exact hK _ _ (h v' w' q1 q2)
  · obtain ⟨ad, rfl⟩ : ∃ ad, av = some ad := by cases av with | none => exact absurd rfl hav | some ad => exact ⟨ad, rfl⟩
    refine wpList_append_own_at w hgd s x 42 ho base 82 i0 (.agg #[.int .i64 0, .int .i64 0, .int .i64 0, .int .i64 0, .int .i64 0]) 5 40 Try.underlying42 hi hz0 hz1 hz2 rfl (by decide) v l0.length (l0.flatMap chC) hs hown ad ls.length cap (ls.flatMap chC) hx (fm_len chC_len _) ?_ chC_one ?_ ?_ hbase ?_
    · rcases h3 with rfl | ⟨b, off, e, h4⟩
      · intro j u hu; simp at hu
      · cases e
        exact fm_news chC_len h4
    · unfold maxLen; omega
    · omega
    · intro v' w' g1 g2 g3 g4
      refine h v' w' ?_ g2
      rw [Og, List.flatMap_append, List.length_append]; exact g1
set_option maxHeartbeats 3200000 in
theorem clashesI_c (v : Value) (cs : Sbs) (w : World) (h : RdS w v cs) (hn : cs.length ≤ 1048576) (hm : ∀ c ∈ cs, c.2.2.length ≤ 1048576) : Calls Try.prog 20 #[v] w (CsR cs w) := by
  have HRD : Hid (RdS w v cs) := h
  have HMM : Hid (∀ c ∈ cs, c.2.2.length ≤ 1048576) := hm
  obtain ⟨a, cap, hv, g1, g2⟩ := h.len
  subst hv
  unfold maxLen at g2
  obtain ⟨n, hnn⟩ : ∃ n, cs.length = n := ⟨_, rfl⟩
  have HN : Hid (cs.length = n) := hnn
  rw [hnn] at g1 hn HRD ⊢
  clear h hnn hm
  go_enter Try.func20, Try.ntmps20
  go_wp2_with (fail)
  refine (subsI_c _ cs w HRD.out).mono ?_
  rintro e w1 ⟨r, rfl, hr, b1⟩
  have B1 : Hid (Below w.heap.size w w1) := b1
  have HQ : Hid (r = true ↔ SbOk cs) := hr
  clear hr b1
  cases r with
  | false =>
    have HY : Hid (¬ SbOk cs) := fun h => by have := HQ.out.2 h; cases this
    go_wp2
    go_ret
    exact ⟨_, rfl, by rw [if_neg HY.out]; exact Og.nil _ _ _ _ _, B1.out⟩
  | true =>
    have HOK : Hid (SbOk cs) := HQ.out.1 rfl
    have HFL : Hid (∀ t, t < n → fLen cs t ≤ 128) := fun t ht => by
      have h1 := HOK.out.at t (by rw [HN.out]; exact ht)
      exact h1.len (by have := HOK.out.2.1; omega)
    have n16 : n ≤ 16 := by rw [← HN.out]; exact HOK.out.2.1
    clear HQ
    go_wp2_with (fail)
    refine (openSubs_c _ cs w1 (HRD.out.below B1.out) (by rw [HN.out]; exact hn) HMM.out).mono ?_
    rintro e w2 ⟨v2, rfl, r2, b2⟩
    have B2 : Hid (Below w.heap.size w w2) := belowCall B1.out b2 B1.out.size
    have R2 : Hid (RdL w2 v2 cs) := r2
    obtain ⟨a2, c2, e2⟩ : ∃ a c, v2 = .slice a n c := by obtain ⟨a, c, e, -⟩ := r2.len; rw [HN.out] at e; exact ⟨a, c, e⟩
    subst e2
    clear r2 b2 B1
    have O2 : Hid (Og 5 chC 82 w.heap.size w2 (.slice none 0 0) ([] : List Ch)) := Og.nil _ _ _ _ _
    have S2 : Hid (w.heap.size ≤ w2.heap.size) := B2.out.size
    go_wp2
    go_loopw [4, 13] (fun lf q wr => ∃ t : Nat, ∃ al ll cl, t ≤ n ∧ q = .int .i64 t ∧ lf = .slice al ll cl ∧ Hid (Below w2.heap.size w2 wr) ∧ Hid (Og 5 chC 82 w2.heap.size wr (.slice al ll cl) (clT cs t))) (fun _ q _ => n - (intOf q).toNat)
    case atStart => exact ⟨0, _, _, _, Nat.zero_le _, rfl, rfl, Below.refl _ _, Og.nil _ _ _ _ _⟩
    case round =>
      obtain ⟨t, al, ll, cl, ht, rfl, rfl, BT, OT⟩ := hrel
      by_cases hlt : t < n
      case neg =>
        obtain rfl : n = t := by omega
        have HE : Hid ((if SbOk cs then clA cs else []) = clT cs n) := by show _ = _; rw [if_pos HOK.out, clA, HN.out]
        go_wp2
        go_ret
        exact ⟨_, rfl, by rw [HE.out]; exact OT.out.mono S2.out, belowCall B2.out BT.out B2.out.size⟩
      case pos =>
      have HCL : Hid ((clT cs t).length + (clI cs t (fLen cs t)).length ≤ 1000000) := by
        show _ ≤ _
        have h1 := clT_len cs t (fun q hq => HFL.out q (by omega))
        have h2 := clI_len cs t (fLen cs t) (HFL.out t hlt)
        have h3 := HFL.out t hlt
        omega
      go_wp2_with (fail)
      refine (clashesOf_c _ cs t wr (R2.out.below BT.out) HOK.out (by rw [HN.out]; exact hlt)).mono ?_
      rintro e w3 ⟨v3, rfl, o3, b3⟩
      have B3 : Hid (Below w2.heap.size w2 w3) := belowCall BT.out b3 BT.out.size
      have O3' : Hid (Og 5 chC 82 w2.heap.size w3 (.slice al ll cl) (clT cs t)) := OT.out.below b3
      have G3 : Hid (Rg 5 chC w3 v3 (clI cs t (fLen cs t))) := o3.rd chC_len
      obtain ⟨a3, c3, e3⟩ := o3.form
      obtain ⟨l3, hl3⟩ : ∃ l, (clI cs t (fLen cs t)).length = l := ⟨_, rfl⟩
      rw [hl3] at e3
      subst e3
      clear o3 b3 hl3 BT OT
      go_wp2_with (at_builtin; refine appChS rfl (.tmp 16) (.tmp 19) rfl w2.heap.size _ (clT cs t) rfl O3'.out _ (clI cs t (fLen cs t)) rfl G3.out HCL.out B3.out.size ?_)
      intro v5 w5 o5 g5
      have B5 : Hid (Below w2.heap.size w2 w5) := B3.out.trans (grown_lt O3'.out g5 (Nat.le_refl _) B3.out.size)
      have O5 : Hid (Og 5 chC 82 w2.heap.size w5 v5 (clT cs (t + 1))) := by show Og _ _ _ _ _ _ _; rw [clT_succ]; exact o5
      obtain ⟨a5, c5, e5⟩ := O5.out.form
      obtain ⟨l5, hl5⟩ : ∃ l, (clT cs (t + 1)).length = l := ⟨_, rfl⟩
      rw [hl5] at e5
      subst e5
      clear o5 g5 hl5 B3 O3' G3
      go_wp2
      go_roundw
      case rel => exact ⟨t + 1, _, _, _, by omega, by go_num, rfl, B5.out, O5.out⟩
      case measure => simp [intOf]; omega
end Go.Proofs.Ytfaflnhembceoaa
namespace Go.Proofs.Ytfaflnhembceoaa
open Go.RowKit Go.ChangeShapes Go.WideShapes Go.ChangeAt
set_option linter.unusedVariables false
set_option linter.unusedSimpArgs false
set_option maxRecDepth 8000

/-- what the law holds: the wanted clashes and the given ones -/
structure Lc (w : World) (vw vg : Value) (zw zg : List Ch) (b2 h3 b4 : Nat) (W : World) : Prop where
  bel : Below w.heap.size w W
  hw : Og 5 chC 82 b2 W vw zw
  lt : ∀ k, vw.ownBlock = some k → k < h3
  hg : Og 5 chC 82 b4 W vg zg
theorem Lc.below {w : World} {vw vg : Value} {zw zg : List Ch} {b2 h3 b4 : Nat} {W W' : World} (h : Lc w vw vg zw zg b2 h3 b4 W) (hb : Below W.heap.size W W') : Lc w vw vg zw zg b2 h3 b4 W' :=
  ⟨belowCall h.bel hb h.bel.size, h.hw.below hb, h.lt, h.hg.below hb⟩
theorem Lc.mid {w : World} {vw vg : Value} {zw zg : List Ch} {b2 h3 b4 lo : Nat} {W W' : World} (h : Lc w vw vg zw zg b2 h3 b4 W) (m : Mid lo b4 W W') (h1 : h3 ≤ lo) (h2 : w.heap.size ≤ lo) : Lc w vw vg zw zg b2 h3 b4 W' := by
  have f : Fr (fun k => lo ≤ k ∧ k < b4) W W' := ⟨m.os, m.tape, m.output, m.size, fun k hk hx => m.block k hk (by omega)⟩
  have hs := h.bel.size
  refine ⟨h.bel.trans ⟨m.os, m.tape, m.output, m.size, fun k hk => m.block k (by omega) (.inl (by omega))⟩, ownsRow_fr h.hw f (fun k e => by have := h.lt k e; omega), h.lt, ownsRow_fr h.hg f (fun k e => by have := (World.ownsRow.lt h.hg k e).1; omega)⟩
theorem Lc.mark {w : World} {vw vg : Value} {zw zg zg' : List Ch} {b2 h3 b4 : Nat} {W W' : World} (h : Lc w vw vg zw zg b2 h3 b4 W) (hg : W.grownBy W' vg.ownBlock) (ho : Og 5 chC 82 b4 W' vg zg') (h1 : h3 ≤ b4) (h2 : w.heap.size ≤ b4) : Lc w vw vg zw zg' b2 h3 b4 W' := by
  have hs := h.bel.size
  refine ⟨h.bel.trans (grown_below hg hs (fun k e => by have := (World.ownsRow.lt h.hg k e).1; omega)), World.ownsRow.kept h.hw hg ?_, h.lt, ho⟩
  cases hv : vw.ownBlock with
  | none => exact .inl rfl
  | some k => exact .inr (fun e => by have h5 := (World.ownsRow.lt h.hg k e.symm).1; have h6 := h.lt k hv; omega)
theorem csL (cs : Sbs) : (if SbOk cs then clA cs else []).length ≤ 262144 := by
  by_cases h : SbOk cs
  · rw [if_pos h]
    have h1 := clT_len cs cs.length (fun t ht => (h.at t ht).len (by have := h.2.1; omega))
    have h2 := h.2.1
    show (clT cs cs.length).length ≤ _
    omega
  · rw [if_neg h]; simp
set_option maxHeartbeats 6400000 in
theorem clashLaw (a : Option Addr) (ln cap : Nat) (cs : Sbs) (w : World) (h : RdS w (.slice a ln cap) cs) :
   Calls Try.prog 8 #[.slice a ln cap] w fun e w' => e = .returned (.bool true) ∧ Below w.heap.size w w' := by
  have HRR : Hid (RdS w (.slice a ln cap) cs) := h
  clear h
  go_enter Try.func8, Try.ntmps8
  go_wp2_with (fail)
  refine (szSubS_c _ cs 1048576 w HRR.out (by decide) (by decide)).mono ?_
  rintro e w1 ⟨rfl, b1⟩
  obtain ⟨z, hz⟩ : ∃ z, lft 1048576 (cs.length + ftsTo cs cs.length) = z := ⟨_, rfl⟩
  have HZ : Hid (0 ≤ z → (cs.length ≤ 1048576 ∧ ∀ c ∈ cs, c.2.2.length ≤ 1048576) ∧ cs.length + ftsTo cs cs.length ≤ 1048576) := fun h => sz_ok (by rw [hz]; exact h)
  rw [hz]
  have B1 : Hid (Below w.heap.size w w1) := b1
  clear hz b1
  by_cases hneg : z < 0
  · go_wp2
    go_ret
    exact ⟨rfl, B1.out⟩
  have HS : Hid ((cs.length ≤ 1048576 ∧ ∀ c ∈ cs, c.2.2.length ≤ 1048576) ∧ cs.length + ftsTo cs cs.length ≤ 1048576) := HZ.out (by omega)
  clear HZ
  obtain ⟨Z, hZ⟩ : ∃ Z, (if SbOk cs then clA cs else []) = Z := ⟨_, rfl⟩
  have HZZ : Hid ((if SbOk cs then clA cs else []) = Z) := hZ
  have HLEN : Hid (Z.length ≤ 262144) := by show _ ≤ _; rw [← hZ]; exact csL cs
  obtain ⟨N, hN⟩ : ∃ N, Z.length = N := ⟨_, rfl⟩
  have HNN : Hid (Z.length = N) := hN
  have N26 : N ≤ 262144 := by rw [← hN]; exact HLEN.out
  clear hZ hN
  go_wp2_with (fail)
  refine (toSubS_c _ cs w1 (HRR.out.below B1.out) HS.out.1.1 HS.out.1.2).mono ?_
  rintro e w2 ⟨v1, rfl, o1, b2⟩
  have B2 : Hid (Below w.heap.size w w2) := belowCall B1.out b2 B1.out.size
  have O1 : Hid (RdS w2 v1 cs) := o1.rd
  clear o1 b2 B1
  go_wp2_with (fail)
  refine (clashesM_c _ cs w2 O1.out HS.out.1.1).mono ?_
  rintro e w3 ⟨vw, rfl, ow, b3⟩
  rw [HZZ.out] at ow
  have B3 : Hid (Below w.heap.size w w3) := belowCall B2.out b3 B2.out.size
  have HW3 : Hid (Og 5 chC 82 w2.heap.size w3 vw Z) := ow
  have HLT : Hid (∀ k, vw.ownBlock = some k → k < w3.heap.size) := fun k e => (World.ownsRow.lt ow k e).2
  obtain ⟨aw, cw, e3⟩ := ow.form
  rw [HNN.out] at e3
  subst e3
  clear ow b3 B2 O1
  go_wp2_with (fail)
  refine (toSubS_c _ cs w3 (HRR.out.below B3.out) HS.out.1.1 HS.out.1.2).mono ?_
  rintro e w4 ⟨vx, rfl, ox, b4⟩
  have HX4 : Hid (OwX w3.heap.size w4.heap.size w4 vx cs) := ox.toX
  have RX4 : Hid (RdS w4 vx cs) := ox.rd
  have B4 : Hid (Below w.heap.size w w4) := belowCall B3.out b4 B3.out.size
  have HW4 : Hid (Og 5 chC 82 w2.heap.size w4 (.slice aw N cw) Z) := HW3.out.below b4
  have hs34 : w3.heap.size ≤ w4.heap.size := b4.size
  have hs03 : w.heap.size ≤ w3.heap.size := B3.out.size
  obtain ⟨ax, cx, rfl, -⟩ := ox.rd.len
  obtain ⟨M, hM⟩ : ∃ M, cs.length = M := ⟨_, rfl⟩
  rw [hM] at HX4 RX4 ⊢
  clear ox b4 hM HW3 B3
  go_wp2_with (fail)
  refine (clashesI_c _ cs w4 RX4.out HS.out.1.1 HS.out.1.2).mono ?_
  rintro e w5 ⟨vg, rfl, og, b5⟩
  rw [HZZ.out] at og
  obtain ⟨ag, cg, e5⟩ := og.form
  rw [HNN.out] at e5
  subst e5
  have L5 : Hid (Lc w (.slice aw N cw) (.slice ag N cg) Z Z w2.heap.size w3.heap.size w4.heap.size w5) := ⟨belowCall B4.out b5 B4.out.size, HW4.out.below b5, HLT.out, og⟩
  have HX5 : Hid (OwX w3.heap.size w4.heap.size w5 (.slice ax M cx) cs) := HX4.out.below b5
  have RX5 : Hid (RdS w5 (.slice ax M cx) cs) := RX4.out.below b5
  clear og b5 B4 HW4 HX4 RX4 HLT
  go_wp2_with (fail)
  refine (eqChS_c _ _ Z Z w5 (L5.out.hg.rd chC_len) (L5.out.hw.rd chC_len)).mono ?_
  rintro e w6 ⟨rfl, b6⟩
  rw [decide_eq_true rfl]
  have L6 : Hid (Lc w (.slice aw N cw) (.slice ag N cg) Z Z w2.heap.size w3.heap.size w4.heap.size w6) := L5.out.below b6
  have HX6 : Hid (OwX w3.heap.size w4.heap.size w6 (.slice ax M cx) cs) := HX5.out.below b6
  have RX6 : Hid (RdS w6 (.slice ax M cx) cs) := RX5.out.below b6
  clear b6 L5 HX5 RX5
  go_wp2_with (fail)
  refine (toSubS_c _ cs w6 (HRR.out.below L6.out.bel) HS.out.1.1 HS.out.1.2).mono ?_
  rintro e w7 ⟨v7, rfl, o7, b7⟩
  have L7 : Hid (Lc w (.slice aw N cw) (.slice ag N cg) Z Z w2.heap.size w3.heap.size w4.heap.size w7) := L6.out.below b7
  have HX7 : Hid (OwX w3.heap.size w4.heap.size w7 (.slice ax M cx) cs) := HX6.out.below b7
  have RX7 : Hid (RdS w7 (.slice ax M cx) cs) := RX6.out.below b7
  have R7 : Hid (RdS w7 v7 cs) := o7.rd
  clear b7 o7 L6 HX6 RX6
  go_wp2_with (fail)
  refine (eqSubS_c _ _ cs cs w7 RX7.out R7.out).mono ?_
  rintro e w8 ⟨rfl, b8⟩
  rw [decide_eq_true rfl]
  have L8 : Hid (Lc w (.slice aw N cw) (.slice ag N cg) Z Z w2.heap.size w3.heap.size w4.heap.size w8) := L7.out.below b8
  have HX8 : Hid (OwX w3.heap.size w4.heap.size w8 (.slice ax M cx) cs) := HX7.out.below b8
  clear b8 L7 HX7 RX7 R7
  go_wp2_with (fail)
  refine (markSubS_c _ cs 1 w3.heap.size w4.heap.size w8 HX8.out (by decide) (by decide) HS.out.2).mono ?_
  rintro e w9 ⟨k9, rfl, hk9, m9⟩
  have L9 : Hid (Lc w (.slice aw N cw) (.slice ag N cg) Z Z w2.heap.size w3.heap.size w4.heap.size w9) := L8.out.mid m9 (Nat.le_refl _) hs03
  have hk9n : ¬ k9 < 0 := by omega
  clear m9 L8 HX8
  go_wp2_with (fail)
  refine (eqChS_c _ _ Z Z w9 (L9.out.hg.rd chC_len) (L9.out.hw.rd chC_len)).mono ?_
  rintro e w10 ⟨rfl, b10⟩
  rw [decide_eq_true rfl]
  have L10 : Hid (Lc w (.slice aw N cw) (.slice ag N cg) Z Z w2.heap.size w3.heap.size w4.heap.size w10) := L9.out.below b10
  clear b10 L9
  go_wp2_with (fail)
  refine (markChS_c _ Z 1 w4.heap.size w10 L10.out.hg (by decide) (by have := HLEN.out; omega)).mono ?_
  rintro e w11 ⟨rfl, o11, m11⟩
  rw [HNN.out] at o11 ⊢
  have L11 : Hid (Lc w (.slice aw N cw) (.slice ag N cg) Z (mkg (mkCh 1) N) w2.heap.size w3.heap.size w4.heap.size w11) := L10.out.mark m11 o11 hs34 (by omega)
  have hms : ¬ (1 + 5 * (N : Int) < 0) := by omega
  have hme : ((1 + 5 * (N : Int)) != 1 + 5 * (N : Int)) = false := by simp
  clear o11 m11 L10
  go_wp2_with (fail)
  refine (heldChS_c _ 1 N w11 (L11.out.hg.rd chC_len) (by decide) (by omega)).mono ?_
  rintro e w12 ⟨rfl, b12⟩
  have L12 : Hid (Lc w (.slice aw N cw) (.slice ag N cg) Z (mkg (mkCh 1) N) w2.heap.size w3.heap.size w4.heap.size w12) := L11.out.below b12
  clear b12 L11
  go_wp2_with (fail)
  refine (toSubS_c _ cs w12 (HRR.out.below L12.out.bel) HS.out.1.1 HS.out.1.2).mono ?_
  rintro e w13 ⟨v13, rfl, o13, b13⟩
  have L13 : Hid (Lc w (.slice aw N cw) (.slice ag N cg) Z (mkg (mkCh 1) N) w2.heap.size w3.heap.size w4.heap.size w13) := L12.out.below b13
  have R13 : Hid (RdS w13 v13 cs) := o13.rd
  clear b13 o13 L12
  go_wp2_with (fail)
  refine (clashesI_c _ cs w13 R13.out HS.out.1.1 HS.out.1.2).mono ?_
  rintro e w14 ⟨vh, rfl, oh, b14⟩
  rw [HZZ.out] at oh
  have L14 : Hid (Lc w (.slice aw N cw) (.slice ag N cg) Z (mkg (mkCh 1) N) w2.heap.size w3.heap.size w4.heap.size w14) := L13.out.below b14
  have RH : Hid (Rg 5 chC w14 vh Z) := oh.rd chC_len
  obtain ⟨ah, ch, eh⟩ := oh.form
  rw [HNN.out] at eh
  subst eh
  clear oh b14 L13 R13
  go_wp2_with (fail)
  refine (eqChS_c _ _ Z Z w14 RH.out (L14.out.hw.rd chC_len)).mono ?_
  rintro e w16 ⟨rfl, b16⟩
  rw [decide_eq_true rfl]
  have L16 : Hid (Lc w (.slice aw N cw) (.slice ag N cg) Z (mkg (mkCh 1) N) w2.heap.size w3.heap.size w4.heap.size w16) := L14.out.below b16
  clear b16 L14 RH
  go_wp2_with (fail)
  refine (heldChS_c _ 1 N w16 (L16.out.hg.rd chC_len) (by decide) (by omega)).mono ?_
  rintro e w17 ⟨rfl, b17⟩
  have B17 : Hid (Below w.heap.size w w17) := belowCall L16.out.bel b17 L16.out.bel.size
  clear b17 L16
  go_wp2
  go_ret
  exact ⟨rfl, B17.out⟩
end Go.Proofs.Ytfaflnhembceoaa

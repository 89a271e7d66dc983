/- FnExactRoute7's body answers true at all subs and numbers; no condition. -/
import Derived.Test.YtfaflnhembceoaaRjC
import Derived.Test.YtfaflnhembceoaaRkB
import Derived.Test.YtfaflnhembceoaaSkL
namespace Go.Proofs.Ytfaflnhembceoaa
open Go.RowKit Go.ChangeShapes Go.WideShapes Go.ChangeAt
set_option linter.unusedVariables false
set_option linter.unusedSimpArgs false
set_option maxRecDepth 8000
/-- what the law holds: the given outcome and the wanted one, each in a box, each with its own hops -/
structure Lw (w : World) (c a : Int) (vw vg : Value) (zw zg : List Int) (gA gG b2 h3 bg hg : Nat) (W : World) : Prop where
  bel : Below w.heap.size w W
  ka : Blk W gA (O3 c a vw) 29
  hw : OwH b2 h3 W vw zw
  kg : Blk W gG (O3 c a vg) 29
  hgg : OwH bg hg W vg zg
theorem Lw.below {w : World} {c a : Int} {vw vg : Value} {zw zg : List Int} {gA gG b2 h3 bg hg : Nat} {W W' : World} (h : Lw w c a vw vg zw zg gA gG b2 h3 bg hg W) (hb : Below W.heap.size W W') : Lw w c a vw vg zw zg gA gG b2 h3 bg hg W' :=
  ⟨belowCall h.bel hb h.bel.size, h.ka.below hb h.ka.lt, h.hw.below hb, h.kg.below hb h.kg.lt, h.hgg.below hb⟩
set_option maxHeartbeats 6400000 in
theorem routeLaw (a : Option Addr) (ln cap : Nat) (cs : Sbs) (f t : Int) (w : World) (h : RdS w (.slice a ln cap) cs) :
   Calls Try.prog 7 #[.slice a ln cap, .int .i64 f, .int .i64 t] w fun e w' => e = .returned (.bool true) ∧ Below w.heap.size w w' := by
  have HRR : Hid (RdS w (.slice a ln cap) cs) := h
  clear h
  go_enter Try.func7, Try.ntmps7
  go_wp2_with (fail)
  refine (szSubS_c _ cs 1048576 w HRR.out (by decide) (by decide)).mono ?_
  rintro e w1 ⟨rfl, b1⟩
  obtain ⟨z, hz⟩ : ∃ z, lft 1048576 (cs.length + ftsTo cs cs.length) = z := ⟨_, rfl⟩
  have HZ : Hid (0 ≤ z → (cs.length ≤ 1048576 ∧ ∀ c ∈ cs, c.2.2.length ≤ 1048576) ∧ cs.length + ftsTo cs cs.length ≤ 1048576) := fun h => sz_ok (by rw [hz]; exact h)
  rw [hz]
  have B1 : Hid (Below w.heap.size w w1) := b1
  clear hz b1
  by_cases hneg : z < 0
  · go_wp2
    go_ret
    exact ⟨rfl, B1.out⟩
  have HS : Hid ((cs.length ≤ 1048576 ∧ ∀ c ∈ cs, c.2.2.length ≤ 1048576) ∧ cs.length + ftsTo cs cs.length ≤ 1048576) := HZ.out (by omega)
  clear HZ
  go_wp2_with (fail)
  refine (toSubS_c _ cs w1 (HRR.out.below B1.out) HS.out.1.1 HS.out.1.2).mono ?_
  rintro e w2 ⟨v1, rfl, o1, b2⟩
  have B2 : Hid (Below w.heap.size w w2) := belowCall B1.out b2 B1.out.size
  have O1 : Hid (RdS w2 v1 cs) := o1.rd
  clear o1 b2 B1
  go_wp2_with (fail)
  refine (routeM_c _ cs f t w2 O1.out HS.out.1.1).mono ?_
  obtain ⟨R, hR⟩ : ∃ R, rtF cs f t = R := ⟨_, rfl⟩
  have HR : Hid (rtF cs f t = R) := hR
  have hlen := rtF_len cs f t
  rw [hR] at hlen ⊢
  obtain ⟨c, at', hops⟩ := R
  dsimp only at hlen
  have HLEN : Hid (hops.length ≤ 7) := hlen
  clear hR hlen
  rintro e w3 ⟨vw, rfl, ow, b3⟩
  dsimp only at ow ⊢
  have HW3 : Hid (OwH w2.heap.size w3.heap.size w3 vw hops) := ow.toH
  have B3 : Hid (Below w.heap.size w w3) := belowCall B2.out b3 B2.out.size
  obtain ⟨aw, cw, rfl, -⟩ := own_form ow
  obtain ⟨N, hN⟩ : ∃ N, hops.length = N := ⟨_, rfl⟩
  have HNN : Hid (hops.length = N) := hN
  rw [hN] at HW3 ⊢
  obtain ⟨W3, hW3⟩ : ∃ W, w3.alloc (Obj.cells (O3 c at' (.slice aw N cw)) 29) = W := ⟨_, rfl⟩
  have ba3 : Below w3.heap.size w3 W3 := hW3 ▸ (Below.refl _ _).alloc (Nat.le_refl _) _
  obtain ⟨gA, hgA⟩ : ∃ g, w3.heap.size = g := ⟨_, rfl⟩
  have KA3 : Hid (Blk W3 gA (O3 c at' (.slice aw N cw)) 29) := hgA ▸ hW3 ▸ Blk.new _ _ _
  have HWW3 : Hid (OwH w2.heap.size gA W3 (.slice aw N cw) hops) := hgA ▸ HW3.out.below ba3
  have BB3 : Hid (Below w.heap.size w W3) := belowCall B3.out ba3 B3.out.size
  have HBW3 : Hid (w.heap.size ≤ W3.heap.size) := BB3.out.size
  clear ow b3 hN ba3 B2 O1 B3 HW3
  go_wp2_with (fail)
  clear hW3 hgA
  refine (toSubS_c _ cs W3 (HRR.out.below BB3.out) HS.out.1.1 HS.out.1.2).mono ?_
  rintro e w4 ⟨vx, rfl, ox, b4⟩
  have HX4 : Hid (OwX W3.heap.size w4.heap.size w4 vx cs) := ox.toX
  have RX4 : Hid (RdS w4 vx cs) := ox.rd
  have B4 : Hid (Below w.heap.size w w4) := belowCall BB3.out b4 BB3.out.size
  have KA4 : Hid (Blk w4 gA (O3 c at' (.slice aw N cw)) 29) := KA3.out.below b4 KA3.out.lt
  have HW4 : Hid (OwH w2.heap.size gA w4 (.slice aw N cw) hops) := HWW3.out.below b4
  have hA3 : gA < W3.heap.size := KA3.out.lt
  have hs34 : W3.heap.size ≤ w4.heap.size := b4.size
  obtain ⟨ax, cx, rfl, -⟩ := ox.rd.len
  obtain ⟨M, hM⟩ : ∃ M, cs.length = M := ⟨_, rfl⟩
  rw [hM] at HX4 RX4 ⊢
  clear ox b4 hM KA3 HWW3 BB3
  go_wp2_with (fail)
  refine (routeI_c _ cs f t w4 RX4.out HS.out.1.1 HS.out.1.2).mono ?_
  rw [HR.out]
  rintro e w5 ⟨vg, rfl, og, b5⟩
  dsimp only at og ⊢
  obtain ⟨ag, cg, rfl, -⟩ := own_form og
  have HG5 : Hid (OwH w4.heap.size w5.heap.size w5 (.slice ag hops.length cg) hops) := og.toH
  rw [HNN.out] at HG5 ⊢
  obtain ⟨W5, hW5⟩ : ∃ W, w5.alloc (Obj.cells (O3 c at' (.slice ag N cg)) 29) = W := ⟨_, rfl⟩
  have ba5 : Below w5.heap.size w5 W5 := hW5 ▸ (Below.refl _ _).alloc (Nat.le_refl _) _
  obtain ⟨gG, hgG⟩ : ∃ g, w5.heap.size = g := ⟨_, rfl⟩
  have B5' := belowCall B4.out b5 B4.out.size
  have LW : Hid (Lw w c at' (.slice aw N cw) (.slice ag N cg) hops hops gA gG w2.heap.size gA w4.heap.size gG W5) :=
    ⟨belowCall B5' ba5 B5'.size, (KA4.out.below b5 KA4.out.lt).below ba5 (Nat.lt_of_lt_of_le KA4.out.lt b5.size), (HW4.out.below b5).below ba5, hgG ▸ hW5 ▸ Blk.new _ _ _, hgG ▸ HG5.out.below ba5⟩
  have HX5 : Hid (OwX W3.heap.size w4.heap.size W5 (.slice ax M cx) cs) := (HX4.out.below b5).below ba5
  have RX5 : Hid (RdS W5 (.slice ax M cx) cs) := (RX4.out.below b5).below ba5
  have hs45 : w4.heap.size ≤ gG := by rw [← hgG]; exact b5.size
  clear og b5 ba5 B5' B4 KA4 HW4 HG5 HX4 RX4
  have a0 := LW.out.ka.cell 0
  have a1 := LW.out.ka.cell 1
  have a2 := LW.out.ka.cell 2
  have e0 := LW.out.kg.cell 0
  have e1 := LW.out.kg.cell 1
  have e2 := LW.out.kg.cell 2
  simp at a0 a1 a2 e0 e1 e2
  go_wp2_with (fail)
  clear hW5 hgG a0 a1 a2 e0 e1 e2
  refine (eqOut_c c at' _ _ hops W5 LW.out.hgg.rd LW.out.hw.rd).mono ?_
  rintro e w6 ⟨rfl, b6⟩
  have L6 : Hid (Lw w c at' (.slice aw N cw) (.slice ag N cg) hops hops gA gG w2.heap.size gA w4.heap.size gG w6) := LW.out.below b6
  have HX6 : Hid (OwX W3.heap.size w4.heap.size w6 (.slice ax M cx) cs) := HX5.out.below b6
  have RX6 : Hid (RdS w6 (.slice ax M cx) cs) := RX5.out.below b6
  clear b6 LW HX5 RX5
  go_wp2_with (fail)
  refine (toSubS_c _ cs w6 (HRR.out.below L6.out.bel) HS.out.1.1 HS.out.1.2).mono ?_
  rintro e w7 ⟨v7, rfl, o7, b7⟩
  have L7 : Hid (Lw w c at' (.slice aw N cw) (.slice ag N cg) hops hops gA gG w2.heap.size gA w4.heap.size gG w7) := L6.out.below b7
  have HX7 : Hid (OwX W3.heap.size w4.heap.size w7 (.slice ax M cx) cs) := HX6.out.below b7
  have RX7 : Hid (RdS w7 (.slice ax M cx) cs) := RX6.out.below b7
  have R7 : Hid (RdS w7 v7 cs) := o7.rd
  clear b7 o7 L6 HX6 RX6
  go_wp2_with (fail)
  refine (eqSubS_c _ _ cs cs w7 RX7.out R7.out).mono ?_
  rintro e w8 ⟨rfl, b8⟩
  rw [decide_eq_true rfl]
  have L8 : Hid (Lw w c at' (.slice aw N cw) (.slice ag N cg) hops hops gA gG w2.heap.size gA w4.heap.size gG w8) := L7.out.below b8
  have HX8 : Hid (OwX W3.heap.size w4.heap.size w8 (.slice ax M cx) cs) := HX7.out.below b8
  clear b8 L7 HX7 RX7 R7
  go_wp2_with (fail)
  refine (markSubS_c _ cs 1 W3.heap.size w4.heap.size w8 HX8.out (by decide) (by decide) HS.out.2).mono ?_
  rintro e w9 ⟨k9, rfl, hk9, m9⟩
  have L9 : Hid (Lw w c at' (.slice aw N cw) (.slice ag N cg) hops hops gA gG w2.heap.size gA w4.heap.size gG w9) :=
    ⟨L8.out.bel.trans (⟨m9.os, m9.tape, m9.output, m9.size, fun k hk => m9.block k (by have := L8.out.bel.size; omega) (.inl (by have := L8.out.bel.size; have := HBW3.out; omega))⟩), L8.out.ka.mid m9 (.inl (by omega)), L8.out.hw.mid m9 (.inl (by omega)), L8.out.kg.mid m9 (.inr (by omega)), L8.out.hgg.mid m9 (.inr (by omega))⟩
  have hk9n : ¬ k9 < 0 := by omega
  clear m9 L8 HX8
  have a0 := L9.out.ka.cell 0
  have a1 := L9.out.ka.cell 1
  have a2 := L9.out.ka.cell 2
  have e0 := L9.out.kg.cell 0
  have e1 := L9.out.kg.cell 1
  have e2 := L9.out.kg.cell 2
  simp at a0 a1 a2 e0 e1 e2
  go_wp2_with (fail)
  clear a0 a1 a2 e0 e1 e2
  refine (eqOut_c c at' _ _ hops w9 L9.out.hgg.rd L9.out.hw.rd).mono ?_
  rintro e w10 ⟨rfl, b10⟩
  have L10 : Hid (Lw w c at' (.slice aw N cw) (.slice ag N cg) hops hops gA gG w2.heap.size gA w4.heap.size gG w10) := L9.out.below b10
  clear b10 L9
  have e0 := L10.out.kg.cell 0
  have e1 := L10.out.kg.cell 1
  have e2 := L10.out.kg.cell 2
  simp at e0 e1 e2
  go_wp2_with (fail)
  clear e0 e1 e2
  refine (markOut_c c at' _ hops 1 w4.heap.size gG w10 L10.out.hgg (by decide) (by have := HLEN.out; omega)).mono ?_
  rintro e w11 ⟨rfl, o11, m11⟩
  rw [HNN.out] at o11 ⊢
  have L11 : Hid (Lw w c at' (.slice aw N cw) (.slice ag N cg) hops (marks .i64 1 N) gA gG w2.heap.size gA w4.heap.size gG w11) :=
    ⟨L10.out.bel.trans (⟨m11.os, m11.tape, m11.output, m11.size, fun k hk => m11.block k (by have := L10.out.bel.size; omega) (.inl (by have := HBW3.out; omega))⟩), L10.out.ka.mid m11 (.inl (by omega)), L10.out.hw.mid m11 (.inl (by omega)), L10.out.kg.mid m11 (.inr (by omega)), o11⟩
  have hN7 : N ≤ 7 := by have := HLEN.out; have := HNN.out; omega
  have hms : ¬ (1 + (N : Int) < 0) := by omega
  have hme : ((1 + (N : Int)) != 1 + (N : Int)) = false := by simp
  clear o11 m11 L10
  have e0 := L11.out.kg.cell 0
  have e1 := L11.out.kg.cell 1
  have e2 := L11.out.kg.cell 2
  simp at e0 e1 e2
  go_wp2_with (fail)
  clear e0 e1 e2
  refine (heldOut_c c at' _ 1 N w11 L11.out.hgg.rd (by decide) (by omega)).mono ?_
  rintro e w12 ⟨rfl, b12⟩
  have L12 : Hid (Lw w c at' (.slice aw N cw) (.slice ag N cg) hops (marks .i64 1 N) gA gG w2.heap.size gA w4.heap.size gG w12) := L11.out.below b12
  clear b12 L11
  go_wp2_with (fail)
  refine (toSubS_c _ cs w12 (HRR.out.below L12.out.bel) HS.out.1.1 HS.out.1.2).mono ?_
  rintro e w13 ⟨v13, rfl, o13, b13⟩
  have L13 : Hid (Lw w c at' (.slice aw N cw) (.slice ag N cg) hops (marks .i64 1 N) gA gG w2.heap.size gA w4.heap.size gG w13) := L12.out.below b13
  have R13 : Hid (RdS w13 v13 cs) := o13.rd
  clear b13 o13 L12
  go_wp2_with (fail)
  refine (routeI_c _ cs f t w13 R13.out HS.out.1.1 HS.out.1.2).mono ?_
  rw [HR.out]
  rintro e w14 ⟨vh, rfl, oh, b14⟩
  dsimp only at oh ⊢
  obtain ⟨ah, ch, rfl, -⟩ := own_form oh
  have RH : Hid (Rd .i64 w14 (.slice ah hops.length ch) hops) := oh.rd
  have L14 : Hid (Lw w c at' (.slice aw N cw) (.slice ag N cg) hops (marks .i64 1 N) gA gG w2.heap.size gA w4.heap.size gG w14) := L13.out.below b14
  rw [HNN.out] at RH ⊢
  obtain ⟨W14, hW14⟩ : ∃ W, w14.alloc (Obj.cells (O3 c at' (.slice ah N ch)) 29) = W := ⟨_, rfl⟩
  have ba14 : Below w14.heap.size w14 W14 := hW14 ▸ (Below.refl _ _).alloc (Nat.le_refl _) _
  have L15 : Hid (Lw w c at' (.slice aw N cw) (.slice ag N cg) hops (marks .i64 1 N) gA gG w2.heap.size gA w4.heap.size gG W14) := L14.out.below ba14
  have RH15 : Hid (Rd .i64 W14 (.slice ah N ch) hops) := RH.out.below ba14
  have kh : Blk W14 w14.heap.size (O3 c at' (.slice ah N ch)) 29 := hW14 ▸ Blk.new _ _ _
  clear oh b14 ba14 L13 L14 RH R13
  have a0 := L15.out.ka.cell 0
  have a1 := L15.out.ka.cell 1
  have a2 := L15.out.ka.cell 2
  have e0 := kh.cell 0
  have e1 := kh.cell 1
  have e2 := kh.cell 2
  simp at a0 a1 a2 e0 e1 e2
  clear kh
  go_wp2_with (fail)
  clear hW14 a0 a1 a2 e0 e1 e2
  refine (eqOut_c c at' _ _ hops W14 RH15.out L15.out.hw.rd).mono ?_
  rintro e w16 ⟨rfl, b16⟩
  have L16 : Hid (Lw w c at' (.slice aw N cw) (.slice ag N cg) hops (marks .i64 1 N) gA gG w2.heap.size gA w4.heap.size gG w16) := L15.out.below b16
  clear b16 L15 RH15
  have e0 := L16.out.kg.cell 0
  have e1 := L16.out.kg.cell 1
  have e2 := L16.out.kg.cell 2
  simp at e0 e1 e2
  go_wp2_with (fail)
  clear e0 e1 e2
  refine (heldOut_c c at' _ 1 N w16 L16.out.hgg.rd (by decide) (by omega)).mono ?_
  rintro e w17 ⟨rfl, b17⟩
  have B17 : Hid (Below w.heap.size w w17) := belowCall L16.out.bel b17 L16.out.bel.size
  clear b17 L16
  go_wp2
  go_ret
  exact ⟨rfl, B17.out⟩
end Go.Proofs.Ytfaflnhembceoaa

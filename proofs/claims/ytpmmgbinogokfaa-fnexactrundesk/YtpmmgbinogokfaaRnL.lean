/- FnExactRunDesk's body answers true at all desks and ops; no condition. -/
import Derived.Test.YtpmmgbinogokfaaRnM
import Derived.Test.YtpmmgbinogokfaaSlI
import Derived.Deep.DeepCutAuto
namespace Go.Proofs.Ytpmmgbinogokfaa
open Go.RowKit Go.ChangeShapes Go.WideShapes Go.ChangeAt
set_option linter.unusedVariables false
set_option linter.unusedSimpArgs false
set_option maxRecDepth 8000
/-- a run's answer in a box -/
structure Ru (C : Nat) (W : World) (X : Nat) (r : Ds × List Int × List Int) (va vq vg vc : Value) : Prop where
  own : OwD C W va vq r.1.2.2.1 r.1.2.2.2
  gvo : Ow .i64 3 C W vg r.2.1
  cdo : Ow .i64 3 C W vc r.2.2
  ap : Apart vg vc
  box : Blk W X (D4 r.1.1 va vq r.1.2.1) 27
  hX : C ≤ X
def InR (va vq vg vc : Value) (X k : Nat) : Prop := InD va vq k ∨ vg.ownBlock = some k ∨ vc.ownBlock = some k ∨ k = X
theorem Ru.below {C : Nat} {W W' : World} {X : Nat} {r : Ds × List Int × List Int} {va vq vg vc : Value} (h : Ru C W X r va vq vg vc) (hb : Below W.heap.size W W') : Ru C W' X r va vq vg vc := ⟨h.own.below hb, h.gvo.below hb, h.cdo.below hb, h.ap, h.box.below hb h.box.lt, h.hX⟩
theorem Ru.lt {C : Nat} {W : World} {X : Nat} {r : Ds × List Int × List Int} {va vq vg vc : Value} (h : Ru C W X r va vq vg vc) (k : Nat) (hk : InR va vq vg vc X k) : C ≤ k ∧ k < W.heap.size := by
  rcases hk with hk | hk | hk | rfl
  · exact h.own.lt k hk
  · exact World.ownsRow.lt h.gvo k hk
  · exact World.ownsRow.lt h.cdo k hk
  · exact ⟨h.hX, h.box.lt⟩
theorem Ru.fr {C : Nat} {W W' : World} {X : Nat} {r : Ds × List Int × List Int} {va vq vg vc : Value} (h : Ru C W X r va vq vg vc) {Y : Nat → Prop} (hf : Fr Y W W') (hY : ∀ k, InR va vq vg vc X k → ¬ Y k) : Ru C W' X r va vq vg vc :=
  ⟨h.own.fr hf (fun k hk => hY k (.inl hk)), ownsRow_fr h.gvo hf (fun k hk => hY k (.inr (.inl hk))), ownsRow_fr h.cdo hf (fun k hk => hY k (.inr (.inr (.inl hk)))), h.ap, h.box.fr hf (hY X (.inr (.inr (.inr rfl)))), h.hX⟩
/-- an answer put into a new box -/
theorem Ru.new {w w' : World} {C : Nat} (hC : C ≤ w.heap.size) {r : Ds × List Int × List Int} {va vq vg vc : Value} (h1 : OwD w.heap.size w' va vq r.1.2.2.1 r.1.2.2.2) (h2 : Ow .i64 3 w.heap.size w' vg r.2.1) (h3 : Ow .i64 3 w.heap.size w' vc r.2.2) (h4 : Apart vg vc) (hb : Below w.heap.size w w') :
    Ru C (w'.alloc (Obj.cells (D4 r.1.1 va vq r.1.2.1) 27)) w'.heap.size r va vq vg vc := by
  have ba : Below w'.heap.size w' (w'.alloc (Obj.cells (D4 r.1.1 va vq r.1.2.1) 27)) := (Below.refl _ _).alloc (Nat.le_refl _) _
  exact ⟨(h1.below ba).mono hC, (h2.below ba).mono hC, (h3.below ba).mono hC, h4, Blk.new _ _ _, by have := hb.size; omega⟩
structure Er (S : Nat) (w W : World) (n g : Int) (v0 v1 : Value) (r : Ds × List Int × List Int) (X : Nat) (va vq vg vc : Value) : Prop where
  bel : Below w.heap.size w W
  k48 : Blk W w.heap.size (D4 n v0 v1 g) 48
  A : Ru (w.heap.size + 1) W X r va vq vg vc
  low : ∀ k, InR va vq vg vc X k → k < S
  hS : w.heap.size < S
theorem Er.below {S : Nat} {w W W' : World} {n g : Int} {v0 v1 : Value} {r : Ds × List Int × List Int} {X : Nat} {va vq vg vc : Value} (h : Er S w W n g v0 v1 r X va vq vg vc) (hb : Below W.heap.size W W') : Er S w W' n g v0 v1 r X va vq vg vc :=
  ⟨belowCall h.bel hb h.bel.size, h.k48.below hb h.k48.lt, h.A.below hb, h.low, h.hS⟩
theorem Er.fr {S : Nat} {w W W' : World} {n g : Int} {v0 v1 : Value} {r : Ds × List Int × List Int} {X : Nat} {va vq vg vc : Value} (h : Er S w W n g v0 v1 r X va vq vg vc) {Y : Nat → Prop} (hf : Fr Y W W') (hY : ∀ k, Y k → S ≤ k) : Er S w W' n g v0 v1 r X va vq vg vc :=
  ⟨h.bel.trans (hf.below h.bel.size (fun k e => by have := hY k e; have := h.hS; omega)), h.k48.fr hf (fun e => by have := hY _ e; have := h.hS; omega), h.A.fr hf (fun k hk e => by have := hY _ e; have := h.low k hk; omega), h.low, h.hS⟩
/-- the arguments handed to the program -/
structure Xr (S C : Nat) (W : World) (n g : Int) (v0 v1 vx : Value) (gs : List Ag) (qs : List Wt) (os : List Do) (gx : Nat) : Prop where
  own : OwD S W v0 v1 gs qs
  ops : Og 5 doC 38 S W vx os
  box : Blk W gx (D4 n v0 v1 g) 27
  lo : ∀ k, (InD v0 v1 k ∨ vx.ownBlock = some k) → S ≤ k ∧ k < C
theorem Xr.below {S C : Nat} {W W' : World} {n g : Int} {v0 v1 vx : Value} {gs : List Ag} {qs : List Wt} {os : List Do} {gx : Nat} (h : Xr S C W n g v0 v1 vx gs qs os gx) (hb : Below W.heap.size W W') : Xr S C W' n g v0 v1 vx gs qs os gx :=
  ⟨h.own.below hb, h.ops.below hb, h.box.below hb h.box.lt, h.lo⟩
/-- the answer's rows marked -/
structure Mr (C : Nat) (W : World) (X : Nat) (n g : Int) (va vq vg vc : Value) (N1 N2 N3 N4 : Nat) (M1 M2 : Int) : Prop where
  own : OwD C W va vq (mkA 1 N1) (mkQ (1 + 3 * N1) N2)
  mg : Ow .i64 3 C W vg (marks .i64 M1 N3)
  mc : Ow .i64 3 C W vc (marks .i64 M2 N4)
  box : Blk W X (D4 n va vq g) 27
theorem Mr.below {C : Nat} {W W' : World} {X : Nat} {n g : Int} {va vq vg vc : Value} {N1 N2 N3 N4 : Nat} {M1 M2 : Int} (h : Mr C W X n g va vq vg vc N1 N2 N3 N4 M1 M2) (hb : Below W.heap.size W W') : Mr C W' X n g va vq vg vc N1 N2 N3 N4 M1 M2 :=
  ⟨h.own.below hb, h.mg.below hb, h.mc.below hb, h.box.below hb h.box.lt⟩
theorem rnF_len (d : Ds) (os : List Do) (h1 : d.2.2.1.length ≤ 1048576) (h2 : d.2.2.2.length ≤ 1048576) : (rnF d os).1.2.2.1.length ≤ 2000000 ∧ (rnF d os).1.2.2.2.length ≤ 2000000 ∧ (rnF d os).2.1.length ≤ 2000000 ∧ (rnF d os).2.2.length ≤ 2000000 := by
  unfold rnF
  split
  · simp
  · have := rnT_bd d os os.length (Nat.le_refl _)
    omega
theorem notInD {B : Nat} {W : World} {va vq v : Value} {C : Nat} {gs : List Ag} {qs : List Wt} {zs : List Int} (h : OwD C W va vq gs qs) (h' : Ow .i64 3 B W v zs) (k : Nat) (hk : v.ownBlock = some k) : ¬ InD va vq k := by
  rintro (e | e)
  · rcases row_ne h.1 h' (by decide) with h1 | h1
    · rw [h1] at e; cases e
    · exact h1 (e.trans hk.symm)
  · rcases row_ne h.2.1 h' (by decide) with h1 | h1
    · rw [h1] at e; cases e
    · exact h1 (e.trans hk.symm)
theorem notInO {B : Nat} {W : World} {va vq v : Value} {C : Nat} {gs : List Ag} {qs : List Wt} {os : List Do} (h : OwD C W va vq gs qs) (h' : Og 5 doC 38 B W v os) (k : Nat) (hk : v.ownBlock = some k) : ¬ InD va vq k := by
  rintro (e | e)
  · rcases row_ne h.1 h' (by decide) with h1 | h1
    · rw [h1] at e; cases e
    · exact h1 (e.trans hk.symm)
  · rcases row_ne h.2.1 h' (by decide) with h1 | h1
    · rw [h1] at e; cases e
    · exact h1 (e.trans hk.symm)
set_option maxHeartbeats 25600000 in
theorem runLaw (n g : Int) (va vq : Value) (gs : List Ag) (qs : List Wt) (vo : Value) (os : List Do) (w : World) (ha : Rg 3 agC w va gs) (hq : Rg 4 wtC w vq qs) (ho : Rg 5 doC w vo os) :
    Calls Try.prog 7 #[.agg (D4 n va vq g), vo] w fun e w' => e = .returned (.bool true) ∧ Below w.heap.size w w' := by
  obtain ⟨W0, hW0⟩ : ∃ W0, w.alloc (Obj.cells (D4 n va vq g) 48) = W0 := ⟨_, rfl⟩
  have hb0 : Below w.heap.size w W0 := by rw [← hW0]; exact (Below.refl _ _).alloc (Nat.le_refl _) _
  have HB0 : Hid (Below w.heap.size w W0) := hb0
  have HK0 : Hid (Blk W0 w.heap.size (D4 n va vq g) 48) := by show Blk _ _ _ _; rw [← hW0]; exact Blk.new _ _ _
  have HH : Hid (∀ W, Below w.heap.size w W → (Rg 3 agC W va gs ∧ Rg 4 wtC W vq qs) ∧ Rg 5 doC W vo os) := fun W h => ⟨⟨ha.below h, hq.below h⟩, ho.below h⟩
  obtain ⟨a0, p0, rfl, -⟩ := ha
  obtain ⟨a1, p1, rfl, -⟩ := hq
  obtain ⟨oa, oc, hov, -⟩ := ho
  obtain ⟨m, hm⟩ : ∃ m, os.length = m := ⟨_, rfl⟩
  have HM : Hid (os.length = m) := hm
  rw [hm] at hov
  subst hov
  clear hm
  have x0 := HK0.out.cell 0
  have x1 := HK0.out.cell 1
  have x2 := HK0.out.cell 2
  have x3 := HK0.out.cell 3
  simp at x0 x1 x2 x3
  have HW0 : Hid (w.alloc (Obj.cells (D4 n (.slice a0 gs.length p0) (.slice a1 qs.length p1) g) 48) = W0) := hW0
  clear hb0 hW0
  obtain ⟨r, hr⟩ : ∃ r, rnF (n, g, gs, qs) os = r := ⟨_, rfl⟩
  have HR : Hid (rnF (n, g, gs, qs) os = r) := hr
  clear hr
  go_enter Try.func7, Try.ntmps7
  go_wp2_with (fail)
  rw [HW0.out]
  refine (szDesk_c n g _ _ gs qs W0 (HH.out _ HB0.out).1.1 (HH.out _ HB0.out).1.2).mono ?_
  rintro e w1 ⟨z, rfl, hz, b1⟩
  have HB1 : Hid (Below w.heap.size w w1) := belowCall HB0.out b1 HB0.out.size
  have HK1 : Hid (Blk w1 w.heap.size (D4 n (.slice a0 gs.length p0) (.slice a1 qs.length p1) g) 48) := HK0.out.below b1 HK0.out.lt
  clear b1 HK0 HB0 x0 x1 x2 x3 HW0
  by_cases hneg : z < 0
  · clear hz
    go_wp2
    go_ret
    exact ⟨rfl, HB1.out⟩
  have hz0 : 0 ≤ z := by omega
  have hz1 : z ≤ 1048576 := by omega
  have HL : Hid (gs.length ≤ 1048576 ∧ qs.length ≤ 1048576) := ⟨by omega, by omega⟩
  have hneg' : decide (z < 0) = false := by simpa using hneg
  clear hz hneg
  go_wp2_with (fail)
  refine (szDoS_c _ os z w1 (HH.out _ HB1.out).2 hz0 hz1).mono ?_
  rintro e w2 ⟨rfl, hw⟩
  rw [hw, HM.out]
  clear hw w2
  by_cases hlt : z < m
  · rw [if_pos hlt]
    go_wp2
    go_ret
    exact ⟨rfl, HB1.out⟩
  rw [if_neg hlt]
  have HLO : Hid (os.length ≤ 1048576) := by show _ ≤ _; rw [HM.out]; omega
  have hz2 : decide (z - (m : Int) < 0) = false := by simp; omega
  have hz3 : (z - (m : Int) < 0) = False := eq_false (by omega)
  have hz4 : 0 ≤ z - (m : Int) := by omega
  have hz5 : z - (m : Int) ≤ 1048576 := by omega
  clear hlt
  have x0 := HK1.out.cell 0
  have x1 := HK1.out.cell 1
  have x2 := HK1.out.cell 2
  have x3 := HK1.out.cell 3
  simp at x0 x1 x2 x3
  go_wp2_with (fail)
  refine (toDesk_c n g _ _ gs qs w1 (HH.out _ HB1.out).1.1 (HH.out _ HB1.out).1.2 HL.out.1 HL.out.2).mono ?_
  rintro e w2 ⟨u0, u1, rfl, o2, b2⟩
  have HB2 : Hid (Below w.heap.size w w2) := belowCall HB1.out b2 HB1.out.size
  have HK2 : Hid (Blk w2 w.heap.size (D4 n (.slice a0 gs.length p0) (.slice a1 qs.length p1) g) 48) := HK1.out.below b2 HK1.out.lt
  have HR2 : Hid (∀ W, Below w2.heap.size w2 W → Rg 3 agC W u0 gs ∧ Rg 4 wtC W u1 qs) := fun W h => ⟨(o2.1.rd agC_len).below h, (o2.2.1.rd wtC_len).below h⟩
  clear o2 b2 HB1 HK1 x0 x1 x2 x3
  go_wp2_with (fail)
  refine (toDoS_c _ os w2 (HH.out _ HB2.out).2 HLO.out).mono ?_
  rintro e w3 ⟨vx0, rfl, o3, b3⟩
  have HB3 : Hid (Below w.heap.size w w3) := belowCall HB2.out b3 HB2.out.size
  have HK3 : Hid (Blk w3 w.heap.size (D4 n (.slice a0 gs.length p0) (.slice a1 qs.length p1) g) 48) := HK2.out.below b3 HK2.out.lt
  have HR3 : Hid ((Rg 3 agC w3 u0 gs ∧ Rg 4 wtC w3 u1 qs) ∧ Rg 5 doC w3 vx0 os) := ⟨HR2.out _ b3, o3.rd doC_len⟩
  clear o3 b3 HB2 HK2 HR2
  go_wp2_with (fail)
  refine (runM_c n g _ _ _ gs qs os w3 HR3.out.1.1 HR3.out.1.2 HL.out.1 HL.out.2 HR3.out.2).mono ?_
  rw [HR.out]
  rintro e w4 ⟨va1, vq1, vg1, vc1, rfl, h1, h2, h3, h4, b4⟩
  have hA := Ru.new (C := w.heap.size + 1) (by have := HK3.out.lt; omega) h1 h2 h3 h4 b4
  have ba : Below w4.heap.size w4 (w4.alloc (Obj.cells (D4 r.1.1 va1 vq1 r.1.2.1) 27)) := (Below.refl _ _).alloc (Nat.le_refl _) _
  obtain ⟨X1, hX1⟩ : ∃ k, w4.heap.size = k := ⟨_, rfl⟩
  obtain ⟨W5, hW5⟩ : ∃ W, w4.alloc (Obj.cells (D4 r.1.1 va1 vq1 r.1.2.1) 27) = W := ⟨_, rfl⟩
  obtain ⟨S5, hS5⟩ : ∃ S, W5.heap.size = S := ⟨_, rfl⟩
  have HE5 : Hid (Er S5 w W5 n g (.slice a0 gs.length p0) (.slice a1 qs.length p1) r X1 va1 vq1 vg1 vc1) := by
    have hk := (HK3.out.below b4 HK3.out.lt).below ba (HK3.out.below b4 HK3.out.lt).lt
    rw [hX1, hW5] at hA
    rw [hW5] at hk
    refine ⟨by rw [← hW5]; exact belowCall (belowCall HB3.out b4 HB3.out.size) ba (Nat.le_trans HB3.out.size b4.size), hk, hA, fun j hj => by rw [← hS5]; exact (hA.lt j hj).2, by rw [← hS5]; exact hk.lt⟩
  have HS5 : Hid (W5.heap.size = S5) := hS5
  clear hA ba h1 h2 h3 h4 b4 HB3 HK3 HR3
  obtain ⟨e1, q1, hva1⟩ := HE5.out.A.own.1.form
  obtain ⟨e2, q2, hvq1⟩ := HE5.out.A.own.2.1.form
  obtain ⟨l1, hl1⟩ : ∃ l, r.1.2.2.1.length = l := ⟨_, rfl⟩
  obtain ⟨l2, hl2⟩ : ∃ l, r.1.2.2.2.length = l := ⟨_, rfl⟩
  have HL1 : Hid (r.1.2.2.1.length = l1) := hl1
  have HL2 : Hid (r.1.2.2.2.length = l2) := hl2
  rw [hl1] at hva1
  rw [hl2] at hvq1
  subst hva1 hvq1
  clear hl1 hl2 hS5
  have x0 := HE5.out.k48.cell 0
  have x1 := HE5.out.k48.cell 1
  have x2 := HE5.out.k48.cell 2
  have x3 := HE5.out.k48.cell 3
  simp at x0 x1 x2 x3
  go_wp2_with (fail)
  refine (toDesk_c n g _ _ gs qs W5 (HH.out _ HE5.out.bel).1.1 (HH.out _ HE5.out.bel).1.2 HL.out.1 HL.out.2).mono ?_
  rintro e w6 ⟨u3, u4, rfl, o6, b6⟩
  obtain ⟨e0, q0, rfl⟩ := o6.1.form
  obtain ⟨e1', q1', rfl⟩ := o6.2.1.form
  have ba : Below w6.heap.size w6 (w6.alloc (Obj.cells (D4 n (.slice e0 gs.length q0) (.slice e1' qs.length q1') g) 27)) := (Below.refl _ _).alloc (Nat.le_refl _) _
  obtain ⟨gx, hgx⟩ : ∃ k, w6.heap.size = k := ⟨_, rfl⟩
  obtain ⟨W6, hW6⟩ : ∃ W, w6.alloc (Obj.cells (D4 n (.slice e0 gs.length q0) (.slice e1' qs.length q1') g) 27) = W := ⟨_, rfl⟩
  have HE6 : Hid (Er S5 w W6 n g (.slice a0 gs.length p0) (.slice a1 qs.length p1) r X1 (.slice e1 l1 q1) (.slice e2 l2 q2) vg1 vc1) := by have := (HE5.out.below b6).below ba; rw [hW6] at this; exact this
  have HX6 : Hid (OwD S5 W6 (.slice e0 gs.length q0) (.slice e1' qs.length q1') gs qs ∧ Blk W6 gx (D4 n (.slice e0 gs.length q0) (.slice e1' qs.length q1') g) 27) := by
    have h1 := o6.below ba
    have h2 : Blk (w6.alloc (Obj.cells (D4 n (.slice e0 gs.length q0) (.slice e1' qs.length q1') g) 27)) w6.heap.size (D4 n (.slice e0 gs.length q0) (.slice e1' qs.length q1') g) 27 := Blk.new _ _ _
    rw [hW6] at h1 h2
    rw [hgx] at h2
    rw [HS5.out] at h1
    exact ⟨h1, h2⟩
  have HS6 : Hid (S5 ≤ W6.heap.size) := by show _ ≤ _; rw [← HS5.out, ← hW6]; have := b6.size; simp; omega
  clear o6 b6 ba x0 x1 x2 x3 HE5
  go_wp2_with (fail)
  refine (toDoS_c _ os W6 (HH.out _ HE6.out.bel).2 HLO.out).mono ?_
  rintro e w7 ⟨vx, rfl, o7, b7⟩
  obtain ⟨ex, cx, hvx⟩ := o7.form
  rw [HM.out] at hvx
  subst hvx
  obtain ⟨C2, hC2⟩ : ∃ C, w7.heap.size = C := ⟨_, rfl⟩
  have HE7 : Hid (Er S5 w w7 n g (.slice a0 gs.length p0) (.slice a1 qs.length p1) r X1 (.slice e1 l1 q1) (.slice e2 l2 q2) vg1 vc1) := HE6.out.below b7
  have HX7 : Hid (Xr S5 C2 w7 n g (.slice e0 gs.length q0) (.slice e1' qs.length q1') (.slice ex m cx) gs qs os gx) := by
    have h1 := HX6.out.1.below b7
    have h2 := Og.mono o7 HS6.out
    refine ⟨h1, h2, HX6.out.2.below b7 HX6.out.2.lt, fun k hk => ?_⟩
    rw [← hC2]
    rcases hk with hk | hk
    · exact h1.lt k hk
    · exact Og.lt h2 k hk
  have HC2 : Hid (w7.heap.size = C2 ∧ S5 ≤ C2) := ⟨hC2, by rw [← hC2]; exact Nat.le_trans HS6.out b7.size⟩
  clear o7 b7 HE6 HX6 HS6 hC2 hW6 hgx hW5 hX1
  have y0 := HX7.out.box.cell 0
  have y1 := HX7.out.box.cell 1
  have y2 := HX7.out.box.cell 2
  have y3 := HX7.out.box.cell 3
  simp at y0 y1 y2 y3
  go_wp2_with (fail)
  refine (runI_c n g _ _ _ gs qs os w7 (HX7.out.own.1.rd agC_len) (HX7.out.own.2.1.rd wtC_len) HL.out.1 HL.out.2 (HX7.out.ops.rd doC_len)).mono ?_
  rw [HR.out]
  rintro e w8 ⟨va2, vq2, vg2, vc2, rfl, h1, h2, h3, h4, b8⟩
  have hG := Ru.new (C := C2) (by rw [HC2.out.1]; exact Nat.le_refl _) h1 h2 h3 h4 b8
  have ba : Below w8.heap.size w8 (w8.alloc (Obj.cells (D4 r.1.1 va2 vq2 r.1.2.1) 27)) := (Below.refl _ _).alloc (Nat.le_refl _) _
  obtain ⟨X2, hX2⟩ : ∃ k, w8.heap.size = k := ⟨_, rfl⟩
  obtain ⟨W8, hW8⟩ : ∃ W, w8.alloc (Obj.cells (D4 r.1.1 va2 vq2 r.1.2.1) 27) = W := ⟨_, rfl⟩
  have HE8 : Hid (Er S5 w W8 n g (.slice a0 gs.length p0) (.slice a1 qs.length p1) r X1 (.slice e1 l1 q1) (.slice e2 l2 q2) vg1 vc1) := by have := (HE7.out.below b8).below ba; rw [hW8] at this; exact this
  have HX8 : Hid (Xr S5 C2 W8 n g (.slice e0 gs.length q0) (.slice e1' qs.length q1') (.slice ex m cx) gs qs os gx) := by have := (HX7.out.below b8).below ba; rw [hW8] at this; exact this
  have HG8 : Hid (Ru C2 W8 X2 r va2 vq2 vg2 vc2) := by rw [hX2, hW8] at hG; exact hG
  clear hG ba h1 h2 h3 h4 b8 HE7 HX7 y0 y1 y2 y3
  obtain ⟨f1, t1, hva1⟩ := HG8.out.own.1.form
  obtain ⟨f2, t2, hvq1⟩ := HG8.out.own.2.1.form
  rw [HL1.out] at hva1
  rw [HL2.out] at hvq1
  subst hva1 hvq1
  have y0 := HG8.out.box.cell 0
  have y1 := HG8.out.box.cell 1
  have y2 := HG8.out.box.cell 2
  have y3 := HG8.out.box.cell 3
  simp at y0 y1 y2 y3
  have x0 := HE8.out.A.box.cell 0
  have x1 := HE8.out.A.box.cell 1
  have x2 := HE8.out.A.box.cell 2
  have x3 := HE8.out.A.box.cell 3
  simp at x0 x1 x2 x3
  go_wp2_with (fail)
  refine (eqDesk_t _ _ _ _ _ _ r.1.2.2.1 r.1.2.2.2 W8 (HG8.out.own.1.rd agC_len) (HG8.out.own.2.1.rd wtC_len) (HE8.out.A.own.1.rd agC_len) (HE8.out.A.own.2.1.rd wtC_len)).mono ?_
  rintro e w9a ⟨rfl, bq⟩
  have HEw9a : Hid (Er S5 w w9a n g (.slice a0 gs.length p0) (.slice a1 qs.length p1) r X1 (.slice e1 l1 q1) (.slice e2 l2 q2) vg1 vc1) := HE8.out.below bq
  have HXw9a : Hid (Xr S5 C2 w9a n g (.slice e0 gs.length q0) (.slice e1' qs.length q1') (.slice ex m cx) gs qs os gx) := HX8.out.below bq
  have HGw9a : Hid (Ru C2 w9a X2 r (.slice f1 l1 t1) (.slice f2 l2 t2) vg2 vc2) := HG8.out.below bq
  clear bq x0 x1 x2 x3 y0 y1 y2 y3 HE8 HX8 HG8
  go_wp2_with (fail)
  refine (eqIS _ _ r.2.1 w9a (HGw9a.out.gvo.rd) (HEw9a.out.A.gvo.rd)).mono ?_
  rintro e w9b ⟨rfl, bq⟩
  have HEw9b : Hid (Er S5 w w9b n g (.slice a0 gs.length p0) (.slice a1 qs.length p1) r X1 (.slice e1 l1 q1) (.slice e2 l2 q2) vg1 vc1) := HEw9a.out.below bq
  have HXw9b : Hid (Xr S5 C2 w9b n g (.slice e0 gs.length q0) (.slice e1' qs.length q1') (.slice ex m cx) gs qs os gx) := HXw9a.out.below bq
  have HGw9b : Hid (Ru C2 w9b X2 r (.slice f1 l1 t1) (.slice f2 l2 t2) vg2 vc2) := HGw9a.out.below bq
  clear bq HEw9a HXw9a HGw9a
  go_wp2_with (fail)
  refine (eqIS _ _ r.2.2 w9b (HGw9b.out.cdo.rd) (HEw9b.out.A.cdo.rd)).mono ?_
  rintro e w9 ⟨rfl, bq⟩
  have HEw9 : Hid (Er S5 w w9 n g (.slice a0 gs.length p0) (.slice a1 qs.length p1) r X1 (.slice e1 l1 q1) (.slice e2 l2 q2) vg1 vc1) := HEw9b.out.below bq
  have HXw9 : Hid (Xr S5 C2 w9 n g (.slice e0 gs.length q0) (.slice e1' qs.length q1') (.slice ex m cx) gs qs os gx) := HXw9b.out.below bq
  have HGw9 : Hid (Ru C2 w9 X2 r (.slice f1 l1 t1) (.slice f2 l2 t2) vg2 vc2) := HGw9b.out.below bq
  clear bq HEw9b HXw9b HGw9b
  obtain ⟨S, hS⟩ : ∃ S : World → Prop, ∀ W, S W ↔ Below w9.heap.size w9 W := ⟨_, fun _ => Iff.rfl⟩
  have zc0 : ∀ W : At S, W.wd.cell? ⟨w.heap.size, 0, none⟩ = some (.int .i64 n) := fun W => by rw [(HEw9.out.k48.below ((hS _).1 W.ok) HEw9.out.k48.lt).cell 0]; rfl
  have zx0 : ∀ W : At S, W.wd.cell? ⟨gx, 0, none⟩ = some (.int .i64 n) := fun W => by rw [(HXw9.out.box.below ((hS _).1 W.ok) HXw9.out.box.lt).cell 0]; rfl
  have zc1 : ∀ W : At S, W.wd.cell? ⟨w.heap.size, 1, none⟩ = some (.slice a0 gs.length p0) := fun W => by rw [(HEw9.out.k48.below ((hS _).1 W.ok) HEw9.out.k48.lt).cell 1]; rfl
  have zx1 : ∀ W : At S, W.wd.cell? ⟨gx, 1, none⟩ = some (.slice e0 gs.length q0) := fun W => by rw [(HXw9.out.box.below ((hS _).1 W.ok) HXw9.out.box.lt).cell 1]; rfl
  have zc2 : ∀ W : At S, W.wd.cell? ⟨w.heap.size, 2, none⟩ = some (.slice a1 qs.length p1) := fun W => by rw [(HEw9.out.k48.below ((hS _).1 W.ok) HEw9.out.k48.lt).cell 2]; rfl
  have zx2 : ∀ W : At S, W.wd.cell? ⟨gx, 2, none⟩ = some (.slice e1' qs.length q1') := fun W => by rw [(HXw9.out.box.below ((hS _).1 W.ok) HXw9.out.box.lt).cell 2]; rfl
  have zc3 : ∀ W : At S, W.wd.cell? ⟨w.heap.size, 3, none⟩ = some (.int .i64 g) := fun W => by rw [(HEw9.out.k48.below ((hS _).1 W.ok) HEw9.out.k48.lt).cell 3]; rfl
  have zx3 : ∀ W : At S, W.wd.cell? ⟨gx, 3, none⟩ = some (.int .i64 g) := fun W => by rw [(HXw9.out.box.below ((hS _).1 W.ok) HXw9.out.box.lt).cell 3]; rfl
  have HS : Hid (∀ W, S W ↔ Below w9.heap.size w9 W) := hS
  have ne : Nonempty (At S) := ⟨⟨w9, (hS _).2 (Below.refl _ _)⟩⟩
  clear hS
  go_wp2
  refine region_mixA [true, true, false, false, false] 5 3 S (by kernel_rfl) rfl (by kernel_rfl) (fun _ _ _ _ _ h => h) ((HS.out _).2 (Below.refl _ _).drew) ?_
  simp only [selT, selF]
  repeat (go_big_quiet_step (fail))
  refine wpQuiet_nil ?_
  refine tail_step ?_
  go_wp2_with (fail)
  refine (toDesk_c n g _ _ gs qs w9.drew (HH.out _ HEw9.out.bel.drew).1.1 (HH.out _ HEw9.out.bel.drew).1.2 HL.out.1 HL.out.2).mono ?_
  rintro e w9a ⟨u0, u1, rfl, o7, b7⟩
  have B7 : Below w9.heap.size w9 w9a := (Below.refl _ _).drew.trans b7
  have HB7 : Hid (Below w9.heap.size w9 w9a) := B7
  have HO7 : Hid ((Rg 3 agC w9a u0 gs ∧ Rg 4 wtC w9a u1 qs) ∧ (Rg 3 agC w9a (.slice e0 gs.length q0) gs ∧ Rg 4 wtC w9a (.slice e1' qs.length q1') qs)) := ⟨⟨o7.1.rd agC_len, o7.2.1.rd wtC_len⟩, (HXw9.out.own.1.rd agC_len).below B7, (HXw9.out.own.2.1.rd wtC_len).below B7⟩
  clear o7 b7 B7
  go_wp2
  refine ⟨(HS.out _).2 HB7.out, tail_step ?_⟩
  go_wp2_with (fail)
  refine (eqDesk_t n g _ _ _ _ gs qs w9a HO7.out.2.1 HO7.out.2.2 HO7.out.1.1 HO7.out.1.2).mono ?_
  rintro e w10 ⟨rfl, b8⟩
  have HB8 : Hid (Below w9.heap.size w9 w10) := belowCall HB7.out b8 HB7.out.size
  clear b8
  go_wp2
  refine ⟨(HS.out _).2 HB8.out, tail_step ?_⟩
  go_wp2
  refine ⟨(HS.out _).2 HB8.out, tail_end ?_⟩
  have HEw10 : Hid (Er S5 w w10 n g (.slice a0 gs.length p0) (.slice a1 qs.length p1) r X1 (.slice e1 l1 q1) (.slice e2 l2 q2) vg1 vc1) := HEw9.out.below HB8.out
  have HGw10 : Hid (Ru C2 w10 X2 r (.slice f1 l1 t1) (.slice f2 l2 t2) vg2 vc2) := HGw9.out.below HB8.out
  have HXw10 : Hid (Xr S5 C2 w10 n g (.slice e0 gs.length q0) (.slice e1' qs.length q1') (.slice ex m cx) gs qs os gx) := HXw9.out.below HB8.out
  clear HB8 HB7 HO7 HEw9 HGw9 HXw9 zc0 zc1 zc2 zc3 zx0 zx1 zx2 zx3 ne HS
  go_wp2_with (fail)
  refine (toDoS_c _ os w10 (HH.out _ HEw10.out.bel).2 HLO.out).mono ?_
  rintro e w11 ⟨vy, rfl, o11, bq⟩
  have HEw11 : Hid (Er S5 w w11 n g (.slice a0 gs.length p0) (.slice a1 qs.length p1) r X1 (.slice e1 l1 q1) (.slice e2 l2 q2) vg1 vc1) := HEw10.out.below bq
  have HGw11 : Hid (Ru C2 w11 X2 r (.slice f1 l1 t1) (.slice f2 l2 t2) vg2 vc2) := HGw10.out.below bq
  have HXw11 : Hid (Xr S5 C2 w11 n g (.slice e0 gs.length q0) (.slice e1' qs.length q1') (.slice ex m cx) gs qs os gx) := HXw10.out.below bq
  have HY11 : Hid (Rg 5 doC w11 vy os) := o11.rd doC_len
  clear bq o11 HEw10 HGw10 HXw10
  go_wp2_with (fail)
  have hdo : decide (os = os) = true := by simp
  refine (eqDoS_c _ _ os os w11 (HXw11.out.ops.rd doC_len) HY11.out).mono ?_
  rw [hdo]
  rintro e w12 ⟨rfl, bq⟩
  have HEw12 : Hid (Er S5 w w12 n g (.slice a0 gs.length p0) (.slice a1 qs.length p1) r X1 (.slice e1 l1 q1) (.slice e2 l2 q2) vg1 vc1) := HEw11.out.below bq
  have HGw12 : Hid (Ru C2 w12 X2 r (.slice f1 l1 t1) (.slice f2 l2 t2) vg2 vc2) := HGw11.out.below bq
  have HXw12 : Hid (Xr S5 C2 w12 n g (.slice e0 gs.length q0) (.slice e1' qs.length q1') (.slice ex m cx) gs qs os gx) := HXw11.out.below bq
  clear bq hdo HEw11 HGw11 HXw11 HY11
  obtain ⟨K, hK⟩ : ∃ K, (1 : Int) + 3 * gs.length + 4 * qs.length = K := ⟨_, rfl⟩
  obtain ⟨K2, hK2⟩ : ∃ K2, K + 5 * (m : Int) = K2 := ⟨_, rfl⟩
  have HMK := markDesk_c S5 n g 1 _ _ gs qs w12 HXw12.out.own (by decide) (by have := HL.out; omega)
  rw [hK] at HMK
  have HMK' : Hid (Calls Try.prog 24 #[.agg (D4 n (.slice e0 gs.length q0) (.slice e1' qs.length q1') g), .int .i64 1] w12 fun e w' => e = .returned (.int .i64 K) ∧ OwD S5 w' (.slice e0 gs.length q0) (.slice e1' qs.length q1') (mkA 1 gs.length) (mkQ (1 + 3 * gs.length) qs.length) ∧ Fr (InD (.slice e0 gs.length q0) (.slice e1' qs.length q1')) w12 w') := HMK
  have HMO : Hid (∀ W, Og 5 doC 38 S5 W (.slice ex m cx) os → Calls Try.prog 32 #[.slice ex m cx, .int .i64 K] W fun e w' => e = .returned (.int .i64 K2) ∧ Og 5 doC 38 S5 w' (.slice ex m cx) (mkg (mkDo K) os.length) ∧ W.grownBy w' (Value.slice ex m cx).ownBlock) := by
    intro W h
    have := markDoS_c _ os K S5 W h (by omega) (by have := HLO.out; have := HL.out; omega)
    rw [HM.out] at this ⊢
    rw [hK2] at this
    exact this
  have hKn : (K2 < 0) = False := eq_false (by omega)
  have y0 := HXw12.out.box.cell 0
  have y1 := HXw12.out.box.cell 1
  have y2 := HXw12.out.box.cell 2
  have y3 := HXw12.out.box.cell 3
  simp at y0 y1 y2 y3
  clear HMK hK hK2
  go_wp2_with (fail)
  refine HMK'.out.mono ?_
  rintro e w13 ⟨rfl, -, fm⟩
  have HEw13 : Hid (Er S5 w w13 n g (.slice a0 gs.length p0) (.slice a1 qs.length p1) r X1 (.slice e1 l1 q1) (.slice e2 l2 q2) vg1 vc1) := HEw12.out.fr fm (fun j hj => (HXw12.out.lo j (.inl hj)).1)
  have HGw13 : Hid (Ru C2 w13 X2 r (.slice f1 l1 t1) (.slice f2 l2 t2) vg2 vc2) := HGw12.out.fr fm (fun j hj e => by have h1 := (HGw12.out.lt j hj).1; have h2 := (HXw12.out.lo j (.inl e)).2; omega)
  have HO13 : Hid (Og 5 doC 38 S5 w13 (.slice ex m cx) os ∧ ∀ k, (Value.slice ex m cx).ownBlock = some k → S5 ≤ k ∧ k < C2) := ⟨ownsRow_fr HXw12.out.ops fm (fun j hj e => notInO HXw12.out.own HXw12.out.ops j hj e), fun k hk => HXw12.out.lo k (.inr hk)⟩
  clear fm HMK' HEw12 HGw12 HXw12 y0 y1 y2 y3
  go_wp2_with (fail)
  refine (HMO.out w13 HO13.out.1).mono ?_
  rintro e w14 ⟨rfl, -, gi⟩
  have fi : Fr (fun j => (Value.slice ex m cx).ownBlock = some j) w13 w14 := Fr.ofGrown gi (fun j e => e)
  have HEw14 : Hid (Er S5 w w14 n g (.slice a0 gs.length p0) (.slice a1 qs.length p1) r X1 (.slice e1 l1 q1) (.slice e2 l2 q2) vg1 vc1) := HEw13.out.fr fi (fun j hj => (HO13.out.2 j hj).1)
  have HGw14 : Hid (Ru C2 w14 X2 r (.slice f1 l1 t1) (.slice f2 l2 t2) vg2 vc2) := HGw13.out.fr fi (fun j hj e => by have h1 := (HGw13.out.lt j hj).1; have h2 := (HO13.out.2 j e).2; omega)
  clear fi gi HO13 HEw13 HGw13 HMO
  have y0 := HGw14.out.box.cell 0
  have y1 := HGw14.out.box.cell 1
  have y2 := HGw14.out.box.cell 2
  have y3 := HGw14.out.box.cell 3
  simp at y0 y1 y2 y3
  have x0 := HEw14.out.A.box.cell 0
  have x1 := HEw14.out.A.box.cell 1
  have x2 := HEw14.out.A.box.cell 2
  have x3 := HEw14.out.A.box.cell 3
  simp at x0 x1 x2 x3
  go_wp2_with (fail)
  refine (eqDesk_t _ _ _ _ _ _ r.1.2.2.1 r.1.2.2.2 w14 (HGw14.out.own.1.rd agC_len) (HGw14.out.own.2.1.rd wtC_len) (HEw14.out.A.own.1.rd agC_len) (HEw14.out.A.own.2.1.rd wtC_len)).mono ?_
  rintro e w15a ⟨rfl, bq⟩
  have HEw15a : Hid (Er S5 w w15a n g (.slice a0 gs.length p0) (.slice a1 qs.length p1) r X1 (.slice e1 l1 q1) (.slice e2 l2 q2) vg1 vc1) := HEw14.out.below bq
  have HGw15a : Hid (Ru C2 w15a X2 r (.slice f1 l1 t1) (.slice f2 l2 t2) vg2 vc2) := HGw14.out.below bq
  clear bq x0 x1 x2 x3 y0 y1 y2 y3 HEw14 HGw14
  go_wp2_with (fail)
  refine (eqIS _ _ r.2.1 w15a (HGw15a.out.gvo.rd) (HEw15a.out.A.gvo.rd)).mono ?_
  rintro e w15b ⟨rfl, bq⟩
  have HEw15b : Hid (Er S5 w w15b n g (.slice a0 gs.length p0) (.slice a1 qs.length p1) r X1 (.slice e1 l1 q1) (.slice e2 l2 q2) vg1 vc1) := HEw15a.out.below bq
  have HGw15b : Hid (Ru C2 w15b X2 r (.slice f1 l1 t1) (.slice f2 l2 t2) vg2 vc2) := HGw15a.out.below bq
  clear bq HEw15a HGw15a
  go_wp2_with (fail)
  refine (eqIS _ _ r.2.2 w15b (HGw15b.out.cdo.rd) (HEw15b.out.A.cdo.rd)).mono ?_
  rintro e w15 ⟨rfl, bq⟩
  have HEw15 : Hid (Er S5 w w15 n g (.slice a0 gs.length p0) (.slice a1 qs.length p1) r X1 (.slice e1 l1 q1) (.slice e2 l2 q2) vg1 vc1) := HEw15b.out.below bq
  have HGw15 : Hid (Ru C2 w15 X2 r (.slice f1 l1 t1) (.slice f2 l2 t2) vg2 vc2) := HGw15b.out.below bq
  clear bq HEw15b HGw15b
  have y0 := HGw15.out.box.cell 0
  have y1 := HGw15.out.box.cell 1
  have y2 := HGw15.out.box.cell 2
  have y3 := HGw15.out.box.cell 3
  simp at y0 y1 y2 y3
  obtain ⟨N1, hN1⟩ : ∃ N, r.1.2.2.1.length = N := ⟨_, rfl⟩
  obtain ⟨N2, hN2⟩ : ∃ N, r.1.2.2.2.length = N := ⟨_, rfl⟩
  obtain ⟨N3, hN3⟩ : ∃ N, r.2.1.length = N := ⟨_, rfl⟩
  obtain ⟨N4, hN4⟩ : ∃ N, r.2.2.length = N := ⟨_, rfl⟩
  have hlen : N1 ≤ 2000000 ∧ N2 ≤ 2000000 ∧ N3 ≤ 2000000 ∧ N4 ≤ 2000000 := by
    have h1 := rnF_len (n, g, gs, qs) os HL.out.1 HL.out.2
    rw [HR.out, hN1, hN2, hN3, hN4] at h1
    exact h1
  obtain ⟨M1, hM1⟩ : ∃ K, (1 : Int) + 3 * N1 + 4 * N2 = K := ⟨_, rfl⟩
  obtain ⟨M2, hM2⟩ : ∃ K, M1 + (N3 : Int) = K := ⟨_, rfl⟩
  obtain ⟨M3, hM3⟩ : ∃ K, M2 + (N4 : Int) = K := ⟨_, rfl⟩
  have HMK := markDesk_c C2 r.1.1 r.1.2.1 1 (.slice f1 l1 t1) (.slice f2 l2 t2) r.1.2.2.1 r.1.2.2.2 w15 HGw15.out.own (by decide) (by rw [hN1, hN2]; omega)
  rw [hN1, hN2, hM1] at HMK
  have HMK' : Hid (Calls Try.prog 24 #[.agg (D4 r.1.1 (.slice f1 l1 t1) (.slice f2 l2 t2) r.1.2.1), .int .i64 1] w15 fun e w' => e = .returned (.int .i64 M1) ∧ OwD C2 w' (.slice f1 l1 t1) (.slice f2 l2 t2) (mkA 1 N1) (mkQ (1 + 3 * N1) N2) ∧ Fr (InD (.slice f1 l1 t1) (.slice f2 l2 t2)) w15 w') := HMK
  have HMI : Hid (∀ W, Ow .i64 3 C2 W vg2 r.2.1 → Calls Try.prog 25 #[vg2, .int .i64 M1] W fun e w' => e = .returned (.int .i64 M2) ∧ Ow .i64 3 C2 w' vg2 (marks .i64 M1 N3) ∧ W.grownBy w' vg2.ownBlock) := by
    intro W h
    have := markI vg2 r.2.1 M1 C2 W h (by omega) (by rw [hN3]; omega)
    rw [hN3, hM2] at this
    exact this
  have HMJ : Hid (∀ W, Ow .i64 3 C2 W vc2 r.2.2 → Calls Try.prog 25 #[vc2, .int .i64 M2] W fun e w' => e = .returned (.int .i64 M3) ∧ Ow .i64 3 C2 w' vc2 (marks .i64 M2 N4) ∧ W.grownBy w' vc2.ownBlock) := by
    intro W h
    have := markI vc2 r.2.2 M2 C2 W h (by omega) (by rw [hN4]; omega)
    rw [hN4, hM3] at this
    exact this
  have HHD : Hid (∀ W, Rg 3 agC W (.slice f1 l1 t1) (mkA 1 N1) → Rg 4 wtC W (.slice f2 l2 t2) (mkQ (1 + 3 * N1) N2) → Calls Try.prog 26 #[.agg (D4 r.1.1 (.slice f1 l1 t1) (.slice f2 l2 t2) r.1.2.1), .int .i64 1] W fun e w' => e = .returned (.int .i64 M1) ∧ Below W.heap.size W w') := by
    intro W h1 h2
    have := heldDesk_c r.1.1 r.1.2.1 1 (.slice f1 l1 t1) (.slice f2 l2 t2) N1 N2 W h1 h2 (by decide) (by omega)
    rw [hM1] at this
    exact this
  have HHI : Hid (∀ W, Rd .i64 W vg2 (marks .i64 M1 N3) → Calls Try.prog 27 #[vg2, .int .i64 M1] W fun e w' => e = .returned (.int .i64 M2) ∧ Below W.heap.size W w') := by
    intro W h
    have := heldI vg2 M1 N3 W h (by omega) (by omega)
    rw [hM2] at this
    exact this
  have HHJ : Hid (∀ W, Rd .i64 W vc2 (marks .i64 M2 N4) → Calls Try.prog 27 #[vc2, .int .i64 M2] W fun e w' => e = .returned (.int .i64 M3) ∧ Below W.heap.size W w') := by
    intro W h
    have := heldI vc2 M2 N4 W h (by omega) (by omega)
    rw [hM3] at this
    exact this
  have hMn : (M1 < 0) = False := eq_false (by omega)
  have hMm : (M2 < 0) = False := eq_false (by omega)
  have hMo : (M3 < 0) = False := eq_false (by omega)
  have hMe : (M3 != M3) = false := by simp
  clear HMK hN1 hN2 hN3 hN4 hM1 hM2 hM3 hlen
  go_wp2_with (fail)
  refine HMK'.out.mono ?_
  rintro e w16 ⟨rfl, om, fm⟩
  have HEw16 : Hid (Er S5 w w16 n g (.slice a0 gs.length p0) (.slice a1 qs.length p1) r X1 (.slice e1 l1 q1) (.slice e2 l2 q2) vg1 vc1) := HEw15.out.fr fm (fun j hj => by have h1 := (HGw15.out.lt j (.inl hj)).1; have h2 := HC2.out.2; omega)
  have HOM : Hid (OwD C2 w16 (.slice f1 l1 t1) (.slice f2 l2 t2) (mkA 1 N1) (mkQ (1 + 3 * N1) N2)) := om
  have HOC : Hid ((Ow .i64 3 C2 w16 vg2 r.2.1 ∧ Ow .i64 3 C2 w16 vc2 r.2.2) ∧ Apart vg2 vc2) := ⟨⟨ownsRow_fr HGw15.out.gvo fm (fun j hj e => notInD HGw15.out.own HGw15.out.gvo j hj e), ownsRow_fr HGw15.out.cdo fm (fun j hj e => notInD HGw15.out.own HGw15.out.cdo j hj e)⟩, HGw15.out.ap⟩
  have HOB : Hid (Blk w16 X2 (D4 r.1.1 (.slice f1 l1 t1) (.slice f2 l2 t2) r.1.2.1) 27) := HGw15.out.box.fr fm (rowD_ne HGw15.out.own HGw15.out.box)
  clear om fm HMK' HEw15 HGw15 y0 y1 y2 y3
  go_wp2_with (fail)
  refine (HMI.out w16 HOC.out.1.1).mono ?_
  rintro e w17 ⟨rfl, oi, gi⟩
  have fi : Fr (fun j => vg2.ownBlock = some j) w16 w17 := Fr.ofGrown gi (fun j e => e)
  have HEw17 : Hid (Er S5 w w17 n g (.slice a0 gs.length p0) (.slice a1 qs.length p1) r X1 (.slice e1 l1 q1) (.slice e2 l2 q2) vg1 vc1) := HEw16.out.fr fi (fun j hj => by have h1 := (World.ownsRow.lt HOC.out.1.1 j hj).1; have h2 := HC2.out.2; omega)
  have HM17 : Hid ((OwD C2 w17 (.slice f1 l1 t1) (.slice f2 l2 t2) (mkA 1 N1) (mkQ (1 + 3 * N1) N2) ∧ Ow .i64 3 C2 w17 vg2 (marks .i64 M1 N3)) ∧ (Ow .i64 3 C2 w17 vc2 r.2.2 ∧ Blk w17 X2 (D4 r.1.1 (.slice f1 l1 t1) (.slice f2 l2 t2) r.1.2.1) 27)) := ⟨⟨HOM.out.fr fi (fun j hj e => notInD HOM.out HOC.out.1.1 j e hj), oi⟩, ownsRow_fr HOC.out.1.2 fi (fun j hj e => HOC.out.2 j e hj), HOB.out.fr fi (fun e => row_blk HOC.out.1.1 HOB.out (by decide) e)⟩
  have HAP : Hid (Apart vg2 vc2) := HOC.out.2
  clear oi gi fi HEw16 HOM HOC HOB HMI
  go_wp2_with (fail)
  refine (HMJ.out w17 HM17.out.2.1).mono ?_
  rintro e w18 ⟨rfl, oi, gi⟩
  have fi : Fr (fun j => vc2.ownBlock = some j) w17 w18 := Fr.ofGrown gi (fun j e => e)
  have HEw18 : Hid (Er S5 w w18 n g (.slice a0 gs.length p0) (.slice a1 qs.length p1) r X1 (.slice e1 l1 q1) (.slice e2 l2 q2) vg1 vc1) := HEw17.out.fr fi (fun j hj => by have h1 := (World.ownsRow.lt HM17.out.2.1 j hj).1; have h2 := HC2.out.2; omega)
  have HMw18 : Hid (Mr C2 w18 X2 r.1.1 r.1.2.1 (.slice f1 l1 t1) (.slice f2 l2 t2) vg2 vc2 N1 N2 N3 N4 M1 M2) := ⟨HM17.out.1.1.fr fi (fun j hj e => notInD HM17.out.1.1 HM17.out.2.1 j e hj), ownsRow_fr HM17.out.1.2 fi (fun j hj e => HAP.out j hj e), oi, HM17.out.2.2.fr fi (fun e => row_blk HM17.out.2.1 HM17.out.2.2 (by decide) e)⟩
  clear oi gi fi HEw17 HM17 HAP HMJ
  have y0 := HMw18.out.box.cell 0
  have y1 := HMw18.out.box.cell 1
  have y2 := HMw18.out.box.cell 2
  have y3 := HMw18.out.box.cell 3
  simp at y0 y1 y2 y3
  go_wp2_with (fail)
  refine (HHD.out w18 (HMw18.out.own.1.rd agC_len) (HMw18.out.own.2.1.rd wtC_len)).mono ?_
  rintro e w19 ⟨rfl, bq⟩
  have HEw19 : Hid (Er S5 w w19 n g (.slice a0 gs.length p0) (.slice a1 qs.length p1) r X1 (.slice e1 l1 q1) (.slice e2 l2 q2) vg1 vc1) := HEw18.out.below bq
  have HMw19 : Hid (Mr C2 w19 X2 r.1.1 r.1.2.1 (.slice f1 l1 t1) (.slice f2 l2 t2) vg2 vc2 N1 N2 N3 N4 M1 M2) := HMw18.out.below bq
  clear bq HEw18 HMw18 y0 y1 y2 y3
  go_wp2_with (fail)
  refine (HHI.out w19 HMw19.out.mg.rd).mono ?_
  rintro e w20 ⟨rfl, bq⟩
  have HEw20 : Hid (Er S5 w w20 n g (.slice a0 gs.length p0) (.slice a1 qs.length p1) r X1 (.slice e1 l1 q1) (.slice e2 l2 q2) vg1 vc1) := HEw19.out.below bq
  have HMw20 : Hid (Mr C2 w20 X2 r.1.1 r.1.2.1 (.slice f1 l1 t1) (.slice f2 l2 t2) vg2 vc2 N1 N2 N3 N4 M1 M2) := HMw19.out.below bq
  clear bq HEw19 HMw19
  go_wp2_with (fail)
  refine (HHJ.out w20 HMw20.out.mc.rd).mono ?_
  rintro e w21 ⟨rfl, bq⟩
  have HEw21 : Hid (Er S5 w w21 n g (.slice a0 gs.length p0) (.slice a1 qs.length p1) r X1 (.slice e1 l1 q1) (.slice e2 l2 q2) vg1 vc1) := HEw20.out.below bq
  have HMw21 : Hid (Mr C2 w21 X2 r.1.1 r.1.2.1 (.slice f1 l1 t1) (.slice f2 l2 t2) vg2 vc2 N1 N2 N3 N4 M1 M2) := HMw20.out.below bq
  clear bq HEw20 HMw20
  have x0 := HEw21.out.k48.cell 0
  have x1 := HEw21.out.k48.cell 1
  have x2 := HEw21.out.k48.cell 2
  have x3 := HEw21.out.k48.cell 3
  simp at x0 x1 x2 x3
  go_wp2_with (fail)
  refine (toDesk_c n g _ _ gs qs w21 (HH.out _ HEw21.out.bel).1.1 (HH.out _ HEw21.out.bel).1.2 HL.out.1 HL.out.2).mono ?_
  rintro e w22 ⟨u0, u1, rfl, o2, bq⟩
  have HEw22 : Hid (Er S5 w w22 n g (.slice a0 gs.length p0) (.slice a1 qs.length p1) r X1 (.slice e1 l1 q1) (.slice e2 l2 q2) vg1 vc1) := HEw21.out.below bq
  have HMw22 : Hid (Mr C2 w22 X2 r.1.1 r.1.2.1 (.slice f1 l1 t1) (.slice f2 l2 t2) vg2 vc2 N1 N2 N3 N4 M1 M2) := HMw21.out.below bq
  have HR2 : Hid (∀ W, Below w22.heap.size w22 W → Rg 3 agC W u0 gs ∧ Rg 4 wtC W u1 qs) := fun W h => ⟨(o2.1.rd agC_len).below h, (o2.2.1.rd wtC_len).below h⟩
  clear o2 bq HEw21 HMw21 x0 x1 x2 x3
  go_wp2_with (fail)
  refine (toDoS_c _ os w22 (HH.out _ HEw22.out.bel).2 HLO.out).mono ?_
  rintro e w23 ⟨vx0, rfl, o3, bq⟩
  have HEw23 : Hid (Er S5 w w23 n g (.slice a0 gs.length p0) (.slice a1 qs.length p1) r X1 (.slice e1 l1 q1) (.slice e2 l2 q2) vg1 vc1) := HEw22.out.below bq
  have HMw23 : Hid (Mr C2 w23 X2 r.1.1 r.1.2.1 (.slice f1 l1 t1) (.slice f2 l2 t2) vg2 vc2 N1 N2 N3 N4 M1 M2) := HMw22.out.below bq
  have HR3 : Hid ((Rg 3 agC w23 u0 gs ∧ Rg 4 wtC w23 u1 qs) ∧ Rg 5 doC w23 vx0 os) := ⟨HR2.out _ bq, o3.rd doC_len⟩
  clear o3 bq HR2 HEw22 HMw22
  go_wp2_with (fail)
  refine (runI_c n g _ _ _ gs qs os w23 HR3.out.1.1 HR3.out.1.2 HL.out.1 HL.out.2 HR3.out.2).mono ?_
  rw [HR.out]
  rintro e w24 ⟨va3, vq3, vg3, vc3, rfl, g1, g2, g3, g4, b4⟩
  obtain ⟨C3, hC3⟩ : ∃ C, w23.heap.size = C := ⟨_, rfl⟩
  have hA := Ru.new (C := C3) (by rw [hC3]; exact Nat.le_refl _) g1 g2 g3 g4 b4
  have ba : Below w24.heap.size w24 (w24.alloc (Obj.cells (D4 r.1.1 va3 vq3 r.1.2.1) 27)) := (Below.refl _ _).alloc (Nat.le_refl _) _
  obtain ⟨X3, hX3⟩ : ∃ k, w24.heap.size = k := ⟨_, rfl⟩
  obtain ⟨w25, hW25⟩ : ∃ W, w24.alloc (Obj.cells (D4 r.1.1 va3 vq3 r.1.2.1) 27) = W := ⟨_, rfl⟩
  have HEw25 : Hid (Er S5 w w25 n g (.slice a0 gs.length p0) (.slice a1 qs.length p1) r X1 (.slice e1 l1 q1) (.slice e2 l2 q2) vg1 vc1) := by have := (HEw23.out.below b4).below ba; rw [hW25] at this; exact this
  have HMw25 : Hid (Mr C2 w25 X2 r.1.1 r.1.2.1 (.slice f1 l1 t1) (.slice f2 l2 t2) vg2 vc2 N1 N2 N3 N4 M1 M2) := by have := (HMw23.out.below b4).below ba; rw [hW25] at this; exact this
  have HDw25 : Hid (Ru C3 w25 X3 r va3 vq3 vg3 vc3) := by rw [hX3, hW25] at hA; exact hA
  clear hA ba g1 g2 g3 g4 b4 HEw23 HMw23 HR3 hC3
  obtain ⟨h1, t3, hva1⟩ := HDw25.out.own.1.form
  obtain ⟨h2, t4, hvq1⟩ := HDw25.out.own.2.1.form
  rw [HL1.out] at hva1
  rw [HL2.out] at hvq1
  subst hva1 hvq1
  have y0 := HDw25.out.box.cell 0
  have y1 := HDw25.out.box.cell 1
  have y2 := HDw25.out.box.cell 2
  have y3 := HDw25.out.box.cell 3
  simp at y0 y1 y2 y3
  have x0 := HEw25.out.A.box.cell 0
  have x1 := HEw25.out.A.box.cell 1
  have x2 := HEw25.out.A.box.cell 2
  have x3 := HEw25.out.A.box.cell 3
  simp at x0 x1 x2 x3
  go_wp2_with (fail)
  refine (eqDesk_t _ _ _ _ _ _ r.1.2.2.1 r.1.2.2.2 w25 (HDw25.out.own.1.rd agC_len) (HDw25.out.own.2.1.rd wtC_len) (HEw25.out.A.own.1.rd agC_len) (HEw25.out.A.own.2.1.rd wtC_len)).mono ?_
  rintro e w26a ⟨rfl, bq⟩
  have HEw26a : Hid (Er S5 w w26a n g (.slice a0 gs.length p0) (.slice a1 qs.length p1) r X1 (.slice e1 l1 q1) (.slice e2 l2 q2) vg1 vc1) := HEw25.out.below bq
  have HMw26a : Hid (Mr C2 w26a X2 r.1.1 r.1.2.1 (.slice f1 l1 t1) (.slice f2 l2 t2) vg2 vc2 N1 N2 N3 N4 M1 M2) := HMw25.out.below bq
  have HDw26a : Hid (Ru C3 w26a X3 r (.slice h1 l1 t3) (.slice h2 l2 t4) vg3 vc3) := HDw25.out.below bq
  clear bq x0 x1 x2 x3 y0 y1 y2 y3 HEw25 HMw25 HDw25
  go_wp2_with (fail)
  refine (eqIS _ _ r.2.1 w26a (HDw26a.out.gvo.rd) (HEw26a.out.A.gvo.rd)).mono ?_
  rintro e w26b ⟨rfl, bq⟩
  have HEw26b : Hid (Er S5 w w26b n g (.slice a0 gs.length p0) (.slice a1 qs.length p1) r X1 (.slice e1 l1 q1) (.slice e2 l2 q2) vg1 vc1) := HEw26a.out.below bq
  have HMw26b : Hid (Mr C2 w26b X2 r.1.1 r.1.2.1 (.slice f1 l1 t1) (.slice f2 l2 t2) vg2 vc2 N1 N2 N3 N4 M1 M2) := HMw26a.out.below bq
  have HDw26b : Hid (Ru C3 w26b X3 r (.slice h1 l1 t3) (.slice h2 l2 t4) vg3 vc3) := HDw26a.out.below bq
  clear bq HEw26a HMw26a HDw26a
  go_wp2_with (fail)
  refine (eqIS _ _ r.2.2 w26b (HDw26b.out.cdo.rd) (HEw26b.out.A.cdo.rd)).mono ?_
  rintro e w26 ⟨rfl, bq⟩
  have HEw26 : Hid (Er S5 w w26 n g (.slice a0 gs.length p0) (.slice a1 qs.length p1) r X1 (.slice e1 l1 q1) (.slice e2 l2 q2) vg1 vc1) := HEw26b.out.below bq
  have HMw26 : Hid (Mr C2 w26 X2 r.1.1 r.1.2.1 (.slice f1 l1 t1) (.slice f2 l2 t2) vg2 vc2 N1 N2 N3 N4 M1 M2) := HMw26b.out.below bq
  have HDw26 : Hid (Ru C3 w26 X3 r (.slice h1 l1 t3) (.slice h2 l2 t4) vg3 vc3) := HDw26b.out.below bq
  clear bq HEw26b HMw26b HDw26b
  have HZ : Hid (Below w.heap.size w w26) := HEw26.out.bel
  clear HEw26 HDw26
  have HEw26 : Hid (Below w.heap.size w w26) := HZ.out
  clear HZ
  have y0 := HMw26.out.box.cell 0
  have y1 := HMw26.out.box.cell 1
  have y2 := HMw26.out.box.cell 2
  have y3 := HMw26.out.box.cell 3
  simp at y0 y1 y2 y3
  go_wp2_with (fail)
  refine (HHD.out w26 (HMw26.out.own.1.rd agC_len) (HMw26.out.own.2.1.rd wtC_len)).mono ?_
  rintro e w27 ⟨rfl, bq⟩
  have HEw27 : Hid (Below w.heap.size w w27) := belowCall HEw26.out bq HEw26.out.size
  have HMw27 : Hid (Mr C2 w27 X2 r.1.1 r.1.2.1 (.slice f1 l1 t1) (.slice f2 l2 t2) vg2 vc2 N1 N2 N3 N4 M1 M2) := HMw26.out.below bq
  clear bq HEw26 HMw26 y0 y1 y2 y3
  go_wp2_with (fail)
  refine (HHI.out w27 HMw27.out.mg.rd).mono ?_
  rintro e w28 ⟨rfl, bq⟩
  have HEw28 : Hid (Below w.heap.size w w28) := belowCall HEw27.out bq HEw27.out.size
  have HMw28 : Hid (Mr C2 w28 X2 r.1.1 r.1.2.1 (.slice f1 l1 t1) (.slice f2 l2 t2) vg2 vc2 N1 N2 N3 N4 M1 M2) := HMw27.out.below bq
  clear bq HEw27 HMw27
  go_wp2_with (fail)
  refine (HHJ.out w28 HMw28.out.mc.rd).mono ?_
  rintro e w29 ⟨rfl, bq⟩
  have HEw29 : Hid (Below w.heap.size w w29) := belowCall HEw28.out bq HEw28.out.size
  have HMw29 : Hid (Mr C2 w29 X2 r.1.1 r.1.2.1 (.slice f1 l1 t1) (.slice f2 l2 t2) vg2 vc2 N1 N2 N3 N4 M1 M2) := HMw28.out.below bq
  clear bq HEw28 HMw28
  go_wp2
  go_ret
  exact ⟨rfl, HEw29.out⟩
end Go.Proofs.Ytpmmgbinogokfaa

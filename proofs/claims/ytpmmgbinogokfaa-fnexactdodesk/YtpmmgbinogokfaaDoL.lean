/- FnExactDoDesk's body answers true at all desks and ops; no condition. -/
import Derived.Test.YtpmmgbinogokfaaDoM
import Derived.Test.YtpmmgbinogokfaaSlI
import Derived.Deep.DeepCutAuto
namespace Go.Proofs.Ytpmmgbinogokfaa
open Go.RowKit Go.ChangeShapes Go.WideShapes Go.ChangeAt
set_option linter.unusedVariables false
set_option linter.unusedSimpArgs false
set_option maxRecDepth 8000
structure Sa (C : Nat) (B : World) (n g : Int) (va vq : Value) (gs : List Ag) (qs : List Wt) (k t a s p : Int) (R : (Int × Int × List Ag × List Wt) × List Int × Int) (d : Nat → Bool) (W : World) (v0 v1 v2 v3 v4 v5 v6 v7 v8 v9 v10 v11 v12 : Value) (u0 u1 va' vq' vc' : Value) (X : Nat) : Prop where
  bel : Below C B W
  f0 : d 0 = true → v0 = .agg (D4 n va vq g)
  f1 : d 1 = true → v1 = .agg (D4 n u0 u1 g)
  o1 : d 1 = true → d 4 = false → Rg 3 agC W u0 gs ∧ Rg 4 wtC W u1 qs
  f2 : d 2 = true → v2 = .agg #[.int .i64 k, .int .i64 t, .int .i64 a, .int .i64 s, .int .i64 p]
  f3 : d 3 = true → v3 = .agg #[.int .i64 k, .int .i64 t, .int .i64 a, .int .i64 s, .int .i64 p]
  f4 : d 4 = true → v4 = .tuple #[.agg (D4 R.1.1 va' vq' R.1.2.1), vc', .int .i64 R.2.2]
  od : d 4 = true → OwD C W va' vq' R.1.2.2.1 R.1.2.2.2 ∧ Ow .i64 3 C W vc' R.2.1 ∧ ∀ j, vc'.ownBlock = some j → ¬ InD va' vq' j
  f5 : d 5 = true → v5 = .tuple #[.agg (D4 R.1.1 va' vq' R.1.2.1), vc', .int .i64 R.2.2]
  f6 : d 6 = true → v6 = .agg (D4 R.1.1 va' vq' R.1.2.1)
  f7 : d 7 = true → v7 = vc'
  f8 : d 8 = true → v8 = .int .i64 R.2.2
  f9 : d 9 = true → v9 = .pointer (some ⟨X, 0, none⟩)
  oa : d 9 = true → C ≤ X ∧ (d 10 = false → Blk W X (D4 0 (.slice none 0 0) (.slice none 0 0) 0) 27)
  os : d 10 = true → Blk W X (D4 R.1.1 va' vq' R.1.2.1) 27
  f11 : d 11 = true → v11 = vc'
  f12 : d 12 = true → v12 = .int .i64 R.2.2
  gd : d 5 = true ∨ d 6 = true ∨ d 7 = true ∨ d 8 = true ∨ d 10 = true ∨ d 11 = true ∨ d 12 = true → d 4 = true
  ga : d 10 = true → d 9 = true
theorem Sa.below {C : Nat} {B : World} {n g : Int} {va vq : Value} {gs : List Ag} {qs : List Wt} {k t a s p : Int} {R : (Int × Int × List Ag × List Wt) × List Int × Int} {d : Nat → Bool} {W W' : World} {v0 v1 v2 v3 v4 v5 v6 v7 v8 v9 v10 v11 v12 : Value} {u0 u1 va' vq' vc' : Value} {X : Nat} (h : Sa C B n g va vq gs qs k t a s p R d W v0 v1 v2 v3 v4 v5 v6 v7 v8 v9 v10 v11 v12 u0 u1 va' vq' vc' X) (hC : C ≤ B.heap.size) (hb : Below W.heap.size W W') : Sa C B n g va vq gs qs k t a s p R d W' v0 v1 v2 v3 v4 v5 v6 v7 v8 v9 v10 v11 v12 u0 u1 va' vq' vc' X :=
  { h with
    bel := belowCall h.bel hb (Nat.le_trans hC h.bel.size)
    o1 := fun e1 e2 => ⟨(h.o1 e1 e2).1.below hb, (h.o1 e1 e2).2.below hb⟩
    od := fun e => ⟨(h.od e).1.below hb, (h.od e).2.1.below hb, (h.od e).2.2⟩
    oa := fun e => ⟨(h.oa e).1, fun e2 => ((h.oa e).2 e2).below hb ((h.oa e).2 e2).lt⟩
    os := fun e => (h.os e).below hb (h.os e).lt }
def SaS (C : Nat) (B : World) (n g : Int) (va vq : Value) (gs : List Ag) (qs : List Wt) (k t a s p : Int) (R : (Int × Int × List Ag × List Wt) × List Int × Int) (d : Nat → Bool) (vs : List Value) (W : World) : Prop :=
  ∃ v0 v1 v2 v3 v4 v5 v6 v7 v8 v9 v10 v11 v12 u0 u1 va' vq' vc' X, vs = [v0, v1, v2, v3, v4, v5, v6, v7, v8, v9, v10, v11, v12] ∧ Sa C B n g va vq gs qs k t a s p R d W v0 v1 v2 v3 v4 v5 v6 v7 v8 v9 v10 v11 v12 u0 u1 va' vq' vc' X
structure Sb (C : Nat) (B : World) (n g : Int) (va vq : Value) (gs : List Ag) (qs : List Wt) (k t a s p : Int) (R : (Int × Int × List Ag × List Wt) × List Int × Int) (d : Nat → Bool) (W : World) (v0 v1 v2 v3 v4 v5 v6 v7 v8 v9 v10 v11 : Value) (u0 u1 va' vq' vc' : Value) (X : Nat) : Prop where
  bel : Below C B W
  f0 : d 0 = true → v0 = .agg (D4 n va vq g)
  f1 : d 1 = true → v1 = .agg #[.int .i64 k, .int .i64 t, .int .i64 a, .int .i64 s, .int .i64 p]
  f2 : d 2 = true → v2 = .agg #[.int .i64 k, .int .i64 t, .int .i64 a, .int .i64 s, .int .i64 p]
  f3 : d 3 = true → v3 = .tuple #[.agg (D4 R.1.1 va' vq' R.1.2.1), vc', .int .i64 R.2.2]
  od : d 3 = true → OwD C W va' vq' R.1.2.2.1 R.1.2.2.2 ∧ Ow .i64 3 C W vc' R.2.1 ∧ ∀ j, vc'.ownBlock = some j → ¬ InD va' vq' j
  f4 : d 4 = true → v4 = .tuple #[.agg (D4 R.1.1 va' vq' R.1.2.1), vc', .int .i64 R.2.2]
  f5 : d 5 = true → v5 = .agg (D4 R.1.1 va' vq' R.1.2.1)
  f6 : d 6 = true → v6 = vc'
  f7 : d 7 = true → v7 = .int .i64 R.2.2
  f8 : d 8 = true → v8 = .pointer (some ⟨X, 0, none⟩)
  oa : d 8 = true → C ≤ X ∧ (d 9 = false → Blk W X (D4 0 (.slice none 0 0) (.slice none 0 0) 0) 27)
  os : d 9 = true → Blk W X (D4 R.1.1 va' vq' R.1.2.1) 27
  f10 : d 10 = true → v10 = vc'
  f11 : d 11 = true → v11 = .int .i64 R.2.2
  gd : d 4 = true ∨ d 5 = true ∨ d 6 = true ∨ d 7 = true ∨ d 9 = true ∨ d 10 = true ∨ d 11 = true → d 3 = true
  ga : d 9 = true → d 8 = true
theorem Sb.below {C : Nat} {B : World} {n g : Int} {va vq : Value} {gs : List Ag} {qs : List Wt} {k t a s p : Int} {R : (Int × Int × List Ag × List Wt) × List Int × Int} {d : Nat → Bool} {W W' : World} {v0 v1 v2 v3 v4 v5 v6 v7 v8 v9 v10 v11 : Value} {u0 u1 va' vq' vc' : Value} {X : Nat} (h : Sb C B n g va vq gs qs k t a s p R d W v0 v1 v2 v3 v4 v5 v6 v7 v8 v9 v10 v11 u0 u1 va' vq' vc' X) (hC : C ≤ B.heap.size) (hb : Below W.heap.size W W') : Sb C B n g va vq gs qs k t a s p R d W' v0 v1 v2 v3 v4 v5 v6 v7 v8 v9 v10 v11 u0 u1 va' vq' vc' X :=
  { h with
    bel := belowCall h.bel hb (Nat.le_trans hC h.bel.size)
    od := fun e => ⟨(h.od e).1.below hb, (h.od e).2.1.below hb, (h.od e).2.2⟩
    oa := fun e => ⟨(h.oa e).1, fun e2 => ((h.oa e).2 e2).below hb ((h.oa e).2 e2).lt⟩
    os := fun e => (h.os e).below hb (h.os e).lt }
def SbS (C : Nat) (B : World) (n g : Int) (va vq : Value) (gs : List Ag) (qs : List Wt) (k t a s p : Int) (R : (Int × Int × List Ag × List Wt) × List Int × Int) (d : Nat → Bool) (vs : List Value) (W : World) : Prop :=
  ∃ v0 v1 v2 v3 v4 v5 v6 v7 v8 v9 v10 v11 u0 u1 va' vq' vc' X, vs = [v0, v1, v2, v3, v4, v5, v6, v7, v8, v9, v10, v11] ∧ Sb C B n g va vq gs qs k t a s p R d W v0 v1 v2 v3 v4 v5 v6 v7 v8 v9 v10 v11 u0 u1 va' vq' vc' X
/-- a desk's answer in a box -/
structure Bd (C : Nat) (W : World) (X : Nat) (R : (Int × Int × List Ag × List Wt) × List Int × Int) (va vq vc : Value) : Prop where
  own : OwD C W va vq R.1.2.2.1 R.1.2.2.2
  cl : Ow .i64 3 C W vc R.2.1
  ap : ∀ j, vc.ownBlock = some j → ¬ InD va vq j
  box : Blk W X (D4 R.1.1 va vq R.1.2.1) 27
  hX : C ≤ X
theorem Bd.below {C : Nat} {W W' : World} {X : Nat} {R : (Int × Int × List Ag × List Wt) × List Int × Int} {va vq vc : Value} (h : Bd C W X R va vq vc) (hb : Below W.heap.size W W') : Bd C W' X R va vq vc := ⟨h.own.below hb, h.cl.below hb, h.ap, h.box.below hb h.box.lt, h.hX⟩
theorem Bd.lt {C : Nat} {W : World} {X : Nat} {R : (Int × Int × List Ag × List Wt) × List Int × Int} {va vq vc : Value} (h : Bd C W X R va vq vc) (k : Nat) (hk : InD va vq k ∨ vc.ownBlock = some k ∨ k = X) : C ≤ k ∧ k < W.heap.size := by
  rcases hk with hk | hk | rfl
  · exact h.own.lt k hk
  · exact World.ownsRow.lt h.cl k hk
  · exact ⟨h.hX, h.box.lt⟩
theorem Bd.fr {C : Nat} {W W' : World} {X : Nat} {R : (Int × Int × List Ag × List Wt) × List Int × Int} {va vq vc : Value} (h : Bd C W X R va vq vc) {Y : Nat → Prop} (hf : Fr Y W W') (hY : ∀ k, (InD va vq k ∨ vc.ownBlock = some k ∨ k = X) → ¬ Y k) : Bd C W' X R va vq vc :=
  ⟨h.own.fr hf (fun k hk => hY k (.inl hk)), ownsRow_fr h.cl hf (fun k hk => hY k (.inr (.inl hk))), h.ap, h.box.fr hf (hY X (.inr (.inr rfl))), h.hX⟩
/-- what stands throughout: the arguments, the model's answer -/
structure Ev (P S : Nat) (w W : World) (n g : Int) (v0 v1 : Value) (k t a s p : Int) (C1 X1 : Nat) (R : (Int × Int × List Ag × List Wt) × List Int × Int) (va vq vc : Value) : Prop where
  bel : Below P w W
  hP : P ≤ w.heap.size
  k48 : Blk W P (D4 n v0 v1 g) 48
  k53 : Blk W (P + 1) #[.int .i64 k, .int .i64 t, .int .i64 a, .int .i64 s, .int .i64 p] 53
  A : Bd C1 W X1 R va vq vc
  low : ∀ k, (InD va vq k ∨ vc.ownBlock = some k ∨ k = X1) → k < S
  hS : P + 1 < S
  hC : P ≤ C1
theorem Ev.below {P S : Nat} {w W W' : World} {n g : Int} {v0 v1 : Value} {k t a s p : Int} {C1 X1 : Nat} {R : (Int × Int × List Ag × List Wt) × List Int × Int} {va vq vc : Value} (h : Ev P S w W n g v0 v1 k t a s p C1 X1 R va vq vc) (hb : Below W.heap.size W W') : Ev P S w W' n g v0 v1 k t a s p C1 X1 R va vq vc :=
  ⟨belowCall h.bel hb (by have := h.k48.lt; omega), h.hP, h.k48.below hb h.k48.lt, h.k53.below hb h.k53.lt, h.A.below hb, h.low, h.hS, h.hC⟩
theorem Ev.fr {P S : Nat} {w W W' : World} {n g : Int} {v0 v1 : Value} {k t a s p : Int} {C1 X1 : Nat} {R : (Int × Int × List Ag × List Wt) × List Int × Int} {va vq vc : Value} (h : Ev P S w W n g v0 v1 k t a s p C1 X1 R va vq vc) {Y : Nat → Prop} (hf : Fr Y W W') (hY : ∀ k, Y k → S ≤ k) : Ev P S w W' n g v0 v1 k t a s p C1 X1 R va vq vc :=
  ⟨h.bel.trans (hf.below (by have := h.k48.lt; omega) (fun k e => by have := hY k e; have := h.hS; omega)), h.hP, h.k48.fr hf (fun e => by have := hY _ e; have := h.hS; omega), h.k53.fr hf (fun e => by have := hY _ e; have := h.hS; omega), h.A.fr hf (fun k hk e => by have := hY _ e; have := h.low k hk; omega), h.low, h.hS, h.hC⟩
theorem doF_len (n g : Int) (gs : List Ag) (qs : List Wt) (k t a s p : Int) : (doF n g gs qs k t a s p).1.2.2.1.length ≤ gs.length + 1000 ∧ (doF n g gs qs k t a s p).1.2.2.2.length ≤ qs.length + 1000 ∧ (doF n g gs qs k t a s p).2.1.length ≤ qs.length + 1000 := by
  unfold doF
  split
  · rename_i h
    split
    · simp
    · rename_i gs1 qs1 hb
      have hbo := beg_ok hb h.1.2.2.2.2.1.sk h.1.ca (opB_kind h.2).2.1 (opB_kind h.2).2.2
      have hl := giveN_len t gs.length gs1 qs1 hbo.2.1
      split
      · simp
      · refine ⟨?_, ?_, ?_⟩ <;> dsimp only <;> omega
  · simp
set_option maxHeartbeats 12800000 in
theorem doLaw (n g : Int) (va vq : Value) (gs : List Ag) (qs : List Wt) (k t a s p : Int) (w : World) (ha : Rg 3 agC w va gs) (hq : Rg 4 wtC w vq qs) :
    Calls Try.prog 6 #[.agg (D4 n va vq g), .agg #[.int .i64 k, .int .i64 t, .int .i64 a, .int .i64 s, .int .i64 p]] w fun e w' => e = .returned (.bool true) ∧ Below w.heap.size w w' := by
  obtain ⟨W0, hW0⟩ : ∃ W0, (w.alloc (Obj.cells (D4 n va vq g) 48)).alloc (Obj.cells #[.int .i64 k, .int .i64 t, .int .i64 a, .int .i64 s, .int .i64 p] 53) = W0 := ⟨_, rfl⟩
  have hb0 : Below w.heap.size w W0 := by rw [← hW0]; exact ((Below.refl _ _).alloc (Nat.le_refl _) _).alloc (by simp) _
  have HB0 : Hid (Below w.heap.size w W0) := hb0
  have HK0 : Hid (Blk W0 w.heap.size (D4 n va vq g) 48) := by show Blk _ _ _ _; rw [← hW0]; exact (Blk.new _ _ _).alloc _
  have HP0 : Hid (Blk W0 (w.heap.size + 1) #[.int .i64 k, .int .i64 t, .int .i64 a, .int .i64 s, .int .i64 p] 53) := by show Blk _ _ _ _; rw [← hW0]; exact Blk.newAt _ (w.heap.size + 1) _ 53 (by simp)
  have HH : Hid (Rg 3 agC w va gs ∧ Rg 4 wtC w vq qs) := ⟨ha, hq⟩
  obtain ⟨a0, p0, rfl, -⟩ := ha
  obtain ⟨a1, p1, rfl, -⟩ := hq
  have x0 := HK0.out.cell 0
  have x1 := HK0.out.cell 1
  have x2 := HK0.out.cell 2
  have x3 := HK0.out.cell 3
  simp at x0 x1 x2 x3
  have HW0 : Hid (_ = W0) := hW0
  clear hb0 hW0
  obtain ⟨R, hR⟩ : ∃ R, doF n g gs qs k t a s p = R := ⟨_, rfl⟩
  have HR : Hid (doF n g gs qs k t a s p = R) := hR
  clear hR
  go_enter Try.func6, Try.ntmps6
  go_wp2_with (fail)
  rw [HW0.out]
  refine (szDesk_c n g _ _ gs qs W0 (HH.out.1.below HB0.out) (HH.out.2.below HB0.out)).mono ?_
  rintro e w1 ⟨z, rfl, hz, b1⟩
  have HB1 : Hid (Below w.heap.size w w1) := belowCall HB0.out b1 HB0.out.size
  have HK1 : Hid (Blk w1 w.heap.size (D4 n (.slice a0 gs.length p0) (.slice a1 qs.length p1) g) 48) := HK0.out.below b1 HK0.out.lt
  have HP1 : Hid (Blk w1 (w.heap.size + 1) #[.int .i64 k, .int .i64 t, .int .i64 a, .int .i64 s, .int .i64 p] 53) := HP0.out.below b1 HP0.out.lt
  have HZ : Hid (¬ z < 0 → gs.length ≤ 1048576 ∧ qs.length ≤ 1048576) := fun h => by omega
  clear b1 hz HK0 HP0 HB0 x0 x1 x2 x3 HW0
  by_cases hneg : z < 0
  · go_wp2
    go_ret
    exact ⟨rfl, HB1.out⟩
  have HL : Hid (gs.length ≤ 1048576 ∧ qs.length ≤ 1048576) := HZ.out hneg
  have hneg' : decide (z < 0) = false := by simpa using hneg
  clear HZ
  have HBX : Hid (Blk w1 w.heap.size (D4 n (.slice a0 gs.length p0) (.slice a1 qs.length p1) g) 48) := HK1.out
  have HBP : Hid (Blk w1 (w.heap.size + 1) #[.int .i64 k, .int .i64 t, .int .i64 a, .int .i64 s, .int .i64 p] 53) := HP1.out
  have HRD : Hid (∀ W, Below w1.heap.size w1 W → Rg 3 agC W (.slice a0 gs.length p0) gs ∧ Rg 4 wtC W (.slice a1 qs.length p1) qs) := fun W h => ⟨(HH.out.1.below HB1.out).below h, (HH.out.2.below HB1.out).below h⟩
  go_upto_region 5 with (fail)
  refine region_vals [undef, undef, undef, undef, undef, undef, undef, undef, undef, undef, undef, undef, undef]
    (SaS w1.heap.size w1 n g (.slice a0 gs.length p0) (.slice a1 qs.length p1) gs qs k t a s p R)
    (by kernel_rfl) (by kernel_rfl) ?_ ⟨?_, ?_, ?_, ?_, ?_, ?_, ?_, ?_, ?_, ?_, ?_, ?_, ?_, trivial⟩ ?_
  · refine ⟨_, _, _, _, _, _, _, _, _, _, _, _, _, undef, undef, undef, undef, undef, 0, rfl, ⟨(Below.refl _ _).drew, ?_, ?_, ?_, ?_, ?_, ?_, ?_, ?_, ?_, ?_, ?_, ?_, ?_, ?_, ?_, ?_, ?_, ?_⟩⟩ <;> simp
  · rintro d vs W ⟨v0, v1, v2, v3, v4, v5, v6, v7, v8, v9, v10, v11, v12, u0, u1, va', vq', vc', X, rfl, H⟩ hn hd
    simp only [putAll, Act.put, List.setIfInBounds_toArray, List.set_cons_succ, List.set_cons_zero]
    have kk := HBX.out.below H.bel HBX.out.lt
    have x0 := kk.cell 0
    have x1 := kk.cell 1
    have x2 := kk.cell 2
    have x3 := kk.cell 3
    simp at x0 x1 x2 x3
    have HH1 : Hid _ := H
    clear H
    clear hd kk
    go_wp2
    have H := HH1.out
    refine ⟨rfl, [.agg (D4 n (.slice a0 gs.length p0) (.slice a1 qs.length p1) g), v1, v2, v3, v4, v5, v6, v7, v8, v9, v10, v11, v12], ?_, .agg (D4 n (.slice a0 gs.length p0) (.slice a1 qs.length p1) g), v1, v2, v3, v4, v5, v6, v7, v8, v9, v10, v11, v12, u0, u1, va', vq', vc', X, rfl, ⟨H.bel, (fun _ => rfl), (by have h := H.f1; simpa [doneSet] using h), (by have h := H.o1; simpa [doneSet] using h), (by have h := H.f2; simpa [doneSet] using h), (by have h := H.f3; simpa [doneSet] using h), (by have h := H.f4; simpa [doneSet] using h), (by have h := H.od; simpa [doneSet] using h), (by have h := H.f5; simpa [doneSet] using h), (by have h := H.f6; simpa [doneSet] using h), (by have h := H.f7; simpa [doneSet] using h), (by have h := H.f8; simpa [doneSet] using h), (by have h := H.f9; simpa [doneSet] using h), (by have h := H.oa; simpa [doneSet] using h), (by have h := H.os; simpa [doneSet] using h), (by have h := H.f11; simpa [doneSet] using h), (by have h := H.f12; simpa [doneSet] using h), (by have h := H.gd; simpa [doneSet] using h), (by have h := H.ga; simpa [doneSet] using h)⟩⟩
    simp only [putAll, Act.put, List.setIfInBounds_toArray, List.set_cons_succ, List.set_cons_zero]
  · rintro d vs W ⟨v0, v1, v2, v3, v4, v5, v6, v7, v8, v9, v10, v11, v12, u0, u1, va', vq', vc', X, rfl, H⟩ hn hd
    simp only [putAll, Act.put, List.setIfInBounds_toArray, List.set_cons_succ, List.set_cons_zero]
    have h0 : d 0 = true := hd { on := 0, ground := .data } (by simp) rfl
    obtain rfl := H.f0 h0
    have HH1 : Hid _ := H
    clear H
    have HHN : Hid (d 1 = false) := hn
    clear hd hn
    go_wp2_with (fail)
    refine (toDesk_c n g _ _ gs qs W (HRD.out W HH1.out.bel).1 (HRD.out W HH1.out.bel).2 HL.out.1 HL.out.2).mono ?_
    rintro e W3 ⟨va3, vq3, rfl, ho, hb⟩
    have H := HH1.out.below (Nat.le_refl _) hb
    have HO : Hid (Rg 3 agC W3 va3 gs ∧ Rg 4 wtC W3 vq3 qs) := ⟨ho.1.rd agC_len, ho.2.1.rd wtC_len⟩
    have HH2 : Hid _ := H
    clear HH1 H ho hb
    go_wp2
    have H := HH2.out
    have hn := HHN.out
    refine ⟨rfl, [.agg (D4 n (.slice a0 gs.length p0) (.slice a1 qs.length p1) g), .agg (D4 n va3 vq3 g), v2, v3, v4, v5, v6, v7, v8, v9, v10, v11, v12], ?_, .agg (D4 n (.slice a0 gs.length p0) (.slice a1 qs.length p1) g), .agg (D4 n va3 vq3 g), v2, v3, v4, v5, v6, v7, v8, v9, v10, v11, v12, va3, vq3, va', vq', vc', X, rfl, ⟨H.bel, (fun _ => rfl), (fun _ => rfl), (fun _ _ => HO.out), (by have h := H.f2; simpa [doneSet] using h), (by have h := H.f3; simpa [doneSet] using h), (by have h := H.f4; simpa [doneSet] using h), (by have h := H.od; simpa [doneSet] using h), (by have h := H.f5; simpa [doneSet] using h), (by have h := H.f6; simpa [doneSet] using h), (by have h := H.f7; simpa [doneSet] using h), (by have h := H.f8; simpa [doneSet] using h), (by have h := H.f9; simpa [doneSet] using h), (by have h := H.oa; simpa [doneSet] using h), (by have h := H.os; simpa [doneSet] using h), (by have h := H.f11; simpa [doneSet] using h), (by have h := H.f12; simpa [doneSet] using h), (by have h := H.gd; simpa [doneSet] using h), (by have h := H.ga; simpa [doneSet] using h)⟩⟩
    simp only [putAll, Act.put, List.setIfInBounds_toArray, List.set_cons_succ, List.set_cons_zero]
  · rintro d vs W ⟨v0, v1, v2, v3, v4, v5, v6, v7, v8, v9, v10, v11, v12, u0, u1, va', vq', vc', X, rfl, H⟩ hn hd
    simp only [putAll, Act.put, List.setIfInBounds_toArray, List.set_cons_succ, List.set_cons_zero]
    have kk := HBP.out.below H.bel HBP.out.lt
    have x0 := kk.cell 0
    have x1 := kk.cell 1
    have x2 := kk.cell 2
    have x3 := kk.cell 3
    have x4 := kk.cell 4
    simp at x0 x1 x2 x3 x4
    have HH1 : Hid _ := H
    clear H
    clear hd kk
    go_wp2
    have H := HH1.out
    refine ⟨rfl, [v0, v1, .agg #[.int .i64 k, .int .i64 t, .int .i64 a, .int .i64 s, .int .i64 p], v3, v4, v5, v6, v7, v8, v9, v10, v11, v12], ?_, v0, v1, .agg #[.int .i64 k, .int .i64 t, .int .i64 a, .int .i64 s, .int .i64 p], v3, v4, v5, v6, v7, v8, v9, v10, v11, v12, u0, u1, va', vq', vc', X, rfl, ⟨H.bel, (by have h := H.f0; simpa [doneSet] using h), (by have h := H.f1; simpa [doneSet] using h), (by have h := H.o1; simpa [doneSet] using h), (fun _ => rfl), (by have h := H.f3; simpa [doneSet] using h), (by have h := H.f4; simpa [doneSet] using h), (by have h := H.od; simpa [doneSet] using h), (by have h := H.f5; simpa [doneSet] using h), (by have h := H.f6; simpa [doneSet] using h), (by have h := H.f7; simpa [doneSet] using h), (by have h := H.f8; simpa [doneSet] using h), (by have h := H.f9; simpa [doneSet] using h), (by have h := H.oa; simpa [doneSet] using h), (by have h := H.os; simpa [doneSet] using h), (by have h := H.f11; simpa [doneSet] using h), (by have h := H.f12; simpa [doneSet] using h), (by have h := H.gd; simpa [doneSet] using h), (by have h := H.ga; simpa [doneSet] using h)⟩⟩
    simp only [putAll, Act.put, List.setIfInBounds_toArray, List.set_cons_succ, List.set_cons_zero]
  · rintro d vs W ⟨v0, v1, v2, v3, v4, v5, v6, v7, v8, v9, v10, v11, v12, u0, u1, va', vq', vc', X, rfl, H⟩ hn hd
    simp only [putAll, Act.put, List.setIfInBounds_toArray, List.set_cons_succ, List.set_cons_zero]
    have h2 : d 2 = true := hd { on := 2, ground := .data } (by simp) rfl
    obtain rfl := H.f2 h2
    have HH1 : Hid _ := H
    clear H
    clear hd
    go_wp2_with (fail)
    refine (toDo_c k t a s p W).mono ?_
    rintro e W3 ⟨rfl, hb⟩
    have H := HH1.out.below (Nat.le_refl _) hb
    have HH2 : Hid _ := H
    clear HH1 H hb
    go_wp2
    have H := HH2.out
    refine ⟨rfl, [v0, v1, .agg #[.int .i64 k, .int .i64 t, .int .i64 a, .int .i64 s, .int .i64 p], .agg #[.int .i64 k, .int .i64 t, .int .i64 a, .int .i64 s, .int .i64 p], v4, v5, v6, v7, v8, v9, v10, v11, v12], ?_, v0, v1, .agg #[.int .i64 k, .int .i64 t, .int .i64 a, .int .i64 s, .int .i64 p], .agg #[.int .i64 k, .int .i64 t, .int .i64 a, .int .i64 s, .int .i64 p], v4, v5, v6, v7, v8, v9, v10, v11, v12, u0, u1, va', vq', vc', X, rfl, ⟨H.bel, (by have h := H.f0; simpa [doneSet] using h), (by have h := H.f1; simpa [doneSet] using h), (by have h := H.o1; simpa [doneSet] using h), (fun _ => rfl), (fun _ => rfl), (by have h := H.f4; simpa [doneSet] using h), (by have h := H.od; simpa [doneSet] using h), (by have h := H.f5; simpa [doneSet] using h), (by have h := H.f6; simpa [doneSet] using h), (by have h := H.f7; simpa [doneSet] using h), (by have h := H.f8; simpa [doneSet] using h), (by have h := H.f9; simpa [doneSet] using h), (by have h := H.oa; simpa [doneSet] using h), (by have h := H.os; simpa [doneSet] using h), (by have h := H.f11; simpa [doneSet] using h), (by have h := H.f12; simpa [doneSet] using h), (by have h := H.gd; simpa [doneSet] using h), (by have h := H.ga; simpa [doneSet] using h)⟩⟩
    simp only [putAll, Act.put, List.setIfInBounds_toArray, List.set_cons_succ, List.set_cons_zero]
  · rintro d vs W ⟨v0, v1, v2, v3, v4, v5, v6, v7, v8, v9, v10, v11, v12, u0, u1, va', vq', vc', X, rfl, H⟩ hn hd
    simp only [putAll, Act.put, List.setIfInBounds_toArray, List.set_cons_succ, List.set_cons_zero]
    have h1 : d 1 = true := hd { on := 1, ground := .data } (by simp) rfl
    have h3 : d 3 = true := hd { on := 3, ground := .data } (by simp) rfl
    obtain rfl := H.f1 h1
    obtain rfl := H.f3 h3
    have HO : Hid (Rg 3 agC W u0 gs ∧ Rg 4 wtC W u1 qs) := H.o1 h1 hn
    have HH1 : Hid _ := H
    clear H
    have HHN : Hid (d 4 = false) := hn
    clear hd hn
    go_wp2_with (fail)
    refine (doM_c n g u0 u1 gs qs k t a s p W HO.out.1 HO.out.2 HL.out.1 HL.out.2).mono ?_
    rw [HR.out]
    rintro e W3 ⟨va3, vq3, vc3, rfl, ho, hc, hap, hb⟩
    have hsz : w1.heap.size ≤ W.heap.size := HH1.out.bel.size
    have HO2 : Hid (OwD w1.heap.size W3 va3 vq3 R.1.2.2.1 R.1.2.2.2 ∧ Ow .i64 3 w1.heap.size W3 vc3 R.2.1 ∧ ∀ j, vc3.ownBlock = some j → ¬ InD va3 vq3 j) := ⟨ho.mono hsz, hc.mono hsz, hap⟩
    have H := HH1.out.below (Nat.le_refl _) hb
    have HH2 : Hid _ := H
    clear HH1 H ho hc hap hb hsz HO
    go_wp2
    have H := HH2.out
    have hn := HHN.out
    refine ⟨rfl, [v0, .agg (D4 n u0 u1 g), v2, .agg #[.int .i64 k, .int .i64 t, .int .i64 a, .int .i64 s, .int .i64 p], .tuple #[.agg (D4 R.1.1 va3 vq3 R.1.2.1), vc3, .int .i64 R.2.2], v5, v6, v7, v8, v9, v10, v11, v12], ?_, v0, .agg (D4 n u0 u1 g), v2, .agg #[.int .i64 k, .int .i64 t, .int .i64 a, .int .i64 s, .int .i64 p], .tuple #[.agg (D4 R.1.1 va3 vq3 R.1.2.1), vc3, .int .i64 R.2.2], v5, v6, v7, v8, v9, v10, v11, v12, u0, u1, va3, vq3, vc3, X, rfl, ⟨H.bel, (by have h := H.f0; simpa [doneSet] using h), (fun _ => rfl), (fun _ e => by simp [doneSet] at e), (by have h := H.f2; simpa [doneSet] using h), (fun _ => rfl), (fun _ => rfl), (fun _ => HO2.out), (fun e => absurd (H.gd ((.inl (by simpa [doneSet] using e)))) (by rw [hn]; simp)), (fun e => absurd (H.gd (.inr ((.inl (by simpa [doneSet] using e))))) (by rw [hn]; simp)), (fun e => absurd (H.gd (.inr (.inr ((.inl (by simpa [doneSet] using e)))))) (by rw [hn]; simp)), (fun e => absurd (H.gd (.inr (.inr (.inr ((.inl (by simpa [doneSet] using e))))))) (by rw [hn]; simp)), (by have h := H.f9; simpa [doneSet] using h), (by have h := H.oa; simpa [doneSet] using h), (fun e => absurd (H.gd (.inr (.inr (.inr (.inr ((.inl (by simpa [doneSet] using e)))))))) (by rw [hn]; simp)), (fun e => absurd (H.gd (.inr (.inr (.inr (.inr (.inr ((.inl (by simpa [doneSet] using e))))))))) (by rw [hn]; simp)), (fun e => absurd (H.gd (.inr (.inr (.inr (.inr (.inr (.inr ((by simpa [doneSet] using e))))))))) (by rw [hn]; simp)), (fun _ => by simp [doneSet]), (by have h := H.ga; simpa [doneSet] using h)⟩⟩
    simp only [putAll, Act.put, List.setIfInBounds_toArray, List.set_cons_succ, List.set_cons_zero]
  · rintro d vs W ⟨v0, v1, v2, v3, v4, v5, v6, v7, v8, v9, v10, v11, v12, u0, u1, va', vq', vc', X, rfl, H⟩ hn hd
    simp only [putAll, Act.put, List.setIfInBounds_toArray, List.set_cons_succ, List.set_cons_zero]
    have h4 : d 4 = true := hd { on := 4, ground := .data } (by simp) rfl
    obtain rfl := H.f4 h4
    have HH1 : Hid _ := H
    clear H
    clear hd
    go_wp2
    have H := HH1.out
    refine ⟨rfl, [v0, v1, v2, v3, .tuple #[.agg (D4 R.1.1 va' vq' R.1.2.1), vc', .int .i64 R.2.2], .tuple #[.agg (D4 R.1.1 va' vq' R.1.2.1), vc', .int .i64 R.2.2], v6, v7, v8, v9, v10, v11, v12], ?_, v0, v1, v2, v3, .tuple #[.agg (D4 R.1.1 va' vq' R.1.2.1), vc', .int .i64 R.2.2], .tuple #[.agg (D4 R.1.1 va' vq' R.1.2.1), vc', .int .i64 R.2.2], v6, v7, v8, v9, v10, v11, v12, u0, u1, va', vq', vc', X, rfl, ⟨H.bel, (by have h := H.f0; simpa [doneSet] using h), (by have h := H.f1; simpa [doneSet] using h), (by have h := H.o1; simpa [doneSet] using h), (by have h := H.f2; simpa [doneSet] using h), (by have h := H.f3; simpa [doneSet] using h), (fun _ => rfl), (by have h := H.od; simpa [doneSet] using h), (fun _ => rfl), (by have h := H.f6; simpa [doneSet] using h), (by have h := H.f7; simpa [doneSet] using h), (by have h := H.f8; simpa [doneSet] using h), (by have h := H.f9; simpa [doneSet] using h), (by have h := H.oa; simpa [doneSet] using h), (by have h := H.os; simpa [doneSet] using h), (by have h := H.f11; simpa [doneSet] using h), (by have h := H.f12; simpa [doneSet] using h), (fun _ => by simpa [doneSet] using h4), (by have h := H.ga; simpa [doneSet] using h)⟩⟩
    simp only [putAll, Act.put, List.setIfInBounds_toArray, List.set_cons_succ, List.set_cons_zero]
  · rintro d vs W ⟨v0, v1, v2, v3, v4, v5, v6, v7, v8, v9, v10, v11, v12, u0, u1, va', vq', vc', X, rfl, H⟩ hn hd
    simp only [putAll, Act.put, List.setIfInBounds_toArray, List.set_cons_succ, List.set_cons_zero]
    have h5 : d 5 = true := hd { on := 5, ground := .data } (by simp) rfl
    have h4 := H.gd (.inl h5)
    obtain rfl := H.f5 h5
    have HH1 : Hid _ := H
    clear H
    clear hd
    go_wp2
    have H := HH1.out
    refine ⟨rfl, [v0, v1, v2, v3, v4, .tuple #[.agg (D4 R.1.1 va' vq' R.1.2.1), vc', .int .i64 R.2.2], .agg (D4 R.1.1 va' vq' R.1.2.1), v7, v8, v9, v10, v11, v12], ?_, v0, v1, v2, v3, v4, .tuple #[.agg (D4 R.1.1 va' vq' R.1.2.1), vc', .int .i64 R.2.2], .agg (D4 R.1.1 va' vq' R.1.2.1), v7, v8, v9, v10, v11, v12, u0, u1, va', vq', vc', X, rfl, ⟨H.bel, (by have h := H.f0; simpa [doneSet] using h), (by have h := H.f1; simpa [doneSet] using h), (by have h := H.o1; simpa [doneSet] using h), (by have h := H.f2; simpa [doneSet] using h), (by have h := H.f3; simpa [doneSet] using h), (by have h := H.f4; simpa [doneSet] using h), (by have h := H.od; simpa [doneSet] using h), (fun _ => rfl), (fun _ => rfl), (by have h := H.f7; simpa [doneSet] using h), (by have h := H.f8; simpa [doneSet] using h), (by have h := H.f9; simpa [doneSet] using h), (by have h := H.oa; simpa [doneSet] using h), (by have h := H.os; simpa [doneSet] using h), (by have h := H.f11; simpa [doneSet] using h), (by have h := H.f12; simpa [doneSet] using h), (fun _ => by simpa [doneSet] using h4), (by have h := H.ga; simpa [doneSet] using h)⟩⟩
    simp only [putAll, Act.put, List.setIfInBounds_toArray, List.set_cons_succ, List.set_cons_zero]
  · rintro d vs W ⟨v0, v1, v2, v3, v4, v5, v6, v7, v8, v9, v10, v11, v12, u0, u1, va', vq', vc', X, rfl, H⟩ hn hd
    simp only [putAll, Act.put, List.setIfInBounds_toArray, List.set_cons_succ, List.set_cons_zero]
    have h5 : d 5 = true := hd { on := 5, ground := .data } (by simp) rfl
    have h4 := H.gd (.inl h5)
    obtain rfl := H.f5 h5
    have HH1 : Hid _ := H
    clear H
    clear hd
    go_wp2
    have H := HH1.out
    refine ⟨rfl, [v0, v1, v2, v3, v4, .tuple #[.agg (D4 R.1.1 va' vq' R.1.2.1), vc', .int .i64 R.2.2], v6, vc', v8, v9, v10, v11, v12], ?_, v0, v1, v2, v3, v4, .tuple #[.agg (D4 R.1.1 va' vq' R.1.2.1), vc', .int .i64 R.2.2], v6, vc', v8, v9, v10, v11, v12, u0, u1, va', vq', vc', X, rfl, ⟨H.bel, (by have h := H.f0; simpa [doneSet] using h), (by have h := H.f1; simpa [doneSet] using h), (by have h := H.o1; simpa [doneSet] using h), (by have h := H.f2; simpa [doneSet] using h), (by have h := H.f3; simpa [doneSet] using h), (by have h := H.f4; simpa [doneSet] using h), (by have h := H.od; simpa [doneSet] using h), (fun _ => rfl), (by have h := H.f6; simpa [doneSet] using h), (fun _ => rfl), (by have h := H.f8; simpa [doneSet] using h), (by have h := H.f9; simpa [doneSet] using h), (by have h := H.oa; simpa [doneSet] using h), (by have h := H.os; simpa [doneSet] using h), (by have h := H.f11; simpa [doneSet] using h), (by have h := H.f12; simpa [doneSet] using h), (fun _ => by simpa [doneSet] using h4), (by have h := H.ga; simpa [doneSet] using h)⟩⟩
    simp only [putAll, Act.put, List.setIfInBounds_toArray, List.set_cons_succ, List.set_cons_zero]
  · rintro d vs W ⟨v0, v1, v2, v3, v4, v5, v6, v7, v8, v9, v10, v11, v12, u0, u1, va', vq', vc', X, rfl, H⟩ hn hd
    simp only [putAll, Act.put, List.setIfInBounds_toArray, List.set_cons_succ, List.set_cons_zero]
    have h5 : d 5 = true := hd { on := 5, ground := .data } (by simp) rfl
    have h4 := H.gd (.inl h5)
    obtain rfl := H.f5 h5
    have HH1 : Hid _ := H
    clear H
    clear hd
    go_wp2
    have H := HH1.out
    refine ⟨rfl, [v0, v1, v2, v3, v4, .tuple #[.agg (D4 R.1.1 va' vq' R.1.2.1), vc', .int .i64 R.2.2], v6, v7, .int .i64 R.2.2, v9, v10, v11, v12], ?_, v0, v1, v2, v3, v4, .tuple #[.agg (D4 R.1.1 va' vq' R.1.2.1), vc', .int .i64 R.2.2], v6, v7, .int .i64 R.2.2, v9, v10, v11, v12, u0, u1, va', vq', vc', X, rfl, ⟨H.bel, (by have h := H.f0; simpa [doneSet] using h), (by have h := H.f1; simpa [doneSet] using h), (by have h := H.o1; simpa [doneSet] using h), (by have h := H.f2; simpa [doneSet] using h), (by have h := H.f3; simpa [doneSet] using h), (by have h := H.f4; simpa [doneSet] using h), (by have h := H.od; simpa [doneSet] using h), (fun _ => rfl), (by have h := H.f6; simpa [doneSet] using h), (by have h := H.f7; simpa [doneSet] using h), (fun _ => rfl), (by have h := H.f9; simpa [doneSet] using h), (by have h := H.oa; simpa [doneSet] using h), (by have h := H.os; simpa [doneSet] using h), (by have h := H.f11; simpa [doneSet] using h), (by have h := H.f12; simpa [doneSet] using h), (fun _ => by simpa [doneSet] using h4), (by have h := H.ga; simpa [doneSet] using h)⟩⟩
    simp only [putAll, Act.put, List.setIfInBounds_toArray, List.set_cons_succ, List.set_cons_zero]
  · rintro d vs W ⟨v0, v1, v2, v3, v4, v5, v6, v7, v8, v9, v10, v11, v12, u0, u1, va', vq', vc', X, rfl, H⟩ hn hd
    simp only [putAll, Act.put, List.setIfInBounds_toArray, List.set_cons_succ, List.set_cons_zero]
    have HH1 : Hid _ := H
    clear H
    have HHN : Hid (d 9 = false) := hn
    clear hd hn
    go_wp2
    have H0 := HH1.out
    have hn := HHN.out
    have H := HH1.out.below (Nat.le_refl _) ((Below.refl _ W).alloc (Nat.le_refl _) (.cells (D4 0 (.slice none 0 0) (.slice none 0 0) 0) 27))
    refine ⟨rfl, [v0, v1, v2, v3, v4, v5, v6, v7, v8, .pointer (some ⟨W.heap.size, 0, none⟩), v10, v11, v12], ?_, v0, v1, v2, v3, v4, v5, v6, v7, v8, .pointer (some ⟨W.heap.size, 0, none⟩), v10, v11, v12, u0, u1, va', vq', vc', W.heap.size, rfl, ⟨H.bel, (by have h := H.f0; simpa [doneSet] using h), (by have h := H.f1; simpa [doneSet] using h), (by have h := H.o1; simpa [doneSet] using h), (by have h := H.f2; simpa [doneSet] using h), (by have h := H.f3; simpa [doneSet] using h), (by have h := H.f4; simpa [doneSet] using h), (by have h := H.od; simpa [doneSet] using h), (by have h := H.f5; simpa [doneSet] using h), (by have h := H.f6; simpa [doneSet] using h), (by have h := H.f7; simpa [doneSet] using h), (by have h := H.f8; simpa [doneSet] using h), (fun _ => rfl), (fun _ => ⟨H0.bel.size, fun _ => Blk.new _ _ _⟩), (fun e => absurd (H.ga (by simpa [doneSet] using e)) (by rw [hn]; simp)), (by have h := H.f11; simpa [doneSet] using h), (by have h := H.f12; simpa [doneSet] using h), (by have h := H.gd; simpa [doneSet] using h), (fun _ => by simp [doneSet])⟩⟩
    simp only [putAll, Act.put, List.setIfInBounds_toArray, List.set_cons_succ, List.set_cons_zero]
  · rintro d vs W ⟨v0, v1, v2, v3, v4, v5, v6, v7, v8, v9, v10, v11, v12, u0, u1, va', vq', vc', X, rfl, H⟩ hn hd
    simp only [putAll, Act.put, List.setIfInBounds_toArray, List.set_cons_succ, List.set_cons_zero]
    have h9 : d 9 = true := hd { on := 9, ground := .data } (by simp) rfl
    have h6 : d 6 = true := hd { on := 6, ground := .data } (by simp) rfl
    have h4 : d 4 = true := hd { on := 4, ground := .chain } (by simp) rfl
    obtain rfl := H.f9 h9
    obtain rfl := H.f6 h6
    obtain ⟨hCX, hb⟩ := H.oa h9
    have hb := hb hn
    have e0 := hb.cell 0
    have e1 := hb.cell 1
    have e2 := hb.cell 2
    have e3 := hb.cell 3
    have u0' := hb.frozen 0
    have u1' := hb.frozen 1
    have u2' := hb.frozen 2
    have u3' := hb.frozen 3
    simp at e0 e1 e2 e3
    have HBX2 : Hid (w1.heap.size ≤ X ∧ Blk W X (D4 0 (.slice none 0 0) (.slice none 0 0) 0) 27) := ⟨hCX, hb⟩
    obtain ⟨ma1, mc1, hm1⟩ := (H.od h4).1.1.form
    obtain ⟨ma2, mc2, hm2⟩ := (H.od h4).1.2.1.form
    obtain ⟨ml1, hml1⟩ : ∃ m, R.1.2.2.1.length = m := ⟨_, rfl⟩
    obtain ⟨ml2, hml2⟩ : ∃ m, R.1.2.2.2.length = m := ⟨_, rfl⟩
    rw [hml1] at hm1
    rw [hml2] at hm2
    subst hm1 hm2
    have HH1 : Hid _ := H
    clear H
    clear hd hn hCX hb hml1 hml2
    go_wp2
    have H := HH1.out
    obtain ⟨hCX, hb⟩ := HBX2.out
    obtain ⟨va', hva'⟩ : ∃ v, v = Value.slice ma1 ml1 mc1 := ⟨_, rfl⟩
    obtain ⟨vq', hvq'⟩ : ∃ v, v = Value.slice ma2 ml2 mc2 := ⟨_, rfl⟩
    rw [← hva', ← hvq'] at H ⊢
    have gf : W.grownBy ((((W.setCell ⟨X, 0, none⟩ (.int .i64 R.1.1)).setCell ⟨X, 1, none⟩ va').setCell ⟨X, 2, none⟩ vq').setCell ⟨X, 3, none⟩ (.int .i64 R.1.2.1)) (some X) := grown_trans (grown_trans (grown_trans (grown_set' _ _ _ _) (grown_set' _ _ _ _)) (grown_set' _ _ _ _)) (grown_set' _ _ _ _)
    refine ⟨rfl, [v0, v1, v2, v3, v4, v5, .agg (D4 R.1.1 va' vq' R.1.2.1), v7, v8, .pointer (some ⟨X, 0, none⟩), undef, v11, v12], ?_, v0, v1, v2, v3, v4, v5, .agg (D4 R.1.1 va' vq' R.1.2.1), v7, v8, .pointer (some ⟨X, 0, none⟩), undef, v11, v12, u0, u1, va', vq', vc', X, rfl, ⟨(H.bel.trans (grown_below gf H.bel.size (fun _ e => by cases e; exact hCX))), (by have h := H.f0; simpa [doneSet] using h), (by have h := H.f1; simpa [doneSet] using h), (fun _ e => by simp [doneSet] at e; rw [h4] at e; cases e), (by have h := H.f2; simpa [doneSet] using h), (by have h := H.f3; simpa [doneSet] using h), (by have h := H.f4; simpa [doneSet] using h), (fun _ => ⟨⟨World.ownsRow.kept (H.od h4).1.1 gf (.inr (row_blk (H.od h4).1.1 hb (by decide))), World.ownsRow.kept (H.od h4).1.2.1 gf (.inr (row_blk (H.od h4).1.2.1 hb (by decide))), (H.od h4).1.2.2⟩, World.ownsRow.kept (H.od h4).2.1 gf (.inr (row_blk (H.od h4).2.1 hb (by decide))), (H.od h4).2.2⟩), (by have h := H.f5; simpa [doneSet] using h), (fun _ => rfl), (by have h := H.f7; simpa [doneSet] using h), (by have h := H.f8; simpa [doneSet] using h), (fun _ => rfl), (fun _ => ⟨hCX, fun e => by simp [doneSet] at e⟩), (fun _ => (((hb.set 0 _).set 1 _).set 2 _).set 3 _), (by have h := H.f11; simpa [doneSet] using h), (by have h := H.f12; simpa [doneSet] using h), (fun _ => by simpa [doneSet] using h4), (fun _ => by simpa [doneSet] using h9)⟩⟩
    simp only [putAll, Act.put, List.setIfInBounds_toArray, List.set_cons_succ, List.set_cons_zero]
  · rintro d vs W ⟨v0, v1, v2, v3, v4, v5, v6, v7, v8, v9, v10, v11, v12, u0, u1, va', vq', vc', X, rfl, H⟩ hn hd
    simp only [putAll, Act.put, List.setIfInBounds_toArray, List.set_cons_succ, List.set_cons_zero]
    have h7 : d 7 = true := hd { on := 7, ground := .data } (by simp) rfl
    have h4 := H.gd (.inr (.inr ((.inl h7))))
    obtain rfl := H.f7 h7
    have HH1 : Hid _ := H
    clear H
    clear hd
    go_wp2
    have H := HH1.out
    refine ⟨rfl, [v0, v1, v2, v3, v4, v5, v6, v7, v8, v9, v10, v7, v12], ?_, v0, v1, v2, v3, v4, v5, v6, v7, v8, v9, v10, v7, v12, u0, u1, va', vq', v7, X, rfl, ⟨H.bel, (by have h := H.f0; simpa [doneSet] using h), (by have h := H.f1; simpa [doneSet] using h), (by have h := H.o1; simpa [doneSet] using h), (by have h := H.f2; simpa [doneSet] using h), (by have h := H.f3; simpa [doneSet] using h), (by have h := H.f4; simpa [doneSet] using h), (by have h := H.od; simpa [doneSet] using h), (by have h := H.f5; simpa [doneSet] using h), (by have h := H.f6; simpa [doneSet] using h), (fun _ => rfl), (by have h := H.f8; simpa [doneSet] using h), (by have h := H.f9; simpa [doneSet] using h), (by have h := H.oa; simpa [doneSet] using h), (by have h := H.os; simpa [doneSet] using h), (fun _ => rfl), (by have h := H.f12; simpa [doneSet] using h), (fun _ => by simpa [doneSet] using h4), (by have h := H.ga; simpa [doneSet] using h)⟩⟩
    simp only [putAll, Act.put, List.setIfInBounds_toArray, List.set_cons_succ, List.set_cons_zero]
  · rintro d vs W ⟨v0, v1, v2, v3, v4, v5, v6, v7, v8, v9, v10, v11, v12, u0, u1, va', vq', vc', X, rfl, H⟩ hn hd
    simp only [putAll, Act.put, List.setIfInBounds_toArray, List.set_cons_succ, List.set_cons_zero]
    have h8 : d 8 = true := hd { on := 8, ground := .data } (by simp) rfl
    have h4 := H.gd (.inr (.inr (.inr ((.inl h8)))))
    obtain rfl := H.f8 h8
    have HH1 : Hid _ := H
    clear H
    clear hd
    go_wp2
    have H := HH1.out
    refine ⟨rfl, [v0, v1, v2, v3, v4, v5, v6, v7, .int .i64 R.2.2, v9, v10, v11, .int .i64 R.2.2], ?_, v0, v1, v2, v3, v4, v5, v6, v7, .int .i64 R.2.2, v9, v10, v11, .int .i64 R.2.2, u0, u1, va', vq', vc', X, rfl, ⟨H.bel, (by have h := H.f0; simpa [doneSet] using h), (by have h := H.f1; simpa [doneSet] using h), (by have h := H.o1; simpa [doneSet] using h), (by have h := H.f2; simpa [doneSet] using h), (by have h := H.f3; simpa [doneSet] using h), (by have h := H.f4; simpa [doneSet] using h), (by have h := H.od; simpa [doneSet] using h), (by have h := H.f5; simpa [doneSet] using h), (by have h := H.f6; simpa [doneSet] using h), (by have h := H.f7; simpa [doneSet] using h), (fun _ => rfl), (by have h := H.f9; simpa [doneSet] using h), (by have h := H.oa; simpa [doneSet] using h), (by have h := H.os; simpa [doneSet] using h), (by have h := H.f11; simpa [doneSet] using h), (fun _ => rfl), (fun _ => by simpa [doneSet] using h4), (by have h := H.ga; simpa [doneSet] using h)⟩⟩
    simp only [putAll, Act.put, List.setIfInBounds_toArray, List.set_cons_succ, List.set_cons_zero]
  rintro d vs W5 ⟨v0, v1, v2, v3, v4, v5, v6, v7, v8, v9, v10, v11, v12, u0, u1, va1, vq1, vc1, X1, rfl, H⟩ hn
  obtain rfl := H.f9 (hn 9 (by decide))
  have hv11 := H.f11 (hn 11 (by decide))
  subst hv11
  obtain rfl := H.f12 (hn 12 (by decide))
  obtain ⟨h1, h2, h3⟩ := H.od (hn 4 (by decide))
  have hA : Bd w1.heap.size W5 X1 R va1 vq1 v11 := ⟨h1, h2, h3, H.os (hn 10 (by decide)), (H.oa (hn 9 (by decide))).1⟩
  obtain ⟨vc1, hvc1⟩ : ∃ v, v11 = v := ⟨_, rfl⟩
  rw [hvc1] at hA ⊢
  obtain ⟨S5, hS5⟩ : ∃ S, W5.heap.size = S := ⟨_, rfl⟩
  have HE5 : Hid (Ev w.heap.size S5 w W5 n g (.slice a0 gs.length p0) (.slice a1 qs.length p1) k t a s p w1.heap.size X1 R va1 vq1 vc1) := ⟨HB1.out.trans (H.bel.mono HB1.out.size), Nat.le_refl _, HBX.out.below H.bel HBX.out.lt, HBP.out.below H.bel HBP.out.lt, hA, fun j hj => by rw [← hS5]; exact (hA.lt j hj).2, by rw [← hS5]; exact Nat.lt_of_lt_of_le HBP.out.lt H.bel.size, HB1.out.size⟩
  have HS5 : Hid (W5.heap.size = S5) := hS5
  simp only [putAll, Act.put, List.setIfInBounds_toArray, List.set_cons_succ, List.set_cons_zero]
  clear H hn h1 h2 h3 hA hvc1 hS5 HRD HBX HBP HK1 HP1 HB1 hneg hneg'
  have x0 := HE5.out.k48.cell 0
  have x1 := HE5.out.k48.cell 1
  have x2 := HE5.out.k48.cell 2
  have x3 := HE5.out.k48.cell 3
  simp at x0 x1 x2 x3
  go_wp2_with (fail)
  refine (toDesk_c n g _ _ gs qs W5 (HH.out.1.below HE5.out.bel) (HH.out.2.below HE5.out.bel) HL.out.1 HL.out.2).mono ?_
  rintro e w6 ⟨u3, u4, rfl, o6, b6⟩
  obtain ⟨e0, q0, rfl⟩ := o6.1.form
  obtain ⟨e1, q1, rfl⟩ := o6.2.1.form
  have ba : Below w6.heap.size w6 (w6.alloc (Obj.cells (D4 n (.slice e0 gs.length q0) (.slice e1 qs.length q1) g) 27)) := (Below.refl _ _).alloc (Nat.le_refl _) _
  obtain ⟨gx, hgx⟩ : ∃ k, w6.heap.size = k := ⟨_, rfl⟩
  obtain ⟨W6, hW6⟩ : ∃ W, w6.alloc (Obj.cells (D4 n (.slice e0 gs.length q0) (.slice e1 qs.length q1) g) 27) = W := ⟨_, rfl⟩
  have HE6 : Hid (Ev w.heap.size S5 w W6 n g (.slice a0 gs.length p0) (.slice a1 qs.length p1) k t a s p w1.heap.size X1 R va1 vq1 vc1) := by have := (HE5.out.below b6).below ba; rw [hW6] at this; exact this
  have HX6 : Hid (OwD S5 W6 (.slice e0 gs.length q0) (.slice e1 qs.length q1) gs qs ∧ Blk W6 gx (D4 n (.slice e0 gs.length q0) (.slice e1 qs.length q1) g) 27) := by
    have h1 := o6.below ba
    have h2 : Blk (w6.alloc (Obj.cells (D4 n (.slice e0 gs.length q0) (.slice e1 qs.length q1) g) 27)) w6.heap.size (D4 n (.slice e0 gs.length q0) (.slice e1 qs.length q1) g) 27 := Blk.new _ _ _
    rw [hW6] at h1 h2
    rw [hgx] at h2
    rw [HS5.out] at h1
    exact ⟨h1, h2⟩
  have HXL : Hid (∀ j, InD (.slice e0 gs.length q0) (.slice e1 qs.length q1) j → S5 ≤ j ∧ j < gx) := fun j hj => by have := o6.lt j hj; rw [HS5.out, hgx] at this; exact this
  have HSG : Hid (S5 ≤ gx) := by show S5 ≤ gx; rw [← hgx, ← HS5.out]; exact b6.size
  clear o6 b6 ba x0 x1 x2 x3
  obtain ⟨C2, hC2⟩ : ∃ C, W6.heap.size = C := ⟨_, rfl⟩
  have HC2 : Hid (W6.heap.size = C2 ∧ gx < C2) := ⟨hC2, by rw [← hC2]; exact HX6.out.2.lt⟩
  clear hC2
  go_upto_region 7 with (fail)
  clear hW6 hgx
  have HBX : Hid (Blk W6 gx (D4 n (.slice e0 gs.length q0) (.slice e1 qs.length q1) g) 27) := HX6.out.2
  have HBP : Hid (Blk W6 (w.heap.size + 1) #[.int .i64 k, .int .i64 t, .int .i64 a, .int .i64 s, .int .i64 p] 53) := HE6.out.k53
  have HRD : Hid (∀ W, Below W6.heap.size W6 W → Rg 3 agC W (.slice e0 gs.length q0) gs ∧ Rg 4 wtC W (.slice e1 qs.length q1) qs) := fun W h => ⟨(HX6.out.1.1.rd agC_len).below h, (HX6.out.1.2.1.rd wtC_len).below h⟩
  refine region_vals [undef, undef, undef, undef, undef, undef, undef, undef, undef, undef, undef, undef]
    (SbS W6.heap.size W6 n g (.slice e0 gs.length q0) (.slice e1 qs.length q1) gs qs k t a s p R)
    (by kernel_rfl) (by kernel_rfl) ?_ ⟨?_, ?_, ?_, ?_, ?_, ?_, ?_, ?_, ?_, ?_, ?_, ?_, trivial⟩ ?_
  · refine ⟨_, _, _, _, _, _, _, _, _, _, _, _, undef, undef, undef, undef, undef, 0, rfl, ⟨(Below.refl _ _).drew, ?_, ?_, ?_, ?_, ?_, ?_, ?_, ?_, ?_, ?_, ?_, ?_, ?_, ?_, ?_, ?_⟩⟩ <;> simp
  · rintro d vs W ⟨v0, v1, v2, v3, v4, v5, v6, v7, v8, v9, v10, v11, u0, u1, va', vq', vc', X, rfl, H⟩ hn hd
    simp only [putAll, Act.put, List.setIfInBounds_toArray, List.set_cons_succ, List.set_cons_zero]
    have kk := HBX.out.below H.bel HBX.out.lt
    have x0 := kk.cell 0
    have x1 := kk.cell 1
    have x2 := kk.cell 2
    have x3 := kk.cell 3
    simp at x0 x1 x2 x3
    have HH1 : Hid _ := H
    clear H
    clear hd kk
    go_wp2
    have H := HH1.out
    refine ⟨rfl, [.agg (D4 n (.slice e0 gs.length q0) (.slice e1 qs.length q1) g), v1, v2, v3, v4, v5, v6, v7, v8, v9, v10, v11], ?_, .agg (D4 n (.slice e0 gs.length q0) (.slice e1 qs.length q1) g), v1, v2, v3, v4, v5, v6, v7, v8, v9, v10, v11, u0, u1, va', vq', vc', X, rfl, ⟨H.bel, (fun _ => rfl), (by have h := H.f1; simpa [doneSet] using h), (by have h := H.f2; simpa [doneSet] using h), (by have h := H.f3; simpa [doneSet] using h), (by have h := H.od; simpa [doneSet] using h), (by have h := H.f4; simpa [doneSet] using h), (by have h := H.f5; simpa [doneSet] using h), (by have h := H.f6; simpa [doneSet] using h), (by have h := H.f7; simpa [doneSet] using h), (by have h := H.f8; simpa [doneSet] using h), (by have h := H.oa; simpa [doneSet] using h), (by have h := H.os; simpa [doneSet] using h), (by have h := H.f10; simpa [doneSet] using h), (by have h := H.f11; simpa [doneSet] using h), (by have h := H.gd; simpa [doneSet] using h), (by have h := H.ga; simpa [doneSet] using h)⟩⟩
    simp only [putAll, Act.put, List.setIfInBounds_toArray, List.set_cons_succ, List.set_cons_zero]
  · rintro d vs W ⟨v0, v1, v2, v3, v4, v5, v6, v7, v8, v9, v10, v11, u0, u1, va', vq', vc', X, rfl, H⟩ hn hd
    simp only [putAll, Act.put, List.setIfInBounds_toArray, List.set_cons_succ, List.set_cons_zero]
    have kk := HBP.out.below H.bel HBP.out.lt
    have x0 := kk.cell 0
    have x1 := kk.cell 1
    have x2 := kk.cell 2
    have x3 := kk.cell 3
    have x4 := kk.cell 4
    simp at x0 x1 x2 x3 x4
    have HH1 : Hid _ := H
    clear H
    clear hd kk
    go_wp2
    have H := HH1.out
    refine ⟨rfl, [v0, .agg #[.int .i64 k, .int .i64 t, .int .i64 a, .int .i64 s, .int .i64 p], v2, v3, v4, v5, v6, v7, v8, v9, v10, v11], ?_, v0, .agg #[.int .i64 k, .int .i64 t, .int .i64 a, .int .i64 s, .int .i64 p], v2, v3, v4, v5, v6, v7, v8, v9, v10, v11, u0, u1, va', vq', vc', X, rfl, ⟨H.bel, (by have h := H.f0; simpa [doneSet] using h), (fun _ => rfl), (by have h := H.f2; simpa [doneSet] using h), (by have h := H.f3; simpa [doneSet] using h), (by have h := H.od; simpa [doneSet] using h), (by have h := H.f4; simpa [doneSet] using h), (by have h := H.f5; simpa [doneSet] using h), (by have h := H.f6; simpa [doneSet] using h), (by have h := H.f7; simpa [doneSet] using h), (by have h := H.f8; simpa [doneSet] using h), (by have h := H.oa; simpa [doneSet] using h), (by have h := H.os; simpa [doneSet] using h), (by have h := H.f10; simpa [doneSet] using h), (by have h := H.f11; simpa [doneSet] using h), (by have h := H.gd; simpa [doneSet] using h), (by have h := H.ga; simpa [doneSet] using h)⟩⟩
    simp only [putAll, Act.put, List.setIfInBounds_toArray, List.set_cons_succ, List.set_cons_zero]
  · rintro d vs W ⟨v0, v1, v2, v3, v4, v5, v6, v7, v8, v9, v10, v11, u0, u1, va', vq', vc', X, rfl, H⟩ hn hd
    simp only [putAll, Act.put, List.setIfInBounds_toArray, List.set_cons_succ, List.set_cons_zero]
    have h1 : d 1 = true := hd { on := 1, ground := .data } (by simp) rfl
    obtain rfl := H.f1 h1
    have HH1 : Hid _ := H
    clear H
    clear hd
    go_wp2_with (fail)
    refine (toDo_c k t a s p W).mono ?_
    rintro e W3 ⟨rfl, hb⟩
    have H := HH1.out.below (Nat.le_refl _) hb
    have HH2 : Hid _ := H
    clear HH1 H hb
    go_wp2
    have H := HH2.out
    refine ⟨rfl, [v0, .agg #[.int .i64 k, .int .i64 t, .int .i64 a, .int .i64 s, .int .i64 p], .agg #[.int .i64 k, .int .i64 t, .int .i64 a, .int .i64 s, .int .i64 p], v3, v4, v5, v6, v7, v8, v9, v10, v11], ?_, v0, .agg #[.int .i64 k, .int .i64 t, .int .i64 a, .int .i64 s, .int .i64 p], .agg #[.int .i64 k, .int .i64 t, .int .i64 a, .int .i64 s, .int .i64 p], v3, v4, v5, v6, v7, v8, v9, v10, v11, u0, u1, va', vq', vc', X, rfl, ⟨H.bel, (by have h := H.f0; simpa [doneSet] using h), (fun _ => rfl), (fun _ => rfl), (by have h := H.f3; simpa [doneSet] using h), (by have h := H.od; simpa [doneSet] using h), (by have h := H.f4; simpa [doneSet] using h), (by have h := H.f5; simpa [doneSet] using h), (by have h := H.f6; simpa [doneSet] using h), (by have h := H.f7; simpa [doneSet] using h), (by have h := H.f8; simpa [doneSet] using h), (by have h := H.oa; simpa [doneSet] using h), (by have h := H.os; simpa [doneSet] using h), (by have h := H.f10; simpa [doneSet] using h), (by have h := H.f11; simpa [doneSet] using h), (by have h := H.gd; simpa [doneSet] using h), (by have h := H.ga; simpa [doneSet] using h)⟩⟩
    simp only [putAll, Act.put, List.setIfInBounds_toArray, List.set_cons_succ, List.set_cons_zero]
  · rintro d vs W ⟨v0, v1, v2, v3, v4, v5, v6, v7, v8, v9, v10, v11, u0, u1, va', vq', vc', X, rfl, H⟩ hn hd
    simp only [putAll, Act.put, List.setIfInBounds_toArray, List.set_cons_succ, List.set_cons_zero]
    have h0 : d 0 = true := hd { on := 0, ground := .data } (by simp) rfl
    have h2 : d 2 = true := hd { on := 2, ground := .data } (by simp) rfl
    obtain rfl := H.f0 h0
    obtain rfl := H.f2 h2
    have HO : Hid (Rg 3 agC W (.slice e0 gs.length q0) gs ∧ Rg 4 wtC W (.slice e1 qs.length q1) qs) := HRD.out W H.bel
    have HH1 : Hid _ := H
    clear H
    have HHN : Hid (d 3 = false) := hn
    clear hd hn
    go_wp2_with (fail)
    refine (doI_c n g (.slice e0 gs.length q0) (.slice e1 qs.length q1) gs qs k t a s p W HO.out.1 HO.out.2 HL.out.1 HL.out.2).mono ?_
    rw [HR.out]
    rintro e W3 ⟨va3, vq3, vc3, rfl, ho, hc, hap, hb⟩
    have hsz : W6.heap.size ≤ W.heap.size := HH1.out.bel.size
    have HO2 : Hid (OwD W6.heap.size W3 va3 vq3 R.1.2.2.1 R.1.2.2.2 ∧ Ow .i64 3 W6.heap.size W3 vc3 R.2.1 ∧ ∀ j, vc3.ownBlock = some j → ¬ InD va3 vq3 j) := ⟨ho.mono hsz, hc.mono hsz, hap⟩
    have H := HH1.out.below (Nat.le_refl _) hb
    have HH2 : Hid _ := H
    clear HH1 H ho hc hap hb hsz HO
    go_wp2
    have H := HH2.out
    have hn := HHN.out
    refine ⟨rfl, [.agg (D4 n (.slice e0 gs.length q0) (.slice e1 qs.length q1) g), v1, .agg #[.int .i64 k, .int .i64 t, .int .i64 a, .int .i64 s, .int .i64 p], .tuple #[.agg (D4 R.1.1 va3 vq3 R.1.2.1), vc3, .int .i64 R.2.2], v4, v5, v6, v7, v8, v9, v10, v11], ?_, .agg (D4 n (.slice e0 gs.length q0) (.slice e1 qs.length q1) g), v1, .agg #[.int .i64 k, .int .i64 t, .int .i64 a, .int .i64 s, .int .i64 p], .tuple #[.agg (D4 R.1.1 va3 vq3 R.1.2.1), vc3, .int .i64 R.2.2], v4, v5, v6, v7, v8, v9, v10, v11, u0, u1, va3, vq3, vc3, X, rfl, ⟨H.bel, (fun _ => rfl), (by have h := H.f1; simpa [doneSet] using h), (fun _ => rfl), (fun _ => rfl), (fun _ => HO2.out), (fun e => absurd (H.gd ((.inl (by simpa [doneSet] using e)))) (by rw [hn]; simp)), (fun e => absurd (H.gd (.inr ((.inl (by simpa [doneSet] using e))))) (by rw [hn]; simp)), (fun e => absurd (H.gd (.inr (.inr ((.inl (by simpa [doneSet] using e)))))) (by rw [hn]; simp)), (fun e => absurd (H.gd (.inr (.inr (.inr ((.inl (by simpa [doneSet] using e))))))) (by rw [hn]; simp)), (by have h := H.f8; simpa [doneSet] using h), (by have h := H.oa; simpa [doneSet] using h), (fun e => absurd (H.gd (.inr (.inr (.inr (.inr ((.inl (by simpa [doneSet] using e)))))))) (by rw [hn]; simp)), (fun e => absurd (H.gd (.inr (.inr (.inr (.inr (.inr ((.inl (by simpa [doneSet] using e))))))))) (by rw [hn]; simp)), (fun e => absurd (H.gd (.inr (.inr (.inr (.inr (.inr (.inr ((by simpa [doneSet] using e))))))))) (by rw [hn]; simp)), (fun _ => by simp [doneSet]), (by have h := H.ga; simpa [doneSet] using h)⟩⟩
    simp only [putAll, Act.put, List.setIfInBounds_toArray, List.set_cons_succ, List.set_cons_zero]
  · rintro d vs W ⟨v0, v1, v2, v3, v4, v5, v6, v7, v8, v9, v10, v11, u0, u1, va', vq', vc', X, rfl, H⟩ hn hd
    simp only [putAll, Act.put, List.setIfInBounds_toArray, List.set_cons_succ, List.set_cons_zero]
    have h3 : d 3 = true := hd { on := 3, ground := .data } (by simp) rfl
    obtain rfl := H.f3 h3
    have HH1 : Hid _ := H
    clear H
    clear hd
    go_wp2
    have H := HH1.out
    refine ⟨rfl, [v0, v1, v2, .tuple #[.agg (D4 R.1.1 va' vq' R.1.2.1), vc', .int .i64 R.2.2], .tuple #[.agg (D4 R.1.1 va' vq' R.1.2.1), vc', .int .i64 R.2.2], v5, v6, v7, v8, v9, v10, v11], ?_, v0, v1, v2, .tuple #[.agg (D4 R.1.1 va' vq' R.1.2.1), vc', .int .i64 R.2.2], .tuple #[.agg (D4 R.1.1 va' vq' R.1.2.1), vc', .int .i64 R.2.2], v5, v6, v7, v8, v9, v10, v11, u0, u1, va', vq', vc', X, rfl, ⟨H.bel, (by have h := H.f0; simpa [doneSet] using h), (by have h := H.f1; simpa [doneSet] using h), (by have h := H.f2; simpa [doneSet] using h), (fun _ => rfl), (by have h := H.od; simpa [doneSet] using h), (fun _ => rfl), (by have h := H.f5; simpa [doneSet] using h), (by have h := H.f6; simpa [doneSet] using h), (by have h := H.f7; simpa [doneSet] using h), (by have h := H.f8; simpa [doneSet] using h), (by have h := H.oa; simpa [doneSet] using h), (by have h := H.os; simpa [doneSet] using h), (by have h := H.f10; simpa [doneSet] using h), (by have h := H.f11; simpa [doneSet] using h), (fun _ => by simpa [doneSet] using h3), (by have h := H.ga; simpa [doneSet] using h)⟩⟩
    simp only [putAll, Act.put, List.setIfInBounds_toArray, List.set_cons_succ, List.set_cons_zero]
  · rintro d vs W ⟨v0, v1, v2, v3, v4, v5, v6, v7, v8, v9, v10, v11, u0, u1, va', vq', vc', X, rfl, H⟩ hn hd
    simp only [putAll, Act.put, List.setIfInBounds_toArray, List.set_cons_succ, List.set_cons_zero]
    have h4 : d 4 = true := hd { on := 4, ground := .data } (by simp) rfl
    have h3 := H.gd (.inl h4)
    obtain rfl := H.f4 h4
    have HH1 : Hid _ := H
    clear H
    clear hd
    go_wp2
    have H := HH1.out
    refine ⟨rfl, [v0, v1, v2, v3, .tuple #[.agg (D4 R.1.1 va' vq' R.1.2.1), vc', .int .i64 R.2.2], .agg (D4 R.1.1 va' vq' R.1.2.1), v6, v7, v8, v9, v10, v11], ?_, v0, v1, v2, v3, .tuple #[.agg (D4 R.1.1 va' vq' R.1.2.1), vc', .int .i64 R.2.2], .agg (D4 R.1.1 va' vq' R.1.2.1), v6, v7, v8, v9, v10, v11, u0, u1, va', vq', vc', X, rfl, ⟨H.bel, (by have h := H.f0; simpa [doneSet] using h), (by have h := H.f1; simpa [doneSet] using h), (by have h := H.f2; simpa [doneSet] using h), (by have h := H.f3; simpa [doneSet] using h), (by have h := H.od; simpa [doneSet] using h), (fun _ => rfl), (fun _ => rfl), (by have h := H.f6; simpa [doneSet] using h), (by have h := H.f7; simpa [doneSet] using h), (by have h := H.f8; simpa [doneSet] using h), (by have h := H.oa; simpa [doneSet] using h), (by have h := H.os; simpa [doneSet] using h), (by have h := H.f10; simpa [doneSet] using h), (by have h := H.f11; simpa [doneSet] using h), (fun _ => by simpa [doneSet] using h3), (by have h := H.ga; simpa [doneSet] using h)⟩⟩
    simp only [putAll, Act.put, List.setIfInBounds_toArray, List.set_cons_succ, List.set_cons_zero]
  · rintro d vs W ⟨v0, v1, v2, v3, v4, v5, v6, v7, v8, v9, v10, v11, u0, u1, va', vq', vc', X, rfl, H⟩ hn hd
    simp only [putAll, Act.put, List.setIfInBounds_toArray, List.set_cons_succ, List.set_cons_zero]
    have h4 : d 4 = true := hd { on := 4, ground := .data } (by simp) rfl
    have h3 := H.gd (.inl h4)
    obtain rfl := H.f4 h4
    have HH1 : Hid _ := H
    clear H
    clear hd
    go_wp2
    have H := HH1.out
    refine ⟨rfl, [v0, v1, v2, v3, .tuple #[.agg (D4 R.1.1 va' vq' R.1.2.1), vc', .int .i64 R.2.2], v5, vc', v7, v8, v9, v10, v11], ?_, v0, v1, v2, v3, .tuple #[.agg (D4 R.1.1 va' vq' R.1.2.1), vc', .int .i64 R.2.2], v5, vc', v7, v8, v9, v10, v11, u0, u1, va', vq', vc', X, rfl, ⟨H.bel, (by have h := H.f0; simpa [doneSet] using h), (by have h := H.f1; simpa [doneSet] using h), (by have h := H.f2; simpa [doneSet] using h), (by have h := H.f3; simpa [doneSet] using h), (by have h := H.od; simpa [doneSet] using h), (fun _ => rfl), (by have h := H.f5; simpa [doneSet] using h), (fun _ => rfl), (by have h := H.f7; simpa [doneSet] using h), (by have h := H.f8; simpa [doneSet] using h), (by have h := H.oa; simpa [doneSet] using h), (by have h := H.os; simpa [doneSet] using h), (by have h := H.f10; simpa [doneSet] using h), (by have h := H.f11; simpa [doneSet] using h), (fun _ => by simpa [doneSet] using h3), (by have h := H.ga; simpa [doneSet] using h)⟩⟩
    simp only [putAll, Act.put, List.setIfInBounds_toArray, List.set_cons_succ, List.set_cons_zero]
  · rintro d vs W ⟨v0, v1, v2, v3, v4, v5, v6, v7, v8, v9, v10, v11, u0, u1, va', vq', vc', X, rfl, H⟩ hn hd
    simp only [putAll, Act.put, List.setIfInBounds_toArray, List.set_cons_succ, List.set_cons_zero]
    have h4 : d 4 = true := hd { on := 4, ground := .data } (by simp) rfl
    have h3 := H.gd (.inl h4)
    obtain rfl := H.f4 h4
    have HH1 : Hid _ := H
    clear H
    clear hd
    go_wp2
    have H := HH1.out
    refine ⟨rfl, [v0, v1, v2, v3, .tuple #[.agg (D4 R.1.1 va' vq' R.1.2.1), vc', .int .i64 R.2.2], v5, v6, .int .i64 R.2.2, v8, v9, v10, v11], ?_, v0, v1, v2, v3, .tuple #[.agg (D4 R.1.1 va' vq' R.1.2.1), vc', .int .i64 R.2.2], v5, v6, .int .i64 R.2.2, v8, v9, v10, v11, u0, u1, va', vq', vc', X, rfl, ⟨H.bel, (by have h := H.f0; simpa [doneSet] using h), (by have h := H.f1; simpa [doneSet] using h), (by have h := H.f2; simpa [doneSet] using h), (by have h := H.f3; simpa [doneSet] using h), (by have h := H.od; simpa [doneSet] using h), (fun _ => rfl), (by have h := H.f5; simpa [doneSet] using h), (by have h := H.f6; simpa [doneSet] using h), (fun _ => rfl), (by have h := H.f8; simpa [doneSet] using h), (by have h := H.oa; simpa [doneSet] using h), (by have h := H.os; simpa [doneSet] using h), (by have h := H.f10; simpa [doneSet] using h), (by have h := H.f11; simpa [doneSet] using h), (fun _ => by simpa [doneSet] using h3), (by have h := H.ga; simpa [doneSet] using h)⟩⟩
    simp only [putAll, Act.put, List.setIfInBounds_toArray, List.set_cons_succ, List.set_cons_zero]
  · rintro d vs W ⟨v0, v1, v2, v3, v4, v5, v6, v7, v8, v9, v10, v11, u0, u1, va', vq', vc', X, rfl, H⟩ hn hd
    simp only [putAll, Act.put, List.setIfInBounds_toArray, List.set_cons_succ, List.set_cons_zero]
    have HH1 : Hid _ := H
    clear H
    have HHN : Hid (d 8 = false) := hn
    clear hd hn
    go_wp2
    have H0 := HH1.out
    have hn := HHN.out
    have H := HH1.out.below (Nat.le_refl _) ((Below.refl _ W).alloc (Nat.le_refl _) (.cells (D4 0 (.slice none 0 0) (.slice none 0 0) 0) 27))
    refine ⟨rfl, [v0, v1, v2, v3, v4, v5, v6, v7, .pointer (some ⟨W.heap.size, 0, none⟩), v9, v10, v11], ?_, v0, v1, v2, v3, v4, v5, v6, v7, .pointer (some ⟨W.heap.size, 0, none⟩), v9, v10, v11, u0, u1, va', vq', vc', W.heap.size, rfl, ⟨H.bel, (by have h := H.f0; simpa [doneSet] using h), (by have h := H.f1; simpa [doneSet] using h), (by have h := H.f2; simpa [doneSet] using h), (by have h := H.f3; simpa [doneSet] using h), (by have h := H.od; simpa [doneSet] using h), (by have h := H.f4; simpa [doneSet] using h), (by have h := H.f5; simpa [doneSet] using h), (by have h := H.f6; simpa [doneSet] using h), (by have h := H.f7; simpa [doneSet] using h), (fun _ => rfl), (fun _ => ⟨H0.bel.size, fun _ => Blk.new _ _ _⟩), (fun e => absurd (H.ga (by simpa [doneSet] using e)) (by rw [hn]; simp)), (by have h := H.f10; simpa [doneSet] using h), (by have h := H.f11; simpa [doneSet] using h), (by have h := H.gd; simpa [doneSet] using h), (fun _ => by simp [doneSet])⟩⟩
    simp only [putAll, Act.put, List.setIfInBounds_toArray, List.set_cons_succ, List.set_cons_zero]
  · rintro d vs W ⟨v0, v1, v2, v3, v4, v5, v6, v7, v8, v9, v10, v11, u0, u1, va', vq', vc', X, rfl, H⟩ hn hd
    simp only [putAll, Act.put, List.setIfInBounds_toArray, List.set_cons_succ, List.set_cons_zero]
    have h8 : d 8 = true := hd { on := 8, ground := .data } (by simp) rfl
    have h5 : d 5 = true := hd { on := 5, ground := .data } (by simp) rfl
    have h3 : d 3 = true := hd { on := 3, ground := .chain } (by simp) rfl
    obtain rfl := H.f8 h8
    obtain rfl := H.f5 h5
    obtain ⟨hCX, hb⟩ := H.oa h8
    have hb := hb hn
    have e0 := hb.cell 0
    have e1 := hb.cell 1
    have e2 := hb.cell 2
    have e3 := hb.cell 3
    have u0' := hb.frozen 0
    have u1' := hb.frozen 1
    have u2' := hb.frozen 2
    have u3' := hb.frozen 3
    simp at e0 e1 e2 e3
    have HBX2 : Hid (W6.heap.size ≤ X ∧ Blk W X (D4 0 (.slice none 0 0) (.slice none 0 0) 0) 27) := ⟨hCX, hb⟩
    obtain ⟨ma1, mc1, hm1⟩ := (H.od h3).1.1.form
    obtain ⟨ma2, mc2, hm2⟩ := (H.od h3).1.2.1.form
    obtain ⟨ml1, hml1⟩ : ∃ m, R.1.2.2.1.length = m := ⟨_, rfl⟩
    obtain ⟨ml2, hml2⟩ : ∃ m, R.1.2.2.2.length = m := ⟨_, rfl⟩
    rw [hml1] at hm1
    rw [hml2] at hm2
    subst hm1 hm2
    have HH1 : Hid _ := H
    clear H
    clear hd hn hCX hb hml1 hml2
    go_wp2
    have H := HH1.out
    obtain ⟨hCX, hb⟩ := HBX2.out
    obtain ⟨va', hva'⟩ : ∃ v, v = Value.slice ma1 ml1 mc1 := ⟨_, rfl⟩
    obtain ⟨vq', hvq'⟩ : ∃ v, v = Value.slice ma2 ml2 mc2 := ⟨_, rfl⟩
    rw [← hva', ← hvq'] at H ⊢
    have gf : W.grownBy ((((W.setCell ⟨X, 0, none⟩ (.int .i64 R.1.1)).setCell ⟨X, 1, none⟩ va').setCell ⟨X, 2, none⟩ vq').setCell ⟨X, 3, none⟩ (.int .i64 R.1.2.1)) (some X) := grown_trans (grown_trans (grown_trans (grown_set' _ _ _ _) (grown_set' _ _ _ _)) (grown_set' _ _ _ _)) (grown_set' _ _ _ _)
    refine ⟨rfl, [v0, v1, v2, v3, v4, .agg (D4 R.1.1 va' vq' R.1.2.1), v6, v7, .pointer (some ⟨X, 0, none⟩), undef, v10, v11], ?_, v0, v1, v2, v3, v4, .agg (D4 R.1.1 va' vq' R.1.2.1), v6, v7, .pointer (some ⟨X, 0, none⟩), undef, v10, v11, u0, u1, va', vq', vc', X, rfl, ⟨(H.bel.trans (grown_below gf H.bel.size (fun _ e => by cases e; exact hCX))), (by have h := H.f0; simpa [doneSet] using h), (by have h := H.f1; simpa [doneSet] using h), (by have h := H.f2; simpa [doneSet] using h), (by have h := H.f3; simpa [doneSet] using h), (fun _ => ⟨⟨World.ownsRow.kept (H.od h3).1.1 gf (.inr (row_blk (H.od h3).1.1 hb (by decide))), World.ownsRow.kept (H.od h3).1.2.1 gf (.inr (row_blk (H.od h3).1.2.1 hb (by decide))), (H.od h3).1.2.2⟩, World.ownsRow.kept (H.od h3).2.1 gf (.inr (row_blk (H.od h3).2.1 hb (by decide))), (H.od h3).2.2⟩), (by have h := H.f4; simpa [doneSet] using h), (fun _ => rfl), (by have h := H.f6; simpa [doneSet] using h), (by have h := H.f7; simpa [doneSet] using h), (fun _ => rfl), (fun _ => ⟨hCX, fun e => by simp [doneSet] at e⟩), (fun _ => (((hb.set 0 _).set 1 _).set 2 _).set 3 _), (by have h := H.f10; simpa [doneSet] using h), (by have h := H.f11; simpa [doneSet] using h), (fun _ => by simpa [doneSet] using h3), (fun _ => by simpa [doneSet] using h8)⟩⟩
    simp only [putAll, Act.put, List.setIfInBounds_toArray, List.set_cons_succ, List.set_cons_zero]
  · rintro d vs W ⟨v0, v1, v2, v3, v4, v5, v6, v7, v8, v9, v10, v11, u0, u1, va', vq', vc', X, rfl, H⟩ hn hd
    simp only [putAll, Act.put, List.setIfInBounds_toArray, List.set_cons_succ, List.set_cons_zero]
    have h6 : d 6 = true := hd { on := 6, ground := .data } (by simp) rfl
    have h3 := H.gd (.inr (.inr ((.inl h6))))
    obtain rfl := H.f6 h6
    have HH1 : Hid _ := H
    clear H
    clear hd
    go_wp2
    have H := HH1.out
    refine ⟨rfl, [v0, v1, v2, v3, v4, v5, v6, v7, v8, v9, v6, v11], ?_, v0, v1, v2, v3, v4, v5, v6, v7, v8, v9, v6, v11, u0, u1, va', vq', v6, X, rfl, ⟨H.bel, (by have h := H.f0; simpa [doneSet] using h), (by have h := H.f1; simpa [doneSet] using h), (by have h := H.f2; simpa [doneSet] using h), (by have h := H.f3; simpa [doneSet] using h), (by have h := H.od; simpa [doneSet] using h), (by have h := H.f4; simpa [doneSet] using h), (by have h := H.f5; simpa [doneSet] using h), (fun _ => rfl), (by have h := H.f7; simpa [doneSet] using h), (by have h := H.f8; simpa [doneSet] using h), (by have h := H.oa; simpa [doneSet] using h), (by have h := H.os; simpa [doneSet] using h), (fun _ => rfl), (by have h := H.f11; simpa [doneSet] using h), (fun _ => by simpa [doneSet] using h3), (by have h := H.ga; simpa [doneSet] using h)⟩⟩
    simp only [putAll, Act.put, List.setIfInBounds_toArray, List.set_cons_succ, List.set_cons_zero]
  · rintro d vs W ⟨v0, v1, v2, v3, v4, v5, v6, v7, v8, v9, v10, v11, u0, u1, va', vq', vc', X, rfl, H⟩ hn hd
    simp only [putAll, Act.put, List.setIfInBounds_toArray, List.set_cons_succ, List.set_cons_zero]
    have h7 : d 7 = true := hd { on := 7, ground := .data } (by simp) rfl
    have h3 := H.gd (.inr (.inr (.inr ((.inl h7)))))
    obtain rfl := H.f7 h7
    have HH1 : Hid _ := H
    clear H
    clear hd
    go_wp2
    have H := HH1.out
    refine ⟨rfl, [v0, v1, v2, v3, v4, v5, v6, .int .i64 R.2.2, v8, v9, v10, .int .i64 R.2.2], ?_, v0, v1, v2, v3, v4, v5, v6, .int .i64 R.2.2, v8, v9, v10, .int .i64 R.2.2, u0, u1, va', vq', vc', X, rfl, ⟨H.bel, (by have h := H.f0; simpa [doneSet] using h), (by have h := H.f1; simpa [doneSet] using h), (by have h := H.f2; simpa [doneSet] using h), (by have h := H.f3; simpa [doneSet] using h), (by have h := H.od; simpa [doneSet] using h), (by have h := H.f4; simpa [doneSet] using h), (by have h := H.f5; simpa [doneSet] using h), (by have h := H.f6; simpa [doneSet] using h), (fun _ => rfl), (by have h := H.f8; simpa [doneSet] using h), (by have h := H.oa; simpa [doneSet] using h), (by have h := H.os; simpa [doneSet] using h), (by have h := H.f10; simpa [doneSet] using h), (fun _ => rfl), (fun _ => by simpa [doneSet] using h3), (by have h := H.ga; simpa [doneSet] using h)⟩⟩
    simp only [putAll, Act.put, List.setIfInBounds_toArray, List.set_cons_succ, List.set_cons_zero]
  rintro d vs W7 ⟨v0, v1, v2, v3, v4, v5, v6, v7, v8, v9, v10, v11, u0, u1, va2, vq2, vc2', X2, rfl, H⟩ hn
  obtain rfl := H.f8 (hn 8 (by decide))
  have hv11 := H.f10 (hn 10 (by decide))
  subst hv11
  obtain rfl := H.f11 (hn 11 (by decide))
  obtain ⟨h1, h2, h3⟩ := H.od (hn 3 (by decide))
  have hA : Bd W6.heap.size W7 X2 R va2 vq2 v10 := ⟨h1, h2, h3, H.os (hn 9 (by decide)), (H.oa (hn 8 (by decide))).1⟩
  rw [HC2.out.1] at hA
  obtain ⟨vc2, hvc2⟩ : ∃ v, v10 = v := ⟨_, rfl⟩
  rw [hvc2] at hA ⊢
  have HG7 : Hid (Bd C2 W7 X2 R va2 vq2 vc2) := hA
  have HE7 : Hid (Ev w.heap.size S5 w W7 n g (.slice a0 gs.length p0) (.slice a1 qs.length p1) k t a s p w1.heap.size X1 R va1 vq1 vc1) := HE6.out.below H.bel
  have HX7 : Hid (OwD S5 W7 (.slice e0 gs.length q0) (.slice e1 qs.length q1) gs qs ∧ Blk W7 gx (D4 n (.slice e0 gs.length q0) (.slice e1 qs.length q1) g) 27) := ⟨HX6.out.1.below H.bel, HX6.out.2.below H.bel HX6.out.2.lt⟩
  simp only [putAll, Act.put, List.setIfInBounds_toArray, List.set_cons_succ, List.set_cons_zero]
  clear H hn h1 h2 h3 hA hvc2 HRD HBX HBP HE6 HX6 HE5
  have hbb : (R.2.2 != R.2.2) = false := by simp
  have y0 := HG7.out.box.cell 0
  have y1 := HG7.out.box.cell 1
  have y2 := HG7.out.box.cell 2
  have y3 := HG7.out.box.cell 3
  simp at y0 y1 y2 y3
  have x0 := HE7.out.A.box.cell 0
  have x1 := HE7.out.A.box.cell 1
  have x2 := HE7.out.A.box.cell 2
  have x3 := HE7.out.A.box.cell 3
  simp at x0 x1 x2 x3
  go_wp2_with (fail)
  refine (eqDesk_t _ _ _ _ _ _ R.1.2.2.1 R.1.2.2.2 W7 (HG7.out.own.1.rd agC_len) (HG7.out.own.2.1.rd wtC_len) (HE7.out.A.own.1.rd agC_len) (HE7.out.A.own.2.1.rd wtC_len)).mono ?_
  rintro e w8a ⟨rfl, bq⟩
  have HEw8a : Hid (Ev w.heap.size S5 w w8a n g (.slice a0 gs.length p0) (.slice a1 qs.length p1) k t a s p w1.heap.size X1 R va1 vq1 vc1) := HE7.out.below bq
  have HGw8a : Hid (Bd C2 w8a X2 R va2 vq2 vc2) := HG7.out.below bq
  have HXw8a : Hid (OwD S5 w8a (.slice e0 gs.length q0) (.slice e1 qs.length q1) gs qs ∧ Blk w8a gx (D4 n (.slice e0 gs.length q0) (.slice e1 qs.length q1) g) 27) := ⟨HX7.out.1.below bq, HX7.out.2.below bq HX7.out.2.lt⟩
  clear bq x0 x1 x2 x3 y0 y1 y2 y3 HE7 HG7 HX7
  go_wp2_with (fail)
  refine (eqIS _ _ R.2.1 w8a (HGw8a.out.cl.rd) (HEw8a.out.A.cl.rd)).mono ?_
  rintro e w8 ⟨rfl, bq⟩
  have HEw8 : Hid (Ev w.heap.size S5 w w8 n g (.slice a0 gs.length p0) (.slice a1 qs.length p1) k t a s p w1.heap.size X1 R va1 vq1 vc1) := HEw8a.out.below bq
  have HGw8 : Hid (Bd C2 w8 X2 R va2 vq2 vc2) := HGw8a.out.below bq
  have HXw8 : Hid (OwD S5 w8 (.slice e0 gs.length q0) (.slice e1 qs.length q1) gs qs ∧ Blk w8 gx (D4 n (.slice e0 gs.length q0) (.slice e1 qs.length q1) g) 27) := ⟨HXw8a.out.1.below bq, HXw8a.out.2.below bq HXw8a.out.2.lt⟩
  clear bq HEw8a HGw8a HXw8a
  obtain ⟨S, hS⟩ : ∃ S : World → Prop, ∀ W, S W ↔ Below w8.heap.size w8 W := ⟨_, fun _ => Iff.rfl⟩
  have zc0 : ∀ W : At S, W.wd.cell? ⟨w.heap.size, 0, none⟩ = some (.int .i64 n) := fun W => by rw [(HEw8.out.k48.below ((hS _).1 W.ok) HEw8.out.k48.lt).cell 0]; rfl
  have zx0 : ∀ W : At S, W.wd.cell? ⟨gx, 0, none⟩ = some (.int .i64 n) := fun W => by rw [(HXw8.out.2.below ((hS _).1 W.ok) HXw8.out.2.lt).cell 0]; rfl
  have zc1 : ∀ W : At S, W.wd.cell? ⟨w.heap.size, 1, none⟩ = some (.slice a0 gs.length p0) := fun W => by rw [(HEw8.out.k48.below ((hS _).1 W.ok) HEw8.out.k48.lt).cell 1]; rfl
  have zx1 : ∀ W : At S, W.wd.cell? ⟨gx, 1, none⟩ = some (.slice e0 gs.length q0) := fun W => by rw [(HXw8.out.2.below ((hS _).1 W.ok) HXw8.out.2.lt).cell 1]; rfl
  have zc2 : ∀ W : At S, W.wd.cell? ⟨w.heap.size, 2, none⟩ = some (.slice a1 qs.length p1) := fun W => by rw [(HEw8.out.k48.below ((hS _).1 W.ok) HEw8.out.k48.lt).cell 2]; rfl
  have zx2 : ∀ W : At S, W.wd.cell? ⟨gx, 2, none⟩ = some (.slice e1 qs.length q1) := fun W => by rw [(HXw8.out.2.below ((hS _).1 W.ok) HXw8.out.2.lt).cell 2]; rfl
  have zc3 : ∀ W : At S, W.wd.cell? ⟨w.heap.size, 3, none⟩ = some (.int .i64 g) := fun W => by rw [(HEw8.out.k48.below ((hS _).1 W.ok) HEw8.out.k48.lt).cell 3]; rfl
  have zx3 : ∀ W : At S, W.wd.cell? ⟨gx, 3, none⟩ = some (.int .i64 g) := fun W => by rw [(HXw8.out.2.below ((hS _).1 W.ok) HXw8.out.2.lt).cell 3]; rfl
  have HS : Hid (∀ W, S W ↔ Below w8.heap.size w8 W) := hS
  have ne : Nonempty (At S) := ⟨⟨w8, (hS _).2 (Below.refl _ _)⟩⟩
  clear hS
  go_wp2
  refine region_mixA [true, true, false, false, false] 5 3 S (by kernel_rfl) rfl (by kernel_rfl) (fun _ _ _ _ _ h => h) ((HS.out _).2 (Below.refl _ _).drew) ?_
  simp only [selT, selF]
  repeat (go_big_quiet_step (fail))
  refine wpQuiet_nil ?_
  refine tail_step ?_
  go_wp2_with (fail)
  refine (toDesk_c n g _ _ gs qs w8.drew (HH.out.1.below HEw8.out.bel.drew) (HH.out.2.below HEw8.out.bel.drew) HL.out.1 HL.out.2).mono ?_
  rintro e w9a ⟨u0, u1, rfl, o7, b7⟩
  have B7 : Below w8.heap.size w8 w9a := (Below.refl _ _).drew.trans b7
  have HB7 : Hid (Below w8.heap.size w8 w9a) := B7
  have HO7 : Hid ((Rg 3 agC w9a u0 gs ∧ Rg 4 wtC w9a u1 qs) ∧ (Rg 3 agC w9a (.slice e0 gs.length q0) gs ∧ Rg 4 wtC w9a (.slice e1 qs.length q1) qs)) := ⟨⟨o7.1.rd agC_len, o7.2.1.rd wtC_len⟩, (HXw8.out.1.1.rd agC_len).below B7, (HXw8.out.1.2.1.rd wtC_len).below B7⟩
  clear o7 b7 B7
  go_wp2
  refine ⟨(HS.out _).2 HB7.out, tail_step ?_⟩
  go_wp2_with (fail)
  refine (eqDesk_t n g _ _ _ _ gs qs w9a HO7.out.2.1 HO7.out.2.2 HO7.out.1.1 HO7.out.1.2).mono ?_
  rintro e w9 ⟨rfl, b8⟩
  have HB8 : Hid (Below w8.heap.size w8 w9) := belowCall HB7.out b8 HB7.out.size
  clear b8
  go_wp2
  refine ⟨(HS.out _).2 HB8.out, tail_step ?_⟩
  go_wp2
  refine ⟨(HS.out _).2 HB8.out, tail_end ?_⟩
  have HEw9 : Hid (Ev w.heap.size S5 w w9 n g (.slice a0 gs.length p0) (.slice a1 qs.length p1) k t a s p w1.heap.size X1 R va1 vq1 vc1) := HEw8.out.below HB8.out
  have HGw9 : Hid (Bd C2 w9 X2 R va2 vq2 vc2) := HGw8.out.below HB8.out
  have HXw9 : Hid (OwD S5 w9 (.slice e0 gs.length q0) (.slice e1 qs.length q1) gs qs ∧ Blk w9 gx (D4 n (.slice e0 gs.length q0) (.slice e1 qs.length q1) g) 27) := ⟨HXw8.out.1.below HB8.out, HXw8.out.2.below HB8.out HXw8.out.2.lt⟩
  clear HB8 HB7 HO7 HEw8 HGw8 HXw8 zc0 zc1 zc2 zc3 zx0 zx1 zx2 zx3 ne HS
  have y0 := HXw9.out.2.cell 0
  have y1 := HXw9.out.2.cell 1
  have y2 := HXw9.out.2.cell 2
  have y3 := HXw9.out.2.cell 3
  simp at y0 y1 y2 y3
  obtain ⟨K, hK⟩ : ∃ K, (1 : Int) + 3 * gs.length + 4 * qs.length = K := ⟨_, rfl⟩
  have HMK := markDesk_c S5 n g 1 _ _ gs qs w9 HXw9.out.1 (by decide) (by have := HL.out; omega)
  rw [hK] at HMK
  have HMK' : Hid (Calls Try.prog 24 #[.agg (D4 n (.slice e0 gs.length q0) (.slice e1 qs.length q1) g), .int .i64 1] w9 fun e w' => e = .returned (.int .i64 K) ∧ OwD S5 w' (.slice e0 gs.length q0) (.slice e1 qs.length q1) (mkA 1 gs.length) (mkQ (1 + 3 * gs.length) qs.length) ∧ Fr (InD (.slice e0 gs.length q0) (.slice e1 qs.length q1)) w9 w') := HMK
  have hKn : (K < 0) = False := eq_false (by omega)
  clear HMK hK
  go_wp2_with (fail)
  refine HMK'.out.mono ?_
  rintro e w10 ⟨rfl, -, fm⟩
  have HEw10 : Hid (Ev w.heap.size S5 w w10 n g (.slice a0 gs.length p0) (.slice a1 qs.length p1) k t a s p w1.heap.size X1 R va1 vq1 vc1) := HEw9.out.fr fm (fun j hj => (HXL.out j hj).1)
  have HGw10 : Hid (Bd C2 w10 X2 R va2 vq2 vc2) := HGw9.out.fr fm (fun j hj e => by have h1 := (HGw9.out.lt j hj).1; have h2 := (HXL.out j e).2; have h3 := HC2.out.2; omega)
  clear fm HMK' HEw9 HGw9 HXw9 y0 y1 y2 y3
  have y0 := HGw10.out.box.cell 0
  have y1 := HGw10.out.box.cell 1
  have y2 := HGw10.out.box.cell 2
  have y3 := HGw10.out.box.cell 3
  simp at y0 y1 y2 y3
  have x0 := HEw10.out.A.box.cell 0
  have x1 := HEw10.out.A.box.cell 1
  have x2 := HEw10.out.A.box.cell 2
  have x3 := HEw10.out.A.box.cell 3
  simp at x0 x1 x2 x3
  go_wp2_with (fail)
  refine (eqDesk_t _ _ _ _ _ _ R.1.2.2.1 R.1.2.2.2 w10 (HGw10.out.own.1.rd agC_len) (HGw10.out.own.2.1.rd wtC_len) (HEw10.out.A.own.1.rd agC_len) (HEw10.out.A.own.2.1.rd wtC_len)).mono ?_
  rintro e w11a ⟨rfl, bq⟩
  have HEw11a : Hid (Ev w.heap.size S5 w w11a n g (.slice a0 gs.length p0) (.slice a1 qs.length p1) k t a s p w1.heap.size X1 R va1 vq1 vc1) := HEw10.out.below bq
  have HGw11a : Hid (Bd C2 w11a X2 R va2 vq2 vc2) := HGw10.out.below bq
  clear bq x0 x1 x2 x3 y0 y1 y2 y3 HEw10 HGw10
  go_wp2_with (fail)
  refine (eqIS _ _ R.2.1 w11a (HGw11a.out.cl.rd) (HEw11a.out.A.cl.rd)).mono ?_
  rintro e w11 ⟨rfl, bq⟩
  have HEw11 : Hid (Ev w.heap.size S5 w w11 n g (.slice a0 gs.length p0) (.slice a1 qs.length p1) k t a s p w1.heap.size X1 R va1 vq1 vc1) := HEw11a.out.below bq
  have HGw11 : Hid (Bd C2 w11 X2 R va2 vq2 vc2) := HGw11a.out.below bq
  clear bq HEw11a HGw11a
  have y0 := HGw11.out.box.cell 0
  have y1 := HGw11.out.box.cell 1
  have y2 := HGw11.out.box.cell 2
  have y3 := HGw11.out.box.cell 3
  simp at y0 y1 y2 y3
  obtain ⟨N1, hN1⟩ : ∃ N, R.1.2.2.1.length = N := ⟨_, rfl⟩
  obtain ⟨N2, hN2⟩ : ∃ N, R.1.2.2.2.length = N := ⟨_, rfl⟩
  obtain ⟨N3, hN3⟩ : ∃ N, R.2.1.length = N := ⟨_, rfl⟩
  have hlen : N1 ≤ 2000000 ∧ N2 ≤ 2000000 ∧ N3 ≤ 2000000 := by
    have h1 := doF_len n g gs qs k t a s p
    rw [HR.out, hN1, hN2, hN3] at h1
    have := HL.out
    omega
  obtain ⟨M1, hM1⟩ : ∃ K, (1 : Int) + 3 * N1 + 4 * N2 = K := ⟨_, rfl⟩
  obtain ⟨M2, hM2⟩ : ∃ K, M1 + (N3 : Int) = K := ⟨_, rfl⟩
  have HMK := markDesk_c C2 R.1.1 R.1.2.1 1 va2 vq2 R.1.2.2.1 R.1.2.2.2 w11 HGw11.out.own (by decide) (by rw [hN1, hN2]; omega)
  rw [hN1, hN2, hM1] at HMK
  have HMK' : Hid (Calls Try.prog 24 #[.agg (D4 R.1.1 va2 vq2 R.1.2.1), .int .i64 1] w11 fun e w' => e = .returned (.int .i64 M1) ∧ OwD C2 w' va2 vq2 (mkA 1 N1) (mkQ (1 + 3 * N1) N2) ∧ Fr (InD va2 vq2) w11 w') := HMK
  have HMI : Hid (∀ W, Ow .i64 3 C2 W vc2 R.2.1 → Calls Try.prog 25 #[vc2, .int .i64 M1] W fun e w' => e = .returned (.int .i64 M2) ∧ Ow .i64 3 C2 w' vc2 (marks .i64 M1 N3) ∧ W.grownBy w' vc2.ownBlock) := by
    intro W h
    have := markI vc2 R.2.1 M1 C2 W h (by omega) (by rw [hN3]; omega)
    rw [hN3, hM2] at this
    exact this
  have HHD : Hid (∀ W, Rg 3 agC W va2 (mkA 1 N1) → Rg 4 wtC W vq2 (mkQ (1 + 3 * N1) N2) → Calls Try.prog 26 #[.agg (D4 R.1.1 va2 vq2 R.1.2.1), .int .i64 1] W fun e w' => e = .returned (.int .i64 M1) ∧ Below W.heap.size W w') := by
    intro W h1 h2
    have := heldDesk_c R.1.1 R.1.2.1 1 va2 vq2 N1 N2 W h1 h2 (by decide) (by omega)
    rw [hM1] at this
    exact this
  have HHI : Hid (∀ W, Rd .i64 W vc2 (marks .i64 M1 N3) → Calls Try.prog 27 #[vc2, .int .i64 M1] W fun e w' => e = .returned (.int .i64 M2) ∧ Below W.heap.size W w') := by
    intro W h
    have := heldI vc2 M1 N3 W h (by omega) (by omega)
    rw [hM2] at this
    exact this
  have hMn : (M1 < 0) = False := eq_false (by omega)
  have hMm : (M2 < 0) = False := eq_false (by omega)
  have hMe : (M2 != M2) = false := by simp
  clear HMK hN1 hN2 hN3 hM1 hM2 hlen
  go_wp2_with (fail)
  refine HMK'.out.mono ?_
  rintro e w12 ⟨rfl, om, fm⟩
  have HEw12 : Hid (Ev w.heap.size S5 w w12 n g (.slice a0 gs.length p0) (.slice a1 qs.length p1) k t a s p w1.heap.size X1 R va1 vq1 vc1) := HEw11.out.fr fm (fun j hj => by have h1 := (HGw11.out.lt j (.inl hj)).1; have h2 := HC2.out.2; have h3 := HSG.out; omega)
  have HOM : Hid (OwD C2 w12 va2 vq2 (mkA 1 N1) (mkQ (1 + 3 * N1) N2)) := om
  have HOC : Hid (Ow .i64 3 C2 w12 vc2 R.2.1) := ownsRow_fr HGw11.out.cl fm (fun j hj e => HGw11.out.ap j hj e)
  have HOB : Hid (Blk w12 X2 (D4 R.1.1 va2 vq2 R.1.2.1) 27) := HGw11.out.box.fr fm (rowD_ne HGw11.out.own HGw11.out.box)
  have HAP : Hid (∀ j, vc2.ownBlock = some j → ¬ InD va2 vq2 j) := HGw11.out.ap
  clear om fm HMK' HEw11 HGw11 y0 y1 y2 y3
  go_wp2_with (fail)
  refine (HMI.out w12 HOC.out).mono ?_
  rintro e w13 ⟨rfl, oi, gi⟩
  have fi : Fr (fun j => vc2.ownBlock = some j) w12 w13 := Fr.ofGrown gi (fun j e => e)
  have HEw13 : Hid (Ev w.heap.size S5 w w13 n g (.slice a0 gs.length p0) (.slice a1 qs.length p1) k t a s p w1.heap.size X1 R va1 vq1 vc1) := HEw12.out.fr fi (fun j hj => by have h1 := (World.ownsRow.lt HOC.out j hj).1; have h2 := HC2.out.2; have h3 := HSG.out; omega)
  have HM13 : Hid (OwD C2 w13 va2 vq2 (mkA 1 N1) (mkQ (1 + 3 * N1) N2) ∧ Ow .i64 3 C2 w13 vc2 (marks .i64 M1 N3) ∧ Blk w13 X2 (D4 R.1.1 va2 vq2 R.1.2.1) 27) := ⟨HOM.out.fr fi (fun j hj e => HAP.out j e hj), oi, HOB.out.fr fi (fun e => row_blk HOC.out HOB.out (by decide) e)⟩
  clear oi gi fi HEw12 HOM HOC HOB HMI
  have y0 := HM13.out.2.2.cell 0
  have y1 := HM13.out.2.2.cell 1
  have y2 := HM13.out.2.2.cell 2
  have y3 := HM13.out.2.2.cell 3
  simp at y0 y1 y2 y3
  go_wp2_with (fail)
  refine (HHD.out w13 (HM13.out.1.1.rd agC_len) (HM13.out.1.2.1.rd wtC_len)).mono ?_
  rintro e w14 ⟨rfl, bq⟩
  have HEw14 : Hid (Ev w.heap.size S5 w w14 n g (.slice a0 gs.length p0) (.slice a1 qs.length p1) k t a s p w1.heap.size X1 R va1 vq1 vc1) := HEw13.out.below bq
  have HM14 : Hid (OwD C2 w14 va2 vq2 (mkA 1 N1) (mkQ (1 + 3 * N1) N2) ∧ Ow .i64 3 C2 w14 vc2 (marks .i64 M1 N3) ∧ Blk w14 X2 (D4 R.1.1 va2 vq2 R.1.2.1) 27) := ⟨HM13.out.1.below bq, HM13.out.2.1.below bq, HM13.out.2.2.below bq HM13.out.2.2.lt⟩
  clear bq HEw13 HM13 y0 y1 y2 y3
  go_wp2_with (fail)
  refine (HHI.out w14 HM14.out.2.1.rd).mono ?_
  rintro e w15 ⟨rfl, bq⟩
  have HEw15 : Hid (Ev w.heap.size S5 w w15 n g (.slice a0 gs.length p0) (.slice a1 qs.length p1) k t a s p w1.heap.size X1 R va1 vq1 vc1) := HEw14.out.below bq
  have HM15 : Hid (OwD C2 w15 va2 vq2 (mkA 1 N1) (mkQ (1 + 3 * N1) N2) ∧ Ow .i64 3 C2 w15 vc2 (marks .i64 M1 N3) ∧ Blk w15 X2 (D4 R.1.1 va2 vq2 R.1.2.1) 27) := ⟨HM14.out.1.below bq, HM14.out.2.1.below bq, HM14.out.2.2.below bq HM14.out.2.2.lt⟩
  clear bq HEw14 HM14
  go_upto_region 28 with (fail)
  have HBX : Hid (Blk w15 w.heap.size (D4 n (.slice a0 gs.length p0) (.slice a1 qs.length p1) g) 48) := HEw15.out.k48
  have HBP : Hid (Blk w15 (w.heap.size + 1) #[.int .i64 k, .int .i64 t, .int .i64 a, .int .i64 s, .int .i64 p] 53) := HEw15.out.k53
  have HRD : Hid (∀ W, Below w15.heap.size w15 W → Rg 3 agC W (.slice a0 gs.length p0) gs ∧ Rg 4 wtC W (.slice a1 qs.length p1) qs) := fun W h => ⟨(HH.out.1.below HEw15.out.bel).below h, (HH.out.2.below HEw15.out.bel).below h⟩
  refine region_vals [undef, undef, undef, undef, undef, undef, undef, undef, undef, undef, undef, undef, undef]
    (SaS w15.heap.size w15 n g (.slice a0 gs.length p0) (.slice a1 qs.length p1) gs qs k t a s p R)
    (by kernel_rfl) (by kernel_rfl) ?_ ⟨?_, ?_, ?_, ?_, ?_, ?_, ?_, ?_, ?_, ?_, ?_, ?_, ?_, trivial⟩ ?_
  · refine ⟨_, _, _, _, _, _, _, _, _, _, _, _, _, undef, undef, undef, undef, undef, 0, rfl, ⟨(Below.refl _ _).drew, ?_, ?_, ?_, ?_, ?_, ?_, ?_, ?_, ?_, ?_, ?_, ?_, ?_, ?_, ?_, ?_, ?_, ?_⟩⟩ <;> simp
  · rintro d vs W ⟨v0, v1, v2, v3, v4, v5, v6, v7, v8, v9, v10, v11, v12, u0, u1, va', vq', vc', X, rfl, H⟩ hn hd
    simp only [putAll, Act.put, List.setIfInBounds_toArray, List.set_cons_succ, List.set_cons_zero]
    have kk := HBX.out.below H.bel HBX.out.lt
    have x0 := kk.cell 0
    have x1 := kk.cell 1
    have x2 := kk.cell 2
    have x3 := kk.cell 3
    simp at x0 x1 x2 x3
    have HH1 : Hid _ := H
    clear H
    clear hd kk
    go_wp2
    have H := HH1.out
    refine ⟨rfl, [.agg (D4 n (.slice a0 gs.length p0) (.slice a1 qs.length p1) g), v1, v2, v3, v4, v5, v6, v7, v8, v9, v10, v11, v12], ?_, .agg (D4 n (.slice a0 gs.length p0) (.slice a1 qs.length p1) g), v1, v2, v3, v4, v5, v6, v7, v8, v9, v10, v11, v12, u0, u1, va', vq', vc', X, rfl, ⟨H.bel, (fun _ => rfl), (by have h := H.f1; simpa [doneSet] using h), (by have h := H.o1; simpa [doneSet] using h), (by have h := H.f2; simpa [doneSet] using h), (by have h := H.f3; simpa [doneSet] using h), (by have h := H.f4; simpa [doneSet] using h), (by have h := H.od; simpa [doneSet] using h), (by have h := H.f5; simpa [doneSet] using h), (by have h := H.f6; simpa [doneSet] using h), (by have h := H.f7; simpa [doneSet] using h), (by have h := H.f8; simpa [doneSet] using h), (by have h := H.f9; simpa [doneSet] using h), (by have h := H.oa; simpa [doneSet] using h), (by have h := H.os; simpa [doneSet] using h), (by have h := H.f11; simpa [doneSet] using h), (by have h := H.f12; simpa [doneSet] using h), (by have h := H.gd; simpa [doneSet] using h), (by have h := H.ga; simpa [doneSet] using h)⟩⟩
    simp only [putAll, Act.put, List.setIfInBounds_toArray, List.set_cons_succ, List.set_cons_zero]
  · rintro d vs W ⟨v0, v1, v2, v3, v4, v5, v6, v7, v8, v9, v10, v11, v12, u0, u1, va', vq', vc', X, rfl, H⟩ hn hd
    simp only [putAll, Act.put, List.setIfInBounds_toArray, List.set_cons_succ, List.set_cons_zero]
    have h0 : d 0 = true := hd { on := 0, ground := .data } (by simp) rfl
    obtain rfl := H.f0 h0
    have HH1 : Hid _ := H
    clear H
    have HHN : Hid (d 1 = false) := hn
    clear hd hn
    go_wp2_with (fail)
    refine (toDesk_c n g _ _ gs qs W (HRD.out W HH1.out.bel).1 (HRD.out W HH1.out.bel).2 HL.out.1 HL.out.2).mono ?_
    rintro e W3 ⟨va3, vq3, rfl, ho, hb⟩
    have H := HH1.out.below (Nat.le_refl _) hb
    have HO : Hid (Rg 3 agC W3 va3 gs ∧ Rg 4 wtC W3 vq3 qs) := ⟨ho.1.rd agC_len, ho.2.1.rd wtC_len⟩
    have HH2 : Hid _ := H
    clear HH1 H ho hb
    go_wp2
    have H := HH2.out
    have hn := HHN.out
    refine ⟨rfl, [.agg (D4 n (.slice a0 gs.length p0) (.slice a1 qs.length p1) g), .agg (D4 n va3 vq3 g), v2, v3, v4, v5, v6, v7, v8, v9, v10, v11, v12], ?_, .agg (D4 n (.slice a0 gs.length p0) (.slice a1 qs.length p1) g), .agg (D4 n va3 vq3 g), v2, v3, v4, v5, v6, v7, v8, v9, v10, v11, v12, va3, vq3, va', vq', vc', X, rfl, ⟨H.bel, (fun _ => rfl), (fun _ => rfl), (fun _ _ => HO.out), (by have h := H.f2; simpa [doneSet] using h), (by have h := H.f3; simpa [doneSet] using h), (by have h := H.f4; simpa [doneSet] using h), (by have h := H.od; simpa [doneSet] using h), (by have h := H.f5; simpa [doneSet] using h), (by have h := H.f6; simpa [doneSet] using h), (by have h := H.f7; simpa [doneSet] using h), (by have h := H.f8; simpa [doneSet] using h), (by have h := H.f9; simpa [doneSet] using h), (by have h := H.oa; simpa [doneSet] using h), (by have h := H.os; simpa [doneSet] using h), (by have h := H.f11; simpa [doneSet] using h), (by have h := H.f12; simpa [doneSet] using h), (by have h := H.gd; simpa [doneSet] using h), (by have h := H.ga; simpa [doneSet] using h)⟩⟩
    simp only [putAll, Act.put, List.setIfInBounds_toArray, List.set_cons_succ, List.set_cons_zero]
  · rintro d vs W ⟨v0, v1, v2, v3, v4, v5, v6, v7, v8, v9, v10, v11, v12, u0, u1, va', vq', vc', X, rfl, H⟩ hn hd
    simp only [putAll, Act.put, List.setIfInBounds_toArray, List.set_cons_succ, List.set_cons_zero]
    have kk := HBP.out.below H.bel HBP.out.lt
    have x0 := kk.cell 0
    have x1 := kk.cell 1
    have x2 := kk.cell 2
    have x3 := kk.cell 3
    have x4 := kk.cell 4
    simp at x0 x1 x2 x3 x4
    have HH1 : Hid _ := H
    clear H
    clear hd kk
    go_wp2
    have H := HH1.out
    refine ⟨rfl, [v0, v1, .agg #[.int .i64 k, .int .i64 t, .int .i64 a, .int .i64 s, .int .i64 p], v3, v4, v5, v6, v7, v8, v9, v10, v11, v12], ?_, v0, v1, .agg #[.int .i64 k, .int .i64 t, .int .i64 a, .int .i64 s, .int .i64 p], v3, v4, v5, v6, v7, v8, v9, v10, v11, v12, u0, u1, va', vq', vc', X, rfl, ⟨H.bel, (by have h := H.f0; simpa [doneSet] using h), (by have h := H.f1; simpa [doneSet] using h), (by have h := H.o1; simpa [doneSet] using h), (fun _ => rfl), (by have h := H.f3; simpa [doneSet] using h), (by have h := H.f4; simpa [doneSet] using h), (by have h := H.od; simpa [doneSet] using h), (by have h := H.f5; simpa [doneSet] using h), (by have h := H.f6; simpa [doneSet] using h), (by have h := H.f7; simpa [doneSet] using h), (by have h := H.f8; simpa [doneSet] using h), (by have h := H.f9; simpa [doneSet] using h), (by have h := H.oa; simpa [doneSet] using h), (by have h := H.os; simpa [doneSet] using h), (by have h := H.f11; simpa [doneSet] using h), (by have h := H.f12; simpa [doneSet] using h), (by have h := H.gd; simpa [doneSet] using h), (by have h := H.ga; simpa [doneSet] using h)⟩⟩
    simp only [putAll, Act.put, List.setIfInBounds_toArray, List.set_cons_succ, List.set_cons_zero]
  · rintro d vs W ⟨v0, v1, v2, v3, v4, v5, v6, v7, v8, v9, v10, v11, v12, u0, u1, va', vq', vc', X, rfl, H⟩ hn hd
    simp only [putAll, Act.put, List.setIfInBounds_toArray, List.set_cons_succ, List.set_cons_zero]
    have h2 : d 2 = true := hd { on := 2, ground := .data } (by simp) rfl
    obtain rfl := H.f2 h2
    have HH1 : Hid _ := H
    clear H
    clear hd
    go_wp2_with (fail)
    refine (toDo_c k t a s p W).mono ?_
    rintro e W3 ⟨rfl, hb⟩
    have H := HH1.out.below (Nat.le_refl _) hb
    have HH2 : Hid _ := H
    clear HH1 H hb
    go_wp2
    have H := HH2.out
    refine ⟨rfl, [v0, v1, .agg #[.int .i64 k, .int .i64 t, .int .i64 a, .int .i64 s, .int .i64 p], .agg #[.int .i64 k, .int .i64 t, .int .i64 a, .int .i64 s, .int .i64 p], v4, v5, v6, v7, v8, v9, v10, v11, v12], ?_, v0, v1, .agg #[.int .i64 k, .int .i64 t, .int .i64 a, .int .i64 s, .int .i64 p], .agg #[.int .i64 k, .int .i64 t, .int .i64 a, .int .i64 s, .int .i64 p], v4, v5, v6, v7, v8, v9, v10, v11, v12, u0, u1, va', vq', vc', X, rfl, ⟨H.bel, (by have h := H.f0; simpa [doneSet] using h), (by have h := H.f1; simpa [doneSet] using h), (by have h := H.o1; simpa [doneSet] using h), (fun _ => rfl), (fun _ => rfl), (by have h := H.f4; simpa [doneSet] using h), (by have h := H.od; simpa [doneSet] using h), (by have h := H.f5; simpa [doneSet] using h), (by have h := H.f6; simpa [doneSet] using h), (by have h := H.f7; simpa [doneSet] using h), (by have h := H.f8; simpa [doneSet] using h), (by have h := H.f9; simpa [doneSet] using h), (by have h := H.oa; simpa [doneSet] using h), (by have h := H.os; simpa [doneSet] using h), (by have h := H.f11; simpa [doneSet] using h), (by have h := H.f12; simpa [doneSet] using h), (by have h := H.gd; simpa [doneSet] using h), (by have h := H.ga; simpa [doneSet] using h)⟩⟩
    simp only [putAll, Act.put, List.setIfInBounds_toArray, List.set_cons_succ, List.set_cons_zero]
  · rintro d vs W ⟨v0, v1, v2, v3, v4, v5, v6, v7, v8, v9, v10, v11, v12, u0, u1, va', vq', vc', X, rfl, H⟩ hn hd
    simp only [putAll, Act.put, List.setIfInBounds_toArray, List.set_cons_succ, List.set_cons_zero]
    have h1 : d 1 = true := hd { on := 1, ground := .data } (by simp) rfl
    have h3 : d 3 = true := hd { on := 3, ground := .data } (by simp) rfl
    obtain rfl := H.f1 h1
    obtain rfl := H.f3 h3
    have HO : Hid (Rg 3 agC W u0 gs ∧ Rg 4 wtC W u1 qs) := H.o1 h1 hn
    have HH1 : Hid _ := H
    clear H
    have HHN : Hid (d 4 = false) := hn
    clear hd hn
    go_wp2_with (fail)
    refine (doI_c n g u0 u1 gs qs k t a s p W HO.out.1 HO.out.2 HL.out.1 HL.out.2).mono ?_
    rw [HR.out]
    rintro e W3 ⟨va3, vq3, vc3, rfl, ho, hc, hap, hb⟩
    have hsz : w15.heap.size ≤ W.heap.size := HH1.out.bel.size
    have HO2 : Hid (OwD w15.heap.size W3 va3 vq3 R.1.2.2.1 R.1.2.2.2 ∧ Ow .i64 3 w15.heap.size W3 vc3 R.2.1 ∧ ∀ j, vc3.ownBlock = some j → ¬ InD va3 vq3 j) := ⟨ho.mono hsz, hc.mono hsz, hap⟩
    have H := HH1.out.below (Nat.le_refl _) hb
    have HH2 : Hid _ := H
    clear HH1 H ho hc hap hb hsz HO
    go_wp2
    have H := HH2.out
    have hn := HHN.out
    refine ⟨rfl, [v0, .agg (D4 n u0 u1 g), v2, .agg #[.int .i64 k, .int .i64 t, .int .i64 a, .int .i64 s, .int .i64 p], .tuple #[.agg (D4 R.1.1 va3 vq3 R.1.2.1), vc3, .int .i64 R.2.2], v5, v6, v7, v8, v9, v10, v11, v12], ?_, v0, .agg (D4 n u0 u1 g), v2, .agg #[.int .i64 k, .int .i64 t, .int .i64 a, .int .i64 s, .int .i64 p], .tuple #[.agg (D4 R.1.1 va3 vq3 R.1.2.1), vc3, .int .i64 R.2.2], v5, v6, v7, v8, v9, v10, v11, v12, u0, u1, va3, vq3, vc3, X, rfl, ⟨H.bel, (by have h := H.f0; simpa [doneSet] using h), (fun _ => rfl), (fun _ e => by simp [doneSet] at e), (by have h := H.f2; simpa [doneSet] using h), (fun _ => rfl), (fun _ => rfl), (fun _ => HO2.out), (fun e => absurd (H.gd ((.inl (by simpa [doneSet] using e)))) (by rw [hn]; simp)), (fun e => absurd (H.gd (.inr ((.inl (by simpa [doneSet] using e))))) (by rw [hn]; simp)), (fun e => absurd (H.gd (.inr (.inr ((.inl (by simpa [doneSet] using e)))))) (by rw [hn]; simp)), (fun e => absurd (H.gd (.inr (.inr (.inr ((.inl (by simpa [doneSet] using e))))))) (by rw [hn]; simp)), (by have h := H.f9; simpa [doneSet] using h), (by have h := H.oa; simpa [doneSet] using h), (fun e => absurd (H.gd (.inr (.inr (.inr (.inr ((.inl (by simpa [doneSet] using e)))))))) (by rw [hn]; simp)), (fun e => absurd (H.gd (.inr (.inr (.inr (.inr (.inr ((.inl (by simpa [doneSet] using e))))))))) (by rw [hn]; simp)), (fun e => absurd (H.gd (.inr (.inr (.inr (.inr (.inr (.inr ((by simpa [doneSet] using e))))))))) (by rw [hn]; simp)), (fun _ => by simp [doneSet]), (by have h := H.ga; simpa [doneSet] using h)⟩⟩
    simp only [putAll, Act.put, List.setIfInBounds_toArray, List.set_cons_succ, List.set_cons_zero]
  · rintro d vs W ⟨v0, v1, v2, v3, v4, v5, v6, v7, v8, v9, v10, v11, v12, u0, u1, va', vq', vc', X, rfl, H⟩ hn hd
    simp only [putAll, Act.put, List.setIfInBounds_toArray, List.set_cons_succ, List.set_cons_zero]
    have h4 : d 4 = true := hd { on := 4, ground := .data } (by simp) rfl
    obtain rfl := H.f4 h4
    have HH1 : Hid _ := H
    clear H
    clear hd
    go_wp2
    have H := HH1.out
    refine ⟨rfl, [v0, v1, v2, v3, .tuple #[.agg (D4 R.1.1 va' vq' R.1.2.1), vc', .int .i64 R.2.2], .tuple #[.agg (D4 R.1.1 va' vq' R.1.2.1), vc', .int .i64 R.2.2], v6, v7, v8, v9, v10, v11, v12], ?_, v0, v1, v2, v3, .tuple #[.agg (D4 R.1.1 va' vq' R.1.2.1), vc', .int .i64 R.2.2], .tuple #[.agg (D4 R.1.1 va' vq' R.1.2.1), vc', .int .i64 R.2.2], v6, v7, v8, v9, v10, v11, v12, u0, u1, va', vq', vc', X, rfl, ⟨H.bel, (by have h := H.f0; simpa [doneSet] using h), (by have h := H.f1; simpa [doneSet] using h), (by have h := H.o1; simpa [doneSet] using h), (by have h := H.f2; simpa [doneSet] using h), (by have h := H.f3; simpa [doneSet] using h), (fun _ => rfl), (by have h := H.od; simpa [doneSet] using h), (fun _ => rfl), (by have h := H.f6; simpa [doneSet] using h), (by have h := H.f7; simpa [doneSet] using h), (by have h := H.f8; simpa [doneSet] using h), (by have h := H.f9; simpa [doneSet] using h), (by have h := H.oa; simpa [doneSet] using h), (by have h := H.os; simpa [doneSet] using h), (by have h := H.f11; simpa [doneSet] using h), (by have h := H.f12; simpa [doneSet] using h), (fun _ => by simpa [doneSet] using h4), (by have h := H.ga; simpa [doneSet] using h)⟩⟩
    simp only [putAll, Act.put, List.setIfInBounds_toArray, List.set_cons_succ, List.set_cons_zero]
  · rintro d vs W ⟨v0, v1, v2, v3, v4, v5, v6, v7, v8, v9, v10, v11, v12, u0, u1, va', vq', vc', X, rfl, H⟩ hn hd
    simp only [putAll, Act.put, List.setIfInBounds_toArray, List.set_cons_succ, List.set_cons_zero]
    have h5 : d 5 = true := hd { on := 5, ground := .data } (by simp) rfl
    have h4 := H.gd (.inl h5)
    obtain rfl := H.f5 h5
    have HH1 : Hid _ := H
    clear H
    clear hd
    go_wp2
    have H := HH1.out
    refine ⟨rfl, [v0, v1, v2, v3, v4, .tuple #[.agg (D4 R.1.1 va' vq' R.1.2.1), vc', .int .i64 R.2.2], .agg (D4 R.1.1 va' vq' R.1.2.1), v7, v8, v9, v10, v11, v12], ?_, v0, v1, v2, v3, v4, .tuple #[.agg (D4 R.1.1 va' vq' R.1.2.1), vc', .int .i64 R.2.2], .agg (D4 R.1.1 va' vq' R.1.2.1), v7, v8, v9, v10, v11, v12, u0, u1, va', vq', vc', X, rfl, ⟨H.bel, (by have h := H.f0; simpa [doneSet] using h), (by have h := H.f1; simpa [doneSet] using h), (by have h := H.o1; simpa [doneSet] using h), (by have h := H.f2; simpa [doneSet] using h), (by have h := H.f3; simpa [doneSet] using h), (by have h := H.f4; simpa [doneSet] using h), (by have h := H.od; simpa [doneSet] using h), (fun _ => rfl), (fun _ => rfl), (by have h := H.f7; simpa [doneSet] using h), (by have h := H.f8; simpa [doneSet] using h), (by have h := H.f9; simpa [doneSet] using h), (by have h := H.oa; simpa [doneSet] using h), (by have h := H.os; simpa [doneSet] using h), (by have h := H.f11; simpa [doneSet] using h), (by have h := H.f12; simpa [doneSet] using h), (fun _ => by simpa [doneSet] using h4), (by have h := H.ga; simpa [doneSet] using h)⟩⟩
    simp only [putAll, Act.put, List.setIfInBounds_toArray, List.set_cons_succ, List.set_cons_zero]
  · rintro d vs W ⟨v0, v1, v2, v3, v4, v5, v6, v7, v8, v9, v10, v11, v12, u0, u1, va', vq', vc', X, rfl, H⟩ hn hd
    simp only [putAll, Act.put, List.setIfInBounds_toArray, List.set_cons_succ, List.set_cons_zero]
    have h5 : d 5 = true := hd { on := 5, ground := .data } (by simp) rfl
    have h4 := H.gd (.inl h5)
    obtain rfl := H.f5 h5
    have HH1 : Hid _ := H
    clear H
    clear hd
    go_wp2
    have H := HH1.out
    refine ⟨rfl, [v0, v1, v2, v3, v4, .tuple #[.agg (D4 R.1.1 va' vq' R.1.2.1), vc', .int .i64 R.2.2], v6, vc', v8, v9, v10, v11, v12], ?_, v0, v1, v2, v3, v4, .tuple #[.agg (D4 R.1.1 va' vq' R.1.2.1), vc', .int .i64 R.2.2], v6, vc', v8, v9, v10, v11, v12, u0, u1, va', vq', vc', X, rfl, ⟨H.bel, (by have h := H.f0; simpa [doneSet] using h), (by have h := H.f1; simpa [doneSet] using h), (by have h := H.o1; simpa [doneSet] using h), (by have h := H.f2; simpa [doneSet] using h), (by have h := H.f3; simpa [doneSet] using h), (by have h := H.f4; simpa [doneSet] using h), (by have h := H.od; simpa [doneSet] using h), (fun _ => rfl), (by have h := H.f6; simpa [doneSet] using h), (fun _ => rfl), (by have h := H.f8; simpa [doneSet] using h), (by have h := H.f9; simpa [doneSet] using h), (by have h := H.oa; simpa [doneSet] using h), (by have h := H.os; simpa [doneSet] using h), (by have h := H.f11; simpa [doneSet] using h), (by have h := H.f12; simpa [doneSet] using h), (fun _ => by simpa [doneSet] using h4), (by have h := H.ga; simpa [doneSet] using h)⟩⟩
    simp only [putAll, Act.put, List.setIfInBounds_toArray, List.set_cons_succ, List.set_cons_zero]
  · rintro d vs W ⟨v0, v1, v2, v3, v4, v5, v6, v7, v8, v9, v10, v11, v12, u0, u1, va', vq', vc', X, rfl, H⟩ hn hd
    simp only [putAll, Act.put, List.setIfInBounds_toArray, List.set_cons_succ, List.set_cons_zero]
    have h5 : d 5 = true := hd { on := 5, ground := .data } (by simp) rfl
    have h4 := H.gd (.inl h5)
    obtain rfl := H.f5 h5
    have HH1 : Hid _ := H
    clear H
    clear hd
    go_wp2
    have H := HH1.out
    refine ⟨rfl, [v0, v1, v2, v3, v4, .tuple #[.agg (D4 R.1.1 va' vq' R.1.2.1), vc', .int .i64 R.2.2], v6, v7, .int .i64 R.2.2, v9, v10, v11, v12], ?_, v0, v1, v2, v3, v4, .tuple #[.agg (D4 R.1.1 va' vq' R.1.2.1), vc', .int .i64 R.2.2], v6, v7, .int .i64 R.2.2, v9, v10, v11, v12, u0, u1, va', vq', vc', X, rfl, ⟨H.bel, (by have h := H.f0; simpa [doneSet] using h), (by have h := H.f1; simpa [doneSet] using h), (by have h := H.o1; simpa [doneSet] using h), (by have h := H.f2; simpa [doneSet] using h), (by have h := H.f3; simpa [doneSet] using h), (by have h := H.f4; simpa [doneSet] using h), (by have h := H.od; simpa [doneSet] using h), (fun _ => rfl), (by have h := H.f6; simpa [doneSet] using h), (by have h := H.f7; simpa [doneSet] using h), (fun _ => rfl), (by have h := H.f9; simpa [doneSet] using h), (by have h := H.oa; simpa [doneSet] using h), (by have h := H.os; simpa [doneSet] using h), (by have h := H.f11; simpa [doneSet] using h), (by have h := H.f12; simpa [doneSet] using h), (fun _ => by simpa [doneSet] using h4), (by have h := H.ga; simpa [doneSet] using h)⟩⟩
    simp only [putAll, Act.put, List.setIfInBounds_toArray, List.set_cons_succ, List.set_cons_zero]
  · rintro d vs W ⟨v0, v1, v2, v3, v4, v5, v6, v7, v8, v9, v10, v11, v12, u0, u1, va', vq', vc', X, rfl, H⟩ hn hd
    simp only [putAll, Act.put, List.setIfInBounds_toArray, List.set_cons_succ, List.set_cons_zero]
    have HH1 : Hid _ := H
    clear H
    have HHN : Hid (d 9 = false) := hn
    clear hd hn
    go_wp2
    have H0 := HH1.out
    have hn := HHN.out
    have H := HH1.out.below (Nat.le_refl _) ((Below.refl _ W).alloc (Nat.le_refl _) (.cells (D4 0 (.slice none 0 0) (.slice none 0 0) 0) 27))
    refine ⟨rfl, [v0, v1, v2, v3, v4, v5, v6, v7, v8, .pointer (some ⟨W.heap.size, 0, none⟩), v10, v11, v12], ?_, v0, v1, v2, v3, v4, v5, v6, v7, v8, .pointer (some ⟨W.heap.size, 0, none⟩), v10, v11, v12, u0, u1, va', vq', vc', W.heap.size, rfl, ⟨H.bel, (by have h := H.f0; simpa [doneSet] using h), (by have h := H.f1; simpa [doneSet] using h), (by have h := H.o1; simpa [doneSet] using h), (by have h := H.f2; simpa [doneSet] using h), (by have h := H.f3; simpa [doneSet] using h), (by have h := H.f4; simpa [doneSet] using h), (by have h := H.od; simpa [doneSet] using h), (by have h := H.f5; simpa [doneSet] using h), (by have h := H.f6; simpa [doneSet] using h), (by have h := H.f7; simpa [doneSet] using h), (by have h := H.f8; simpa [doneSet] using h), (fun _ => rfl), (fun _ => ⟨H0.bel.size, fun _ => Blk.new _ _ _⟩), (fun e => absurd (H.ga (by simpa [doneSet] using e)) (by rw [hn]; simp)), (by have h := H.f11; simpa [doneSet] using h), (by have h := H.f12; simpa [doneSet] using h), (by have h := H.gd; simpa [doneSet] using h), (fun _ => by simp [doneSet])⟩⟩
    simp only [putAll, Act.put, List.setIfInBounds_toArray, List.set_cons_succ, List.set_cons_zero]
  · rintro d vs W ⟨v0, v1, v2, v3, v4, v5, v6, v7, v8, v9, v10, v11, v12, u0, u1, va', vq', vc', X, rfl, H⟩ hn hd
    simp only [putAll, Act.put, List.setIfInBounds_toArray, List.set_cons_succ, List.set_cons_zero]
    have h9 : d 9 = true := hd { on := 9, ground := .data } (by simp) rfl
    have h6 : d 6 = true := hd { on := 6, ground := .data } (by simp) rfl
    have h4 : d 4 = true := hd { on := 4, ground := .chain } (by simp) rfl
    obtain rfl := H.f9 h9
    obtain rfl := H.f6 h6
    obtain ⟨hCX, hb⟩ := H.oa h9
    have hb := hb hn
    have e0 := hb.cell 0
    have e1 := hb.cell 1
    have e2 := hb.cell 2
    have e3 := hb.cell 3
    have u0' := hb.frozen 0
    have u1' := hb.frozen 1
    have u2' := hb.frozen 2
    have u3' := hb.frozen 3
    simp at e0 e1 e2 e3
    have HBX2 : Hid (w15.heap.size ≤ X ∧ Blk W X (D4 0 (.slice none 0 0) (.slice none 0 0) 0) 27) := ⟨hCX, hb⟩
    obtain ⟨ma1, mc1, hm1⟩ := (H.od h4).1.1.form
    obtain ⟨ma2, mc2, hm2⟩ := (H.od h4).1.2.1.form
    obtain ⟨ml1, hml1⟩ : ∃ m, R.1.2.2.1.length = m := ⟨_, rfl⟩
    obtain ⟨ml2, hml2⟩ : ∃ m, R.1.2.2.2.length = m := ⟨_, rfl⟩
    rw [hml1] at hm1
    rw [hml2] at hm2
    subst hm1 hm2
    have HH1 : Hid _ := H
    clear H
    clear hd hn hCX hb hml1 hml2
    go_wp2
    have H := HH1.out
    obtain ⟨hCX, hb⟩ := HBX2.out
    obtain ⟨va', hva'⟩ : ∃ v, v = Value.slice ma1 ml1 mc1 := ⟨_, rfl⟩
    obtain ⟨vq', hvq'⟩ : ∃ v, v = Value.slice ma2 ml2 mc2 := ⟨_, rfl⟩
    rw [← hva', ← hvq'] at H ⊢
    have gf : W.grownBy ((((W.setCell ⟨X, 0, none⟩ (.int .i64 R.1.1)).setCell ⟨X, 1, none⟩ va').setCell ⟨X, 2, none⟩ vq').setCell ⟨X, 3, none⟩ (.int .i64 R.1.2.1)) (some X) := grown_trans (grown_trans (grown_trans (grown_set' _ _ _ _) (grown_set' _ _ _ _)) (grown_set' _ _ _ _)) (grown_set' _ _ _ _)
    refine ⟨rfl, [v0, v1, v2, v3, v4, v5, .agg (D4 R.1.1 va' vq' R.1.2.1), v7, v8, .pointer (some ⟨X, 0, none⟩), undef, v11, v12], ?_, v0, v1, v2, v3, v4, v5, .agg (D4 R.1.1 va' vq' R.1.2.1), v7, v8, .pointer (some ⟨X, 0, none⟩), undef, v11, v12, u0, u1, va', vq', vc', X, rfl, ⟨(H.bel.trans (grown_below gf H.bel.size (fun _ e => by cases e; exact hCX))), (by have h := H.f0; simpa [doneSet] using h), (by have h := H.f1; simpa [doneSet] using h), (fun _ e => by simp [doneSet] at e; rw [h4] at e; cases e), (by have h := H.f2; simpa [doneSet] using h), (by have h := H.f3; simpa [doneSet] using h), (by have h := H.f4; simpa [doneSet] using h), (fun _ => ⟨⟨World.ownsRow.kept (H.od h4).1.1 gf (.inr (row_blk (H.od h4).1.1 hb (by decide))), World.ownsRow.kept (H.od h4).1.2.1 gf (.inr (row_blk (H.od h4).1.2.1 hb (by decide))), (H.od h4).1.2.2⟩, World.ownsRow.kept (H.od h4).2.1 gf (.inr (row_blk (H.od h4).2.1 hb (by decide))), (H.od h4).2.2⟩), (by have h := H.f5; simpa [doneSet] using h), (fun _ => rfl), (by have h := H.f7; simpa [doneSet] using h), (by have h := H.f8; simpa [doneSet] using h), (fun _ => rfl), (fun _ => ⟨hCX, fun e => by simp [doneSet] at e⟩), (fun _ => (((hb.set 0 _).set 1 _).set 2 _).set 3 _), (by have h := H.f11; simpa [doneSet] using h), (by have h := H.f12; simpa [doneSet] using h), (fun _ => by simpa [doneSet] using h4), (fun _ => by simpa [doneSet] using h9)⟩⟩
    simp only [putAll, Act.put, List.setIfInBounds_toArray, List.set_cons_succ, List.set_cons_zero]
  · rintro d vs W ⟨v0, v1, v2, v3, v4, v5, v6, v7, v8, v9, v10, v11, v12, u0, u1, va', vq', vc', X, rfl, H⟩ hn hd
    simp only [putAll, Act.put, List.setIfInBounds_toArray, List.set_cons_succ, List.set_cons_zero]
    have h7 : d 7 = true := hd { on := 7, ground := .data } (by simp) rfl
    have h4 := H.gd (.inr (.inr ((.inl h7))))
    obtain rfl := H.f7 h7
    have HH1 : Hid _ := H
    clear H
    clear hd
    go_wp2
    have H := HH1.out
    refine ⟨rfl, [v0, v1, v2, v3, v4, v5, v6, v7, v8, v9, v10, v7, v12], ?_, v0, v1, v2, v3, v4, v5, v6, v7, v8, v9, v10, v7, v12, u0, u1, va', vq', v7, X, rfl, ⟨H.bel, (by have h := H.f0; simpa [doneSet] using h), (by have h := H.f1; simpa [doneSet] using h), (by have h := H.o1; simpa [doneSet] using h), (by have h := H.f2; simpa [doneSet] using h), (by have h := H.f3; simpa [doneSet] using h), (by have h := H.f4; simpa [doneSet] using h), (by have h := H.od; simpa [doneSet] using h), (by have h := H.f5; simpa [doneSet] using h), (by have h := H.f6; simpa [doneSet] using h), (fun _ => rfl), (by have h := H.f8; simpa [doneSet] using h), (by have h := H.f9; simpa [doneSet] using h), (by have h := H.oa; simpa [doneSet] using h), (by have h := H.os; simpa [doneSet] using h), (fun _ => rfl), (by have h := H.f12; simpa [doneSet] using h), (fun _ => by simpa [doneSet] using h4), (by have h := H.ga; simpa [doneSet] using h)⟩⟩
    simp only [putAll, Act.put, List.setIfInBounds_toArray, List.set_cons_succ, List.set_cons_zero]
  · rintro d vs W ⟨v0, v1, v2, v3, v4, v5, v6, v7, v8, v9, v10, v11, v12, u0, u1, va', vq', vc', X, rfl, H⟩ hn hd
    simp only [putAll, Act.put, List.setIfInBounds_toArray, List.set_cons_succ, List.set_cons_zero]
    have h8 : d 8 = true := hd { on := 8, ground := .data } (by simp) rfl
    have h4 := H.gd (.inr (.inr (.inr ((.inl h8)))))
    obtain rfl := H.f8 h8
    have HH1 : Hid _ := H
    clear H
    clear hd
    go_wp2
    have H := HH1.out
    refine ⟨rfl, [v0, v1, v2, v3, v4, v5, v6, v7, .int .i64 R.2.2, v9, v10, v11, .int .i64 R.2.2], ?_, v0, v1, v2, v3, v4, v5, v6, v7, .int .i64 R.2.2, v9, v10, v11, .int .i64 R.2.2, u0, u1, va', vq', vc', X, rfl, ⟨H.bel, (by have h := H.f0; simpa [doneSet] using h), (by have h := H.f1; simpa [doneSet] using h), (by have h := H.o1; simpa [doneSet] using h), (by have h := H.f2; simpa [doneSet] using h), (by have h := H.f3; simpa [doneSet] using h), (by have h := H.f4; simpa [doneSet] using h), (by have h := H.od; simpa [doneSet] using h), (by have h := H.f5; simpa [doneSet] using h), (by have h := H.f6; simpa [doneSet] using h), (by have h := H.f7; simpa [doneSet] using h), (fun _ => rfl), (by have h := H.f9; simpa [doneSet] using h), (by have h := H.oa; simpa [doneSet] using h), (by have h := H.os; simpa [doneSet] using h), (by have h := H.f11; simpa [doneSet] using h), (fun _ => rfl), (fun _ => by simpa [doneSet] using h4), (by have h := H.ga; simpa [doneSet] using h)⟩⟩
    simp only [putAll, Act.put, List.setIfInBounds_toArray, List.set_cons_succ, List.set_cons_zero]
  rintro d vs w16 ⟨v0, v1, v2, v3, v4, v5, v6, v7, v8, v9, v10, v11, v12, u0, u1, va3, vq3, vc3', X3, rfl, H⟩ hn
  obtain rfl := H.f9 (hn 9 (by decide))
  have hv11 := H.f11 (hn 11 (by decide))
  subst hv11
  obtain rfl := H.f12 (hn 12 (by decide))
  obtain ⟨h1, h2, h3⟩ := H.od (hn 4 (by decide))
  have hA : Bd w15.heap.size w16 X3 R va3 vq3 v11 := ⟨h1, h2, h3, H.os (hn 10 (by decide)), (H.oa (hn 9 (by decide))).1⟩
  obtain ⟨vc3, hvc3⟩ : ∃ v, v11 = v := ⟨_, rfl⟩
  rw [hvc3] at hA ⊢
  have HDw16 : Hid (Bd w15.heap.size w16 X3 R va3 vq3 vc3) := hA
  have HEw16 : Hid (Ev w.heap.size S5 w w16 n g (.slice a0 gs.length p0) (.slice a1 qs.length p1) k t a s p w1.heap.size X1 R va1 vq1 vc1) := HEw15.out.below H.bel
  have HM16 : Hid (OwD C2 w16 va2 vq2 (mkA 1 N1) (mkQ (1 + 3 * N1) N2) ∧ Ow .i64 3 C2 w16 vc2 (marks .i64 M1 N3) ∧ Blk w16 X2 (D4 R.1.1 va2 vq2 R.1.2.1) 27) := ⟨HM15.out.1.below H.bel, HM15.out.2.1.below H.bel, HM15.out.2.2.below H.bel HM15.out.2.2.lt⟩
  simp only [putAll, Act.put, List.setIfInBounds_toArray, List.set_cons_succ, List.set_cons_zero]
  clear H hn h1 h2 h3 hA hvc3 HRD HBX HBP HEw15 HM15
  have y0 := HDw16.out.box.cell 0
  have y1 := HDw16.out.box.cell 1
  have y2 := HDw16.out.box.cell 2
  have y3 := HDw16.out.box.cell 3
  simp at y0 y1 y2 y3
  have x0 := HEw16.out.A.box.cell 0
  have x1 := HEw16.out.A.box.cell 1
  have x2 := HEw16.out.A.box.cell 2
  have x3 := HEw16.out.A.box.cell 3
  simp at x0 x1 x2 x3
  go_wp2_with (fail)
  refine (eqDesk_t _ _ _ _ _ _ R.1.2.2.1 R.1.2.2.2 w16 (HDw16.out.own.1.rd agC_len) (HDw16.out.own.2.1.rd wtC_len) (HEw16.out.A.own.1.rd agC_len) (HEw16.out.A.own.2.1.rd wtC_len)).mono ?_
  rintro e w17a ⟨rfl, bq⟩
  have HEw17a : Hid (Ev w.heap.size S5 w w17a n g (.slice a0 gs.length p0) (.slice a1 qs.length p1) k t a s p w1.heap.size X1 R va1 vq1 vc1) := HEw16.out.below bq
  have HDw17a : Hid (Bd w15.heap.size w17a X3 R va3 vq3 vc3) := HDw16.out.below bq
  have HMw17a : Hid (OwD C2 w17a va2 vq2 (mkA 1 N1) (mkQ (1 + 3 * N1) N2) ∧ Ow .i64 3 C2 w17a vc2 (marks .i64 M1 N3) ∧ Blk w17a X2 (D4 R.1.1 va2 vq2 R.1.2.1) 27) := ⟨HM16.out.1.below bq, HM16.out.2.1.below bq, HM16.out.2.2.below bq HM16.out.2.2.lt⟩
  clear bq x0 x1 x2 x3 y0 y1 y2 y3 HEw16 HDw16
  go_wp2_with (fail)
  refine (eqIS _ _ R.2.1 w17a (HDw17a.out.cl.rd) (HEw17a.out.A.cl.rd)).mono ?_
  rintro e w17 ⟨rfl, bq⟩
  have HEw17 : Hid (Ev w.heap.size S5 w w17 n g (.slice a0 gs.length p0) (.slice a1 qs.length p1) k t a s p w1.heap.size X1 R va1 vq1 vc1) := HEw17a.out.below bq
  have HDw17 : Hid (Bd w15.heap.size w17 X3 R va3 vq3 vc3) := HDw17a.out.below bq
  have HM17 : Hid (OwD C2 w17 va2 vq2 (mkA 1 N1) (mkQ (1 + 3 * N1) N2) ∧ Ow .i64 3 C2 w17 vc2 (marks .i64 M1 N3) ∧ Blk w17 X2 (D4 R.1.1 va2 vq2 R.1.2.1) 27) := ⟨HMw17a.out.1.below bq, HMw17a.out.2.1.below bq, HMw17a.out.2.2.below bq HMw17a.out.2.2.lt⟩
  clear bq HEw17a HDw17a
  have y0 := HM17.out.2.2.cell 0
  have y1 := HM17.out.2.2.cell 1
  have y2 := HM17.out.2.2.cell 2
  have y3 := HM17.out.2.2.cell 3
  simp at y0 y1 y2 y3
  go_wp2_with (fail)
  refine (HHD.out w17 (HM17.out.1.1.rd agC_len) (HM17.out.1.2.1.rd wtC_len)).mono ?_
  rintro e w18 ⟨rfl, bq⟩
  have HB18 : Hid (Below w.heap.size w w18) := (HEw17.out.below bq).bel
  have HI18 : Hid (Ow .i64 3 C2 w18 vc2 (marks .i64 M1 N3)) := HM17.out.2.1.below bq
  clear bq HM17 HEw17 HDw17 y0 y1 y2 y3
  go_wp2_with (fail)
  refine (HHI.out w18 HI18.out.rd).mono ?_
  rintro e w19 ⟨rfl, bq⟩
  have HB19 : Hid (Below w.heap.size w w19) := belowCall HB18.out bq HB18.out.size
  clear bq HI18 HB18
  go_wp2
  go_ret
  exact ⟨rfl, HB19.out⟩
end Go.Proofs.Ytpmmgbinogokfaa

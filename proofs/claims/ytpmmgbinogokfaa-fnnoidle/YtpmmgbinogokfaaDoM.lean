/- The model's DoDesk; no condition. -/
import Derived.Test.YtpmmgbinogokfaaMG
import Derived.Test.YtpmmgbinogokfaaDoI
import Derived.Test.YtpmmgbinogokfaaDoD
import Derived.Test.YtpmmgbinogokfaaInv
import Derived.Test.YtpmmgbinogokfaaLdo
import Derived.Deep.DeepCutAuto
namespace Go.Proofs.Ytpmmgbinogokfaa
open Go.RowKit Go.ChangeShapes Go.WideShapes Go.ChangeAt
set_option linter.unusedVariables false
set_option linter.unusedSimpArgs false
set_option maxRecDepth 8000
/-- what the model's DoDesk holds on the way -/
structure Dm (P : Nat) (w W : World) (n g : Int) (va vq : Value) (gs : List Ag) (qs : List Wt) (k t a s p : Int) : Prop where
  hP : w.heap.size = P
  d : Blk W P (D4 n va vq g) 27
  op : Blk W (P + 1) #[.int .i64 k, .int .i64 t, .int .i64 a, .int .i64 s, .int .i64 p] 38
  r : Blk W (P + 2) (D4 0 (.slice none 0 0) (.slice none 0 0) 0) 27
  ow : OwD P W va vq gs qs
  bel : Below P w W
theorem Dm.below {P : Nat} {w W W' : World} {n g : Int} {va vq : Value} {gs : List Ag} {qs : List Wt} {k t a s p : Int} (h : Dm P w W n g va vq gs qs k t a s p) (hb : Below W.heap.size W W') : Dm P w W' n g va vq gs qs k t a s p :=
  ⟨h.hP, h.d.below hb h.d.lt, h.op.below hb h.op.lt, h.r.below hb h.r.lt, ⟨h.ow.1.below hb, h.ow.2.1.below hb, h.ow.2.2⟩, h.bel.trans (hb.mono (by have := h.d.lt; omega))⟩
/-- is what l8Do says right -/
def LdC (gs : List Ag) (qs : List Wt) (k t a s p : Int) (gs' : List Ag) (qs' : List Wt) (code : Int) : Prop :=
  (opK gs qs k t a s p = false ∧ code = 1) ∨ (opK gs qs k t a s p = true ∧ beg t gs qs k a s p = none ∧ code = 3) ∨ (opK gs qs k t a s p = true ∧ beg t gs qs k a s p = some (gs', qs') ∧ code = 0)
/-- what holds while next, code := l8Do(l8Copy(d), op) is drawn -/
structure St (P C : Nat) (w : World) (n g : Int) (va vq : Value) (gs : List Ag) (qs : List Wt) (k t a s p : Int) (d : Nat → Bool) (W : World) (v0 v1 v2 v3 v4 v5 v6 v7 v9 va2 vq2 va' vq' : Value) (gs' : List Ag) (qs' : List Wt) (code : Int) (X : Nat) : Prop where
  dm : Dm P w W n g va vq gs qs k t a s p
  hC : C ≤ W.heap.size
  hPC : P + 2 < C
  hv : ∀ j, InD va vq j → j < C
  f0 : d 0 = true → v0 = .agg (D4 n va vq g)
  f1 : d 1 = true → v1 = .agg (D4 n va2 vq2 g)
  o1 : d 1 = true → d 3 = false → OwD C W va2 vq2 gs qs
  f2 : d 2 = true → v2 = .agg #[.int .i64 k, .int .i64 t, .int .i64 a, .int .i64 s, .int .i64 p]
  f3 : d 3 = true → v3 = .tuple #[.agg (D4 n va' vq' g), .int .i64 code]
  o3 : d 3 = true → Og 3 agC 36 C W va' gs' ∧ Og 4 wtC 74 C W vq' qs' ∧ LdC gs qs k t a s p gs' qs' code
  f4 : d 4 = true → v4 = .tuple #[.agg (D4 n va' vq' g), .int .i64 code]
  f5 : d 5 = true → v5 = .agg (D4 n va' vq' g)
  f6 : d 6 = true → v6 = .int .i64 code
  f7 : d 7 = true → v7 = .pointer (some ⟨X, 0, none⟩)
  o7 : d 7 = true → C ≤ X ∧ (d 8 = false → Blk W X (D4 0 (.slice none 0 0) (.slice none 0 0) 0) 27)
  o8 : d 8 = true → Blk W X (D4 n va' vq' g) 27
  f9 : d 9 = true → v9 = .int .i64 code
  g3 : d 4 = true ∨ d 5 = true ∨ d 6 = true ∨ d 8 = true ∨ d 9 = true → d 3 = true
  g7 : d 8 = true → d 7 = true
def StS (P C : Nat) (w : World) (n g : Int) (va vq : Value) (gs : List Ag) (qs : List Wt) (k t a s p : Int) (d : Nat → Bool) (vs : List Value) (W : World) : Prop :=
  ∃ v0 v1 v2 v3 v4 v5 v6 v7 v8 v9 va2 vq2 va' vq' gs' qs' code X, vs = [v0, v1, v2, v3, v4, v5, v6, v7, v8, v9] ∧ St P C w n g va vq gs qs k t a s p d W v0 v1 v2 v3 v4 v5 v6 v7 v9 va2 vq2 va' vq' gs' qs' code X
/-- as it was, but for a box -/
theorem Dm.box {P : Nat} {w W W' : World} {n g : Int} {va vq : Value} {gs : List Ag} {qs : List Wt} {k t a s p : Int} (h : Dm P w W n g va vq gs qs k t a s p) {X : Nat} {cs : Array Value} (hX : P + 2 < X) (hb : Blk W X cs 27) (hg : W.grownBy W' (some X)) : Dm P w W' n g va vq gs qs k t a s p := by
  have hf : Fr (fun j => j = X) W W' := Fr.ofGrown hg fun j e => by cases e; rfl
  exact ⟨h.hP, h.d.fr hf (by omega), h.op.fr hf (by omega), h.r.fr hf (by omega), ⟨World.ownsRow.kept h.ow.1 hg (.inr (row_blk h.ow.1 hb (by decide))), World.ownsRow.kept h.ow.2.1 hg (.inr (row_blk h.ow.2.1 hb (by decide))), h.ow.2.2⟩, h.bel.trans (hf.below (by have := h.d.lt; omega) (fun j e => by omega))⟩
theorem St.below {P C : Nat} {w : World} {n g : Int} {va vq : Value} {gs : List Ag} {qs : List Wt} {k t a s p : Int} {d : Nat → Bool} {W W' : World} {v0 v1 v2 v3 v4 v5 v6 v7 v9 va2 vq2 va' vq' : Value} {gs' : List Ag} {qs' : List Wt} {code : Int} {X : Nat}
    (h : St P C w n g va vq gs qs k t a s p d W v0 v1 v2 v3 v4 v5 v6 v7 v9 va2 vq2 va' vq' gs' qs' code X) (hb : Below W.heap.size W W') : St P C w n g va vq gs qs k t a s p d W' v0 v1 v2 v3 v4 v5 v6 v7 v9 va2 vq2 va' vq' gs' qs' code X :=
  { h with
    dm := h.dm.below hb
    hC := Nat.le_trans h.hC hb.size
    o1 := fun e1 e2 => ⟨Og.below (h.o1 e1 e2).1 hb, Og.below (h.o1 e1 e2).2.1 hb, (h.o1 e1 e2).2.2⟩
    o3 := fun e => ⟨Og.below (h.o3 e).1 hb, Og.below (h.o3 e).2.1 hb, (h.o3 e).2.2⟩
    o7 := fun e => ⟨(h.o7 e).1, fun e2 => ((h.o7 e).2 e2).below hb ((h.o7 e).2 e2).lt⟩
    o8 := fun e => (h.o8 e).below hb (h.o8 e).lt }
/-- as it was, but for the rows of another desk -/
theorem Dm.fr {P : Nat} {w W W' : World} {n g : Int} {va vq va2 vq2 : Value} {gs : List Ag} {qs : List Wt} {k t a s p : Int} (h : Dm P w W n g va vq gs qs k t a s p) {C : Nat} (hPC : P + 2 < C) (hC : C ≤ W.heap.size) (hv : ∀ j, InD va vq j → j < C) (ho : OwD C W va2 vq2 gs qs) (hf : Fr (InD va2 vq2) W W') : Dm P w W' n g va vq gs qs k t a s p := by
  have hx : ∀ j, j < C → ¬ InD va2 vq2 j := fun j hj e => by have := (OwD.lt ho j e).1; omega
  exact ⟨h.hP, h.d.fr hf (hx _ (by omega)), h.op.fr hf (hx _ (by omega)), h.r.fr hf (hx _ (by omega)), OwD.fr h.ow hf (fun j hj => hx j (hv j hj)), h.bel.trans (hf.below (by omega) (fun j e => by have := (OwD.lt ho j e).1; omega))⟩
theorem rowD_ne {C : Nat} {W : World} {va2 vq2 : Value} {gs : List Ag} {qs : List Wt} {X : Nat} {cs : Array Value} (ho : OwD C W va2 vq2 gs qs) (hb : Blk W X cs 27) : ¬ InD va2 vq2 X := fun e => by
  rcases e with e | e
  · exact row_blk ho.1 hb (by decide) e
  · exact row_blk ho.2.1 hb (by decide) e
theorem Dm.belC {P : Nat} {w W W' : World} {n g : Int} {va vq : Value} {gs : List Ag} {qs : List Wt} {k t a s p : Int} (h : Dm P w W n g va vq gs qs k t a s p) {C : Nat} (hPC : P + 2 < C) (hv : ∀ j, InD va vq j → j < C) (hb : Below C W W') : Dm P w W' n g va vq gs qs k t a s p := by
  have hf : Fr (fun j => C ≤ j) W W' := ⟨hb.os, hb.tape, hb.output, hb.size, fun j _ hx => hb.block j (by omega)⟩
  exact ⟨h.hP, h.d.fr hf (by omega), h.op.fr hf (by omega), h.r.fr hf (by omega), OwD.fr h.ow hf (fun j hj => by have := hv j hj; omega), h.bel.trans (hb.mono (by omega))⟩
theorem beg_bz {t : Int} {gs gs1 : List Ag} {qs qs1 : List Wt} {k a s p : Int} (h : beg t gs qs k a s p = some (gs1, qs1)) (hb : BzOk gs) : BzOk gs1 := by
  unfold beg at h
  split at h
  · simp only [Option.some.injEq, Prod.mk.injEq] at h
    obtain ⟨rfl, rfl⟩ := h
    exact hb
  · split at h
    · split at h
      · cases h
      · simp only [Option.some.injEq, Prod.mk.injEq] at h
        obtain ⟨rfl, rfl⟩ := h
        exact hb
    · split at h
      · split at h
        · cases h
        · rename_i x hx
          obtain ⟨hi, hxe⟩ := List.getElem?_eq_some_iff.1 hx
          have hxs := hb x (hxe ▸ List.getElem_mem hi)
          split at h
          · split at h
            · cases h
            · simp only [Option.some.injEq, Prod.mk.injEq] at h
              obtain ⟨rfl, rfl⟩ := h
              intro y hy
              rcases List.mem_or_eq_of_mem_set hy with h3 | h3
              · exact hb y h3
              · subst h3; simp
          · simp only [Option.some.injEq, Prod.mk.injEq] at h
            obtain ⟨rfl, rfl⟩ := h
            intro y hy
            rcases List.mem_or_eq_of_mem_set hy with h4 | h4
            · exact hb y h4
            · subst h4; exact hxs
      · cases h
/-- the end of an op that is refused -/
theorem Dm.ref {P : Nat} {w W : World} {n g : Int} {va vq : Value} {gs : List Ag} {qs : List Wt} {k t a s p : Int} (h : Dm P w W n g va vq gs qs k t a s p) (code : Int) {R : (Int × Int × List Ag × List Wt) × List Int × Int} (hR : R = ((n, g, gs, qs), [], code)) :
    Blk (((((W.setCell ⟨P + 2, 0, none⟩ (.int .i64 n)).setCell ⟨P + 2, 1, none⟩ va).setCell ⟨P + 2, 2, none⟩ vq).setCell ⟨P + 2, 3, none⟩ (.int .i64 g)).alloc (.cells #[] 3)) (P + 2) (D4 n va vq g) 27 ∧
    DdR w R (.returned (.tuple #[.agg (D4 n va vq g), .slice (some ⟨W.heap.size, 0, none⟩) 0 0, .int .i64 code])) (((((W.setCell ⟨P + 2, 0, none⟩ (.int .i64 n)).setCell ⟨P + 2, 1, none⟩ va).setCell ⟨P + 2, 2, none⟩ vq).setCell ⟨P + 2, 3, none⟩ (.int .i64 g)).alloc (.cells #[] 3)) := by
  subst hR
  have gf : W.grownBy ((((W.setCell ⟨P + 2, 0, none⟩ (.int .i64 n)).setCell ⟨P + 2, 1, none⟩ va).setCell ⟨P + 2, 2, none⟩ vq).setCell ⟨P + 2, 3, none⟩ (.int .i64 g)) (some (P + 2)) := grown_trans (grown_trans (grown_trans (grown_set' _ _ _ _) (grown_set' _ _ _ _)) (grown_set' _ _ _ _)) (grown_set' _ _ _ _)
  obtain ⟨W5, hW5⟩ : ∃ W5, (((W.setCell ⟨P + 2, 0, none⟩ (.int .i64 n)).setCell ⟨P + 2, 1, none⟩ va).setCell ⟨P + 2, 2, none⟩ vq).setCell ⟨P + 2, 3, none⟩ (.int .i64 g) = W5 := ⟨_, rfl⟩
  have hz : W5.heap.size = W.heap.size := by rw [← hW5]; simp
  have hk : Blk W5 (P + 2) (D4 n va vq g) 27 := hW5 ▸ (((h.r.set 0 _).set 1 _).set 2 _).set 3 _
  have hb : Below P w W5 := hW5 ▸ (((h.bel.setCell (by dsimp only; omega) _).setCell (by dsimp only; omega) _).setCell (by dsimp only; omega) _).setCell (by dsimp only; omega) _
  rw [hW5] at gf ⊢
  have ba : Below W5.heap.size W5 (W5.alloc (.cells #[] 3)) := (Below.refl _ _).alloc (Nat.le_refl _) _
  have ho1 := World.ownsRow.kept h.ow.1 gf (.inr (row_blk h.ow.1 h.r (by decide)))
  have ho2 := World.ownsRow.kept h.ow.2.1 gf (.inr (row_blk h.ow.2.1 h.r (by decide)))
  have he := Ow.empty .i64 3 P W5 (by have := hk.lt; omega)
  rw [hz] at he
  have hl := OwD.lt (⟨ho1, ho2, h.ow.2.2⟩ : OwD P W5 va vq gs qs)
  have hP := h.hP
  subst hP
  refine ⟨hk.alloc _, va, vq, _, rfl, ⟨Og.below ho1 ba, Og.below ho2 ba, h.ow.2.2⟩, he, fun j e hj => ?_, hb.trans (ba.mono (by have := hk.lt; omega))⟩
  have := (hl j hj).2
  simp [Value.ownBlock] at e
  omega
set_option maxHeartbeats 12800000 in
theorem doM_c (n g : Int) (va vq : Value) (gs : List Ag) (qs : List Wt) (k t a s p : Int) (w : World) (ha : Rg 3 agC w va gs) (hq : Rg 4 wtC w vq qs) (la : gs.length ≤ 1048576) (lq : qs.length ≤ 1048576) :
   Calls Try.prog 15 #[.agg (D4 n va vq g), .agg #[.int .i64 k, .int .i64 t, .int .i64 a, .int .i64 s, .int .i64 p]] w (DdR w (doF n g gs qs k t a s p)) := by
  obtain ⟨W0, hW0⟩ : ∃ W0, ((w.alloc (Obj.cells (D4 n va vq g) 27)).alloc (Obj.cells #[.int .i64 k, .int .i64 t, .int .i64 a, .int .i64 s, .int .i64 p] 38)).alloc (Obj.cells (D4 0 (.slice none 0 0) (.slice none 0 0) 0) 27) = W0 := ⟨_, rfl⟩
  have b0 : Below w.heap.size w W0 := hW0 ▸ (((Below.refl _ _).alloc (Nat.le_refl _) _).alloc (by simp) _).alloc (by simp; omega) _
  have hs0 : W0.heap.size = w.heap.size + 3 := by rw [← hW0]; simp
  have k0 : Blk W0 w.heap.size (D4 n va vq g) 27 := hW0 ▸ ((Blk.new _ _ _).alloc _).alloc _
  have k1 : Blk W0 (w.heap.size + 1) #[.int .i64 k, .int .i64 t, .int .i64 a, .int .i64 s, .int .i64 p] 38 := hW0 ▸ (Blk.newAt _ (w.heap.size + 1) _ 38 (by simp)).alloc _
  have k2 : Blk W0 (w.heap.size + 2) (D4 0 (.slice none 0 0) (.slice none 0 0) 0) 27 := hW0 ▸ Blk.newAt _ (w.heap.size + 2) _ 27 (by simp)
  have HH : Hid (Rg 3 agC W0 va gs ∧ Rg 4 wtC W0 vq qs) := ⟨ha.below b0, hq.below b0⟩
  obtain ⟨a0, p0, rfl, -⟩ := ha
  obtain ⟨a1, p1, rfl, -⟩ := hq
  obtain ⟨R, hR⟩ : ∃ R, doF n g gs qs k t a s p = R := ⟨_, rfl⟩
  have HR : Hid (doF n g gs qs k t a s p = R) := hR
  rw [hR]
  have HW0 : Hid (((w.alloc (Obj.cells (D4 n (.slice a0 gs.length p0) (.slice a1 qs.length p1) g) 27)).alloc (Obj.cells #[.int .i64 k, .int .i64 t, .int .i64 a, .int .i64 s, .int .i64 p] 38)).alloc (Obj.cells (D4 0 (.slice none 0 0) (.slice none 0 0) 0) 27) = W0) := hW0
  obtain ⟨P, hP⟩ : ∃ P, w.heap.size = P := ⟨_, rfl⟩
  rw [hP] at k0 k1 k2 hs0 b0
  have K : Hid (Blk W0 P (D4 n (.slice a0 gs.length p0) (.slice a1 qs.length p1) g) 27 ∧ Blk W0 (P + 1) #[.int .i64 k, .int .i64 t, .int .i64 a, .int .i64 s, .int .i64 p] 38 ∧ Blk W0 (P + 2) (D4 0 (.slice none 0 0) (.slice none 0 0) 0) 27 ∧ Below P w W0 ∧ W0.heap.size = P + 3) := ⟨k0, k1, k2, b0, hs0⟩
  have HP : Hid (w.heap.size = P) := hP
  clear hW0 b0 k0 k1 k2 hR hs0
  go_enter Try.func15, Try.ntmps15
  go_wp2_with (fail)
  rw [HW0.out]
  refine (copyM_c n g _ _ gs qs W0 HH.out.1 HH.out.2 la lq).mono ?_
  rintro e w1 ⟨va1, vq1, rfl, ho, hb1⟩
  have S1 : Hid (Dm P w ((((w1.setCell ⟨P, 0, none⟩ (.int .i64 n)).setCell ⟨P, 1, none⟩ va1).setCell ⟨P, 2, none⟩ vq1).setCell ⟨P, 3, none⟩ (.int .i64 g)) n g va1 vq1 gs qs k t a s p) := by
    obtain ⟨j0, j1, j2, j3, j4⟩ := K.out
    have gf : w1.grownBy ((((w1.setCell ⟨P, 0, none⟩ (.int .i64 n)).setCell ⟨P, 1, none⟩ va1).setCell ⟨P, 2, none⟩ vq1).setCell ⟨P, 3, none⟩ (.int .i64 g)) (some P) := grown_trans (grown_trans (grown_trans (grown_set' _ _ _ _) (grown_set' _ _ _ _)) (grown_set' _ _ _ _)) (grown_set' _ _ _ _)
    have i0 := j0.below hb1 (by omega)
    have i1 := j1.below hb1 (by omega)
    have i2 := j2.below hb1 (by omega)
    refine ⟨HP.out, (((i0.set 0 _).set 1 _).set 2 _).set 3 _, ?_, ?_, ⟨?_, ?_, ho.2.2⟩, ?_⟩
    · rw [Blk, gf.block _ i1.lt (by simp)]; exact i1
    · rw [Blk, gf.block _ i2.lt (by simp)]; exact i2
    · exact World.ownsRow.kept (ho.1.mono (by omega)) gf (.inr (row_blk ho.1 i0 (by decide)))
    · exact World.ownsRow.kept (ho.2.1.mono (by omega)) gf (.inr (row_blk ho.2.1 i0 (by decide)))
    · exact ((((j3.trans (hb1.mono (by omega))).setCell (Nat.le_refl _) _).setCell (Nat.le_refl _) _).setCell (Nat.le_refl _) _).setCell (Nat.le_refl _) _
  obtain ⟨x0, x1, x2, x3, f0, f1, f2, f3⟩ : (w1.cell? ⟨P, 0, none⟩ = some (.int .i64 n) ∧ w1.cell? ⟨P, 1, none⟩ = some (.slice a0 gs.length p0) ∧ w1.cell? ⟨P, 2, none⟩ = some (.slice a1 qs.length p1) ∧ w1.cell? ⟨P, 3, none⟩ = some (.int .i64 g) ∧ w1.frozen? ⟨P, 0, none⟩ = false ∧ w1.frozen? ⟨P, 1, none⟩ = false ∧ w1.frozen? ⟨P, 2, none⟩ = false ∧ w1.frozen? ⟨P, 3, none⟩ = false) := by
    have h1 := K.out.1.below hb1 (by have := K.out.2.2.2.2; omega)
    exact ⟨h1.cell 0, h1.cell 1, h1.cell 2, h1.cell 3, h1.frozen 0, h1.frozen 1, h1.frozen 2, h1.frozen 3⟩
  clear ho hb1
  obtain ⟨n1, p2, rfl⟩ : ∃ n1 p2, va1 = .slice n1 gs.length p2 := by obtain ⟨x, y, h⟩ := S1.out.ow.1.form; exact ⟨x, y, h⟩
  obtain ⟨n2, p3, rfl⟩ : ∃ n2 p3, vq1 = .slice n2 qs.length p3 := by obtain ⟨x, y, h⟩ := S1.out.ow.2.1.form; exact ⟨x, y, h⟩
  go_upto_region 2 with (fail)
  obtain ⟨W1, hW1⟩ : ∃ W1, (((w1.setCell ⟨P, 0, none⟩ (.int .i64 n)).setCell ⟨P, 1, none⟩ (.slice n1 gs.length p2)).setCell ⟨P, 2, none⟩ (.slice n2 qs.length p3)).setCell ⟨P, 3, none⟩ (.int .i64 g) = W1 := ⟨_, rfl⟩
  rw [hW1]
  have S2 : Hid (Dm P w W1 n g (.slice n1 gs.length p2) (.slice n2 qs.length p3) gs qs k t a s p) := hW1 ▸ S1.out
  clear hW1 S1 x0 x1 x2 x3 f0 f1 f2 f3
  have x0 := S2.out.d.cell 0
  have x1 := S2.out.d.cell 1
  have x2 := S2.out.d.cell 2
  have x3 := S2.out.d.cell 3
  simp at x0 x1 x2 x3
  go_wp2_with (fail)
  refine (deskM n g _ _ gs qs W1 (Og.rd agC_len S2.out.ow.1) (Og.rd wtC_len S2.out.ow.2.1)).mono ?_
  rintro e w2 ⟨r, rfl, hr, b2⟩
  have HDK : Hid (r = true ↔ DkOk n g gs qs) := hr
  have S3 : Hid (Dm P w w2 n g (.slice n1 gs.length p2) (.slice n2 qs.length p3) gs qs k t a s p) := S2.out.below b2
  clear hr b2 x0 x1 x2 x3 S2
  have x0 := S3.out.d.cell 0
  have x1 := S3.out.d.cell 1
  have x2 := S3.out.d.cell 2
  have x3 := S3.out.d.cell 3
  have y0 := S3.out.op.cell 0
  have y1 := S3.out.op.cell 1
  have y2 := S3.out.op.cell 2
  have y3 := S3.out.op.cell 3
  have y4 := S3.out.op.cell 4
  have e0 := S3.out.r.cell 0
  have e1 := S3.out.r.cell 1
  have e2 := S3.out.r.cell 2
  have e3 := S3.out.r.cell 3
  have f0 := S3.out.r.frozen 0
  have f1 := S3.out.r.frozen 1
  have f2 := S3.out.r.frozen 2
  have f3 := S3.out.r.frozen 3
  have hPw : P + 2 < w2.heap.size := S3.out.r.lt
  simp at x0 x1 x2 x3 y0 y1 y2 y3 y4 e0 e1 e2 e3
  cases r with
  | false =>
    clear y0 y1 y2 y3 y4
    obtain ⟨h1, h2⟩ := S3.out.ref 1 (R := R) (by rw [← HR.out, doF, if_neg (fun h => absurd (HDK.out.2 h.1) (by simp))])
    have H1 : Hid _ := h1
    have H2 : Hid _ := h2
    clear h1 h2
    go_wp2_with (fail)
    exact bodyPost_ret (v := .tuple #[.agg (D4 n (.slice n1 gs.length p2) (.slice n2 qs.length p3) g), .slice (some ⟨w2.heap.size, 0, none⟩) 0 0, .int .i64 1]) (results_D3 rfl _ _ _ _ _ _ _ _ _ rfl rfl rfl H1.out) rfl H2.out
  | true =>
  have HD : Hid (DkOk n g gs qs) := HDK.out.1 rfl
  clear HDK
  obtain ⟨q, hqq⟩ : ∃ q, decide (n ≤ t ∧ t ≤ 1000000000) = q := ⟨_, rfl⟩
  have HQ : Hid (decide (n ≤ t ∧ t ≤ 1000000000) = q) := hqq
  clear hqq
  go_wp2_with (fail)
  refine (in_c _ _ _ _).mono ?_
  rintro e w9 ⟨rfl, hw9⟩
  rw [hw9, HQ.out]
  clear hw9 w9
  cases q with
  | false =>
    obtain ⟨h1, h2⟩ := S3.out.ref 1 (R := R) (by rw [← HR.out, doF, if_neg (fun h => absurd h.2 (by rw [opB_eq]; have := HQ.out; simp at this; simp [tkB]; omega))])
    have H1 : Hid _ := h1
    have H2 : Hid _ := h2
    clear h1 h2
    go_wp2_with (fail)
    exact bodyPost_ret (v := .tuple #[.agg (D4 n (.slice n1 gs.length p2) (.slice n2 qs.length p3) g), .slice (some ⟨w2.heap.size, 0, none⟩) 0 0, .int .i64 1]) (results_D3 rfl _ _ _ _ _ _ _ _ _ rfl rfl rfl H1.out) rfl H2.out
  | true =>
  have HNT : Hid (n ≤ t ∧ t ≤ 1000000000) := by have := HQ.out; show n ≤ t ∧ t ≤ 1000000000; simpa using this
  clear HQ f0 f1 f2 f3 e0 e1 e2 e3
  have HTK : Hid (tkB t = true) := by show tkB t = true; have := HNT.out; have hn0 := HD.out.2.2.1; simp [tkB] at hn0 ⊢; omega
  have HV : Hid (∀ j, InD (.slice n1 gs.length p2) (.slice n2 qs.length p3) j → j < w2.heap.size) := fun j hj => (OwD.lt S3.out.ow j hj).2
  have HNOT : Hid (∀ (d : Nat → Bool) i j, i ≠ j → doneSet d i j = d j) := fun d i j h => by simp [doneSet, Ne.symm h]
  clear x0 x1 x2 x3 y0 y1 y2 y3 y4
  go_upto_region 4 with (fail)
  refine region_vals [undef, undef, undef, undef, undef, undef, undef, undef, undef, undef]
    (StS P w2.heap.size w n g (.slice n1 gs.length p2) (.slice n2 qs.length p3) gs qs k t a s p)
    (by kernel_rfl) (by kernel_rfl) ?_ ⟨?_, ?_, ?_, ?_, ?_, ?_, ?_, ?_, ?_, ?_, trivial⟩ ?_
  · refine ⟨_, _, _, _, _, _, _, _, _, _, undef, undef, undef, undef, [], [], 0, 0, rfl, ⟨S3.out.below (Below.refl _ _).drew, Nat.le_refl _, hPw, HV.out, ?_, ?_, ?_, ?_, ?_, ?_, ?_, ?_, ?_, ?_, ?_, ?_, ?_, ?_, ?_⟩⟩ <;> simp
  · rintro d vs W ⟨v0, v1, v2, v3, v4, v5, v6, v7, v8, v9, va2, vq2, va', vq', gs', qs', code, X, rfl, H⟩ hn hd
    simp only [putAll, Act.put, List.setIfInBounds_toArray, List.set_cons_succ, List.set_cons_zero]
    have x0 := H.dm.d.cell 0
    have x1 := H.dm.d.cell 1
    have x2 := H.dm.d.cell 2
    have x3 := H.dm.d.cell 3
    simp at x0 x1 x2 x3
    have HH1 : Hid _ := H
    clear H
    clear hd
    go_wp2
    have H := HH1.out
    refine ⟨rfl, [.agg (D4 n (.slice n1 gs.length p2) (.slice n2 qs.length p3) g), v1, v2, v3, v4, v5, v6, v7, v8, v9], ?_, .agg (D4 n (.slice n1 gs.length p2) (.slice n2 qs.length p3) g), v1, v2, v3, v4, v5, v6, v7, v8, v9, va2, vq2, va', vq', gs', qs', code, X, rfl, ⟨H.dm, H.hC, H.hPC, H.hv, (fun _ => rfl), (by have h := H.f1; simpa [doneSet] using h), (by have h := H.o1; simpa [doneSet] using h), (by have h := H.f2; simpa [doneSet] using h), (by have h := H.f3; simpa [doneSet] using h), (by have h := H.o3; simpa [doneSet] using h), (by have h := H.f4; simpa [doneSet] using h), (by have h := H.f5; simpa [doneSet] using h), (by have h := H.f6; simpa [doneSet] using h), (by have h := H.f7; simpa [doneSet] using h), (by have h := H.o7; simpa [doneSet] using h), (by have h := H.o8; simpa [doneSet] using h), (by have h := H.f9; simpa [doneSet] using h), (by have h := H.g3; simpa [doneSet] using h), (by have h := H.g7; simpa [doneSet] using h)⟩⟩
    simp only [putAll, Act.put, List.setIfInBounds_toArray, List.set_cons_succ, List.set_cons_zero]
  · rintro d vs W ⟨v0, v1, v2, v3, v4, v5, v6, v7, v8, v9, va2, vq2, va', vq', gs', qs', code, X, rfl, H⟩ hn hd
    simp only [putAll, Act.put, List.setIfInBounds_toArray, List.set_cons_succ, List.set_cons_zero]
    have h0 : d 0 = true := hd { on := 0, ground := .data } (by simp) rfl
    obtain rfl := H.f0 h0
    have HH1 : Hid _ := H
    clear H
    clear hd
    go_wp2_with (fail)
    refine (copyM_c n g _ _ gs qs W (Og.rd agC_len HH1.out.dm.ow.1) (Og.rd wtC_len HH1.out.dm.ow.2.1) la lq).mono ?_
    rintro e W3 ⟨va3, vq3, rfl, ho, hb⟩
    have H0 := HH1.out
    have H := HH1.out.below hb
    have HO : Hid (OwD w2.heap.size W3 va3 vq3 gs qs) := ⟨ho.1.mono H0.hC, ho.2.1.mono H0.hC, ho.2.2⟩
    have HH2 : Hid _ := H
    clear HH1 H0 H ho hb
    go_wp2
    have H := HH2.out
    refine ⟨rfl, [.agg (D4 n (.slice n1 gs.length p2) (.slice n2 qs.length p3) g), .agg (D4 n va3 vq3 g), v2, v3, v4, v5, v6, v7, v8, v9], ?_, .agg (D4 n (.slice n1 gs.length p2) (.slice n2 qs.length p3) g), .agg (D4 n va3 vq3 g), v2, v3, v4, v5, v6, v7, v8, v9, va3, vq3, va', vq', gs', qs', code, X, rfl, ⟨H.dm, H.hC, H.hPC, H.hv, (fun _ => rfl), (fun _ => rfl), (fun _ _ => HO.out), (by have h := H.f2; simpa [doneSet] using h), (by have h := H.f3; simpa [doneSet] using h), (by have h := H.o3; simpa [doneSet] using h), (by have h := H.f4; simpa [doneSet] using h), (by have h := H.f5; simpa [doneSet] using h), (by have h := H.f6; simpa [doneSet] using h), (by have h := H.f7; simpa [doneSet] using h), (by have h := H.o7; simpa [doneSet] using h), (by have h := H.o8; simpa [doneSet] using h), (by have h := H.f9; simpa [doneSet] using h), (by have h := H.g3; simpa [doneSet] using h), (by have h := H.g7; simpa [doneSet] using h)⟩⟩
    simp only [putAll, Act.put, List.setIfInBounds_toArray, List.set_cons_succ, List.set_cons_zero]
  · rintro d vs W ⟨v0, v1, v2, v3, v4, v5, v6, v7, v8, v9, va2, vq2, va', vq', gs', qs', code, X, rfl, H⟩ hn hd
    simp only [putAll, Act.put, List.setIfInBounds_toArray, List.set_cons_succ, List.set_cons_zero]
    have x0 := H.dm.op.cell 0
    have x1 := H.dm.op.cell 1
    have x2 := H.dm.op.cell 2
    have x3 := H.dm.op.cell 3
    have x4 := H.dm.op.cell 4
    simp at x0 x1 x2 x3 x4
    have HH1 : Hid _ := H
    clear H
    clear hd
    go_wp2
    have H := HH1.out
    refine ⟨rfl, [v0, v1, .agg #[.int .i64 k, .int .i64 t, .int .i64 a, .int .i64 s, .int .i64 p], v3, v4, v5, v6, v7, v8, v9], ?_, v0, v1, .agg #[.int .i64 k, .int .i64 t, .int .i64 a, .int .i64 s, .int .i64 p], v3, v4, v5, v6, v7, v8, v9, va2, vq2, va', vq', gs', qs', code, X, rfl, ⟨H.dm, H.hC, H.hPC, H.hv, (by have h := H.f0; simpa [doneSet] using h), (by have h := H.f1; simpa [doneSet] using h), (by have h := H.o1; simpa [doneSet] using h), (fun _ => rfl), (by have h := H.f3; simpa [doneSet] using h), (by have h := H.o3; simpa [doneSet] using h), (by have h := H.f4; simpa [doneSet] using h), (by have h := H.f5; simpa [doneSet] using h), (by have h := H.f6; simpa [doneSet] using h), (by have h := H.f7; simpa [doneSet] using h), (by have h := H.o7; simpa [doneSet] using h), (by have h := H.o8; simpa [doneSet] using h), (by have h := H.f9; simpa [doneSet] using h), (by have h := H.g3; simpa [doneSet] using h), (by have h := H.g7; simpa [doneSet] using h)⟩⟩
    simp only [putAll, Act.put, List.setIfInBounds_toArray, List.set_cons_succ, List.set_cons_zero]
  · rintro d vs W ⟨v0, v1, v2, v3, v4, v5, v6, v7, v8, v9, va2, vq2, va', vq', gs', qs', code, X, rfl, H⟩ hn hd
    simp only [putAll, Act.put, List.setIfInBounds_toArray, List.set_cons_succ, List.set_cons_zero]
    have h1 : d 1 = true := hd { on := 1, ground := .data } (by simp) rfl
    have h2 : d 2 = true := hd { on := 2, ground := .data } (by simp) rfl
    obtain rfl := H.f1 h1
    obtain rfl := H.f2 h2
    have HO : Hid (OwD w2.heap.size W va2 vq2 gs qs) := H.o1 h1 hn
    have HH1 : Hid _ := H
    clear H
    have HHN : Hid (d 3 = false) := hn
    clear hd hn
    go_wp2_with (fail)
    refine (ldM_c w2.heap.size n g va2 vq2 gs qs k t a s p W HO.out.1 HO.out.2.1 HH1.out.hC HD.out HTK.out (InD va2 vq2) (fun _ e => .inl e) (fun _ e => .inr e)).mono ?_
    rintro e W3 ⟨va3, vq3, gs3, qs3, code3, rfl, oa, oq, hf, hc⟩
    have HF : Hid (Fr (InD va2 vq2) W W3) := hf
    have HQ3 : Hid (Og 3 agC 36 w2.heap.size W3 va3 gs3 ∧ Og 4 wtC 74 w2.heap.size W3 vq3 qs3 ∧ LdC gs qs k t a s p gs3 qs3 code3) := ⟨oa, oq, hc⟩
    clear hf oa oq hc
    go_wp2
    have H := HH1.out
    have hn := HHN.out
    refine ⟨rfl, [v0, .agg (D4 n va2 vq2 g), .agg #[.int .i64 k, .int .i64 t, .int .i64 a, .int .i64 s, .int .i64 p], .tuple #[.agg (D4 n va3 vq3 g), .int .i64 code3], v4, v5, v6, v7, v8, v9], ?_, v0, .agg (D4 n va2 vq2 g), .agg #[.int .i64 k, .int .i64 t, .int .i64 a, .int .i64 s, .int .i64 p], .tuple #[.agg (D4 n va3 vq3 g), .int .i64 code3], v4, v5, v6, v7, v8, v9, va2, vq2, va3, vq3, gs3, qs3, code3, X, rfl, ⟨(H.dm.fr H.hPC H.hC H.hv HO.out HF.out), (Nat.le_trans H.hC HF.out.size), H.hPC, H.hv, (by have h := H.f0; simpa [doneSet] using h), (fun _ => rfl), (fun _ e => by simp [doneSet] at e), (fun _ => rfl), (fun _ => rfl), (fun _ => HQ3.out), (fun e => absurd (H.g3 (.inl (by simpa [doneSet] using e))) (by rw [hn]; simp)), (fun e => absurd (H.g3 (.inr (.inl (by simpa [doneSet] using e)))) (by rw [hn]; simp)), (fun e => absurd (H.g3 (.inr (.inr (.inl (by simpa [doneSet] using e))))) (by rw [hn]; simp)), (by have h := H.f7; simpa [doneSet] using h), (fun e => ⟨(H.o7 (by simpa [doneSet] using e)).1, fun e2 => ((H.o7 (by simpa [doneSet] using e)).2 (by simpa [doneSet] using e2)).fr HF.out (rowD_ne HO.out ((H.o7 (by simpa [doneSet] using e)).2 (by simpa [doneSet] using e2)))⟩), (fun e => absurd (H.g3 (.inr (.inr (.inr (.inl (by simpa [doneSet] using e)))))) (by rw [hn]; simp)), (fun e => absurd (H.g3 (.inr (.inr (.inr (.inr (by simpa [doneSet] using e)))))) (by rw [hn]; simp)), (fun _ => by simp [doneSet]), (by have h := H.g7; simpa [doneSet] using h)⟩⟩
    simp only [putAll, Act.put, List.setIfInBounds_toArray, List.set_cons_succ, List.set_cons_zero]
  · rintro d vs W ⟨v0, v1, v2, v3, v4, v5, v6, v7, v8, v9, va2, vq2, va', vq', gs', qs', code, X, rfl, H⟩ hn hd
    simp only [putAll, Act.put, List.setIfInBounds_toArray, List.set_cons_succ, List.set_cons_zero]
    have h3 : d 3 = true := hd { on := 3, ground := .data } (by simp) rfl
    obtain rfl := H.f3 h3
    have HH1 : Hid _ := H
    clear H
    clear hd
    go_wp2
    have H := HH1.out
    refine ⟨rfl, [v0, v1, v2, .tuple #[.agg (D4 n va' vq' g), .int .i64 code], .tuple #[.agg (D4 n va' vq' g), .int .i64 code], v5, v6, v7, v8, v9], ?_, v0, v1, v2, .tuple #[.agg (D4 n va' vq' g), .int .i64 code], .tuple #[.agg (D4 n va' vq' g), .int .i64 code], v5, v6, v7, v8, v9, va2, vq2, va', vq', gs', qs', code, X, rfl, ⟨H.dm, H.hC, H.hPC, H.hv, (by have h := H.f0; simpa [doneSet] using h), (by have h := H.f1; simpa [doneSet] using h), (by have h := H.o1; simpa [doneSet] using h), (by have h := H.f2; simpa [doneSet] using h), (fun _ => rfl), (by have h := H.o3; simpa [doneSet] using h), (fun _ => rfl), (by have h := H.f5; simpa [doneSet] using h), (by have h := H.f6; simpa [doneSet] using h), (by have h := H.f7; simpa [doneSet] using h), (by have h := H.o7; simpa [doneSet] using h), (by have h := H.o8; simpa [doneSet] using h), (by have h := H.f9; simpa [doneSet] using h), (fun _ => by simpa [doneSet] using h3), (by have h := H.g7; simpa [doneSet] using h)⟩⟩
    simp only [putAll, Act.put, List.setIfInBounds_toArray, List.set_cons_succ, List.set_cons_zero]
  · rintro d vs W ⟨v0, v1, v2, v3, v4, v5, v6, v7, v8, v9, va2, vq2, va', vq', gs', qs', code, X, rfl, H⟩ hn hd
    simp only [putAll, Act.put, List.setIfInBounds_toArray, List.set_cons_succ, List.set_cons_zero]
    have h4 : d 4 = true := hd { on := 4, ground := .data } (by simp) rfl
    have h3 := H.g3 (.inl h4)
    obtain rfl := H.f4 h4
    have HH1 : Hid _ := H
    clear H
    clear hd
    go_wp2
    have H := HH1.out
    refine ⟨rfl, [v0, v1, v2, v3, .tuple #[.agg (D4 n va' vq' g), .int .i64 code], .agg (D4 n va' vq' g), v6, v7, v8, v9], ?_, v0, v1, v2, v3, .tuple #[.agg (D4 n va' vq' g), .int .i64 code], .agg (D4 n va' vq' g), v6, v7, v8, v9, va2, vq2, va', vq', gs', qs', code, X, rfl, ⟨H.dm, H.hC, H.hPC, H.hv, (by have h := H.f0; simpa [doneSet] using h), (by have h := H.f1; simpa [doneSet] using h), (by have h := H.o1; simpa [doneSet] using h), (by have h := H.f2; simpa [doneSet] using h), (by have h := H.f3; simpa [doneSet] using h), (by have h := H.o3; simpa [doneSet] using h), (fun _ => rfl), (fun _ => rfl), (by have h := H.f6; simpa [doneSet] using h), (by have h := H.f7; simpa [doneSet] using h), (by have h := H.o7; simpa [doneSet] using h), (by have h := H.o8; simpa [doneSet] using h), (by have h := H.f9; simpa [doneSet] using h), (fun _ => by simpa [doneSet] using h3), (by have h := H.g7; simpa [doneSet] using h)⟩⟩
    simp only [putAll, Act.put, List.setIfInBounds_toArray, List.set_cons_succ, List.set_cons_zero]
  · rintro d vs W ⟨v0, v1, v2, v3, v4, v5, v6, v7, v8, v9, va2, vq2, va', vq', gs', qs', code, X, rfl, H⟩ hn hd
    simp only [putAll, Act.put, List.setIfInBounds_toArray, List.set_cons_succ, List.set_cons_zero]
    have h4 : d 4 = true := hd { on := 4, ground := .data } (by simp) rfl
    have h3 := H.g3 (.inl h4)
    obtain rfl := H.f4 h4
    have HH1 : Hid _ := H
    clear H
    clear hd
    go_wp2
    have H := HH1.out
    refine ⟨rfl, [v0, v1, v2, v3, .tuple #[.agg (D4 n va' vq' g), .int .i64 code], v5, .int .i64 code, v7, v8, v9], ?_, v0, v1, v2, v3, .tuple #[.agg (D4 n va' vq' g), .int .i64 code], v5, .int .i64 code, v7, v8, v9, va2, vq2, va', vq', gs', qs', code, X, rfl, ⟨H.dm, H.hC, H.hPC, H.hv, (by have h := H.f0; simpa [doneSet] using h), (by have h := H.f1; simpa [doneSet] using h), (by have h := H.o1; simpa [doneSet] using h), (by have h := H.f2; simpa [doneSet] using h), (by have h := H.f3; simpa [doneSet] using h), (by have h := H.o3; simpa [doneSet] using h), (fun _ => rfl), (by have h := H.f5; simpa [doneSet] using h), (fun _ => rfl), (by have h := H.f7; simpa [doneSet] using h), (by have h := H.o7; simpa [doneSet] using h), (by have h := H.o8; simpa [doneSet] using h), (by have h := H.f9; simpa [doneSet] using h), (fun _ => by simpa [doneSet] using h3), (by have h := H.g7; simpa [doneSet] using h)⟩⟩
    simp only [putAll, Act.put, List.setIfInBounds_toArray, List.set_cons_succ, List.set_cons_zero]
  · rintro d vs W ⟨v0, v1, v2, v3, v4, v5, v6, v7, v8, v9, va2, vq2, va', vq', gs', qs', code, X, rfl, H⟩ hn hd
    simp only [putAll, Act.put, List.setIfInBounds_toArray, List.set_cons_succ, List.set_cons_zero]
    have HH1 : Hid _ := H
    clear H
    have HHN : Hid (d 7 = false) := hn
    clear hd hn
    go_wp2
    have H0 := HH1.out
    have hn := HHN.out
    have H := HH1.out.below ((Below.refl _ W).alloc (Nat.le_refl _) (.cells (D4 0 (.slice none 0 0) (.slice none 0 0) 0) 27))
    refine ⟨rfl, [v0, v1, v2, v3, v4, v5, v6, .pointer (some ⟨W.heap.size, 0, none⟩), v8, v9], ?_, v0, v1, v2, v3, v4, v5, v6, .pointer (some ⟨W.heap.size, 0, none⟩), v8, v9, va2, vq2, va', vq', gs', qs', code, W.heap.size, rfl, ⟨H.dm, H.hC, H.hPC, H.hv, (by have h := H.f0; simpa [doneSet] using h), (by have h := H.f1; simpa [doneSet] using h), (by have h := H.o1; simpa [doneSet] using h), (by have h := H.f2; simpa [doneSet] using h), (by have h := H.f3; simpa [doneSet] using h), (by have h := H.o3; simpa [doneSet] using h), (by have h := H.f4; simpa [doneSet] using h), (by have h := H.f5; simpa [doneSet] using h), (by have h := H.f6; simpa [doneSet] using h), (fun _ => rfl), (fun _ => ⟨H0.hC, fun _ => Blk.new _ _ _⟩), (fun e => absurd (H.g7 (by simpa [doneSet] using e)) (by rw [hn]; simp)), (by have h := H.f9; simpa [doneSet] using h), (by have h := H.g3; simpa [doneSet] using h), (fun _ => by simp [doneSet])⟩⟩
    simp only [putAll, Act.put, List.setIfInBounds_toArray, List.set_cons_succ, List.set_cons_zero]
  · rintro d vs W ⟨v0, v1, v2, v3, v4, v5, v6, v7, v8, v9, va2, vq2, va', vq', gs', qs', code, X, rfl, H⟩ hn hd
    simp only [putAll, Act.put, List.setIfInBounds_toArray, List.set_cons_succ, List.set_cons_zero]
    have h7 : d 7 = true := hd { on := 7, ground := .data } (by simp) rfl
    have h5 : d 5 = true := hd { on := 5, ground := .data } (by simp) rfl
    have h3 : d 3 = true := hd { on := 3, ground := .chain } (by simp) rfl
    obtain rfl := H.f7 h7
    obtain rfl := H.f5 h5
    obtain ⟨hCX, hb⟩ := H.o7 h7
    have hb := hb hn
    have e0 := hb.cell 0
    have e1 := hb.cell 1
    have e2 := hb.cell 2
    have e3 := hb.cell 3
    have u0 := hb.frozen 0
    have u1 := hb.frozen 1
    have u2 := hb.frozen 2
    have u3 := hb.frozen 3
    simp at e0 e1 e2 e3
    have HBX : Hid (w2.heap.size ≤ X ∧ Blk W X (D4 0 (.slice none 0 0) (.slice none 0 0) 0) 27) := ⟨hCX, hb⟩
    obtain ⟨ma1, mc1, hm1⟩ := (H.o3 h3).1.form
    obtain ⟨ma2, mc2, hm2⟩ := (H.o3 h3).2.1.form
    obtain ⟨ml1, hml1⟩ : ∃ m, gs'.length = m := ⟨_, rfl⟩
    obtain ⟨ml2, hml2⟩ : ∃ m, qs'.length = m := ⟨_, rfl⟩
    rw [hml1] at hm1
    rw [hml2] at hm2
    subst hm1 hm2
    have HH1 : Hid _ := H
    clear H
    clear hd hn hCX hb hml1 hml2
    go_wp2
    have H := HH1.out
    obtain ⟨hCX, hb⟩ := HBX.out
    obtain ⟨va', hva'⟩ : ∃ v, v = Value.slice ma1 ml1 mc1 := ⟨_, rfl⟩
    obtain ⟨vq', hvq'⟩ : ∃ v, v = Value.slice ma2 ml2 mc2 := ⟨_, rfl⟩
    rw [← hva', ← hvq'] at H ⊢
    have gf : W.grownBy ((((W.setCell ⟨X, 0, none⟩ (.int .i64 n)).setCell ⟨X, 1, none⟩ va').setCell ⟨X, 2, none⟩ vq').setCell ⟨X, 3, none⟩ (.int .i64 g)) (some X) := grown_trans (grown_trans (grown_trans (grown_set' _ _ _ _) (grown_set' _ _ _ _)) (grown_set' _ _ _ _)) (grown_set' _ _ _ _)
    refine ⟨rfl, [v0, v1, v2, v3, v4, .agg (D4 n va' vq' g), v6, .pointer (some ⟨X, 0, none⟩), undef, v9], ?_, v0, v1, v2, v3, v4, .agg (D4 n va' vq' g), v6, .pointer (some ⟨X, 0, none⟩), undef, v9, va2, vq2, va', vq', gs', qs', code, X, rfl, ⟨(H.dm.box (by have := H.hPC; omega) hb gf), (by have := H.hC; simpa using this), H.hPC, H.hv, (by have h := H.f0; simpa [doneSet] using h), (by have h := H.f1; simpa [doneSet] using h), (fun _ e => by simp [doneSet] at e; rw [h3] at e; cases e), (by have h := H.f2; simpa [doneSet] using h), (by have h := H.f3; simpa [doneSet] using h), (fun _ => ⟨World.ownsRow.kept (H.o3 h3).1 gf (.inr (row_blk (H.o3 h3).1 hb (by decide))), World.ownsRow.kept (H.o3 h3).2.1 gf (.inr (row_blk (H.o3 h3).2.1 hb (by decide))), (H.o3 h3).2.2⟩), (by have h := H.f4; simpa [doneSet] using h), (fun _ => rfl), (by have h := H.f6; simpa [doneSet] using h), (fun _ => rfl), (fun _ => ⟨hCX, fun e => by simp [doneSet] at e⟩), (fun _ => (((hb.set 0 _).set 1 _).set 2 _).set 3 _), (by have h := H.f9; simpa [doneSet] using h), (fun _ => by simpa [doneSet] using h3), (fun _ => by simpa [doneSet] using h7)⟩⟩
    simp only [putAll, Act.put, List.setIfInBounds_toArray, List.set_cons_succ, List.set_cons_zero]
  · rintro d vs W ⟨v0, v1, v2, v3, v4, v5, v6, v7, v8, v9, va2, vq2, va', vq', gs', qs', code, X, rfl, H⟩ hn hd
    simp only [putAll, Act.put, List.setIfInBounds_toArray, List.set_cons_succ, List.set_cons_zero]
    have h6 : d 6 = true := hd { on := 6, ground := .data } (by simp) rfl
    have h3 := H.g3 (.inr (.inr (.inl h6)))
    obtain rfl := H.f6 h6
    have HH1 : Hid _ := H
    clear H
    clear hd
    go_wp2
    have H := HH1.out
    refine ⟨rfl, [v0, v1, v2, v3, v4, v5, .int .i64 code, v7, v8, .int .i64 code], ?_, v0, v1, v2, v3, v4, v5, .int .i64 code, v7, v8, .int .i64 code, va2, vq2, va', vq', gs', qs', code, X, rfl, ⟨H.dm, H.hC, H.hPC, H.hv, (by have h := H.f0; simpa [doneSet] using h), (by have h := H.f1; simpa [doneSet] using h), (by have h := H.o1; simpa [doneSet] using h), (by have h := H.f2; simpa [doneSet] using h), (by have h := H.f3; simpa [doneSet] using h), (by have h := H.o3; simpa [doneSet] using h), (by have h := H.f4; simpa [doneSet] using h), (by have h := H.f5; simpa [doneSet] using h), (fun _ => rfl), (by have h := H.f7; simpa [doneSet] using h), (by have h := H.o7; simpa [doneSet] using h), (by have h := H.o8; simpa [doneSet] using h), (fun _ => rfl), (fun _ => by simpa [doneSet] using h3), (by have h := H.g7; simpa [doneSet] using h)⟩⟩
    simp only [putAll, Act.put, List.setIfInBounds_toArray, List.set_cons_succ, List.set_cons_zero]
  · rintro d vs W ⟨v0, v1, v2, v3, v4, v5, v6, v7, v8, v9, va2, vq2, va', vq', gs', qs', code, X, rfl, H⟩ hn
    obtain rfl := H.f7 (hn 7 (by decide))
    obtain rfl := H.f9 (hn 9 (by decide))
    obtain ⟨oa, oq, hc⟩ := H.o3 (hn 3 (by decide))
    have hbX := H.o8 (hn 8 (by decide))
    have hXC := (H.o7 (hn 7 (by decide))).1
    have S4 : Hid (Dm P w W n g (.slice n1 gs.length p2) (.slice n2 qs.length p3) gs qs k t a s p) := H.dm
    have HPC : Hid (P + 2 < w2.heap.size ∧ w2.heap.size ≤ W.heap.size ∧ w2.heap.size ≤ X) := ⟨H.hPC, H.hC, hXC⟩
    have BX : Hid (Blk W X (D4 n va' vq' g) 27) := hbX
    have OA : Hid (Og 3 agC 36 w2.heap.size W va' gs') := oa
    have OQ : Hid (Og 4 wtC 74 w2.heap.size W vq' qs') := oq
    simp only [putAll, Act.put, List.setIfInBounds_toArray, List.set_cons_succ, List.set_cons_zero]
    clear H hn oa oq hbX hXC
    have x0 := S4.out.d.cell 0
    have x1 := S4.out.d.cell 1
    have x2 := S4.out.d.cell 2
    have x3 := S4.out.d.cell 3
    have e0 := S4.out.r.cell 0
    have e1 := S4.out.r.cell 1
    have e2 := S4.out.r.cell 2
    have e3 := S4.out.r.cell 3
    have f0 := S4.out.r.frozen 0
    have f1 := S4.out.r.frozen 1
    have f2 := S4.out.r.frozen 2
    have f3 := S4.out.r.frozen 3
    have hPW : P + 2 < W.heap.size := S4.out.r.lt
    simp at x0 x1 x2 x3 e0 e1 e2 e3
    have HOPB : Hid (opB n gs qs k t a s p = opK gs qs k t a s p) := by
      show _ = _
      rw [opB_eq, HTK.out, decide_eq_true HNT.out.1]; simp
    rcases hc with ⟨hk, rfl⟩ | ⟨hk, hbn, rfl⟩ | ⟨hk, hbn, rfl⟩
    · obtain ⟨h1, h2⟩ := S4.out.ref 1 (R := R) (by rw [← HR.out, doF, if_neg (fun h => absurd h.2 (by rw [HOPB.out, hk]; simp))])
      have H1 : Hid _ := h1
      have H2 : Hid _ := h2
      clear h1 h2 hk
      go_wp2_with (fail)
      exact bodyPost_ret (v := .tuple #[.agg (D4 n (.slice n1 gs.length p2) (.slice n2 qs.length p3) g), .slice (some ⟨W.heap.size, 0, none⟩) 0 0, .int .i64 1]) (results_D3 rfl _ _ _ _ _ _ _ _ _ rfl rfl rfl H1.out) rfl H2.out
    · obtain ⟨h1, h2⟩ := S4.out.ref 3 (R := R) (by rw [← HR.out, doF, if_pos ⟨HD.out, by rw [HOPB.out, hk]⟩, hbn])
      have H1 : Hid _ := h1
      have H2 : Hid _ := h2
      clear h1 h2 hk hbn
      go_wp2_with (fail)
      exact bodyPost_ret (v := .tuple #[.agg (D4 n (.slice n1 gs.length p2) (.slice n2 qs.length p3) g), .slice (some ⟨W.heap.size, 0, none⟩) 0 0, .int .i64 3]) (results_D3 rfl _ _ _ _ _ _ _ _ _ rfl rfl rfl H1.out) rfl H2.out
    · have HBN : Hid (beg t gs qs k a s p = some (gs', qs')) := hbn
      have HOPK : Hid (opB n gs qs k t a s p = true) := by show _ = _; rw [HOPB.out, hk]
      clear hbn hk HOPB
      have y0 := S4.out.op.cell 0
      have y1 := S4.out.op.cell 1
      have z0 := BX.out.cell 0
      have z1 := BX.out.cell 1
      have z2 := BX.out.cell 2
      have z3 := BX.out.cell 3
      have zf0 := BX.out.frozen 0
      simp at y0 y1 z0 z1 z2 z3
      have hXP : X ≠ P := by have := HPC.out; omega
      have hXP1 : X ≠ P + 1 := by have := HPC.out; omega
      have hbo := beg_ok HBN.out HD.out.2.2.2.2.1.sk HD.out.ca (opB_kind HOPK.out).2.1 (opB_kind HOPK.out).2.2
      have HBO : Hid (SkOk gs' ∧ CaOk qs' ∧ gs'.length = gs.length ∧ qs'.length ≤ qs.length + 1) := hbo
      have HBZ : Hid (BzOk gs') := beg_bz HBN.out (AgsOk.bz HD.out.2.2.2.2.1)
      have gX := grown_set' W X 0 (.int .i64 t)
      obtain ⟨W5, hW5⟩ : ∃ W5, W.setCell ⟨X, 0, none⟩ (.int .i64 t) = W5 := ⟨_, rfl⟩
      rw [hW5] at gX
      have S5 : Hid (Dm P w W5 n g (.slice n1 gs.length p2) (.slice n2 qs.length p3) gs qs k t a s p) := S4.out.box (by have := HPC.out; omega) BX.out gX
      have OA5 : Hid (Og 3 agC 36 w2.heap.size W5 va' gs') := World.ownsRow.kept OA.out gX (.inr (row_blk OA.out BX.out (by decide)))
      have OQ5 : Hid (Og 4 wtC 74 w2.heap.size W5 vq' qs') := World.ownsRow.kept OQ.out gX (.inr (row_blk OQ.out BX.out (by decide)))
      have BX5 : Hid (Blk W5 X (D4 t va' vq' g) 27) := hW5 ▸ BX.out.set 0 _
      have HC5 : Hid (w2.heap.size ≤ W5.heap.size) := Nat.le_trans HPC.out.2.1 gX.size
      have HW5 : Hid (W.setCell ⟨X, 0, none⟩ (.int .i64 t) = W5) := hW5
      have HLQ : Hid (qs'.length ≤ 1048576 ∧ gs'.length ≤ 1048576 ∧ 0 ≤ g ∧ g ≤ 900000000) := by have h1 := HD.out.1; have h2 := HD.out.2.1; have h3 := HD.out.2.2.2.1; exact ⟨by omega, by omega, by omega, by omega⟩
      clear hbo gX hW5 OA OQ BX
      go_wp2_with (fail)
      rw [HW5.out]
      refine (giveM_c w2.heap.size t g va' vq' gs' qs' W5 OA5.out OQ5.out HBO.out.1 HBZ.out HBO.out.2.1 HC5.out HLQ.out.1 HLQ.out.2.1 HLQ.out.2.2.1 HLQ.out.2.2.2).mono ?_
      obtain ⟨G, hG⟩ : ∃ G, giveN t gs'.length gs' qs' = G := ⟨_, rfl⟩
      rw [hG]
      have HG : Hid (giveN t gs.length gs' qs' = G) := by show _ = _; rw [← hG, HBO.out.2.2.1]
      have HGL : Hid (G.2.1.length ≤ 41 ∧ G.2.2.length ≤ 41) := by
        have h1 := giveN_len t gs'.length gs' qs' HBO.out.2.1
        rw [hG] at h1
        have h2 := HD.out.2.1
        have h3 := HBO.out.2.2.2
        exact ⟨by omega, by omega⟩
      clear hG
      rintro e W6 ⟨va6, vq6, vc6, rfl, oa6, oq6, oc6, b6⟩
      have S6 : Hid (Dm P w W6 n g (.slice n1 gs.length p2) (.slice n2 qs.length p3) gs qs k t a s p) := S5.out.belC HPC.out.1 HV.out b6.1
      have BX6 : Hid (Blk W6 X (D4 t va' vq' g) 27) := b6.2 X _ BX5.out.lt BX5.out
      have OA6 : Hid (Og 3 agC 36 w2.heap.size W6 va6 G.1) := oa6
      have OQ6 : Hid (Og 4 wtC 74 w2.heap.size W6 vq6 G.2.1) := oq6
      have OC6 : Hid (Ow .i64 3 w2.heap.size W6 vc6 G.2.2) := oc6
      obtain ⟨ma, mc, hva6⟩ := oa6.form
      obtain ⟨mqa, mqc, hvq6⟩ := oq6.form
      obtain ⟨L1, hL1⟩ : ∃ L, G.1.length = L := ⟨_, rfl⟩
      obtain ⟨L2, hL2⟩ : ∃ L, G.2.1.length = L := ⟨_, rfl⟩
      obtain ⟨L3, hL3⟩ : ∃ L, G.2.2.length = L := ⟨_, rfl⟩
      rw [hL1] at hva6
      rw [hL2] at hvq6
      rw [hL3]
      have HL : Hid (G.1.length = L1 ∧ G.2.1.length = L2 ∧ G.2.2.length = L3) := ⟨hL1, hL2, hL3⟩
      have hL2b : L2 ≤ 41 := by have := HGL.out; omega
      have hL3b : L3 ≤ 41 := by have := HGL.out; omega
      have hgb : 0 ≤ g ∧ g ≤ 1000000 := HD.out.2.2.2.1
      subst hva6 hvq6
      obtain ⟨gg, hgg⟩ : ∃ gg, g + (L3 : Int) = gg := ⟨_, rfl⟩
      rw [hgg]
      have hgg2 : 0 ≤ gg ∧ gg ≤ 1000041 := by omega
      have HGG : Hid (g + (L3 : Int) = gg) := hgg
      clear b6 oa6 oq6 oc6 hL1 hL2 hL3 hgg hgb x0 x1 x2 x3 e0 e1 e2 e3 f0 f1 f2 f3 y0 y1 z0 z1 z2 z3 zf0
      have z0 := BX6.out.cell 0
      have z1 := BX6.out.cell 1
      have z2 := BX6.out.cell 2
      have z3 := BX6.out.cell 3
      have zf0 := BX6.out.frozen 0
      have zf1 := BX6.out.frozen 1
      have zf2 := BX6.out.frozen 2
      have zf3 := BX6.out.frozen 3
      simp at z0 z1 z2 z3
      have hPX : P + 2 ≠ X := by have := HPC.out; omega
      have hPX' : P + 1 + 1 ≠ X := hPX
      have hXP2 : X ≠ P + 2 := by have := HPC.out; omega
      obtain ⟨W7, hW7⟩ : ∃ W7, (((W6.setCell ⟨X, 0, none⟩ (.int .i64 t)).setCell ⟨X, 1, none⟩ (.slice ma L1 mc)).setCell ⟨X, 2, none⟩ (.slice mqa L2 mqc)).setCell ⟨X, 3, none⟩ (.int .i64 gg) = W7 := ⟨_, rfl⟩
      have gY : W6.grownBy W7 (some X) := hW7 ▸ grown_trans (grown_trans (grown_trans (grown_set' _ _ _ _) (grown_set' _ _ _ _)) (grown_set' _ _ _ _)) (grown_set' _ _ _ _)
      have S7 : Hid (Dm P w W7 n g (.slice n1 gs.length p2) (.slice n2 qs.length p3) gs qs k t a s p) := S6.out.box (by have := HPC.out; omega) BX6.out gY
      have OA7 : Hid (Og 3 agC 36 w2.heap.size W7 (.slice ma L1 mc) G.1) := World.ownsRow.kept OA6.out gY (.inr (row_blk OA6.out BX6.out (by decide)))
      have OQ7 : Hid (Og 4 wtC 74 w2.heap.size W7 (.slice mqa L2 mqc) G.2.1) := World.ownsRow.kept OQ6.out gY (.inr (row_blk OQ6.out BX6.out (by decide)))
      have OC7 : Hid (Ow .i64 3 w2.heap.size W7 vc6 G.2.2) := by
        have := World.ownsRow.kept OC6.out gY (.inr (row_blk OC6.out BX6.out (by decide)))
        exact this
      have BX7 : Hid (Blk W7 X (D4 t (.slice ma L1 mc) (.slice mqa L2 mqc) gg) 27) := hW7 ▸ (((BX6.out.set 0 _).set 1 _).set 2 _).set 3 _
      have HW7 : Hid ((((W6.setCell ⟨X, 0, none⟩ (.int .i64 t)).setCell ⟨X, 1, none⟩ (.slice ma L1 mc)).setCell ⟨X, 2, none⟩ (.slice mqa L2 mqc)).setCell ⟨X, 3, none⟩ (.int .i64 gg) = W7) := hW7
      clear gY hW7
      have HCL : Hid (R = if 40 < L2 ∨ 1000000 < gg then ((n, g, gs, qs), [], 2) else ((t, gg, G.1, G.2.1), G.2.2, 0)) := by
        show R = _
        rw [← HR.out, doF, if_pos ⟨HD.out, HOPK.out⟩, HBN.out]
        simp only [HG.out, HL.out.2.1, HL.out.2.2, HGG.out]
      have x0 := S6.out.d.cell 0
      have x1 := S6.out.d.cell 1
      have x2 := S6.out.d.cell 2
      have x3 := S6.out.d.cell 3
      have e0 := S6.out.r.cell 0
      have e1 := S6.out.r.cell 1
      have e2 := S6.out.r.cell 2
      have e3 := S6.out.r.cell 3
      have f0 := S6.out.r.frozen 0
      have f1 := S6.out.r.frozen 1
      have f2 := S6.out.r.frozen 2
      have f3 := S6.out.r.frozen 3
      have hPW6 : P + 2 < W6.heap.size := S6.out.r.lt
      have hXW6 : X < W6.heap.size := BX6.out.lt
      have HZ7 : Hid (W7.heap.size = W6.heap.size) := by show _ = _; rw [← HW7.out]; simp
      simp at x0 x1 x2 x3 e0 e1 e2 e3
      clear hgg2 hL2b hL3b hPW hPw
      by_cases h40 : 40 < L2
      · have h40' : (L2 : Int) > 40 := by omega
        obtain ⟨h1, h2⟩ := S7.out.ref 2 (R := R) (by rw [HCL.out, if_pos (.inl h40)])
        rw [HZ7.out, ← HW7.out] at h2
        rw [← HW7.out] at h1
        have H1 : Hid _ := h1
        have H2 : Hid _ := h2
        clear h1 h2 h40
        go_wp2_with (fail)
        exact bodyPost_ret (v := .tuple #[.agg (D4 n (.slice n1 gs.length p2) (.slice n2 qs.length p3) g), .slice (some ⟨W6.heap.size, 0, none⟩) 0 0, .int .i64 2]) (results_D3 rfl _ _ _ _ _ _ _ _ _ rfl rfl rfl H1.out) rfl H2.out
      · have h40' : ((L2 : Int) > 40) = False := eq_false (by omega)
        by_cases hgv : 1000000 < gg
        · have hgv' : gg > 1000000 := hgv
          obtain ⟨h1, h2⟩ := S7.out.ref 2 (R := R) (by rw [HCL.out, if_pos (.inr hgv)])
          rw [HZ7.out, ← HW7.out] at h2
          rw [← HW7.out] at h1
          have H1 : Hid _ := h1
          have H2 : Hid _ := h2
          clear h1 h2 h40 hgv
          go_wp2_with (fail)
          exact bodyPost_ret (v := .tuple #[.agg (D4 n (.slice n1 gs.length p2) (.slice n2 qs.length p3) g), .slice (some ⟨W6.heap.size, 0, none⟩) 0 0, .int .i64 2]) (results_D3 rfl _ _ _ _ _ _ _ _ _ rfl rfl rfl H1.out) rfl H2.out
        · have hgv' : (gg > 1000000) = False := eq_false (by omega)
          have HRR : Hid (R = ((t, gg, G.1, G.2.1), G.2.2, 0)) := by show R = _; rw [HCL.out, if_neg (by omega)]
          obtain ⟨W8, hW8⟩ : ∃ W8, (((W7.setCell ⟨P + 2, 0, none⟩ (.int .i64 t)).setCell ⟨P + 2, 1, none⟩ (.slice ma L1 mc)).setCell ⟨P + 2, 2, none⟩ (.slice mqa L2 mqc)).setCell ⟨P + 2, 3, none⟩ (.int .i64 gg) = W8 := ⟨_, rfl⟩
          have g8 : W7.grownBy W8 (some (P + 2)) := hW8 ▸ grown_trans (grown_trans (grown_trans (grown_set' _ _ _ _) (grown_set' _ _ _ _)) (grown_set' _ _ _ _)) (grown_set' _ _ _ _)
          have h1 : Blk W8 (P + 2) (D4 t (.slice ma L1 mc) (.slice mqa L2 mqc) gg) 27 := hW8 ▸ (((S7.out.r.set 0 _).set 1 _).set 2 _).set 3 _
          have hb8 : Below P w W8 := hW8 ▸ (((S7.out.bel.setCell (by dsimp only; omega) _).setCell (by dsimp only; omega) _).setCell (by dsimp only; omega) _).setCell (by dsimp only; omega) _
          have hPle : P ≤ w2.heap.size := by have := HPC.out; omega
          have o1 := World.ownsRow.kept OA7.out g8 (.inr (row_blk OA7.out S7.out.r (by decide)))
          have o2 := World.ownsRow.kept OQ7.out g8 (.inr (row_blk OQ7.out S7.out.r (by decide)))
          have o3 := World.ownsRow.kept OC7.out g8 (.inr (row_blk OC7.out S7.out.r (by decide)))
          have h2 : DdR w R (.returned (.tuple #[.agg (D4 t (.slice ma L1 mc) (.slice mqa L2 mqc) gg), vc6, .int .i64 0])) W8 := by
            have hP := HP.out
            subst hP
            rw [HRR.out]
            refine ⟨_, _, _, rfl, ⟨Og.mono o1 hPle, Og.mono o2 hPle, ?_⟩, Ow.mono o3 hPle, ?_, hb8⟩
            · exact ⟨row_ne o1 o2 (by decide), row_ne o2 o1 (by decide)⟩
            · intro j e1 e2
              rcases e2 with e2 | e2
              · rcases row_ne o3 o1 (by decide) with h | h
                · rw [h] at e1; cases e1
                · exact h (by rw [e1, e2])
              · rcases row_ne o3 o2 (by decide) with h | h
                · rw [h] at e1; cases e1
                · exact h (by rw [e1, e2])
          rw [← hW8, ← HW7.out] at h1 h2
          have H1 : Hid _ := h1
          have H2 : Hid _ := h2
          clear h1 h2 o1 o2 o3 hb8 g8 hW8 hPle h40 hgv
          go_wp2_with (fail)
          exact bodyPost_ret (v := .tuple #[.agg (D4 t (.slice ma L1 mc) (.slice mqa L2 mqc) gg), vc6, .int .i64 0]) (results_D3 rfl _ _ _ _ _ _ _ _ _ rfl rfl rfl H1.out) rfl H2.out
end Go.Proofs.Ytpmmgbinogokfaa

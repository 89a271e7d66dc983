/- Quotients; no condition. -/
import Derived.Test.YtmhpfbcdikldcaaQu2
namespace Go.Proofs.Ytmhpfbcdikldcaa
open Go.RowKit Go.ChangeShapes Go.WideShapes Go.ChangeAt
set_option linter.unusedVariables false
set_option linter.unusedSimpArgs false
set_option maxRecDepth 8000
/-- the quotient's parts, by what its four parts are -/
def qRe (ge : Bool) (a b c d : Option Nat) : Option Nat :=
  let f := fun op x y => fo op .f64 x y
  if ge then f .quo (f .add a (f .mul b (f .quo d c))) (f .add c (f .mul (f .quo d c) d))
  else f .quo (f .add (f .mul a (f .quo c d)) b) (f .add d (f .mul (f .quo c d) c))
def qIm (ge : Bool) (a b c d : Option Nat) : Option Nat :=
  let f := fun op x y => fo op .f64 x y
  if ge then f .quo (f .sub b (f .mul a (f .quo d c))) (f .add c (f .mul (f .quo d c) d))
  else f .quo (f .sub (f .mul b (f .quo c d)) a) (f .add d (f .mul (f .quo c d) c))
/-- whether both are zero -/
def z2 (c d : Nat) : Bool := (FloatKind.f64.format.order c 0 == some .eq) && (FloatKind.f64.format.order d 0 == some .eq)
theorem fin_inf {x : Nat} (h : finB x = true) : Op.Complex.isInf x = false := by
  unfold finB at h
  unfold Op.Complex.isInf
  cases hd : FloatKind.f64.decode x <;> rw [hd] at h <;> first | rfl | (cases h; done)
section
variable {P : Program}
theorem run_cq (a b c d : Nat) (w : World) (ha : finB a = true) (hb : finB b = true) (hc : finB c = true) (hd : finB d = true) (hz : z2 c d = false) : ∃ re im n, (Op.Complex.quotient a b c d).run P w = .ok (re, im) (w.drewN n) ∧
    fc .f64 re = qRe (absGe c d) (fc .f64 a) (fc .f64 b) (fc .f64 c) (fc .f64 d) ∧ fc .f64 im = qIm (absGe c d) (fc .f64 a) (fc .f64 b) (fc .f64 c) (fc .f64 d) := by
  have hrun : ∀ op x y (w : World), (op = .add ∨ op = .sub ∨ op = .mul ∨ op = .quo) → (Op.Complex.arith op .f64 x y).run P w = .ok (fv op .f64 x y w) (w.drewN (fn op .f64 x y)) := by
    intro op x y w h
    simp [Op.Complex.arith, run_fa op h]
  have hA : ∀ x y (w : World), (Op.Complex.add x y).run P w = .ok (fv .add .f64 x y w) (w.drewN (fn .add .f64 x y)) := fun x y w => hrun _ x y w (by simp)
  have hS : ∀ x y (w : World), (Op.Complex.sub x y).run P w = .ok (fv .sub .f64 x y w) (w.drewN (fn .sub .f64 x y)) := fun x y w => hrun _ x y w (by simp)
  have hM : ∀ x y (w : World), (Op.Complex.mul x y).run P w = .ok (fv .mul .f64 x y w) (w.drewN (fn .mul .f64 x y)) := fun x y w => hrun _ x y w (by simp)
  have hQ : ∀ x y (w : World), (Op.Complex.quo x y).run P w = .ok (fv .quo .f64 x y w) (w.drewN (fn .quo .f64 x y)) := fun x y w => hrun _ x y w (by simp)
  have hE : ∀ x y (w : World), (Op.Complex.cmp .eql .f64 x y).run P w = .ok (FloatKind.f64.format.order x y == some .eq) w := fun x y w => by simp [Op.Complex.cmp, Op.floatCmp, asBool]
  have hfin : ∀ (e f : Nat) (w : World), ((do
      let zero := (← Op.Complex.cmp .eql .f64 c 0) && (← Op.Complex.cmp .eql .f64 d 0)
      if !(Op.Complex.isNaN e && Op.Complex.isNaN f) then pure (e, f)
      else if zero && (!Op.Complex.isNaN a || !Op.Complex.isNaN b) then
        pure (← Op.Complex.mul (Op.Complex.copysign Op.Complex.inf c) a, ← Op.Complex.mul (Op.Complex.copysign Op.Complex.inf c) b)
      else if (Op.Complex.isInf a || Op.Complex.isInf b) && Op.Complex.isFinite c && Op.Complex.isFinite d then
        Op.Complex.corrected Op.Complex.inf (Op.Complex.inf2one a) (Op.Complex.inf2one b) c d
      else if (Op.Complex.isInf c || Op.Complex.isInf d) && Op.Complex.isFinite a && Op.Complex.isFinite b then
        Op.Complex.corrected 0 a b (Op.Complex.inf2one c) (Op.Complex.inf2one d)
      else pure (e, f)) : Sem (Nat × Nat)).run P w = .ok (e, f) w := by
    intro e f w
    have hz' : ((FloatKind.f64.format.order c 0 == some .eq) && (FloatKind.f64.format.order d 0 == some .eq)) = false := hz
    simp only [Sem.run_bind, hE, Result.andThen_ok, hz', fin_inf ha, fin_inf hb, fin_inf hc, fin_inf hd, Bool.false_and, Bool.or_self, Bool.false_eq_true, if_false]
    split <;> rfl
  unfold Op.Complex.quotient
  cases hge : absGe c d
  · simp only [Sem.run_bind, run_ccmp_geq, hge, Result.andThen_ok, Bool.false_eq_true, if_false, hA, hS, hM, hQ, Sem.run_pure, World.drewN_drewN]
    simp only [← Sem.run_bind, hfin]
    refine ⟨_, _, _, rfl, ?_, ?_⟩
    · simp only [fc_fv, qRe, Bool.false_eq_true, if_false]
    · simp only [fc_fv, qIm, Bool.false_eq_true, if_false]
  · simp only [Sem.run_bind, run_ccmp_geq, hge, Result.andThen_ok, if_true, hA, hS, hM, hQ, Sem.run_pure, World.drewN_drewN]
    simp only [← Sem.run_bind, hfin]
    refine ⟨_, _, _, rfl, ?_, ?_⟩
    · simp only [fc_fv, qRe, if_true]
    · simp only [fc_fv, qIm, if_true]
theorem run_cquo (t : TypeId) (a b c d : Nat) (w : World) (ha : finB a = true) (hb : finB b = true) (hc : finB c = true) (hd : finB d = true) (hz : z2 c d = false) : ∃ re im n, (binOp .quo t (.complex .f64 a b) (.complex .f64 c d)).run P w = .ok (.complex .f64 re im) (w.drewN n) ∧
    fc .f64 re = qRe (absGe c d) (fc .f64 a) (fc .f64 b) (fc .f64 c) (fc .f64 d) ∧ fc .f64 im = qIm (absGe c d) (fc .f64 a) (fc .f64 b) (fc .f64 c) (fc .f64 d) := by
  obtain ⟨re, im, n, h1, h2, h3⟩ := run_cq (P := P) a b c d w ha hb hc hd hz
  refine ⟨re, im, n, ?_, h2, h3⟩
  simp [binOp, Op.complexOp, Op.Complex.conv, h1]
end
end Go.Proofs.Ytmhpfbcdikldcaa

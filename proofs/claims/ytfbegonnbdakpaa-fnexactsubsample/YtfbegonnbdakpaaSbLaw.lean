/- FnExactSubSample returns true at every two samples, and leaves all as it was; no condition. -/
import Derived.Test.YtfbegonnbdakpaaSbL
import Derived.Test.YtfbegonnbdakpaaOpf
import Derived.Test.YtfbegonnbdakpaaFca
import Derived.Test.YtfbegonnbdakpaaFcb
import Derived.Test.YtfbegonnbdakpaaFcc
import Derived.Test.YtfbegonnbdakpaaFcd
namespace Go.Proofs.Ytfbegonnbdakpaa
open Go.RowKit Go.ChangeShapes Go.WideShapes Go.ChangeAt
set_option linter.unusedVariables false
set_option linter.unusedSimpArgs false
set_option maxRecDepth 8000

set_option maxRecDepth 100000 in
theorem lifted10 (os : Os) (started : os.Started) (H : Type) (enc : TypeId × Value → H) :
    ReturnsInHanded {} Try.checked os 10 .any (Rows.fnExactSubSampleSpec.pre6 enc Try.prog Try.f10 Rows.fnExactSubSampleRow.domain false) (Rows.fnExactSubSampleSpec.post enc Try.prog Try.f10 false true false false) := by
  refine returnsInHanded_of_change (C := Try.checked) own started (by kernel_rfl) Try.func10
    (ChangeSpec.witness6 (enc := enc) (C := Try.checked) false ⟨#[], #[.agg #[.float .f32 0, .float .f32 0], .agg #[.float .f32 0, .float .f32 0]], []⟩ 8 (by kernel_rfl) (by kernel_rfl) (by kernel_rfl) (by kernel_rfl)) ?_
  intro W base args ds gs before hval0 hW hcnd _
  have hval : ∀ (j : Nat) t v, Try.f10.params[j]? = some t → args[j]? = some v → Value.okWide Try.prog W .any base t v := hval0
  have hW' := hW
  obtain ⟨p, q, hA0, hV, rfl, hfz, hnd⟩ := hW
  have hA : DataW.TrodAll enc Try.prog W 0 (fun _ => true) true Try.f10.params.toList args.toList ds p := hA0
  rw [Try.params10] at hA hval
  obtain ⟨v0, vs0, d0, ds0, p0, q0, hargs, rfl, rfl, h0, rr0⟩ := trodAll_cons hA
  obtain ⟨v1, vs1, d1, ds1, p1, q1, rfl, rfl, rfl, h1, rr1⟩ := trodAll_cons rr0
  obtain ⟨rfl, rfl, rfl⟩ := trodAll_nil rr1
  obtain rfl : args = #[v0, v1] := by cases args; simp_all
  obtain ⟨rfl, rfl⟩ := trodVars_none hV
  have lt0 : ∀ x ∈ p0, x.block < W.heap.size := by obtain ⟨m, hm⟩ := h0; exact DataW.trod_lt m _ _ _ hm
  have lt1 : ∀ x ∈ p1, x.block < W.heap.size := by obtain ⟨m, hm⟩ := h1; exact DataW.trod_lt m _ _ _ hm
  obtain ⟨a0, b0, rfl⟩ := openSm (hval 0 50 v0 rfl rfl) h0
  obtain ⟨a1, b1, rfl⟩ := openSm (hval 1 50 v1 rfl rfl) h1
  clear hA0 hval0
  refine (subLaw a0 b0 a1 b1 W  ).mono fun e W' ⟨he, bel⟩ => ?_
  subst he
  exact ⟨_, rfl, _, _, _, [], _, [], hW', trodAll_mk1 (shut_bool Try.underlying4 _), (trodAll_cons_mk (Below.trod laidOut (by kernel_rfl) (of_decide_eq_true (by kernel_rfl)) h0 bel lt0) (trodAll_cons_mk (Below.trod laidOut (by kernel_rfl) (of_decide_eq_true (by kernel_rfl)) h1 bel lt1) trodAll_mk0)), rfl, bel.frame _, fun h => by cases h⟩

theorem closed10 : joinedFacts Try.prog 10 Try.f10 Rows.fnExactSubSampleSpec Rows.fnExactSubSampleRow = true := by
  have h1 : Try.prog.stopsHeard = true := fHeard
  have h2 : Try.prog.mayEnter = true := fEnter
  have h3 : (Rows.fnExactSubSampleRow.lifted == Try.prog.liftsFinal) = true := fLift
  have h4 : (Try.prog.make == some Rows.fnExactSubSampleRow.make) = true := fMake
  unfold joinedFacts
  rw [h1, h2, h3, h4]
  refine Eq.trans ?_ rfl
  kernel_rfl
theorem subProved : Rows.FnExactSubSampleSaid :=
  OpenClaim.holds_of_wide 10 Try.f10 rfl rfl rfl rfl rfl rfl rfl ⟨rfl, rfl, rfl, rfl, rfl⟩ rfl rfl rfl rfl rfl (by kernel_rfl) Try.func10 closed10
    (of_decide_eq_true (by kernel_rfl)) (by unfold Func.isWrapper; first | (rw [if_pos (by decide +kernel)]; kernel_rfl) | (rw [if_neg (by decide +kernel)]; exact ⟨rfl, rfl⟩))
    (fun os started H enc _ => lifted10 os started H enc)
#print axioms subProved

end Go.Proofs.Ytfbegonnbdakpaa

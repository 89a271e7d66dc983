/- FnExactQuotWide returns true at every two wide samples, and leaves all as it was; no condition. -/
import Derived.Test.YtfbegonnbdakpaaQwL
import Derived.Test.YtfbegonnbdakpaaOpg
import Derived.Test.YtfbegonnbdakpaaFca
import Derived.Test.YtfbegonnbdakpaaFcb
import Derived.Test.YtfbegonnbdakpaaFcc
import Derived.Test.YtfbegonnbdakpaaFcd
namespace Go.Proofs.Ytfbegonnbdakpaa
open Go.RowKit Go.ChangeShapes Go.WideShapes Go.ChangeAt
set_option linter.unusedVariables false
set_option linter.unusedSimpArgs false
set_option maxRecDepth 8000

set_option maxRecDepth 100000 in
theorem lifted13 (os : Os) (started : os.Started) (H : Type) (enc : TypeId × Value → H) :
    ReturnsInHanded {} Try.checked os 13 .any (Rows.fnExactQuotWideSpec.pre6 enc Try.prog Try.f13 Rows.fnExactQuotWideRow.domain false) (Rows.fnExactQuotWideSpec.post enc Try.prog Try.f13 false true false false) := by
  refine returnsInHanded_of_change (C := Try.checked) own started (by kernel_rfl) Try.func13
    (ChangeSpec.witness6 (enc := enc) (C := Try.checked) false ⟨#[], #[.agg #[.float .f64 0, .float .f64 0], .agg #[.float .f64 0, .float .f64 0]], []⟩ 8 (by kernel_rfl) (by kernel_rfl) (by kernel_rfl) (by kernel_rfl)) ?_
  intro W base args ds gs before hval0 hW hcnd _
  have hval : ∀ (j : Nat) t v, Try.f13.params[j]? = some t → args[j]? = some v → Value.okWide Try.prog W .any base t v := hval0
  have hW' := hW
  obtain ⟨p, q, hA0, hV, rfl, hfz, hnd⟩ := hW
  have hA : DataW.TrodAll enc Try.prog W 0 (fun _ => true) true Try.f13.params.toList args.toList ds p := hA0
  rw [Try.params13] at hA hval
  obtain ⟨v0, vs0, d0, ds0, p0, q0, hargs, rfl, rfl, h0, rr0⟩ := trodAll_cons hA
  obtain ⟨v1, vs1, d1, ds1, p1, q1, rfl, rfl, rfl, h1, rr1⟩ := trodAll_cons rr0
  obtain ⟨rfl, rfl, rfl⟩ := trodAll_nil rr1
  obtain rfl : args = #[v0, v1] := by cases args; simp_all
  obtain ⟨rfl, rfl⟩ := trodVars_none hV
  have lt0 : ∀ x ∈ p0, x.block < W.heap.size := by obtain ⟨m, hm⟩ := h0; exact DataW.trod_lt m _ _ _ hm
  have lt1 : ∀ x ∈ p1, x.block < W.heap.size := by obtain ⟨m, hm⟩ := h1; exact DataW.trod_lt m _ _ _ hm
  obtain ⟨a0, b0, rfl, la0, lb0⟩ := openWd2 (hval 0 54 v0 rfl rfl) h0
  obtain ⟨a1, b1, rfl, la1, lb1⟩ := openWd2 (hval 1 54 v1 rfl rfl) h1
  clear hA0 hval0
  refine (quotLaw a0 b0 a1 b1 W la0 lb0 la1 lb1).mono fun e W' ⟨he, bel⟩ => ?_
  subst he
  exact ⟨_, rfl, _, _, _, [], _, [], hW', trodAll_mk1 (shut_bool Try.underlying4 _), (trodAll_cons_mk (Below.trod laidOut (by kernel_rfl) (of_decide_eq_true (by kernel_rfl)) h0 bel lt0) (trodAll_cons_mk (Below.trod laidOut (by kernel_rfl) (of_decide_eq_true (by kernel_rfl)) h1 bel lt1) trodAll_mk0)), rfl, bel.frame _, fun h => by cases h⟩

theorem closed13 : joinedFacts Try.prog 13 Try.f13 Rows.fnExactQuotWideSpec Rows.fnExactQuotWideRow = true := by
  have h1 : Try.prog.stopsHeard = true := fHeard
  have h2 : Try.prog.mayEnter = true := fEnter
  have h3 : (Rows.fnExactQuotWideRow.lifted == Try.prog.liftsFinal) = true := fLift
  have h4 : (Try.prog.make == some Rows.fnExactQuotWideRow.make) = true := fMake
  unfold joinedFacts
  rw [h1, h2, h3, h4]
  refine Eq.trans ?_ rfl
  kernel_rfl
theorem quotProved : Rows.FnExactQuotWideSaid :=
  OpenClaim.holds_of_wide 13 Try.f13 rfl rfl rfl rfl rfl rfl rfl ⟨rfl, rfl, rfl, rfl, rfl⟩ rfl rfl rfl rfl rfl (by kernel_rfl) Try.func13 closed13
    (of_decide_eq_true (by kernel_rfl)) (by unfold Func.isWrapper; first | (rw [if_pos (by decide +kernel)]; kernel_rfl) | (rw [if_neg (by decide +kernel)]; exact ⟨rfl, rfl⟩))
    (fun os started H enc _ => lifted13 os started H enc)
#print axioms quotProved

end Go.Proofs.Ytfbegonnbdakpaa

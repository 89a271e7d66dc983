/- FnExactMatch14 returns true at every two lists of samples, and leaves all as it was; no condition. -/
import Derived.Test.YtfbegonnbdakpaaMaL
import Derived.Test.YtfbegonnbdakpaaOpf
import Derived.Test.YtfbegonnbdakpaaFca
import Derived.Test.YtfbegonnbdakpaaFcb
import Derived.Test.YtfbegonnbdakpaaFcc
import Derived.Test.YtfbegonnbdakpaaFcd
namespace Go.Proofs.Ytfbegonnbdakpaa
open Go.RowKit Go.ChangeShapes Go.WideShapes Go.ChangeAt
set_option linter.unusedVariables false
set_option linter.unusedSimpArgs false
set_option maxRecDepth 8000

set_option maxRecDepth 100000 in
theorem lifted17 (os : Os) (started : os.Started) (H : Type) (enc : TypeId × Value → H) :
    ReturnsInHanded {} Try.checked os 17 .any (Rows.fnExactMatch14Spec.pre6 enc Try.prog Try.f17 Rows.fnExactMatch14Row.domain false) (Rows.fnExactMatch14Spec.post enc Try.prog Try.f17 false true false false) := by
  refine returnsInHanded_of_change (C := Try.checked) own started (by kernel_rfl) Try.func17
    (ChangeSpec.witness6 (enc := enc) (C := Try.checked) false ⟨#[], #[.slice none 0 0, .slice none 0 0], []⟩ 8 (by kernel_rfl) (by kernel_rfl) (by kernel_rfl) (by kernel_rfl)) ?_
  intro W base args ds gs before hval0 hW hcnd _
  have hval : ∀ (j : Nat) t v, Try.f17.params[j]? = some t → args[j]? = some v → Value.okWide Try.prog W .any base t v := hval0
  have hW' := hW
  obtain ⟨p, q, hA0, hV, rfl, hfz, hnd⟩ := hW
  have hA : DataW.TrodAll enc Try.prog W 0 (fun _ => true) true Try.f17.params.toList args.toList ds p := hA0
  rw [Try.params17] at hA hval
  obtain ⟨v0, vs0, d0, ds0, p0, q0, hargs, rfl, rfl, h0, rr0⟩ := trodAll_cons hA
  obtain ⟨v1, vs1, d1, ds1, p1, q1, rfl, rfl, rfl, h1, rr1⟩ := trodAll_cons rr0
  obtain ⟨rfl, rfl, rfl⟩ := trodAll_nil rr1
  obtain rfl : args = #[v0, v1] := by cases args; simp_all
  obtain ⟨rfl, rfl⟩ := trodVars_none hV
  have lt0 : ∀ x ∈ p0, x.block < W.heap.size := by obtain ⟨m, hm⟩ := h0; exact DataW.trod_lt m _ _ _ hm
  have lt1 : ∀ x ∈ p1, x.block < W.heap.size := by obtain ⟨m, hm⟩ := h1; exact DataW.trod_lt m _ _ _ hm
  obtain ⟨z0, r0⟩ : ∃ ls, Rg 2 smC W v0 ls := by
    obtain ⟨a0, len0, cap0, rfl⟩ := okWide_slice Try.underlying63 (hval 0 63 v0 rfl rfl)
    obtain ⟨fuel, hf⟩ := h0
    exact openSms hf
  obtain ⟨z1, r1⟩ : ∃ ls, Rg 2 smC W v1 ls := by
    obtain ⟨a1, len1, cap1, rfl⟩ := okWide_slice Try.underlying63 (hval 1 63 v1 rfl rfl)
    obtain ⟨fuel, hf⟩ := h1
    exact openSms hf
  clear hA0 hval0
  refine (matchLaw v0 z0 v1 z1 W r0 r1).mono fun e W' ⟨he, bel⟩ => ?_
  subst he
  exact ⟨_, rfl, _, _, _, [], _, [], hW', trodAll_mk1 (shut_bool Try.underlying4 _), (trodAll_cons_mk (Below.trod laidOut (by kernel_rfl) (of_decide_eq_true (by kernel_rfl)) h0 bel lt0) (trodAll_cons_mk (Below.trod laidOut (by kernel_rfl) (of_decide_eq_true (by kernel_rfl)) h1 bel lt1) trodAll_mk0)), rfl, bel.frame _, fun h => by cases h⟩

theorem closed17 : joinedFacts Try.prog 17 Try.f17 Rows.fnExactMatch14Spec Rows.fnExactMatch14Row = true := by
  have h1 : Try.prog.stopsHeard = true := fHeard
  have h2 : Try.prog.mayEnter = true := fEnter
  have h3 : (Rows.fnExactMatch14Row.lifted == Try.prog.liftsFinal) = true := fLift
  have h4 : (Try.prog.make == some Rows.fnExactMatch14Row.make) = true := fMake
  unfold joinedFacts
  rw [h1, h2, h3, h4]
  refine Eq.trans ?_ rfl
  kernel_rfl
theorem matchProved : Rows.FnExactMatch14Said :=
  OpenClaim.holds_of_wide 17 Try.f17 rfl rfl rfl rfl rfl rfl rfl ⟨rfl, rfl, rfl, rfl, rfl⟩ rfl rfl rfl rfl rfl (by kernel_rfl) Try.func17 closed17
    (of_decide_eq_true (by kernel_rfl)) (by unfold Func.isWrapper; first | (rw [if_pos (by decide +kernel)]; kernel_rfl) | (rw [if_neg (by decide +kernel)]; exact ⟨rfl, rfl⟩))
    (fun os started H enc _ => lifted17 os started H enc)
#print axioms matchProved

end Go.Proofs.Ytfbegonnbdakpaa

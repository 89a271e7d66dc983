/- An argument that is an event, opened: it reads as two numbers; no condition. -/
import Derived.Test.YtljejjfhlpjlfaaOpenD
namespace Go.Proofs.Ytljejjfhlpjlfaa
open Go.RowKit Go.ChangeShapes Go.WideShapes Go.ChangeAt
set_option linter.unusedVariables false
set_option linter.unusedSimpArgs false
set_option maxRecDepth 8000
section
variable {H : Type} {enc : TypeId × Value → H} {W : World} {base : Nat} {held : Bool}
theorem openEvent {v : Value} {d : DataW H} {p : List MemPlace} {r : Reach} {b0 : Nat} (hval : Value.okWide Try.prog W r b0 49 v) (h : DataW.Trod enc Try.prog W base (fun _ => true) held 49 v d p) : ∃ k i, v = .agg (H2 k i) := by
  obtain ⟨cells, rfl, hsz⟩ := okWide_struct (P := Try.prog) (t := 49) Try.underlying49 hval
  obtain ⟨fuel, hf⟩ := h
  obtain ⟨xs, k, -, -, hl, hxl, hx⟩ := DataW.trod_struct Try.underlying49 hf
  rw [cells49] at hsz
  obtain ⟨l⟩ := cells
  simp [Value.cells] at hl hsz
  match l, hsz with
  | [c0, c1], _ =>
    have g0 := hx 0 _ rfl
    have g1 := hx 1 _ rfl
    simp [cells3, Value.cells] at g0 g1
    rw [List.getElem?_eq_getElem (by rw [hxl]; decide)] at g0 g1
    obtain ⟨z0, e0, -⟩ := DataW.trod_int Try.underlying3 g0
    obtain ⟨z1, e1, -⟩ := DataW.trod_int Try.underlying3 g1
    simp at e0 e1
    subst e0 e1
    exact ⟨z0, z1, rfl⟩
end
end Go.Proofs.Ytljejjfhlpjlfaa

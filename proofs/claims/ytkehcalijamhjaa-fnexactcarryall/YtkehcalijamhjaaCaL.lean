/- FnExactCarryAll; no condition. -/
import Derived.Test.YtkehcalijamhjaaCaG
namespace Go.Proofs.Ytkehcalijamhjaa
open Go.RowKit Go.ChangeShapes Go.WideShapes Go.ChangeAt
set_option linter.unusedVariables false
set_option linter.unusedSimpArgs false
set_option maxRecDepth 8000
theorem Ts.small (t : Ts) (h : t.ok) : t.z0.length ≤ 24 ∧ t.z1.length ≤ 24 ∧ t.n0.length ≤ 60 ∧ t.n1.length ≤ 60 := by
  obtain ⟨⟨h1, h2⟩, h3, ⟨s0, q0, p0⟩, ⟨s1, q1, p1⟩⟩ := h
  exact ⟨h2, by omega, p0.1, p1.1⟩
theorem carryAllLaw (c0 c1 w0 w1 : Value) (l0 l1 : Int) (z0 z1 : List Int) (n0 n1 : Mvs) (w : World) (h : Rk w c0 c1 w0 w1 z0 z1 n0 n1) :
    Calls Try.prog 9 #[.agg (T6 c0 c1 l0 l1 w0 w1)] w fun e w' => e = .returned (.bool true) ∧ Below w.heap.size w w' := by
  by_cases hok : TOk z0 z1 l0 l1 n0 n1
  · have hs := Ts.small (Ts.mk l0 l1 z0 z1 n0 n1).all ((Ts.mk l0 l1 z0 z1 n0 n1).all_ok hok)
    exact carryAllLawG c0 c1 w0 w1 l0 l1 z0 z1 n0 n1 (Ts.mk l0 l1 z0 z1 n0 n1).all.l0 (Ts.mk l0 l1 z0 z1 n0 n1).all.l1 (Ts.mk l0 l1 z0 z1 n0 n1).all.z0 (Ts.mk l0 l1 z0 z1 n0 n1).all.z1 (Ts.mk l0 l1 z0 z1 n0 n1).all.n0 (Ts.mk l0 l1 z0 z1 n0 n1).all.n1 w h
      (fun W c0 c1 w0 w1 r hl => (carryAllM_c c0 c1 w0 w1 l0 l1 z0 z1 n0 n1 W r hl).mono (fun e w' p => p.1 hok))
      (fun W c0 c1 w0 w1 r hl => (carryAllI_c c0 c1 w0 w1 l0 l1 z0 z1 n0 n1 W r hl).mono (fun e w' p => p.1 hok))
      (fun hl => by omega)
  · exact carryAllLawG c0 c1 w0 w1 l0 l1 z0 z1 n0 n1 l0 l1 z0 z1 n0 n1 w h
      (fun W c0 c1 w0 w1 r hl => (carryAllM_c c0 c1 w0 w1 l0 l1 z0 z1 n0 n1 W r hl).mono (fun e w' p => p.2 hok))
      (fun W c0 c1 w0 w1 r hl => (carryAllI_c c0 c1 w0 w1 l0 l1 z0 z1 n0 n1 W r hl).mono (fun e w' p => p.2 hok))
      (fun hl => by omega)
end Go.Proofs.Ytkehcalijamhjaa

/- FnExactSeize; no condition. -/
import Derived.Test.YtkehcalijamhjaaSzG
import Derived.Test.YtkehcalijamhjaaSzI
import Derived.Test.YtkehcalijamhjaaSzX
namespace Go.Proofs.Ytkehcalijamhjaa
open Go.RowKit Go.ChangeShapes Go.WideShapes Go.ChangeAt
set_option linter.unusedVariables false
set_option linter.unusedSimpArgs false
set_option maxRecDepth 8000
theorem seizeLaw (c0 c1 w0 w1 : Value) (l0 l1 : Int) (z0 z1 : List Int) (n0 n1 : Mvs) (sd : Int) (w : World) (h : Rk w c0 c1 w0 w1 z0 z1 n0 n1) :
    Calls Try.prog 6 #[.agg (T6 c0 c1 l0 l1 w0 w1), .int .i64 sd] w fun e w' => e = .returned (.bool true) ∧ Below w.heap.size w w' := by
  by_cases hs0 : sd = 0
  · subst hs0
    by_cases hok : SzOk0 z0 z1 l0 l1 n0 n1
    · exact seizeLawG c0 c1 w0 w1 l0 l1 0 z0 z1 n0 n1 (z0.set (freeF z0 0).toNat 1) z1 n0 (n1 ++ [(1, (freeF z0 0))]) (freeF z0 0) w h
        (fun W c0 c1 w0 w1 r hl => (seizeM0_c c0 c1 w0 w1 l0 l1 z0 z1 n0 n1 W r hl).mono (fun e w' p => p.1 hok))
        (fun W c0 c1 w0 w1 r hl => (seizeI0_c c0 c1 w0 w1 l0 l1 z0 z1 n0 n1 W r hl).mono (fun e w' p => p.1 hok))
        (fun hl => by simp; omega)
    · exact seizeLawG c0 c1 w0 w1 l0 l1 0 z0 z1 n0 n1 z0 z1 n0 n1 (-1) w h
        (fun W c0 c1 w0 w1 r hl => (seizeM0_c c0 c1 w0 w1 l0 l1 z0 z1 n0 n1 W r hl).mono (fun e w' p => p.2 hok))
        (fun W c0 c1 w0 w1 r hl => (seizeI0_c c0 c1 w0 w1 l0 l1 z0 z1 n0 n1 W r hl).mono (fun e w' p => p.2 hok))
        (fun hl => by omega)
  by_cases hs1 : sd = 1
  · subst hs1
    by_cases hok : SzOk1 z0 z1 l0 l1 n0 n1
    · exact seizeLawG c0 c1 w0 w1 l0 l1 1 z0 z1 n0 n1 z0 (z1.set (freeF z1 1).toNat 1) (n0 ++ [(1, (freeF z1 1))]) n1 (freeF z1 1) w h
        (fun W c0 c1 w0 w1 r hl => (seizeM1_c c0 c1 w0 w1 l0 l1 z0 z1 n0 n1 W r hl).mono (fun e w' p => p.1 hok))
        (fun W c0 c1 w0 w1 r hl => (seizeI1_c c0 c1 w0 w1 l0 l1 z0 z1 n0 n1 W r hl).mono (fun e w' p => p.1 hok))
        (fun hl => by simp; omega)
    · exact seizeLawG c0 c1 w0 w1 l0 l1 1 z0 z1 n0 n1 z0 z1 n0 n1 (-1) w h
        (fun W c0 c1 w0 w1 r hl => (seizeM1_c c0 c1 w0 w1 l0 l1 z0 z1 n0 n1 W r hl).mono (fun e w' p => p.2 hok))
        (fun W c0 c1 w0 w1 r hl => (seizeI1_c c0 c1 w0 w1 l0 l1 z0 z1 n0 n1 W r hl).mono (fun e w' p => p.2 hok))
        (fun hl => by omega)
  have hsd : ¬ (0 ≤ sd ∧ sd ≤ 1) := by omega
  exact seizeLawG c0 c1 w0 w1 l0 l1 sd z0 z1 n0 n1 z0 z1 n0 n1 (-1) w h
    (fun W c0 c1 w0 w1 r hl => seizeMx_c c0 c1 w0 w1 l0 l1 z0 z1 n0 n1 sd hsd W r hl)
    (fun W c0 c1 w0 w1 r hl => seizeIx_c c0 c1 w0 w1 l0 l1 z0 z1 n0 n1 sd hsd W r hl)
    (fun hl => by omega)
end Go.Proofs.Ytkehcalijamhjaa

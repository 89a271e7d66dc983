/- FnExactLeave; no condition. -/
import Derived.Test.YtkehcalijamhjaaLvG
import Derived.Test.YtkehcalijamhjaaLvI
import Derived.Test.YtkehcalijamhjaaLvX
namespace Go.Proofs.Ytkehcalijamhjaa
open Go.RowKit Go.ChangeShapes Go.WideShapes Go.ChangeAt
set_option linter.unusedVariables false
set_option linter.unusedSimpArgs false
set_option maxRecDepth 8000
theorem leaveLaw (c0 c1 w0 w1 : Value) (l0 l1 : Int) (z0 z1 : List Int) (n0 n1 : Mvs) (sd c : Int) (w : World) (h : Rk w c0 c1 w0 w1 z0 z1 n0 n1) :
    Calls Try.prog 7 #[.agg (T6 c0 c1 l0 l1 w0 w1), .int .i64 sd, .int .i64 c] w fun e w' => e = .returned (.bool true) ∧ Below w.heap.size w w' := by
  by_cases hs0 : sd = 0
  · subst hs0
    by_cases hok : LvOk0 c z0 z1 l0 l1 n0 n1
    · exact leaveLawG c0 c1 w0 w1 l0 l1 0 c z0 z1 n0 n1 (z0.set c.toNat 4) z1 n0 (n1 ++ [(4, c)]) true w h
        (fun W c0 c1 w0 w1 r hl => (leaveM0_c c0 c1 w0 w1 l0 l1 z0 z1 n0 n1 c W r hl).mono (fun e w' p => p.1 hok))
        (fun W c0 c1 w0 w1 r hl => (leaveI0_c c0 c1 w0 w1 l0 l1 z0 z1 n0 n1 c W r hl).mono (fun e w' p => p.1 hok))
        (fun hl => by simp; omega)
    · exact leaveLawG c0 c1 w0 w1 l0 l1 0 c z0 z1 n0 n1 z0 z1 n0 n1 false w h
        (fun W c0 c1 w0 w1 r hl => (leaveM0_c c0 c1 w0 w1 l0 l1 z0 z1 n0 n1 c W r hl).mono (fun e w' p => p.2 hok))
        (fun W c0 c1 w0 w1 r hl => (leaveI0_c c0 c1 w0 w1 l0 l1 z0 z1 n0 n1 c W r hl).mono (fun e w' p => p.2 hok))
        (fun hl => by omega)
  by_cases hs1 : sd = 1
  · subst hs1
    by_cases hok : LvOk1 c z0 z1 l0 l1 n0 n1
    · exact leaveLawG c0 c1 w0 w1 l0 l1 1 c z0 z1 n0 n1 z0 (z1.set c.toNat 4) (n0 ++ [(4, c)]) n1 true w h
        (fun W c0 c1 w0 w1 r hl => (leaveM1_c c0 c1 w0 w1 l0 l1 z0 z1 n0 n1 c W r hl).mono (fun e w' p => p.1 hok))
        (fun W c0 c1 w0 w1 r hl => (leaveI1_c c0 c1 w0 w1 l0 l1 z0 z1 n0 n1 c W r hl).mono (fun e w' p => p.1 hok))
        (fun hl => by simp; omega)
    · exact leaveLawG c0 c1 w0 w1 l0 l1 1 c z0 z1 n0 n1 z0 z1 n0 n1 false w h
        (fun W c0 c1 w0 w1 r hl => (leaveM1_c c0 c1 w0 w1 l0 l1 z0 z1 n0 n1 c W r hl).mono (fun e w' p => p.2 hok))
        (fun W c0 c1 w0 w1 r hl => (leaveI1_c c0 c1 w0 w1 l0 l1 z0 z1 n0 n1 c W r hl).mono (fun e w' p => p.2 hok))
        (fun hl => by omega)
  have hsd : ¬ (0 ≤ sd ∧ sd ≤ 1) := by omega
  exact leaveLawG c0 c1 w0 w1 l0 l1 sd c z0 z1 n0 n1 z0 z1 n0 n1 false w h
    (fun W c0 c1 w0 w1 r hl => leaveMx_c c0 c1 w0 w1 l0 l1 z0 z1 n0 n1 sd c hsd W r hl)
    (fun W c0 c1 w0 w1 r hl => leaveIx_c c0 c1 w0 w1 l0 l1 z0 z1 n0 n1 sd c hsd W r hl)
    (fun hl => by omega)
end Go.Proofs.Ytkehcalijamhjaa

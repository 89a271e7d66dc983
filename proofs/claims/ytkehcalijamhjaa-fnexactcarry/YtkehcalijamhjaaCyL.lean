/- FnExactCarry; no condition. -/
import Derived.Test.YtkehcalijamhjaaCyG
import Derived.Test.YtkehcalijamhjaaCyX
import Derived.Test.YtkehcalijamhjaaCyI
namespace Go.Proofs.Ytkehcalijamhjaa
open Go.RowKit Go.ChangeShapes Go.WideShapes Go.ChangeAt
set_option linter.unusedVariables false
set_option linter.unusedSimpArgs false
set_option maxRecDepth 8000
theorem carryLaw (c0 c1 w0 w1 : Value) (l0 l1 : Int) (z0 z1 : List Int) (n0 n1 : Mvs) (sd : Int) (w : World) (h : Rk w c0 c1 w0 w1 z0 z1 n0 n1) :
    Calls Try.prog 8 #[.agg (T6 c0 c1 l0 l1 w0 w1), .int .i64 sd] w fun e w' => e = .returned (.bool true) ∧ Below w.heap.size w w' := by
  by_cases hs0 : sd = 0
  · subst hs0
    by_cases hok : CaOk0 z0 z1 l0 l1 n0 n1
    · exact carryLawG c0 c1 w0 w1 l0 l1 0 z0 z1 n0 n1 (l0 + (hearF ((n0.headD (0, 0)).1) (z0.getD ((n0.headD (0, 0)).2.toNat) 0) ((((n0.headD (0, 0)).2.toNat) : Int) % 2 == 0)).2.2) l1 (z0.set ((n0.headD (0, 0)).2.toNat) (hearF ((n0.headD (0, 0)).1) (z0.getD ((n0.headD (0, 0)).2.toNat) 0) ((((n0.headD (0, 0)).2.toNat) : Int) % 2 == 0)).1) z1 n0.tail (n1 ++ bkN0 z0 ((n0.headD (0, 0)).1) ((n0.headD (0, 0)).2.toNat)) true w h
        (fun W c0 c1 w0 w1 r hl => (carryM0_c c0 c1 w0 w1 l0 l1 z0 z1 n0 n1 W r hl).mono (fun e w' p => p.1 hok))
        (fun W c0 c1 w0 w1 r hl => (carryI0_c c0 c1 w0 w1 l0 l1 z0 z1 n0 n1 W r hl).mono (fun e w' p => p.1 hok))
        (fun hl => by have hbk : (bkN0 z0 ((n0.headD (0, 0)).1) ((n0.headD (0, 0)).2.toNat)).length ≤ 1 := (by unfold bkN0; split <;> simp)
                      simp only [List.length_set, List.length_append, List.length_tail]; omega)
    · exact carryLawG c0 c1 w0 w1 l0 l1 0 z0 z1 n0 n1 l0 l1 z0 z1 n0 n1 false w h
        (fun W c0 c1 w0 w1 r hl => (carryM0_c c0 c1 w0 w1 l0 l1 z0 z1 n0 n1 W r hl).mono (fun e w' p => p.2 hok))
        (fun W c0 c1 w0 w1 r hl => (carryI0_c c0 c1 w0 w1 l0 l1 z0 z1 n0 n1 W r hl).mono (fun e w' p => p.2 hok))
        (fun hl => by omega)
  by_cases hs1 : sd = 1
  · subst hs1
    by_cases hok : CaOk1 z0 z1 l0 l1 n0 n1
    · exact carryLawG c0 c1 w0 w1 l0 l1 1 z0 z1 n0 n1 l0 (l1 + (hearF ((n1.headD (0, 0)).1) (z1.getD ((n1.headD (0, 0)).2.toNat) 0) ((((n1.headD (0, 0)).2.toNat) : Int) % 2 == 1)).2.2) z0 (z1.set ((n1.headD (0, 0)).2.toNat) (hearF ((n1.headD (0, 0)).1) (z1.getD ((n1.headD (0, 0)).2.toNat) 0) ((((n1.headD (0, 0)).2.toNat) : Int) % 2 == 1)).1) (n0 ++ bkN1 z1 ((n1.headD (0, 0)).1) ((n1.headD (0, 0)).2.toNat)) n1.tail true w h
        (fun W c0 c1 w0 w1 r hl => (carryM1_c c0 c1 w0 w1 l0 l1 z0 z1 n0 n1 W r hl).mono (fun e w' p => p.1 hok))
        (fun W c0 c1 w0 w1 r hl => (carryI1_c c0 c1 w0 w1 l0 l1 z0 z1 n0 n1 W r hl).mono (fun e w' p => p.1 hok))
        (fun hl => by have hbk : (bkN1 z1 ((n1.headD (0, 0)).1) ((n1.headD (0, 0)).2.toNat)).length ≤ 1 := (by unfold bkN1; split <;> simp)
                      simp only [List.length_set, List.length_append, List.length_tail]; omega)
    · exact carryLawG c0 c1 w0 w1 l0 l1 1 z0 z1 n0 n1 l0 l1 z0 z1 n0 n1 false w h
        (fun W c0 c1 w0 w1 r hl => (carryM1_c c0 c1 w0 w1 l0 l1 z0 z1 n0 n1 W r hl).mono (fun e w' p => p.2 hok))
        (fun W c0 c1 w0 w1 r hl => (carryI1_c c0 c1 w0 w1 l0 l1 z0 z1 n0 n1 W r hl).mono (fun e w' p => p.2 hok))
        (fun hl => by omega)
  have hsd : ¬ (0 ≤ sd ∧ sd ≤ 1) := by omega
  exact carryLawG c0 c1 w0 w1 l0 l1 sd z0 z1 n0 n1 l0 l1 z0 z1 n0 n1 false w h
    (fun W c0 c1 w0 w1 r hl => carryMx_c c0 c1 w0 w1 l0 l1 z0 z1 n0 n1 sd hsd W r hl)
    (fun W c0 c1 w0 w1 r hl => carryIx_c c0 c1 w0 w1 l0 l1 z0 z1 n0 n1 sd hsd W r hl)
    (fun hl => by omega)
end Go.Proofs.Ytkehcalijamhjaa

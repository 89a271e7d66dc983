/-
  NARROWER THAN 'FOR EVERY INPUT', by the rows' own cells (each row's printed sentence says how): FnDigitFound: laid · FnSilence: laid · FnExactTone13: laid · FnExactDigit: laid · FnExactDigits13: laid.
  DERIVED. THE GIVEN ROWS OF THIS SEAT. 5 by the template 'for every input the law returns true; each argument reads behind the call as it read before'; 0 by the template 'total and deterministic' (their statements: YtgdejlofkjdkoaaDoorTotals.lean).
  GIVEN WITH THE SEED: the statements are not yours to turn. If you find one false, say at which input.
  Laid BY PROGRAM, IN A SANDBOX (cutbox-rows.mjs): the forced cells as the released guide's own fill.sh prints them over the translation 267d40086f8f57f3… (all of the seat's roots in one cut). By AI agents, Wed Nov 11 2026. No macro, syntax, notation, axiom, sorry.
-/
import Derived.Test.YtgdejlofkjdkoaaDoorChecked
import GoSem.Claim
import GoSem.ClaimJoined
import GoSem.ClaimMapViews
import Derived.JoinedTies
import Derived.KernelRfl
namespace Go.Proofs.YtgdejlofkjdkoaaDoor
/- THE CELL 'sum', in the pinned program and in every row, IS THE sha256 OF THE DUMP (.gsa) THAT YtgdejlofkjdkoaaDoorProg.lean LOADS. Nothing in Lean hashes anything: it is a label: what it is worth is what the hold of that sum in a sandbox is worth. -/
noncomputable def Tryd.pinned : Pinned := { name := "ytgdejlofkjdkoaadoor", sum := "267d40086f8f57f31d119d4415b72cfeecbd6063582445d2d5c48022b1295cec", checked := Tryd.checked }
namespace Rows
def none {H : Type} : Left H := { results := [], args := [] }

/- WHAT THE LISTED PACKAGE-LEVEL VARIABLES READ AS WHEN THE CALL BEGINS. Each datum BY PROGRAM (the guide's laid-datum.mjs) off the statement by which the dump's own 'gosem.cut.vars' lays the variable. In a bare row this is a premise. The card (YtgdejlofkjdkoaaDoorCards.lean) ties it to the program's text. -/
def laid_loop_example_g00052_impl_rowSteps {H : Type} : DataW H := .agg [.lit (.int .i64 12), .lit (.int .i64 14), .lit (.int .i64 16), .lit (.int .i64 18)]
def laid_loop_example_g00052_impl_columnSteps {H : Type} : DataW H := .agg [.lit (.int .i64 22), .lit (.int .i64 26), .lit (.int .i64 30), .lit (.int .i64 34)]

/-- 'laws.FnDigitFound': WHATEVER THE INPUT: true; the input reads as it did. -/
def fnDigitFoundSpec : ChangeSpec := { name := "fnDigitFound", vars := ["loop.example/g00052/impl.rowSteps", "loop.example/g00052/impl.columnSteps"], fn := fun _ => fun
  | [d, g1, g2] => { results := [.lit (.bool true)], args := [d], vars := [g1, g2] }
  | _ => none }
def fnDigitFoundRow : OpenClaim := { program := "ytgdejlofkjdkoaadoor", sum := "267d40086f8f57f31d119d4415b72cfeecbd6063582445d2d5c48022b1295cec", func := "loop.example/g00052/laws.FnDigitFound", spec := "fnDigitFound", named := ["loop.example/g00052/impl.rowSteps", "loop.example/g00052/impl.columnSteps"], apart := false, laid := [("loop.example/g00052/impl.rowSteps", laid_loop_example_g00052_impl_rowSteps), ("loop.example/g00052/impl.columnSteps", laid_loop_example_g00052_impl_columnSteps)] }
def FnDigitFoundSaid : Prop := fnDigitFoundRow.holds Tryd.pinned (OpenSpec.ofChange fnDigitFoundSpec)

/-- ITS FALSE NEIGHBOUR: 'it returns false'. Refute it at one input. -/
def fnDigitFoundWrong : ChangeSpec := { name := "fnDigitFound", vars := ["loop.example/g00052/impl.rowSteps", "loop.example/g00052/impl.columnSteps"], fn := fun _ => fun
  | [d, g1, g2] => { results := [.lit (.bool false)], args := [d], vars := [g1, g2] }
  | _ => none }
def FnDigitFoundWrongFalsely : Prop := fnDigitFoundRow.holds Tryd.pinned (OpenSpec.ofChange fnDigitFoundWrong)

/-- 'laws.FnSilence': WHATEVER THE INPUT: true; the input reads as it did. -/
def fnSilenceSpec : ChangeSpec := { name := "fnSilence", vars := ["loop.example/g00052/impl.rowSteps", "loop.example/g00052/impl.columnSteps"], fn := fun _ => fun
  | [d, g1, g2] => { results := [.lit (.bool true)], args := [d], vars := [g1, g2] }
  | _ => none }
def fnSilenceRow : OpenClaim := { program := "ytgdejlofkjdkoaadoor", sum := "267d40086f8f57f31d119d4415b72cfeecbd6063582445d2d5c48022b1295cec", func := "loop.example/g00052/laws.FnSilence", spec := "fnSilence", named := ["loop.example/g00052/impl.rowSteps", "loop.example/g00052/impl.columnSteps"], apart := false, laid := [("loop.example/g00052/impl.rowSteps", laid_loop_example_g00052_impl_rowSteps), ("loop.example/g00052/impl.columnSteps", laid_loop_example_g00052_impl_columnSteps)] }
def FnSilenceSaid : Prop := fnSilenceRow.holds Tryd.pinned (OpenSpec.ofChange fnSilenceSpec)

/-- ITS FALSE NEIGHBOUR: 'it returns false'. Refute it at one input. -/
def fnSilenceWrong : ChangeSpec := { name := "fnSilence", vars := ["loop.example/g00052/impl.rowSteps", "loop.example/g00052/impl.columnSteps"], fn := fun _ => fun
  | [d, g1, g2] => { results := [.lit (.bool false)], args := [d], vars := [g1, g2] }
  | _ => none }
def FnSilenceWrongFalsely : Prop := fnSilenceRow.holds Tryd.pinned (OpenSpec.ofChange fnSilenceWrong)

/-- 'laws.FnExactTone13': WHATEVER THE INPUT: true; the input reads as it did. -/
def fnExactTone13Spec : ChangeSpec := { name := "fnExactTone13", vars := ["loop.example/g00052/impl.rowSteps", "loop.example/g00052/impl.columnSteps"], fn := fun _ => fun
  | [d1, d2, d3, d4, g1, g2] => { results := [.lit (.bool true)], args := [d1, d2, d3, d4], vars := [g1, g2] }
  | _ => none }
def fnExactTone13Row : OpenClaim := { program := "ytgdejlofkjdkoaadoor", sum := "267d40086f8f57f31d119d4415b72cfeecbd6063582445d2d5c48022b1295cec", func := "loop.example/g00052/laws.FnExactTone13", spec := "fnExactTone13", named := ["loop.example/g00052/impl.rowSteps", "loop.example/g00052/impl.columnSteps"], apart := false, laid := [("loop.example/g00052/impl.rowSteps", laid_loop_example_g00052_impl_rowSteps), ("loop.example/g00052/impl.columnSteps", laid_loop_example_g00052_impl_columnSteps)] }
def FnExactTone13Said : Prop := fnExactTone13Row.holds Tryd.pinned (OpenSpec.ofChange fnExactTone13Spec)

/-- ITS FALSE NEIGHBOUR: 'it returns false'. Refute it at one input. -/
def fnExactTone13Wrong : ChangeSpec := { name := "fnExactTone13", vars := ["loop.example/g00052/impl.rowSteps", "loop.example/g00052/impl.columnSteps"], fn := fun _ => fun
  | [d1, d2, d3, d4, g1, g2] => { results := [.lit (.bool false)], args := [d1, d2, d3, d4], vars := [g1, g2] }
  | _ => none }
def FnExactTone13WrongFalsely : Prop := fnExactTone13Row.holds Tryd.pinned (OpenSpec.ofChange fnExactTone13Wrong)

/-- 'laws.FnExactDigit': WHATEVER THE INPUT: true; the input reads as it did. -/
def fnExactDigitSpec : ChangeSpec := { name := "fnExactDigit", vars := ["loop.example/g00052/impl.rowSteps", "loop.example/g00052/impl.columnSteps"], fn := fun _ => fun
  | [d, g1, g2] => { results := [.lit (.bool true)], args := [d], vars := [g1, g2] }
  | _ => none }
def fnExactDigitRow : OpenClaim := { program := "ytgdejlofkjdkoaadoor", sum := "267d40086f8f57f31d119d4415b72cfeecbd6063582445d2d5c48022b1295cec", func := "loop.example/g00052/laws.FnExactDigit", spec := "fnExactDigit", named := ["loop.example/g00052/impl.rowSteps", "loop.example/g00052/impl.columnSteps"], apart := false, laid := [("loop.example/g00052/impl.rowSteps", laid_loop_example_g00052_impl_rowSteps), ("loop.example/g00052/impl.columnSteps", laid_loop_example_g00052_impl_columnSteps)] }
def FnExactDigitSaid : Prop := fnExactDigitRow.holds Tryd.pinned (OpenSpec.ofChange fnExactDigitSpec)

/-- ITS FALSE NEIGHBOUR: 'it returns false'. Refute it at one input. -/
def fnExactDigitWrong : ChangeSpec := { name := "fnExactDigit", vars := ["loop.example/g00052/impl.rowSteps", "loop.example/g00052/impl.columnSteps"], fn := fun _ => fun
  | [d, g1, g2] => { results := [.lit (.bool false)], args := [d], vars := [g1, g2] }
  | _ => none }
def FnExactDigitWrongFalsely : Prop := fnExactDigitRow.holds Tryd.pinned (OpenSpec.ofChange fnExactDigitWrong)

/-- 'laws.FnExactDigits13': WHATEVER THE INPUT: true; the input reads as it did. -/
def fnExactDigits13Spec : ChangeSpec := { name := "fnExactDigits13", vars := ["loop.example/g00052/impl.rowSteps", "loop.example/g00052/impl.columnSteps"], fn := fun _ => fun
  | [d, g1, g2] => { results := [.lit (.bool true)], args := [d], vars := [g1, g2] }
  | _ => none }
def fnExactDigits13Row : OpenClaim := { program := "ytgdejlofkjdkoaadoor", sum := "267d40086f8f57f31d119d4415b72cfeecbd6063582445d2d5c48022b1295cec", func := "loop.example/g00052/laws.FnExactDigits13", spec := "fnExactDigits13", named := ["loop.example/g00052/impl.rowSteps", "loop.example/g00052/impl.columnSteps"], apart := false, laid := [("loop.example/g00052/impl.rowSteps", laid_loop_example_g00052_impl_rowSteps), ("loop.example/g00052/impl.columnSteps", laid_loop_example_g00052_impl_columnSteps)] }
def FnExactDigits13Said : Prop := fnExactDigits13Row.holds Tryd.pinned (OpenSpec.ofChange fnExactDigits13Spec)

/-- ITS FALSE NEIGHBOUR: 'it returns false'. Refute it at one input. -/
def fnExactDigits13Wrong : ChangeSpec := { name := "fnExactDigits13", vars := ["loop.example/g00052/impl.rowSteps", "loop.example/g00052/impl.columnSteps"], fn := fun _ => fun
  | [d, g1, g2] => { results := [.lit (.bool false)], args := [d], vars := [g1, g2] }
  | _ => none }
def FnExactDigits13WrongFalsely : Prop := fnExactDigits13Row.holds Tryd.pinned (OpenSpec.ofChange fnExactDigits13Wrong)

/- THE SECOND FORM. 'bulk': how many values and letters a reading holds, each counted each time it is reached (what is shared counts as often as it is met; a slice's spare places count too). A statement '..UptoSaid' is the law's where the arguments, and the package variables that the reading takes, are together of bulk at most 1048576: NARROWER than '..Said'. Prove '..Said' where nothing that the law and all that it calls make is longer than what came in: it says more and counts as full. Else prove '..UptoSaid'. A law counts once. -/
mutual
def uptoBulk {H : Type} : DataW H → Nat
  | .lit (.string bytes) => bytes.length + 1
  | .lit _ => 1
  | .nil => 1
  | .ptr d => uptoBulk d + 1
  | .slice elems spare => uptoBulkAll elems + uptoBulkAll spare + 1
  | .agg parts => uptoBulkAll parts + 1
  | .iface _ d => uptoBulk d + 1
  | .map entries => uptoBulkEntries entries + 1
  | .held _ => 1
def uptoBulkAll {H : Type} : List (DataW H) → Nat
  | [] => 0
  | d :: r => uptoBulk d + uptoBulkAll r
def uptoBulkEntries {H : Type} : List (Lit × DataW H) → Nat
  | [] => 0
  | x :: r => uptoBulkEntry x + uptoBulkEntries r
def uptoBulkEntry {H : Type} : Lit × DataW H → Nat
  | (.string bytes, d) => bytes.length + uptoBulk d + 1
  | (_, d) => uptoBulk d + 1
 end
def uptoSmall : (H : Type) → List (DataW H) → Bool := fun _ ds => decide (uptoBulkAll ds ≤ 1048576)
def OpenSpec.upto (s : _root_.Go.ChangeSpec) : _root_.Go.OpenSpec := { _root_.Go.OpenSpec.ofChange s with cond := some uptoSmall }

/-- 'laws.FnDigitFound', WHERE WHAT IT READS IS OF BULK AT MOST 1048576: true; the input reads as it did. -/
def fnDigitFoundUptoRow : OpenClaim := { program := "ytgdejlofkjdkoaadoor", sum := "267d40086f8f57f31d119d4415b72cfeecbd6063582445d2d5c48022b1295cec", func := "loop.example/g00052/laws.FnDigitFound", spec := "fnDigitFound", named := ["loop.example/g00052/impl.rowSteps", "loop.example/g00052/impl.columnSteps"], apart := false, laid := [("loop.example/g00052/impl.rowSteps", laid_loop_example_g00052_impl_rowSteps), ("loop.example/g00052/impl.columnSteps", laid_loop_example_g00052_impl_columnSteps)], narrowed := true }
def FnDigitFoundUptoSaid : Prop := fnDigitFoundUptoRow.holds Tryd.pinned (OpenSpec.upto fnDigitFoundSpec)

/-- 'laws.FnSilence', WHERE WHAT IT READS IS OF BULK AT MOST 1048576: true; the input reads as it did. -/
def fnSilenceUptoRow : OpenClaim := { program := "ytgdejlofkjdkoaadoor", sum := "267d40086f8f57f31d119d4415b72cfeecbd6063582445d2d5c48022b1295cec", func := "loop.example/g00052/laws.FnSilence", spec := "fnSilence", named := ["loop.example/g00052/impl.rowSteps", "loop.example/g00052/impl.columnSteps"], apart := false, laid := [("loop.example/g00052/impl.rowSteps", laid_loop_example_g00052_impl_rowSteps), ("loop.example/g00052/impl.columnSteps", laid_loop_example_g00052_impl_columnSteps)], narrowed := true }
def FnSilenceUptoSaid : Prop := fnSilenceUptoRow.holds Tryd.pinned (OpenSpec.upto fnSilenceSpec)

/-- 'laws.FnExactTone13', WHERE WHAT IT READS IS OF BULK AT MOST 1048576: true; the input reads as it did. -/
def fnExactTone13UptoRow : OpenClaim := { program := "ytgdejlofkjdkoaadoor", sum := "267d40086f8f57f31d119d4415b72cfeecbd6063582445d2d5c48022b1295cec", func := "loop.example/g00052/laws.FnExactTone13", spec := "fnExactTone13", named := ["loop.example/g00052/impl.rowSteps", "loop.example/g00052/impl.columnSteps"], apart := false, laid := [("loop.example/g00052/impl.rowSteps", laid_loop_example_g00052_impl_rowSteps), ("loop.example/g00052/impl.columnSteps", laid_loop_example_g00052_impl_columnSteps)], narrowed := true }
def FnExactTone13UptoSaid : Prop := fnExactTone13UptoRow.holds Tryd.pinned (OpenSpec.upto fnExactTone13Spec)

/-- 'laws.FnExactDigit', WHERE WHAT IT READS IS OF BULK AT MOST 1048576: true; the input reads as it did. -/
def fnExactDigitUptoRow : OpenClaim := { program := "ytgdejlofkjdkoaadoor", sum := "267d40086f8f57f31d119d4415b72cfeecbd6063582445d2d5c48022b1295cec", func := "loop.example/g00052/laws.FnExactDigit", spec := "fnExactDigit", named := ["loop.example/g00052/impl.rowSteps", "loop.example/g00052/impl.columnSteps"], apart := false, laid := [("loop.example/g00052/impl.rowSteps", laid_loop_example_g00052_impl_rowSteps), ("loop.example/g00052/impl.columnSteps", laid_loop_example_g00052_impl_columnSteps)], narrowed := true }
def FnExactDigitUptoSaid : Prop := fnExactDigitUptoRow.holds Tryd.pinned (OpenSpec.upto fnExactDigitSpec)

/-- 'laws.FnExactDigits13', WHERE WHAT IT READS IS OF BULK AT MOST 1048576: true; the input reads as it did. -/
def fnExactDigits13UptoRow : OpenClaim := { program := "ytgdejlofkjdkoaadoor", sum := "267d40086f8f57f31d119d4415b72cfeecbd6063582445d2d5c48022b1295cec", func := "loop.example/g00052/laws.FnExactDigits13", spec := "fnExactDigits13", named := ["loop.example/g00052/impl.rowSteps", "loop.example/g00052/impl.columnSteps"], apart := false, laid := [("loop.example/g00052/impl.rowSteps", laid_loop_example_g00052_impl_rowSteps), ("loop.example/g00052/impl.columnSteps", laid_loop_example_g00052_impl_columnSteps)], narrowed := true }
def FnExactDigits13UptoSaid : Prop := fnExactDigits13UptoRow.holds Tryd.pinned (OpenSpec.upto fnExactDigits13Spec)

end Rows
end Go.Proofs.YtgdejlofkjdkoaaDoor

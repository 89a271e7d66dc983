/-
  NARROWER THAN 'FOR EVERY INPUT', by the rows' own cells (each row's printed sentence says how): FnMendedBook: laid · FnBooked: laid · FnExactFaults: laid · FnExactAdd18: laid.
  DERIVED. THE GIVEN ROWS OF THIS SEAT. 4 by the template 'for every input the law returns true; each argument reads behind the call as it read before'; 0 by the template 'total and deterministic' (their statements: YtmfmlbiplagmiaaDoorTotals.lean).
  GIVEN WITH THE SEED: the statements are not yours to turn. If you find one false, say at which input.
  Laid BY PROGRAM, IN A SANDBOX (cutbox-rows.mjs): the forced cells as the released guide's own fill.sh prints them over the translation 614035371cdd2e41… (all of the seat's roots in one cut). By AI agents, Wed Nov 11 2026. No macro, syntax, notation, axiom, sorry.
-/
import Derived.Test.YtmfmlbiplagmiaaDoorChecked
import GoSem.Claim
import GoSem.ClaimJoined
import GoSem.ClaimMapViews
import Derived.JoinedTies
import Derived.KernelRfl
namespace Go.Proofs.YtmfmlbiplagmiaaDoor
/- THE CELL 'sum', in the pinned program and in every row, IS THE sha256 OF THE DUMP (.gsa) THAT YtmfmlbiplagmiaaDoorProg.lean LOADS. Nothing in Lean hashes anything: it is a label: what it is worth is what the hold of that sum in a sandbox is worth. -/
noncomputable def Tryd.pinned : Pinned := { name := "ytmfmlbiplagmiaadoor", sum := "614035371cdd2e41de619504c427d2ce775e96a7375284489335fded0192b557", checked := Tryd.checked }
namespace Rows
def none {H : Type} : Left H := { results := [], args := [] }

/- WHAT THE LISTED PACKAGE-LEVEL VARIABLES READ AS WHEN THE CALL BEGINS. Each datum BY PROGRAM (the guide's laid-datum.mjs) off the statement by which the dump's own 'gosem.cut.vars' lays the variable. In a bare row this is a premise. The card (YtmfmlbiplagmiaaDoorCards.lean) ties it to the program's text. -/
def laid_errors_errorType {H : Type} : DataW H := .iface "internal/reflectlite.rtype" (.agg [.ptr (.lit (.string [101, 114, 114, 111, 114]))])

/-- 'laws.FnMendedBook': WHATEVER THE INPUT: true; the input reads as it did. -/
def fnMendedBookSpec : ChangeSpec := { name := "fnMendedBook", fn := fun _ => fun
  | [d] => { results := [.lit (.bool true)], args := [d] }
  | _ => none }
def fnMendedBookRow : OpenClaim := { program := "ytmfmlbiplagmiaadoor", sum := "614035371cdd2e41de619504c427d2ce775e96a7375284489335fded0192b557", func := "loop.example/g00052/laws.FnMendedBook", spec := "fnMendedBook", inPlace := ["internal/reflectlite.ValueOf", "(internal/reflectlite.Value).Type", "(internal/reflectlite.Value).IsNil", "internal/reflectlite.TypeOf", "(internal/reflectlite.Value).Elem", "(internal/reflectlite.Value).Set"], unfollowed := true, recurses := true, named := ["errors.errorType"], apart := false, laid := [("errors.errorType", laid_errors_errorType)] }
def FnMendedBookSaid : Prop := fnMendedBookRow.holds Tryd.pinned (OpenSpec.ofChange fnMendedBookSpec)

/-- ITS FALSE NEIGHBOUR: 'it returns false'. Refute it at one input. -/
def fnMendedBookWrong : ChangeSpec := { name := "fnMendedBook", fn := fun _ => fun
  | [d] => { results := [.lit (.bool false)], args := [d] }
  | _ => none }
def FnMendedBookWrongFalsely : Prop := fnMendedBookRow.holds Tryd.pinned (OpenSpec.ofChange fnMendedBookWrong)

/-- 'laws.FnBooked': WHATEVER THE INPUT: true; the input reads as it did. -/
def fnBookedSpec : ChangeSpec := { name := "fnBooked", fn := fun _ => fun
  | [d] => { results := [.lit (.bool true)], args := [d] }
  | _ => none }
def fnBookedRow : OpenClaim := { program := "ytmfmlbiplagmiaadoor", sum := "614035371cdd2e41de619504c427d2ce775e96a7375284489335fded0192b557", func := "loop.example/g00052/laws.FnBooked", spec := "fnBooked", inPlace := ["internal/reflectlite.ValueOf", "(internal/reflectlite.Value).Type", "(internal/reflectlite.Value).IsNil", "internal/reflectlite.TypeOf", "(internal/reflectlite.Value).Elem", "(internal/reflectlite.Value).Set"], unfollowed := true, recurses := true, named := ["errors.errorType"], apart := false, laid := [("errors.errorType", laid_errors_errorType)] }
def FnBookedSaid : Prop := fnBookedRow.holds Tryd.pinned (OpenSpec.ofChange fnBookedSpec)

/-- ITS FALSE NEIGHBOUR: 'it returns false'. Refute it at one input. -/
def fnBookedWrong : ChangeSpec := { name := "fnBooked", fn := fun _ => fun
  | [d] => { results := [.lit (.bool false)], args := [d] }
  | _ => none }
def FnBookedWrongFalsely : Prop := fnBookedRow.holds Tryd.pinned (OpenSpec.ofChange fnBookedWrong)

/-- 'laws.FnExactFaults': WHATEVER THE INPUT: true; the input reads as it did. -/
def fnExactFaultsSpec : ChangeSpec := { name := "fnExactFaults", fn := fun _ => fun
  | [d] => { results := [.lit (.bool true)], args := [d] }
  | _ => none }
def fnExactFaultsRow : OpenClaim := { program := "ytmfmlbiplagmiaadoor", sum := "614035371cdd2e41de619504c427d2ce775e96a7375284489335fded0192b557", func := "loop.example/g00052/laws.FnExactFaults", spec := "fnExactFaults", inPlace := ["internal/reflectlite.ValueOf", "(internal/reflectlite.Value).Type", "(internal/reflectlite.Value).IsNil", "internal/reflectlite.TypeOf", "(internal/reflectlite.Value).Elem", "(internal/reflectlite.Value).Set"], unfollowed := true, recurses := true, named := ["errors.errorType"], apart := false, laid := [("errors.errorType", laid_errors_errorType)] }
def FnExactFaultsSaid : Prop := fnExactFaultsRow.holds Tryd.pinned (OpenSpec.ofChange fnExactFaultsSpec)

/-- ITS FALSE NEIGHBOUR: 'it returns false'. Refute it at one input. -/
def fnExactFaultsWrong : ChangeSpec := { name := "fnExactFaults", fn := fun _ => fun
  | [d] => { results := [.lit (.bool false)], args := [d] }
  | _ => none }
def FnExactFaultsWrongFalsely : Prop := fnExactFaultsRow.holds Tryd.pinned (OpenSpec.ofChange fnExactFaultsWrong)

/-- 'laws.FnExactAdd18': WHATEVER THE INPUT: true; the input reads as it did. -/
def fnExactAdd18Spec : ChangeSpec := { name := "fnExactAdd18", fn := fun _ => fun
  | [d1, d2] => { results := [.lit (.bool true)], args := [d1, d2] }
  | _ => none }
def fnExactAdd18Row : OpenClaim := { program := "ytmfmlbiplagmiaadoor", sum := "614035371cdd2e41de619504c427d2ce775e96a7375284489335fded0192b557", func := "loop.example/g00052/laws.FnExactAdd18", spec := "fnExactAdd18", inPlace := ["internal/reflectlite.ValueOf", "(internal/reflectlite.Value).Type", "(internal/reflectlite.Value).IsNil", "internal/reflectlite.TypeOf", "(internal/reflectlite.Value).Elem", "(internal/reflectlite.Value).Set"], unfollowed := true, recurses := true, named := ["errors.errorType"], apart := false, laid := [("errors.errorType", laid_errors_errorType)] }
def FnExactAdd18Said : Prop := fnExactAdd18Row.holds Tryd.pinned (OpenSpec.ofChange fnExactAdd18Spec)

/-- ITS FALSE NEIGHBOUR: 'it returns false'. Refute it at one input. -/
def fnExactAdd18Wrong : ChangeSpec := { name := "fnExactAdd18", fn := fun _ => fun
  | [d1, d2] => { results := [.lit (.bool false)], args := [d1, d2] }
  | _ => none }
def FnExactAdd18WrongFalsely : Prop := fnExactAdd18Row.holds Tryd.pinned (OpenSpec.ofChange fnExactAdd18Wrong)

/- THE SECOND FORM. 'bulk': how many values and letters a reading holds, each counted each time it is reached (what is shared counts as often as it is met; a slice's spare places count too). A statement '..UptoSaid' is the law's where the arguments, and the package variables that the reading takes, are together of bulk at most 1048576: NARROWER than '..Said'. Prove '..Said' where nothing that the law and all that it calls make is longer than what came in: it says more and counts as full. Else prove '..UptoSaid'. A law counts once. -/
mutual
def uptoBulk {H : Type} : DataW H → Nat
  | .lit (.string bytes) => bytes.length + 1
  | .lit _ => 1
  | .nil => 1
  | .ptr d => uptoBulk d + 1
  | .slice elems spare => uptoBulkAll elems + uptoBulkAll spare + 1
  | .agg parts => uptoBulkAll parts + 1
  | .iface _ d => uptoBulk d + 1
  | .map entries => uptoBulkEntries entries + 1
  | .held _ => 1
def uptoBulkAll {H : Type} : List (DataW H) → Nat
  | [] => 0
  | d :: r => uptoBulk d + uptoBulkAll r
def uptoBulkEntries {H : Type} : List (Lit × DataW H) → Nat
  | [] => 0
  | x :: r => uptoBulkEntry x + uptoBulkEntries r
def uptoBulkEntry {H : Type} : Lit × DataW H → Nat
  | (.string bytes, d) => bytes.length + uptoBulk d + 1
  | (_, d) => uptoBulk d + 1
 end
def uptoSmall : (H : Type) → List (DataW H) → Bool := fun _ ds => decide (uptoBulkAll ds ≤ 1048576)
def OpenSpec.upto (s : _root_.Go.ChangeSpec) : _root_.Go.OpenSpec := { _root_.Go.OpenSpec.ofChange s with cond := some uptoSmall }

/-- 'laws.FnMendedBook', WHERE WHAT IT READS IS OF BULK AT MOST 1048576: true; the input reads as it did. -/
def fnMendedBookUptoRow : OpenClaim := { program := "ytmfmlbiplagmiaadoor", sum := "614035371cdd2e41de619504c427d2ce775e96a7375284489335fded0192b557", func := "loop.example/g00052/laws.FnMendedBook", spec := "fnMendedBook", inPlace := ["internal/reflectlite.ValueOf", "(internal/reflectlite.Value).Type", "(internal/reflectlite.Value).IsNil", "internal/reflectlite.TypeOf", "(internal/reflectlite.Value).Elem", "(internal/reflectlite.Value).Set"], unfollowed := true, recurses := true, named := ["errors.errorType"], apart := false, laid := [("errors.errorType", laid_errors_errorType)], narrowed := true }
def FnMendedBookUptoSaid : Prop := fnMendedBookUptoRow.holds Tryd.pinned (OpenSpec.upto fnMendedBookSpec)

/-- 'laws.FnBooked', WHERE WHAT IT READS IS OF BULK AT MOST 1048576: true; the input reads as it did. -/
def fnBookedUptoRow : OpenClaim := { program := "ytmfmlbiplagmiaadoor", sum := "614035371cdd2e41de619504c427d2ce775e96a7375284489335fded0192b557", func := "loop.example/g00052/laws.FnBooked", spec := "fnBooked", inPlace := ["internal/reflectlite.ValueOf", "(internal/reflectlite.Value).Type", "(internal/reflectlite.Value).IsNil", "internal/reflectlite.TypeOf", "(internal/reflectlite.Value).Elem", "(internal/reflectlite.Value).Set"], unfollowed := true, recurses := true, named := ["errors.errorType"], apart := false, laid := [("errors.errorType", laid_errors_errorType)], narrowed := true }
def FnBookedUptoSaid : Prop := fnBookedUptoRow.holds Tryd.pinned (OpenSpec.upto fnBookedSpec)

/-- 'laws.FnExactFaults', WHERE WHAT IT READS IS OF BULK AT MOST 1048576: true; the input reads as it did. -/
def fnExactFaultsUptoRow : OpenClaim := { program := "ytmfmlbiplagmiaadoor", sum := "614035371cdd2e41de619504c427d2ce775e96a7375284489335fded0192b557", func := "loop.example/g00052/laws.FnExactFaults", spec := "fnExactFaults", inPlace := ["internal/reflectlite.ValueOf", "(internal/reflectlite.Value).Type", "(internal/reflectlite.Value).IsNil", "internal/reflectlite.TypeOf", "(internal/reflectlite.Value).Elem", "(internal/reflectlite.Value).Set"], unfollowed := true, recurses := true, named := ["errors.errorType"], apart := false, laid := [("errors.errorType", laid_errors_errorType)], narrowed := true }
def FnExactFaultsUptoSaid : Prop := fnExactFaultsUptoRow.holds Tryd.pinned (OpenSpec.upto fnExactFaultsSpec)

/-- 'laws.FnExactAdd18', WHERE WHAT IT READS IS OF BULK AT MOST 1048576: true; the input reads as it did. -/
def fnExactAdd18UptoRow : OpenClaim := { program := "ytmfmlbiplagmiaadoor", sum := "614035371cdd2e41de619504c427d2ce775e96a7375284489335fded0192b557", func := "loop.example/g00052/laws.FnExactAdd18", spec := "fnExactAdd18", inPlace := ["internal/reflectlite.ValueOf", "(internal/reflectlite.Value).Type", "(internal/reflectlite.Value).IsNil", "internal/reflectlite.TypeOf", "(internal/reflectlite.Value).Elem", "(internal/reflectlite.Value).Set"], unfollowed := true, recurses := true, named := ["errors.errorType"], apart := false, laid := [("errors.errorType", laid_errors_errorType)], narrowed := true }
def FnExactAdd18UptoSaid : Prop := fnExactAdd18UptoRow.holds Tryd.pinned (OpenSpec.upto fnExactAdd18Spec)

end Rows
end Go.Proofs.YtmfmlbiplagmiaaDoor

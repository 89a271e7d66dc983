/-
  NARROWER THAN 'FOR EVERY INPUT', by the rows' own cells (each row's printed sentence says how): FnConnected: laid · FnNeeded3: laid · FnExactConnect: laid · FnExactRelease: laid · FnExactNeeds: laid.
  DERIVED. THE GIVEN ROWS OF THIS SEAT. 5 by the template 'for every input the law returns true; each argument reads behind the call as it read before'; 0 by the template 'total and deterministic' (their statements: YtikhfeafbckjlaaDoorTotals.lean).
  GIVEN WITH THE SEED: the statements are not yours to turn. If you find one false, say at which input.
  Laid BY PROGRAM, IN A SANDBOX (cutbox-rows.mjs): the forced cells as the released guide's own fill.sh prints them over the translation 60208865ef7f6bfb… (all of the seat's roots in one cut). By AI agents, Wed Nov 11 2026. No macro, syntax, notation, axiom, sorry.
-/
import Derived.Test.YtikhfeafbckjlaaDoorChecked
import GoSem.Claim
import GoSem.ClaimJoined
import GoSem.ClaimMapViews
import Derived.JoinedTies
import Derived.KernelRfl
namespace Go.Proofs.YtikhfeafbckjlaaDoor
/- THE CELL 'sum', in the pinned program and in every row, IS THE sha256 OF THE DUMP (.gsa) THAT YtikhfeafbckjlaaDoorProg.lean LOADS. Nothing in Lean hashes anything: it is a label: what it is worth is what the hold of that sum in a sandbox is worth. -/
noncomputable def Tryd.pinned : Pinned := { name := "ytikhfeafbckjlaadoor", sum := "60208865ef7f6bfbb1c8c927211472175768a9a92d5a7b2cef70bb707df1010e", checked := Tryd.checked }
namespace Rows
def none {H : Type} : Left H := { results := [], args := [] }

/- WHAT THE LISTED PACKAGE-LEVEL VARIABLES READ AS WHEN THE CALL BEGINS. Each datum BY PROGRAM (the guide's laid-datum.mjs) off the statement by which the dump's own 'gosem.cut.vars' lays the variable. In a bare row this is a premise. The card (YtikhfeafbckjlaaDoorCards.lean) ties it to the program's text. -/
def laid_math_bits_deBruijn32tab {H : Type} : DataW H := .agg [.lit (.int .u8 0), .lit (.int .u8 1), .lit (.int .u8 28), .lit (.int .u8 2), .lit (.int .u8 29), .lit (.int .u8 14), .lit (.int .u8 24), .lit (.int .u8 3), .lit (.int .u8 30), .lit (.int .u8 22), .lit (.int .u8 20), .lit (.int .u8 15), .lit (.int .u8 25), .lit (.int .u8 17), .lit (.int .u8 4), .lit (.int .u8 8), .lit (.int .u8 31), .lit (.int .u8 27), .lit (.int .u8 13), .lit (.int .u8 23), .lit (.int .u8 21), .lit (.int .u8 19), .lit (.int .u8 16), .lit (.int .u8 7), .lit (.int .u8 26), .lit (.int .u8 12), .lit (.int .u8 18), .lit (.int .u8 6), .lit (.int .u8 11), .lit (.int .u8 5), .lit (.int .u8 10), .lit (.int .u8 9)]
def laid_loop_example_g00052_impl_noPath {H : Type} : DataW H := .agg [.lit (.int .i64 (-1)), .lit (.int .i64 (-1)), .lit (.int .i64 (-1))]

/-- 'laws.FnConnected': WHATEVER THE INPUT: true; the input reads as it did. -/
def fnConnectedSpec : ChangeSpec := { name := "fnConnected", vars := ["loop.example/g00052/impl.noPath"], fn := fun _ => fun
  | [d, g1] => { results := [.lit (.bool true)], args := [d], vars := [g1] }
  | _ => none }
def fnConnectedRow : OpenClaim := { program := "ytikhfeafbckjlaadoor", sum := "60208865ef7f6bfbb1c8c927211472175768a9a92d5a7b2cef70bb707df1010e", func := "loop.example/g00052/laws.FnConnected", spec := "fnConnected", unfollowed := true, recurses := true, named := ["loop.example/g00052/impl.noPath", "math/bits.deBruijn32tab"], apart := false, laid := [("math/bits.deBruijn32tab", laid_math_bits_deBruijn32tab), ("loop.example/g00052/impl.noPath", laid_loop_example_g00052_impl_noPath)] }
def FnConnectedSaid : Prop := fnConnectedRow.holds Tryd.pinned (OpenSpec.ofChange fnConnectedSpec)

/-- ITS FALSE NEIGHBOUR: 'it returns false'. Refute it at one input. -/
def fnConnectedWrong : ChangeSpec := { name := "fnConnected", vars := ["loop.example/g00052/impl.noPath"], fn := fun _ => fun
  | [d, g1] => { results := [.lit (.bool false)], args := [d], vars := [g1] }
  | _ => none }
def FnConnectedWrongFalsely : Prop := fnConnectedRow.holds Tryd.pinned (OpenSpec.ofChange fnConnectedWrong)

/-- 'laws.FnNeeded3': WHATEVER THE INPUT: true; the input reads as it did. -/
def fnNeeded3Spec : ChangeSpec := { name := "fnNeeded3", vars := ["loop.example/g00052/impl.noPath"], fn := fun _ => fun
  | [d, g1] => { results := [.lit (.bool true)], args := [d], vars := [g1] }
  | _ => none }
def fnNeeded3Row : OpenClaim := { program := "ytikhfeafbckjlaadoor", sum := "60208865ef7f6bfbb1c8c927211472175768a9a92d5a7b2cef70bb707df1010e", func := "loop.example/g00052/laws.FnNeeded3", spec := "fnNeeded3", unfollowed := true, recurses := true, named := ["loop.example/g00052/impl.noPath", "math/bits.deBruijn32tab"], apart := false, laid := [("math/bits.deBruijn32tab", laid_math_bits_deBruijn32tab), ("loop.example/g00052/impl.noPath", laid_loop_example_g00052_impl_noPath)] }
def FnNeeded3Said : Prop := fnNeeded3Row.holds Tryd.pinned (OpenSpec.ofChange fnNeeded3Spec)

/-- ITS FALSE NEIGHBOUR: 'it returns false'. Refute it at one input. -/
def fnNeeded3Wrong : ChangeSpec := { name := "fnNeeded3", vars := ["loop.example/g00052/impl.noPath"], fn := fun _ => fun
  | [d, g1] => { results := [.lit (.bool false)], args := [d], vars := [g1] }
  | _ => none }
def FnNeeded3WrongFalsely : Prop := fnNeeded3Row.holds Tryd.pinned (OpenSpec.ofChange fnNeeded3Wrong)

/-- 'laws.FnExactConnect': WHATEVER THE INPUT: true; the input reads as it did. -/
def fnExactConnectSpec : ChangeSpec := { name := "fnExactConnect", vars := ["loop.example/g00052/impl.noPath"], fn := fun _ => fun
  | [d1, d2, d3, g1] => { results := [.lit (.bool true)], args := [d1, d2, d3], vars := [g1] }
  | _ => none }
def fnExactConnectRow : OpenClaim := { program := "ytikhfeafbckjlaadoor", sum := "60208865ef7f6bfbb1c8c927211472175768a9a92d5a7b2cef70bb707df1010e", func := "loop.example/g00052/laws.FnExactConnect", spec := "fnExactConnect", unfollowed := true, recurses := true, named := ["loop.example/g00052/impl.noPath", "math/bits.deBruijn32tab"], apart := false, laid := [("math/bits.deBruijn32tab", laid_math_bits_deBruijn32tab), ("loop.example/g00052/impl.noPath", laid_loop_example_g00052_impl_noPath)] }
def FnExactConnectSaid : Prop := fnExactConnectRow.holds Tryd.pinned (OpenSpec.ofChange fnExactConnectSpec)

/-- ITS FALSE NEIGHBOUR: 'it returns false'. Refute it at one input. -/
def fnExactConnectWrong : ChangeSpec := { name := "fnExactConnect", vars := ["loop.example/g00052/impl.noPath"], fn := fun _ => fun
  | [d1, d2, d3, g1] => { results := [.lit (.bool false)], args := [d1, d2, d3], vars := [g1] }
  | _ => none }
def FnExactConnectWrongFalsely : Prop := fnExactConnectRow.holds Tryd.pinned (OpenSpec.ofChange fnExactConnectWrong)

/-- 'laws.FnExactRelease': WHATEVER THE INPUT: true; the input reads as it did. -/
def fnExactReleaseSpec : ChangeSpec := { name := "fnExactRelease", vars := ["loop.example/g00052/impl.noPath"], fn := fun _ => fun
  | [d1, d2, g1] => { results := [.lit (.bool true)], args := [d1, d2], vars := [g1] }
  | _ => none }
def fnExactReleaseRow : OpenClaim := { program := "ytikhfeafbckjlaadoor", sum := "60208865ef7f6bfbb1c8c927211472175768a9a92d5a7b2cef70bb707df1010e", func := "loop.example/g00052/laws.FnExactRelease", spec := "fnExactRelease", unfollowed := true, recurses := true, named := ["loop.example/g00052/impl.noPath"], apart := false, laid := [("loop.example/g00052/impl.noPath", laid_loop_example_g00052_impl_noPath)] }
def FnExactReleaseSaid : Prop := fnExactReleaseRow.holds Tryd.pinned (OpenSpec.ofChange fnExactReleaseSpec)

/-- ITS FALSE NEIGHBOUR: 'it returns false'. Refute it at one input. -/
def fnExactReleaseWrong : ChangeSpec := { name := "fnExactRelease", vars := ["loop.example/g00052/impl.noPath"], fn := fun _ => fun
  | [d1, d2, g1] => { results := [.lit (.bool false)], args := [d1, d2], vars := [g1] }
  | _ => none }
def FnExactReleaseWrongFalsely : Prop := fnExactReleaseRow.holds Tryd.pinned (OpenSpec.ofChange fnExactReleaseWrong)

/-- 'laws.FnExactNeeds': WHATEVER THE INPUT: true; the input reads as it did. -/
def fnExactNeedsSpec : ChangeSpec := { name := "fnExactNeeds", vars := ["loop.example/g00052/impl.noPath"], fn := fun _ => fun
  | [d, g1] => { results := [.lit (.bool true)], args := [d], vars := [g1] }
  | _ => none }
def fnExactNeedsRow : OpenClaim := { program := "ytikhfeafbckjlaadoor", sum := "60208865ef7f6bfbb1c8c927211472175768a9a92d5a7b2cef70bb707df1010e", func := "loop.example/g00052/laws.FnExactNeeds", spec := "fnExactNeeds", unfollowed := true, recurses := true, named := ["loop.example/g00052/impl.noPath", "math/bits.deBruijn32tab"], apart := false, laid := [("math/bits.deBruijn32tab", laid_math_bits_deBruijn32tab), ("loop.example/g00052/impl.noPath", laid_loop_example_g00052_impl_noPath)] }
def FnExactNeedsSaid : Prop := fnExactNeedsRow.holds Tryd.pinned (OpenSpec.ofChange fnExactNeedsSpec)

/-- ITS FALSE NEIGHBOUR: 'it returns false'. Refute it at one input. -/
def fnExactNeedsWrong : ChangeSpec := { name := "fnExactNeeds", vars := ["loop.example/g00052/impl.noPath"], fn := fun _ => fun
  | [d, g1] => { results := [.lit (.bool false)], args := [d], vars := [g1] }
  | _ => none }
def FnExactNeedsWrongFalsely : Prop := fnExactNeedsRow.holds Tryd.pinned (OpenSpec.ofChange fnExactNeedsWrong)

/- THE SECOND FORM. 'bulk': how many values and letters a reading holds, each counted each time it is reached (what is shared counts as often as it is met; a slice's spare places count too). A statement '..UptoSaid' is the law's where the arguments, and the package variables that the reading takes, are together of bulk at most 1048576: NARROWER than '..Said'. Prove '..Said' where nothing that the law and all that it calls make is longer than what came in: it says more and counts as full. Else prove '..UptoSaid'. A law counts once. -/
mutual
def uptoBulk {H : Type} : DataW H → Nat
  | .lit (.string bytes) => bytes.length + 1
  | .lit _ => 1
  | .nil => 1
  | .ptr d => uptoBulk d + 1
  | .slice elems spare => uptoBulkAll elems + uptoBulkAll spare + 1
  | .agg parts => uptoBulkAll parts + 1
  | .iface _ d => uptoBulk d + 1
  | .map entries => uptoBulkEntries entries + 1
  | .held _ => 1
def uptoBulkAll {H : Type} : List (DataW H) → Nat
  | [] => 0
  | d :: r => uptoBulk d + uptoBulkAll r
def uptoBulkEntries {H : Type} : List (Lit × DataW H) → Nat
  | [] => 0
  | x :: r => uptoBulkEntry x + uptoBulkEntries r
def uptoBulkEntry {H : Type} : Lit × DataW H → Nat
  | (.string bytes, d) => bytes.length + uptoBulk d + 1
  | (_, d) => uptoBulk d + 1
 end
def uptoSmall : (H : Type) → List (DataW H) → Bool := fun _ ds => decide (uptoBulkAll ds ≤ 1048576)
def OpenSpec.upto (s : _root_.Go.ChangeSpec) : _root_.Go.OpenSpec := { _root_.Go.OpenSpec.ofChange s with cond := some uptoSmall }

/-- 'laws.FnConnected', WHERE WHAT IT READS IS OF BULK AT MOST 1048576: true; the input reads as it did. -/
def fnConnectedUptoRow : OpenClaim := { program := "ytikhfeafbckjlaadoor", sum := "60208865ef7f6bfbb1c8c927211472175768a9a92d5a7b2cef70bb707df1010e", func := "loop.example/g00052/laws.FnConnected", spec := "fnConnected", unfollowed := true, recurses := true, named := ["loop.example/g00052/impl.noPath", "math/bits.deBruijn32tab"], apart := false, laid := [("math/bits.deBruijn32tab", laid_math_bits_deBruijn32tab), ("loop.example/g00052/impl.noPath", laid_loop_example_g00052_impl_noPath)], narrowed := true }
def FnConnectedUptoSaid : Prop := fnConnectedUptoRow.holds Tryd.pinned (OpenSpec.upto fnConnectedSpec)

/-- 'laws.FnNeeded3', WHERE WHAT IT READS IS OF BULK AT MOST 1048576: true; the input reads as it did. -/
def fnNeeded3UptoRow : OpenClaim := { program := "ytikhfeafbckjlaadoor", sum := "60208865ef7f6bfbb1c8c927211472175768a9a92d5a7b2cef70bb707df1010e", func := "loop.example/g00052/laws.FnNeeded3", spec := "fnNeeded3", unfollowed := true, recurses := true, named := ["loop.example/g00052/impl.noPath", "math/bits.deBruijn32tab"], apart := false, laid := [("math/bits.deBruijn32tab", laid_math_bits_deBruijn32tab), ("loop.example/g00052/impl.noPath", laid_loop_example_g00052_impl_noPath)], narrowed := true }
def FnNeeded3UptoSaid : Prop := fnNeeded3UptoRow.holds Tryd.pinned (OpenSpec.upto fnNeeded3Spec)

/-- 'laws.FnExactConnect', WHERE WHAT IT READS IS OF BULK AT MOST 1048576: true; the input reads as it did. -/
def fnExactConnectUptoRow : OpenClaim := { program := "ytikhfeafbckjlaadoor", sum := "60208865ef7f6bfbb1c8c927211472175768a9a92d5a7b2cef70bb707df1010e", func := "loop.example/g00052/laws.FnExactConnect", spec := "fnExactConnect", unfollowed := true, recurses := true, named := ["loop.example/g00052/impl.noPath", "math/bits.deBruijn32tab"], apart := false, laid := [("math/bits.deBruijn32tab", laid_math_bits_deBruijn32tab), ("loop.example/g00052/impl.noPath", laid_loop_example_g00052_impl_noPath)], narrowed := true }
def FnExactConnectUptoSaid : Prop := fnExactConnectUptoRow.holds Tryd.pinned (OpenSpec.upto fnExactConnectSpec)

/-- 'laws.FnExactRelease', WHERE WHAT IT READS IS OF BULK AT MOST 1048576: true; the input reads as it did. -/
def fnExactReleaseUptoRow : OpenClaim := { program := "ytikhfeafbckjlaadoor", sum := "60208865ef7f6bfbb1c8c927211472175768a9a92d5a7b2cef70bb707df1010e", func := "loop.example/g00052/laws.FnExactRelease", spec := "fnExactRelease", unfollowed := true, recurses := true, named := ["loop.example/g00052/impl.noPath"], apart := false, laid := [("loop.example/g00052/impl.noPath", laid_loop_example_g00052_impl_noPath)], narrowed := true }
def FnExactReleaseUptoSaid : Prop := fnExactReleaseUptoRow.holds Tryd.pinned (OpenSpec.upto fnExactReleaseSpec)

/-- 'laws.FnExactNeeds', WHERE WHAT IT READS IS OF BULK AT MOST 1048576: true; the input reads as it did. -/
def fnExactNeedsUptoRow : OpenClaim := { program := "ytikhfeafbckjlaadoor", sum := "60208865ef7f6bfbb1c8c927211472175768a9a92d5a7b2cef70bb707df1010e", func := "loop.example/g00052/laws.FnExactNeeds", spec := "fnExactNeeds", unfollowed := true, recurses := true, named := ["loop.example/g00052/impl.noPath", "math/bits.deBruijn32tab"], apart := false, laid := [("math/bits.deBruijn32tab", laid_math_bits_deBruijn32tab), ("loop.example/g00052/impl.noPath", laid_loop_example_g00052_impl_noPath)], narrowed := true }
def FnExactNeedsUptoSaid : Prop := fnExactNeedsUptoRow.holds Tryd.pinned (OpenSpec.upto fnExactNeedsSpec)

end Rows
end Go.Proofs.YtikhfeafbckjlaaDoor

/-
  No cell of these rows narrows 'for every input' (looked for: loops, veiled, ifaces, maps, wideKeys, modest, calm, conditions, laid).
  DERIVED. THE GIVEN ROWS OF THIS SEAT. 8 by the template 'for every input the law returns true; each argument reads behind the call as it read before'; 0 by the template 'total and deterministic' (their statements: YtkehcalijamhjaaTotals.lean).
  GIVEN WITH THE SEED: the statements are not yours to turn. If you find one false, say at which input.
  Laid BY PROGRAM, IN A SANDBOX (cutbox-rows.mjs): the forced cells as the released guide's own fill.sh prints them over the translation 89377e80e49800dc… (all of the seat's roots in one cut). By AI agents, Wed Nov 11 2026. No macro, syntax, notation, axiom, sorry.
-/
import Derived.Test.YtkehcalijamhjaaChecked
import GoSem.Claim
import GoSem.ClaimJoined
import GoSem.ClaimMapViews
import Derived.JoinedTies
import Derived.KernelRfl
namespace Go.Proofs.Ytkehcalijamhjaa
/- THE CELL 'sum', in the pinned program and in every row, IS THE sha256 OF THE DUMP (.gsa) THAT YtkehcalijamhjaaProg.lean LOADS. Nothing in Lean hashes anything: it is a label: what it is worth is what the hold of that sum in a sandbox is worth. -/
noncomputable def Try.pinned : Pinned := { name := "ytkehcalijamhjaa", sum := "89377e80e49800dc642959868c06110b3ed6d1c692bf33a51be36a8576f41309", checked := Try.checked }
namespace Rows
def none {H : Type} : Left H := { results := [], args := [] }

/-- 'laws.FnTrunkDay': WHATEVER THE INPUT: true; the input reads as it did. -/
def fnTrunkDaySpec : ChangeSpec := { name := "fnTrunkDay", fn := fun _ => fun
  | [d] => { results := [.lit (.bool true)], args := [d] }
  | _ => none }
def fnTrunkDayRow : OpenClaim := { program := "ytkehcalijamhjaa", sum := "89377e80e49800dc642959868c06110b3ed6d1c692bf33a51be36a8576f41309", func := "loop.example/g00052/laws.FnTrunkDay", spec := "fnTrunkDay", apart := false }
def FnTrunkDaySaid : Prop := fnTrunkDayRow.holds Try.pinned (OpenSpec.ofChange fnTrunkDaySpec)

/-- ITS FALSE NEIGHBOUR: 'it returns false'. Refute it at one input. -/
def fnTrunkDayWrong : ChangeSpec := { name := "fnTrunkDay", fn := fun _ => fun
  | [d] => { results := [.lit (.bool false)], args := [d] }
  | _ => none }
def FnTrunkDayWrongFalsely : Prop := fnTrunkDayRow.holds Try.pinned (OpenSpec.ofChange fnTrunkDayWrong)

/-- 'laws.FnExactTrunkOk': WHATEVER THE INPUT: true; the input reads as it did. -/
def fnExactTrunkOkSpec : ChangeSpec := { name := "fnExactTrunkOk", fn := fun _ => fun
  | [d] => { results := [.lit (.bool true)], args := [d] }
  | _ => none }
def fnExactTrunkOkRow : OpenClaim := { program := "ytkehcalijamhjaa", sum := "89377e80e49800dc642959868c06110b3ed6d1c692bf33a51be36a8576f41309", func := "loop.example/g00052/laws.FnExactTrunkOk", spec := "fnExactTrunkOk", apart := false }
def FnExactTrunkOkSaid : Prop := fnExactTrunkOkRow.holds Try.pinned (OpenSpec.ofChange fnExactTrunkOkSpec)

/-- ITS FALSE NEIGHBOUR: 'it returns false'. Refute it at one input. -/
def fnExactTrunkOkWrong : ChangeSpec := { name := "fnExactTrunkOk", fn := fun _ => fun
  | [d] => { results := [.lit (.bool false)], args := [d] }
  | _ => none }
def FnExactTrunkOkWrongFalsely : Prop := fnExactTrunkOkRow.holds Try.pinned (OpenSpec.ofChange fnExactTrunkOkWrong)

/-- 'laws.FnExactNewTrunk': WHATEVER THE INPUT: true; the input reads as it did. -/
def fnExactNewTrunkSpec : ChangeSpec := { name := "fnExactNewTrunk", fn := fun _ => fun
  | [d] => { results := [.lit (.bool true)], args := [d] }
  | _ => none }
def fnExactNewTrunkRow : OpenClaim := { program := "ytkehcalijamhjaa", sum := "89377e80e49800dc642959868c06110b3ed6d1c692bf33a51be36a8576f41309", func := "loop.example/g00052/laws.FnExactNewTrunk", spec := "fnExactNewTrunk", apart := false }
def FnExactNewTrunkSaid : Prop := fnExactNewTrunkRow.holds Try.pinned (OpenSpec.ofChange fnExactNewTrunkSpec)

/-- ITS FALSE NEIGHBOUR: 'it returns false'. Refute it at one input. -/
def fnExactNewTrunkWrong : ChangeSpec := { name := "fnExactNewTrunk", fn := fun _ => fun
  | [d] => { results := [.lit (.bool false)], args := [d] }
  | _ => none }
def FnExactNewTrunkWrongFalsely : Prop := fnExactNewTrunkRow.holds Try.pinned (OpenSpec.ofChange fnExactNewTrunkWrong)

/-- 'laws.FnExactSeize': WHATEVER THE INPUT: true; the input reads as it did. -/
def fnExactSeizeSpec : ChangeSpec := { name := "fnExactSeize", fn := fun _ => fun
  | [d1, d2] => { results := [.lit (.bool true)], args := [d1, d2] }
  | _ => none }
def fnExactSeizeRow : OpenClaim := { program := "ytkehcalijamhjaa", sum := "89377e80e49800dc642959868c06110b3ed6d1c692bf33a51be36a8576f41309", func := "loop.example/g00052/laws.FnExactSeize", spec := "fnExactSeize", apart := false }
def FnExactSeizeSaid : Prop := fnExactSeizeRow.holds Try.pinned (OpenSpec.ofChange fnExactSeizeSpec)

/-- ITS FALSE NEIGHBOUR: 'it returns false'. Refute it at one input. -/
def fnExactSeizeWrong : ChangeSpec := { name := "fnExactSeize", fn := fun _ => fun
  | [d1, d2] => { results := [.lit (.bool false)], args := [d1, d2] }
  | _ => none }
def FnExactSeizeWrongFalsely : Prop := fnExactSeizeRow.holds Try.pinned (OpenSpec.ofChange fnExactSeizeWrong)

/-- 'laws.FnExactLeave': WHATEVER THE INPUT: true; the input reads as it did. -/
def fnExactLeaveSpec : ChangeSpec := { name := "fnExactLeave", fn := fun _ => fun
  | [d1, d2, d3] => { results := [.lit (.bool true)], args := [d1, d2, d3] }
  | _ => none }
def fnExactLeaveRow : OpenClaim := { program := "ytkehcalijamhjaa", sum := "89377e80e49800dc642959868c06110b3ed6d1c692bf33a51be36a8576f41309", func := "loop.example/g00052/laws.FnExactLeave", spec := "fnExactLeave", apart := false }
def FnExactLeaveSaid : Prop := fnExactLeaveRow.holds Try.pinned (OpenSpec.ofChange fnExactLeaveSpec)

/-- ITS FALSE NEIGHBOUR: 'it returns false'. Refute it at one input. -/
def fnExactLeaveWrong : ChangeSpec := { name := "fnExactLeave", fn := fun _ => fun
  | [d1, d2, d3] => { results := [.lit (.bool false)], args := [d1, d2, d3] }
  | _ => none }
def FnExactLeaveWrongFalsely : Prop := fnExactLeaveRow.holds Try.pinned (OpenSpec.ofChange fnExactLeaveWrong)

/-- 'laws.FnExactCarry': WHATEVER THE INPUT: true; the input reads as it did. -/
def fnExactCarrySpec : ChangeSpec := { name := "fnExactCarry", fn := fun _ => fun
  | [d1, d2] => { results := [.lit (.bool true)], args := [d1, d2] }
  | _ => none }
def fnExactCarryRow : OpenClaim := { program := "ytkehcalijamhjaa", sum := "89377e80e49800dc642959868c06110b3ed6d1c692bf33a51be36a8576f41309", func := "loop.example/g00052/laws.FnExactCarry", spec := "fnExactCarry", apart := false }
def FnExactCarrySaid : Prop := fnExactCarryRow.holds Try.pinned (OpenSpec.ofChange fnExactCarrySpec)

/-- ITS FALSE NEIGHBOUR: 'it returns false'. Refute it at one input. -/
def fnExactCarryWrong : ChangeSpec := { name := "fnExactCarry", fn := fun _ => fun
  | [d1, d2] => { results := [.lit (.bool false)], args := [d1, d2] }
  | _ => none }
def FnExactCarryWrongFalsely : Prop := fnExactCarryRow.holds Try.pinned (OpenSpec.ofChange fnExactCarryWrong)

/-- 'laws.FnExactCarryAll': WHATEVER THE INPUT: true; the input reads as it did. -/
def fnExactCarryAllSpec : ChangeSpec := { name := "fnExactCarryAll", fn := fun _ => fun
  | [d] => { results := [.lit (.bool true)], args := [d] }
  | _ => none }
def fnExactCarryAllRow : OpenClaim := { program := "ytkehcalijamhjaa", sum := "89377e80e49800dc642959868c06110b3ed6d1c692bf33a51be36a8576f41309", func := "loop.example/g00052/laws.FnExactCarryAll", spec := "fnExactCarryAll", apart := false }
def FnExactCarryAllSaid : Prop := fnExactCarryAllRow.holds Try.pinned (OpenSpec.ofChange fnExactCarryAllSpec)

/-- ITS FALSE NEIGHBOUR: 'it returns false'. Refute it at one input. -/
def fnExactCarryAllWrong : ChangeSpec := { name := "fnExactCarryAll", fn := fun _ => fun
  | [d] => { results := [.lit (.bool false)], args := [d] }
  | _ => none }
def FnExactCarryAllWrongFalsely : Prop := fnExactCarryAllRow.holds Try.pinned (OpenSpec.ofChange fnExactCarryAllWrong)

/-- 'laws.FnExactSettled': WHATEVER THE INPUT: true; the input reads as it did. -/
def fnExactSettledSpec : ChangeSpec := { name := "fnExactSettled", fn := fun _ => fun
  | [d] => { results := [.lit (.bool true)], args := [d] }
  | _ => none }
def fnExactSettledRow : OpenClaim := { program := "ytkehcalijamhjaa", sum := "89377e80e49800dc642959868c06110b3ed6d1c692bf33a51be36a8576f41309", func := "loop.example/g00052/laws.FnExactSettled", spec := "fnExactSettled", apart := false }
def FnExactSettledSaid : Prop := fnExactSettledRow.holds Try.pinned (OpenSpec.ofChange fnExactSettledSpec)

/-- ITS FALSE NEIGHBOUR: 'it returns false'. Refute it at one input. -/
def fnExactSettledWrong : ChangeSpec := { name := "fnExactSettled", fn := fun _ => fun
  | [d] => { results := [.lit (.bool false)], args := [d] }
  | _ => none }
def FnExactSettledWrongFalsely : Prop := fnExactSettledRow.holds Try.pinned (OpenSpec.ofChange fnExactSettledWrong)

/- THE SECOND FORM. 'bulk': how many values and letters a reading holds, each counted each time it is reached (what is shared counts as often as it is met; a slice's spare places count too). A statement '..UptoSaid' is the law's where the arguments, and the package variables that the reading takes, are together of bulk at most 1048576: NARROWER than '..Said'. Prove '..Said' where nothing that the law and all that it calls make is longer than what came in: it says more and counts as full. Else prove '..UptoSaid'. A law counts once. -/
mutual
def uptoBulk {H : Type} : DataW H → Nat
  | .lit (.string bytes) => bytes.length + 1
  | .lit _ => 1
  | .nil => 1
  | .ptr d => uptoBulk d + 1
  | .slice elems spare => uptoBulkAll elems + uptoBulkAll spare + 1
  | .agg parts => uptoBulkAll parts + 1
  | .iface _ d => uptoBulk d + 1
  | .map entries => uptoBulkEntries entries + 1
  | .held _ => 1
def uptoBulkAll {H : Type} : List (DataW H) → Nat
  | [] => 0
  | d :: r => uptoBulk d + uptoBulkAll r
def uptoBulkEntries {H : Type} : List (Lit × DataW H) → Nat
  | [] => 0
  | x :: r => uptoBulkEntry x + uptoBulkEntries r
def uptoBulkEntry {H : Type} : Lit × DataW H → Nat
  | (.string bytes, d) => bytes.length + uptoBulk d + 1
  | (_, d) => uptoBulk d + 1
 end
def uptoSmall : (H : Type) → List (DataW H) → Bool := fun _ ds => decide (uptoBulkAll ds ≤ 1048576)
def OpenSpec.upto (s : _root_.Go.ChangeSpec) : _root_.Go.OpenSpec := { _root_.Go.OpenSpec.ofChange s with cond := some uptoSmall }

/-- 'laws.FnTrunkDay', WHERE WHAT IT READS IS OF BULK AT MOST 1048576: true; the input reads as it did. -/
def fnTrunkDayUptoRow : OpenClaim := { program := "ytkehcalijamhjaa", sum := "89377e80e49800dc642959868c06110b3ed6d1c692bf33a51be36a8576f41309", func := "loop.example/g00052/laws.FnTrunkDay", spec := "fnTrunkDay", apart := false, narrowed := true }
def FnTrunkDayUptoSaid : Prop := fnTrunkDayUptoRow.holds Try.pinned (OpenSpec.upto fnTrunkDaySpec)

/-- 'laws.FnExactTrunkOk', WHERE WHAT IT READS IS OF BULK AT MOST 1048576: true; the input reads as it did. -/
def fnExactTrunkOkUptoRow : OpenClaim := { program := "ytkehcalijamhjaa", sum := "89377e80e49800dc642959868c06110b3ed6d1c692bf33a51be36a8576f41309", func := "loop.example/g00052/laws.FnExactTrunkOk", spec := "fnExactTrunkOk", apart := false, narrowed := true }
def FnExactTrunkOkUptoSaid : Prop := fnExactTrunkOkUptoRow.holds Try.pinned (OpenSpec.upto fnExactTrunkOkSpec)

/-- 'laws.FnExactNewTrunk', WHERE WHAT IT READS IS OF BULK AT MOST 1048576: true; the input reads as it did. -/
def fnExactNewTrunkUptoRow : OpenClaim := { program := "ytkehcalijamhjaa", sum := "89377e80e49800dc642959868c06110b3ed6d1c692bf33a51be36a8576f41309", func := "loop.example/g00052/laws.FnExactNewTrunk", spec := "fnExactNewTrunk", apart := false, narrowed := true }
def FnExactNewTrunkUptoSaid : Prop := fnExactNewTrunkUptoRow.holds Try.pinned (OpenSpec.upto fnExactNewTrunkSpec)

/-- 'laws.FnExactSeize', WHERE WHAT IT READS IS OF BULK AT MOST 1048576: true; the input reads as it did. -/
def fnExactSeizeUptoRow : OpenClaim := { program := "ytkehcalijamhjaa", sum := "89377e80e49800dc642959868c06110b3ed6d1c692bf33a51be36a8576f41309", func := "loop.example/g00052/laws.FnExactSeize", spec := "fnExactSeize", apart := false, narrowed := true }
def FnExactSeizeUptoSaid : Prop := fnExactSeizeUptoRow.holds Try.pinned (OpenSpec.upto fnExactSeizeSpec)

/-- 'laws.FnExactLeave', WHERE WHAT IT READS IS OF BULK AT MOST 1048576: true; the input reads as it did. -/
def fnExactLeaveUptoRow : OpenClaim := { program := "ytkehcalijamhjaa", sum := "89377e80e49800dc642959868c06110b3ed6d1c692bf33a51be36a8576f41309", func := "loop.example/g00052/laws.FnExactLeave", spec := "fnExactLeave", apart := false, narrowed := true }
def FnExactLeaveUptoSaid : Prop := fnExactLeaveUptoRow.holds Try.pinned (OpenSpec.upto fnExactLeaveSpec)

/-- 'laws.FnExactCarry', WHERE WHAT IT READS IS OF BULK AT MOST 1048576: true; the input reads as it did. -/
def fnExactCarryUptoRow : OpenClaim := { program := "ytkehcalijamhjaa", sum := "89377e80e49800dc642959868c06110b3ed6d1c692bf33a51be36a8576f41309", func := "loop.example/g00052/laws.FnExactCarry", spec := "fnExactCarry", apart := false, narrowed := true }
def FnExactCarryUptoSaid : Prop := fnExactCarryUptoRow.holds Try.pinned (OpenSpec.upto fnExactCarrySpec)

/-- 'laws.FnExactCarryAll', WHERE WHAT IT READS IS OF BULK AT MOST 1048576: true; the input reads as it did. -/
def fnExactCarryAllUptoRow : OpenClaim := { program := "ytkehcalijamhjaa", sum := "89377e80e49800dc642959868c06110b3ed6d1c692bf33a51be36a8576f41309", func := "loop.example/g00052/laws.FnExactCarryAll", spec := "fnExactCarryAll", apart := false, narrowed := true }
def FnExactCarryAllUptoSaid : Prop := fnExactCarryAllUptoRow.holds Try.pinned (OpenSpec.upto fnExactCarryAllSpec)

/-- 'laws.FnExactSettled', WHERE WHAT IT READS IS OF BULK AT MOST 1048576: true; the input reads as it did. -/
def fnExactSettledUptoRow : OpenClaim := { program := "ytkehcalijamhjaa", sum := "89377e80e49800dc642959868c06110b3ed6d1c692bf33a51be36a8576f41309", func := "loop.example/g00052/laws.FnExactSettled", spec := "fnExactSettled", apart := false, narrowed := true }
def FnExactSettledUptoSaid : Prop := fnExactSettledUptoRow.holds Try.pinned (OpenSpec.upto fnExactSettledSpec)

end Rows
end Go.Proofs.Ytkehcalijamhjaa

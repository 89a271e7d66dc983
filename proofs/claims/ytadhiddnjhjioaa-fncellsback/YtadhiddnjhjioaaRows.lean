/-
  No cell of these rows narrows 'for every input' (looked for: loops, veiled, ifaces, maps, wideKeys, modest, calm, conditions, laid).
  DERIVED. THE GIVEN ROWS OF THIS SEAT. 10 by the template 'for every input the law returns true; each argument reads behind the call as it read before'; 0 by the template 'total and deterministic' (their statements: YtadhiddnjhjioaaTotals.lean).
  GIVEN WITH THE SEED: the statements are not yours to turn. If you find one false, say at which input.
  Laid BY PROGRAM, IN A SANDBOX (cutbox-rows.mjs): the forced cells as the released guide's own fill.sh prints them over the translation 66c0bb3a7205faa1… (all of the seat's roots in one cut). By AI agents, Wed Nov 11 2026. No macro, syntax, notation, axiom, sorry.
-/
import Derived.Test.YtadhiddnjhjioaaChecked
import GoSem.Claim
import GoSem.ClaimJoined
import GoSem.ClaimMapViews
import Derived.JoinedTies
import Derived.KernelRfl
namespace Go.Proofs.Ytadhiddnjhjioaa
/- THE CELL 'sum', in the pinned program and in every row, IS THE sha256 OF THE DUMP (.gsa) THAT YtadhiddnjhjioaaProg.lean LOADS. Nothing in Lean hashes anything: it is a label: what it is worth is what the hold of that sum in a sandbox is worth. -/
noncomputable def Try.pinned : Pinned := { name := "ytadhiddnjhjioaa", sum := "66c0bb3a7205faa185063253452b11e21340bdc6f5d18cf5dbc92cdc02f8692b", checked := Try.checked }
namespace Rows
def none {H : Type} : Left H := { results := [], args := [] }

/-- 'laws.FnCellsBack': WHATEVER THE INPUT: true; the input reads as it did. -/
def fnCellsBackSpec : ChangeSpec := { name := "fnCellsBack", fn := fun _ => fun
  | [d] => { results := [.lit (.bool true)], args := [d] }
  | _ => none }
def fnCellsBackRow : OpenClaim := { program := "ytadhiddnjhjioaa", sum := "66c0bb3a7205faa185063253452b11e21340bdc6f5d18cf5dbc92cdc02f8692b", func := "loop.example/g00052/laws.FnCellsBack", spec := "fnCellsBack", apart := false }
def FnCellsBackSaid : Prop := fnCellsBackRow.holds Try.pinned (OpenSpec.ofChange fnCellsBackSpec)

/-- ITS FALSE NEIGHBOUR: 'it returns false'. Refute it at one input. -/
def fnCellsBackWrong : ChangeSpec := { name := "fnCellsBack", fn := fun _ => fun
  | [d] => { results := [.lit (.bool false)], args := [d] }
  | _ => none }
def FnCellsBackWrongFalsely : Prop := fnCellsBackRow.holds Try.pinned (OpenSpec.ofChange fnCellsBackWrong)

/-- 'laws.FnCellHurt': WHATEVER THE INPUT: true; the input reads as it did. -/
def fnCellHurtSpec : ChangeSpec := { name := "fnCellHurt", fn := fun _ => fun
  | [d] => { results := [.lit (.bool true)], args := [d] }
  | _ => none }
def fnCellHurtRow : OpenClaim := { program := "ytadhiddnjhjioaa", sum := "66c0bb3a7205faa185063253452b11e21340bdc6f5d18cf5dbc92cdc02f8692b", func := "loop.example/g00052/laws.FnCellHurt", spec := "fnCellHurt", apart := false }
def FnCellHurtSaid : Prop := fnCellHurtRow.holds Try.pinned (OpenSpec.ofChange fnCellHurtSpec)

/-- ITS FALSE NEIGHBOUR: 'it returns false'. Refute it at one input. -/
def fnCellHurtWrong : ChangeSpec := { name := "fnCellHurt", fn := fun _ => fun
  | [d] => { results := [.lit (.bool false)], args := [d] }
  | _ => none }
def FnCellHurtWrongFalsely : Prop := fnCellHurtRow.holds Try.pinned (OpenSpec.ofChange fnCellHurtWrong)

/-- 'laws.FnStuffed': WHATEVER THE INPUT: true; the input reads as it did. -/
def fnStuffedSpec : ChangeSpec := { name := "fnStuffed", fn := fun _ => fun
  | [d] => { results := [.lit (.bool true)], args := [d] }
  | _ => none }
def fnStuffedRow : OpenClaim := { program := "ytadhiddnjhjioaa", sum := "66c0bb3a7205faa185063253452b11e21340bdc6f5d18cf5dbc92cdc02f8692b", func := "loop.example/g00052/laws.FnStuffed", spec := "fnStuffed", apart := false }
def FnStuffedSaid : Prop := fnStuffedRow.holds Try.pinned (OpenSpec.ofChange fnStuffedSpec)

/-- ITS FALSE NEIGHBOUR: 'it returns false'. Refute it at one input. -/
def fnStuffedWrong : ChangeSpec := { name := "fnStuffed", fn := fun _ => fun
  | [d] => { results := [.lit (.bool false)], args := [d] }
  | _ => none }
def FnStuffedWrongFalsely : Prop := fnStuffedRow.holds Try.pinned (OpenSpec.ofChange fnStuffedWrong)

/-- 'laws.FnExactCut': WHATEVER THE INPUT: true; the input reads as it did. -/
def fnExactCutSpec : ChangeSpec := { name := "fnExactCut", fn := fun _ => fun
  | [d1, d2] => { results := [.lit (.bool true)], args := [d1, d2] }
  | _ => none }
def fnExactCutRow : OpenClaim := { program := "ytadhiddnjhjioaa", sum := "66c0bb3a7205faa185063253452b11e21340bdc6f5d18cf5dbc92cdc02f8692b", func := "loop.example/g00052/laws.FnExactCut", spec := "fnExactCut", apart := false }
def FnExactCutSaid : Prop := fnExactCutRow.holds Try.pinned (OpenSpec.ofChange fnExactCutSpec)

/-- ITS FALSE NEIGHBOUR: 'it returns false'. Refute it at one input. -/
def fnExactCutWrong : ChangeSpec := { name := "fnExactCut", fn := fun _ => fun
  | [d1, d2] => { results := [.lit (.bool false)], args := [d1, d2] }
  | _ => none }
def FnExactCutWrongFalsely : Prop := fnExactCutRow.holds Try.pinned (OpenSpec.ofChange fnExactCutWrong)

/-- 'laws.FnExactCells': WHATEVER THE INPUT: true; the input reads as it did. -/
def fnExactCellsSpec : ChangeSpec := { name := "fnExactCells", fn := fun _ => fun
  | [d] => { results := [.lit (.bool true)], args := [d] }
  | _ => none }
def fnExactCellsRow : OpenClaim := { program := "ytadhiddnjhjioaa", sum := "66c0bb3a7205faa185063253452b11e21340bdc6f5d18cf5dbc92cdc02f8692b", func := "loop.example/g00052/laws.FnExactCells", spec := "fnExactCells", apart := false }
def FnExactCellsSaid : Prop := fnExactCellsRow.holds Try.pinned (OpenSpec.ofChange fnExactCellsSpec)

/-- ITS FALSE NEIGHBOUR: 'it returns false'. Refute it at one input. -/
def fnExactCellsWrong : ChangeSpec := { name := "fnExactCells", fn := fun _ => fun
  | [d] => { results := [.lit (.bool false)], args := [d] }
  | _ => none }
def FnExactCellsWrongFalsely : Prop := fnExactCellsRow.holds Try.pinned (OpenSpec.ofChange fnExactCellsWrong)

/-- 'laws.FnExactUncells': WHATEVER THE INPUT: true; the input reads as it did. -/
def fnExactUncellsSpec : ChangeSpec := { name := "fnExactUncells", fn := fun _ => fun
  | [d] => { results := [.lit (.bool true)], args := [d] }
  | _ => none }
def fnExactUncellsRow : OpenClaim := { program := "ytadhiddnjhjioaa", sum := "66c0bb3a7205faa185063253452b11e21340bdc6f5d18cf5dbc92cdc02f8692b", func := "loop.example/g00052/laws.FnExactUncells", spec := "fnExactUncells", apart := false }
def FnExactUncellsSaid : Prop := fnExactUncellsRow.holds Try.pinned (OpenSpec.ofChange fnExactUncellsSpec)

/-- ITS FALSE NEIGHBOUR: 'it returns false'. Refute it at one input. -/
def fnExactUncellsWrong : ChangeSpec := { name := "fnExactUncells", fn := fun _ => fun
  | [d] => { results := [.lit (.bool false)], args := [d] }
  | _ => none }
def FnExactUncellsWrongFalsely : Prop := fnExactUncellsRow.holds Try.pinned (OpenSpec.ofChange fnExactUncellsWrong)

/-- 'laws.FnExactCellSum': WHATEVER THE INPUT: true; the input reads as it did. -/
def fnExactCellSumSpec : ChangeSpec := { name := "fnExactCellSum", fn := fun _ => fun
  | [d] => { results := [.lit (.bool true)], args := [d] }
  | _ => none }
def fnExactCellSumRow : OpenClaim := { program := "ytadhiddnjhjioaa", sum := "66c0bb3a7205faa185063253452b11e21340bdc6f5d18cf5dbc92cdc02f8692b", func := "loop.example/g00052/laws.FnExactCellSum", spec := "fnExactCellSum", apart := false }
def FnExactCellSumSaid : Prop := fnExactCellSumRow.holds Try.pinned (OpenSpec.ofChange fnExactCellSumSpec)

/-- ITS FALSE NEIGHBOUR: 'it returns false'. Refute it at one input. -/
def fnExactCellSumWrong : ChangeSpec := { name := "fnExactCellSum", fn := fun _ => fun
  | [d] => { results := [.lit (.bool false)], args := [d] }
  | _ => none }
def FnExactCellSumWrongFalsely : Prop := fnExactCellSumRow.holds Try.pinned (OpenSpec.ofChange fnExactCellSumWrong)

/-- 'laws.FnExactCellXor': WHATEVER THE INPUT: true; the input reads as it did. -/
def fnExactCellXorSpec : ChangeSpec := { name := "fnExactCellXor", fn := fun _ => fun
  | [d1, d2] => { results := [.lit (.bool true)], args := [d1, d2] }
  | _ => none }
def fnExactCellXorRow : OpenClaim := { program := "ytadhiddnjhjioaa", sum := "66c0bb3a7205faa185063253452b11e21340bdc6f5d18cf5dbc92cdc02f8692b", func := "loop.example/g00052/laws.FnExactCellXor", spec := "fnExactCellXor", apart := false }
def FnExactCellXorSaid : Prop := fnExactCellXorRow.holds Try.pinned (OpenSpec.ofChange fnExactCellXorSpec)

/-- ITS FALSE NEIGHBOUR: 'it returns false'. Refute it at one input. -/
def fnExactCellXorWrong : ChangeSpec := { name := "fnExactCellXor", fn := fun _ => fun
  | [d1, d2] => { results := [.lit (.bool false)], args := [d1, d2] }
  | _ => none }
def FnExactCellXorWrongFalsely : Prop := fnExactCellXorRow.holds Try.pinned (OpenSpec.ofChange fnExactCellXorWrong)

/-- 'laws.FnExactStuff': WHATEVER THE INPUT: true; the input reads as it did. -/
def fnExactStuffSpec : ChangeSpec := { name := "fnExactStuff", fn := fun _ => fun
  | [d] => { results := [.lit (.bool true)], args := [d] }
  | _ => none }
def fnExactStuffRow : OpenClaim := { program := "ytadhiddnjhjioaa", sum := "66c0bb3a7205faa185063253452b11e21340bdc6f5d18cf5dbc92cdc02f8692b", func := "loop.example/g00052/laws.FnExactStuff", spec := "fnExactStuff", apart := false }
def FnExactStuffSaid : Prop := fnExactStuffRow.holds Try.pinned (OpenSpec.ofChange fnExactStuffSpec)

/-- ITS FALSE NEIGHBOUR: 'it returns false'. Refute it at one input. -/
def fnExactStuffWrong : ChangeSpec := { name := "fnExactStuff", fn := fun _ => fun
  | [d] => { results := [.lit (.bool false)], args := [d] }
  | _ => none }
def FnExactStuffWrongFalsely : Prop := fnExactStuffRow.holds Try.pinned (OpenSpec.ofChange fnExactStuffWrong)

/-- 'laws.FnExactUnstuff': WHATEVER THE INPUT: true; the input reads as it did. -/
def fnExactUnstuffSpec : ChangeSpec := { name := "fnExactUnstuff", fn := fun _ => fun
  | [d] => { results := [.lit (.bool true)], args := [d] }
  | _ => none }
def fnExactUnstuffRow : OpenClaim := { program := "ytadhiddnjhjioaa", sum := "66c0bb3a7205faa185063253452b11e21340bdc6f5d18cf5dbc92cdc02f8692b", func := "loop.example/g00052/laws.FnExactUnstuff", spec := "fnExactUnstuff", apart := false }
def FnExactUnstuffSaid : Prop := fnExactUnstuffRow.holds Try.pinned (OpenSpec.ofChange fnExactUnstuffSpec)

/-- ITS FALSE NEIGHBOUR: 'it returns false'. Refute it at one input. -/
def fnExactUnstuffWrong : ChangeSpec := { name := "fnExactUnstuff", fn := fun _ => fun
  | [d] => { results := [.lit (.bool false)], args := [d] }
  | _ => none }
def FnExactUnstuffWrongFalsely : Prop := fnExactUnstuffRow.holds Try.pinned (OpenSpec.ofChange fnExactUnstuffWrong)

/- THE SECOND FORM. 'bulk': how many values and letters a reading holds, each counted each time it is reached (what is shared counts as often as it is met; a slice's spare places count too). A statement '..UptoSaid' is the law's where the arguments, and the package variables that the reading takes, are together of bulk at most 1048576: NARROWER than '..Said'. Prove '..Said' where nothing that the law and all that it calls make is longer than what came in: it says more and counts as full. Else prove '..UptoSaid'. A law counts once. -/
mutual
def uptoBulk {H : Type} : DataW H → Nat
  | .lit (.string bytes) => bytes.length + 1
  | .lit _ => 1
  | .nil => 1
  | .ptr d => uptoBulk d + 1
  | .slice elems spare => uptoBulkAll elems + uptoBulkAll spare + 1
  | .agg parts => uptoBulkAll parts + 1
  | .iface _ d => uptoBulk d + 1
  | .map entries => uptoBulkEntries entries + 1
  | .held _ => 1
def uptoBulkAll {H : Type} : List (DataW H) → Nat
  | [] => 0
  | d :: r => uptoBulk d + uptoBulkAll r
def uptoBulkEntries {H : Type} : List (Lit × DataW H) → Nat
  | [] => 0
  | x :: r => uptoBulkEntry x + uptoBulkEntries r
def uptoBulkEntry {H : Type} : Lit × DataW H → Nat
  | (.string bytes, d) => bytes.length + uptoBulk d + 1
  | (_, d) => uptoBulk d + 1
 end
def uptoSmall : (H : Type) → List (DataW H) → Bool := fun _ ds => decide (uptoBulkAll ds ≤ 1048576)
def OpenSpec.upto (s : _root_.Go.ChangeSpec) : _root_.Go.OpenSpec := { _root_.Go.OpenSpec.ofChange s with cond := some uptoSmall }

/-- 'laws.FnCellsBack', WHERE WHAT IT READS IS OF BULK AT MOST 1048576: true; the input reads as it did. -/
def fnCellsBackUptoRow : OpenClaim := { program := "ytadhiddnjhjioaa", sum := "66c0bb3a7205faa185063253452b11e21340bdc6f5d18cf5dbc92cdc02f8692b", func := "loop.example/g00052/laws.FnCellsBack", spec := "fnCellsBack", apart := false, narrowed := true }
def FnCellsBackUptoSaid : Prop := fnCellsBackUptoRow.holds Try.pinned (OpenSpec.upto fnCellsBackSpec)

/-- 'laws.FnCellHurt', WHERE WHAT IT READS IS OF BULK AT MOST 1048576: true; the input reads as it did. -/
def fnCellHurtUptoRow : OpenClaim := { program := "ytadhiddnjhjioaa", sum := "66c0bb3a7205faa185063253452b11e21340bdc6f5d18cf5dbc92cdc02f8692b", func := "loop.example/g00052/laws.FnCellHurt", spec := "fnCellHurt", apart := false, narrowed := true }
def FnCellHurtUptoSaid : Prop := fnCellHurtUptoRow.holds Try.pinned (OpenSpec.upto fnCellHurtSpec)

/-- 'laws.FnStuffed', WHERE WHAT IT READS IS OF BULK AT MOST 1048576: true; the input reads as it did. -/
def fnStuffedUptoRow : OpenClaim := { program := "ytadhiddnjhjioaa", sum := "66c0bb3a7205faa185063253452b11e21340bdc6f5d18cf5dbc92cdc02f8692b", func := "loop.example/g00052/laws.FnStuffed", spec := "fnStuffed", apart := false, narrowed := true }
def FnStuffedUptoSaid : Prop := fnStuffedUptoRow.holds Try.pinned (OpenSpec.upto fnStuffedSpec)

/-- 'laws.FnExactCut', WHERE WHAT IT READS IS OF BULK AT MOST 1048576: true; the input reads as it did. -/
def fnExactCutUptoRow : OpenClaim := { program := "ytadhiddnjhjioaa", sum := "66c0bb3a7205faa185063253452b11e21340bdc6f5d18cf5dbc92cdc02f8692b", func := "loop.example/g00052/laws.FnExactCut", spec := "fnExactCut", apart := false, narrowed := true }
def FnExactCutUptoSaid : Prop := fnExactCutUptoRow.holds Try.pinned (OpenSpec.upto fnExactCutSpec)

/-- 'laws.FnExactCells', WHERE WHAT IT READS IS OF BULK AT MOST 1048576: true; the input reads as it did. -/
def fnExactCellsUptoRow : OpenClaim := { program := "ytadhiddnjhjioaa", sum := "66c0bb3a7205faa185063253452b11e21340bdc6f5d18cf5dbc92cdc02f8692b", func := "loop.example/g00052/laws.FnExactCells", spec := "fnExactCells", apart := false, narrowed := true }
def FnExactCellsUptoSaid : Prop := fnExactCellsUptoRow.holds Try.pinned (OpenSpec.upto fnExactCellsSpec)

/-- 'laws.FnExactUncells', WHERE WHAT IT READS IS OF BULK AT MOST 1048576: true; the input reads as it did. -/
def fnExactUncellsUptoRow : OpenClaim := { program := "ytadhiddnjhjioaa", sum := "66c0bb3a7205faa185063253452b11e21340bdc6f5d18cf5dbc92cdc02f8692b", func := "loop.example/g00052/laws.FnExactUncells", spec := "fnExactUncells", apart := false, narrowed := true }
def FnExactUncellsUptoSaid : Prop := fnExactUncellsUptoRow.holds Try.pinned (OpenSpec.upto fnExactUncellsSpec)

/-- 'laws.FnExactCellSum', WHERE WHAT IT READS IS OF BULK AT MOST 1048576: true; the input reads as it did. -/
def fnExactCellSumUptoRow : OpenClaim := { program := "ytadhiddnjhjioaa", sum := "66c0bb3a7205faa185063253452b11e21340bdc6f5d18cf5dbc92cdc02f8692b", func := "loop.example/g00052/laws.FnExactCellSum", spec := "fnExactCellSum", apart := false, narrowed := true }
def FnExactCellSumUptoSaid : Prop := fnExactCellSumUptoRow.holds Try.pinned (OpenSpec.upto fnExactCellSumSpec)

/-- 'laws.FnExactCellXor', WHERE WHAT IT READS IS OF BULK AT MOST 1048576: true; the input reads as it did. -/
def fnExactCellXorUptoRow : OpenClaim := { program := "ytadhiddnjhjioaa", sum := "66c0bb3a7205faa185063253452b11e21340bdc6f5d18cf5dbc92cdc02f8692b", func := "loop.example/g00052/laws.FnExactCellXor", spec := "fnExactCellXor", apart := false, narrowed := true }
def FnExactCellXorUptoSaid : Prop := fnExactCellXorUptoRow.holds Try.pinned (OpenSpec.upto fnExactCellXorSpec)

/-- 'laws.FnExactStuff', WHERE WHAT IT READS IS OF BULK AT MOST 1048576: true; the input reads as it did. -/
def fnExactStuffUptoRow : OpenClaim := { program := "ytadhiddnjhjioaa", sum := "66c0bb3a7205faa185063253452b11e21340bdc6f5d18cf5dbc92cdc02f8692b", func := "loop.example/g00052/laws.FnExactStuff", spec := "fnExactStuff", apart := false, narrowed := true }
def FnExactStuffUptoSaid : Prop := fnExactStuffUptoRow.holds Try.pinned (OpenSpec.upto fnExactStuffSpec)

/-- 'laws.FnExactUnstuff', WHERE WHAT IT READS IS OF BULK AT MOST 1048576: true; the input reads as it did. -/
def fnExactUnstuffUptoRow : OpenClaim := { program := "ytadhiddnjhjioaa", sum := "66c0bb3a7205faa185063253452b11e21340bdc6f5d18cf5dbc92cdc02f8692b", func := "loop.example/g00052/laws.FnExactUnstuff", spec := "fnExactUnstuff", apart := false, narrowed := true }
def FnExactUnstuffUptoSaid : Prop := fnExactUnstuffUptoRow.holds Try.pinned (OpenSpec.upto fnExactUnstuffSpec)

end Rows
end Go.Proofs.Ytadhiddnjhjioaa

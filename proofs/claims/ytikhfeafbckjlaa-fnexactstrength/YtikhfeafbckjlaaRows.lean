/-
  No cell of these rows narrows 'for every input' (looked for: loops, veiled, ifaces, maps, wideKeys, modest, calm, conditions, laid).
  DERIVED. THE GIVEN ROWS OF THIS SEAT. 2 by the template 'for every input the law returns true; each argument reads behind the call as it read before'; 0 by the template 'total and deterministic' (their statements: YtikhfeafbckjlaaTotals.lean).
  GIVEN WITH THE SEED: the statements are not yours to turn. If you find one false, say at which input.
  Laid BY PROGRAM, IN A SANDBOX (cutbox-rows.mjs): the forced cells as the released guide's own fill.sh prints them over the translation bee450cdc5ddce78… (all of the seat's roots in one cut). By AI agents, Wed Nov 11 2026. No macro, syntax, notation, axiom, sorry.
-/
import Derived.Test.YtikhfeafbckjlaaChecked
import GoSem.Claim
import GoSem.ClaimJoined
import GoSem.ClaimMapViews
import Derived.JoinedTies
import Derived.KernelRfl
namespace Go.Proofs.Ytikhfeafbckjlaa
/- THE CELL 'sum', in the pinned program and in every row, IS THE sha256 OF THE DUMP (.gsa) THAT YtikhfeafbckjlaaProg.lean LOADS. Nothing in Lean hashes anything: it is a label: what it is worth is what the hold of that sum in a sandbox is worth. -/
noncomputable def Try.pinned : Pinned := { name := "ytikhfeafbckjlaa", sum := "bee450cdc5ddce78d45f0c7531edebdbf25d0a500476784d07788e7de44bff59", checked := Try.checked }
namespace Rows
def none {H : Type} : Left H := { results := [], args := [] }

/-- 'laws.FnExactFabricOk': WHATEVER THE INPUT: true; the input reads as it did. -/
def fnExactFabricOkSpec : ChangeSpec := { name := "fnExactFabricOk", fn := fun _ => fun
  | [d] => { results := [.lit (.bool true)], args := [d] }
  | _ => none }
def fnExactFabricOkRow : OpenClaim := { program := "ytikhfeafbckjlaa", sum := "bee450cdc5ddce78d45f0c7531edebdbf25d0a500476784d07788e7de44bff59", func := "loop.example/g00052/laws.FnExactFabricOk", spec := "fnExactFabricOk", apart := false }
def FnExactFabricOkSaid : Prop := fnExactFabricOkRow.holds Try.pinned (OpenSpec.ofChange fnExactFabricOkSpec)

/-- ITS FALSE NEIGHBOUR: 'it returns false'. Refute it at one input. -/
def fnExactFabricOkWrong : ChangeSpec := { name := "fnExactFabricOk", fn := fun _ => fun
  | [d] => { results := [.lit (.bool false)], args := [d] }
  | _ => none }
def FnExactFabricOkWrongFalsely : Prop := fnExactFabricOkRow.holds Try.pinned (OpenSpec.ofChange fnExactFabricOkWrong)

/-- 'laws.FnExactStrength': WHATEVER THE INPUT: true; the input reads as it did. -/
def fnExactStrengthSpec : ChangeSpec := { name := "fnExactStrength", fn := fun _ => fun
  | [d1, d2] => { results := [.lit (.bool true)], args := [d1, d2] }
  | _ => none }
def fnExactStrengthRow : OpenClaim := { program := "ytikhfeafbckjlaa", sum := "bee450cdc5ddce78d45f0c7531edebdbf25d0a500476784d07788e7de44bff59", func := "loop.example/g00052/laws.FnExactStrength", spec := "fnExactStrength", apart := false }
def FnExactStrengthSaid : Prop := fnExactStrengthRow.holds Try.pinned (OpenSpec.ofChange fnExactStrengthSpec)

/-- ITS FALSE NEIGHBOUR: 'it returns false'. Refute it at one input. -/
def fnExactStrengthWrong : ChangeSpec := { name := "fnExactStrength", fn := fun _ => fun
  | [d1, d2] => { results := [.lit (.bool false)], args := [d1, d2] }
  | _ => none }
def FnExactStrengthWrongFalsely : Prop := fnExactStrengthRow.holds Try.pinned (OpenSpec.ofChange fnExactStrengthWrong)

/- THE SECOND FORM. 'bulk': how many values and letters a reading holds, each counted each time it is reached (what is shared counts as often as it is met; a slice's spare places count too). A statement '..UptoSaid' is the law's where the arguments, and the package variables that the reading takes, are together of bulk at most 1048576: NARROWER than '..Said'. Prove '..Said' where nothing that the law and all that it calls make is longer than what came in: it says more and counts as full. Else prove '..UptoSaid'. A law counts once. -/
mutual
def uptoBulk {H : Type} : DataW H → Nat
  | .lit (.string bytes) => bytes.length + 1
  | .lit _ => 1
  | .nil => 1
  | .ptr d => uptoBulk d + 1
  | .slice elems spare => uptoBulkAll elems + uptoBulkAll spare + 1
  | .agg parts => uptoBulkAll parts + 1
  | .iface _ d => uptoBulk d + 1
  | .map entries => uptoBulkEntries entries + 1
  | .held _ => 1
def uptoBulkAll {H : Type} : List (DataW H) → Nat
  | [] => 0
  | d :: r => uptoBulk d + uptoBulkAll r
def uptoBulkEntries {H : Type} : List (Lit × DataW H) → Nat
  | [] => 0
  | x :: r => uptoBulkEntry x + uptoBulkEntries r
def uptoBulkEntry {H : Type} : Lit × DataW H → Nat
  | (.string bytes, d) => bytes.length + uptoBulk d + 1
  | (_, d) => uptoBulk d + 1
 end
def uptoSmall : (H : Type) → List (DataW H) → Bool := fun _ ds => decide (uptoBulkAll ds ≤ 1048576)
def OpenSpec.upto (s : _root_.Go.ChangeSpec) : _root_.Go.OpenSpec := { _root_.Go.OpenSpec.ofChange s with cond := some uptoSmall }

/-- 'laws.FnExactFabricOk', WHERE WHAT IT READS IS OF BULK AT MOST 1048576: true; the input reads as it did. -/
def fnExactFabricOkUptoRow : OpenClaim := { program := "ytikhfeafbckjlaa", sum := "bee450cdc5ddce78d45f0c7531edebdbf25d0a500476784d07788e7de44bff59", func := "loop.example/g00052/laws.FnExactFabricOk", spec := "fnExactFabricOk", apart := false, narrowed := true }
def FnExactFabricOkUptoSaid : Prop := fnExactFabricOkUptoRow.holds Try.pinned (OpenSpec.upto fnExactFabricOkSpec)

/-- 'laws.FnExactStrength', WHERE WHAT IT READS IS OF BULK AT MOST 1048576: true; the input reads as it did. -/
def fnExactStrengthUptoRow : OpenClaim := { program := "ytikhfeafbckjlaa", sum := "bee450cdc5ddce78d45f0c7531edebdbf25d0a500476784d07788e7de44bff59", func := "loop.example/g00052/laws.FnExactStrength", spec := "fnExactStrength", apart := false, narrowed := true }
def FnExactStrengthUptoSaid : Prop := fnExactStrengthUptoRow.holds Try.pinned (OpenSpec.upto fnExactStrengthSpec)

end Rows
end Go.Proofs.Ytikhfeafbckjlaa

/-
  No cell of these rows narrows 'for every input' (looked for: loops, veiled, ifaces, maps, wideKeys, modest, calm, conditions, laid).
  DERIVED. THE GIVEN ROWS OF THIS SEAT. 9 by the template 'for every input the law returns true; each argument reads behind the call as it read before'; 0 by the template 'total and deterministic' (their statements: YtiadakponjpkmaaTotals.lean).
  GIVEN WITH THE SEED: the statements are not yours to turn. If you find one false, say at which input.
  Laid BY PROGRAM, IN A SANDBOX (cutbox-rows.mjs): the forced cells as the released guide's own fill.sh prints them over the translation b2c17d825f4e2a5c… (all of the seat's roots in one cut). By AI agents, Wed Nov 11 2026. No macro, syntax, notation, axiom, sorry.
-/
import Derived.Test.YtiadakponjpkmaaChecked
import GoSem.Claim
import GoSem.ClaimJoined
import GoSem.ClaimMapViews
import Derived.JoinedTies
import Derived.KernelRfl
namespace Go.Proofs.Ytiadakponjpkmaa
/- THE CELL 'sum', in the pinned program and in every row, IS THE sha256 OF THE DUMP (.gsa) THAT YtiadakponjpkmaaProg.lean LOADS. Nothing in Lean hashes anything: it is a label: what it is worth is what the hold of that sum in a sandbox is worth. -/
noncomputable def Try.pinned : Pinned := { name := "ytiadakponjpkmaa", sum := "b2c17d825f4e2a5c6edd7c42c87b4c2d4686cc73e31f1d6be37c5c4aaee670e7", checked := Try.checked }
namespace Rows
def none {H : Type} : Left H := { results := [], args := [] }

/-- 'laws.FnBlocked': WHATEVER THE INPUT: true; the input reads as it did. -/
def fnBlockedSpec : ChangeSpec := { name := "fnBlocked", fn := fun _ => fun
  | [d] => { results := [.lit (.bool true)], args := [d] }
  | _ => none }
def fnBlockedRow : OpenClaim := { program := "ytiadakponjpkmaa", sum := "b2c17d825f4e2a5c6edd7c42c87b4c2d4686cc73e31f1d6be37c5c4aaee670e7", func := "loop.example/g00052/laws.FnBlocked", spec := "fnBlocked", apart := false }
def FnBlockedSaid : Prop := fnBlockedRow.holds Try.pinned (OpenSpec.ofChange fnBlockedSpec)

/-- ITS FALSE NEIGHBOUR: 'it returns false'. Refute it at one input. -/
def fnBlockedWrong : ChangeSpec := { name := "fnBlocked", fn := fun _ => fun
  | [d] => { results := [.lit (.bool false)], args := [d] }
  | _ => none }
def FnBlockedWrongFalsely : Prop := fnBlockedRow.holds Try.pinned (OpenSpec.ofChange fnBlockedWrong)

/-- 'laws.FnTried': WHATEVER THE INPUT: true; the input reads as it did. -/
def fnTriedSpec : ChangeSpec := { name := "fnTried", fn := fun _ => fun
  | [d] => { results := [.lit (.bool true)], args := [d] }
  | _ => none }
def fnTriedRow : OpenClaim := { program := "ytiadakponjpkmaa", sum := "b2c17d825f4e2a5c6edd7c42c87b4c2d4686cc73e31f1d6be37c5c4aaee670e7", func := "loop.example/g00052/laws.FnTried", spec := "fnTried", unfollowed := true, recurses := true, apart := false }
def FnTriedSaid : Prop := fnTriedRow.holds Try.pinned (OpenSpec.ofChange fnTriedSpec)

/-- ITS FALSE NEIGHBOUR: 'it returns false'. Refute it at one input. -/
def fnTriedWrong : ChangeSpec := { name := "fnTried", fn := fun _ => fun
  | [d] => { results := [.lit (.bool false)], args := [d] }
  | _ => none }
def FnTriedWrongFalsely : Prop := fnTriedRow.holds Try.pinned (OpenSpec.ofChange fnTriedWrong)

/-- 'laws.FnShedKept': WHATEVER THE INPUT: true; the input reads as it did. -/
def fnShedKeptSpec : ChangeSpec := { name := "fnShedKept", fn := fun _ => fun
  | [d] => { results := [.lit (.bool true)], args := [d] }
  | _ => none }
def fnShedKeptRow : OpenClaim := { program := "ytiadakponjpkmaa", sum := "b2c17d825f4e2a5c6edd7c42c87b4c2d4686cc73e31f1d6be37c5c4aaee670e7", func := "loop.example/g00052/laws.FnShedKept", spec := "fnShedKept", unfollowed := true, recurses := true, apart := false }
def FnShedKeptSaid : Prop := fnShedKeptRow.holds Try.pinned (OpenSpec.ofChange fnShedKeptSpec)

/-- ITS FALSE NEIGHBOUR: 'it returns false'. Refute it at one input. -/
def fnShedKeptWrong : ChangeSpec := { name := "fnShedKept", fn := fun _ => fun
  | [d] => { results := [.lit (.bool false)], args := [d] }
  | _ => none }
def FnShedKeptWrongFalsely : Prop := fnShedKeptRow.holds Try.pinned (OpenSpec.ofChange fnShedKeptWrong)

/-- 'laws.FnFairTurns': WHATEVER THE INPUT: true; the input reads as it did. -/
def fnFairTurnsSpec : ChangeSpec := { name := "fnFairTurns", fn := fun _ => fun
  | [d] => { results := [.lit (.bool true)], args := [d] }
  | _ => none }
def fnFairTurnsRow : OpenClaim := { program := "ytiadakponjpkmaa", sum := "b2c17d825f4e2a5c6edd7c42c87b4c2d4686cc73e31f1d6be37c5c4aaee670e7", func := "loop.example/g00052/laws.FnFairTurns", spec := "fnFairTurns", apart := false }
def FnFairTurnsSaid : Prop := fnFairTurnsRow.holds Try.pinned (OpenSpec.ofChange fnFairTurnsSpec)

/-- ITS FALSE NEIGHBOUR: 'it returns false'. Refute it at one input. -/
def fnFairTurnsWrong : ChangeSpec := { name := "fnFairTurns", fn := fun _ => fun
  | [d] => { results := [.lit (.bool false)], args := [d] }
  | _ => none }
def FnFairTurnsWrongFalsely : Prop := fnFairTurnsRow.holds Try.pinned (OpenSpec.ofChange fnFairTurnsWrong)

/-- 'laws.FnExactBlocking': WHATEVER THE INPUT: true; the input reads as it did. -/
def fnExactBlockingSpec : ChangeSpec := { name := "fnExactBlocking", fn := fun _ => fun
  | [d1, d2, d3] => { results := [.lit (.bool true)], args := [d1, d2, d3] }
  | _ => none }
def fnExactBlockingRow : OpenClaim := { program := "ytiadakponjpkmaa", sum := "b2c17d825f4e2a5c6edd7c42c87b4c2d4686cc73e31f1d6be37c5c4aaee670e7", func := "loop.example/g00052/laws.FnExactBlocking", spec := "fnExactBlocking", apart := false }
def FnExactBlockingSaid : Prop := fnExactBlockingRow.holds Try.pinned (OpenSpec.ofChange fnExactBlockingSpec)

/-- ITS FALSE NEIGHBOUR: 'it returns false'. Refute it at one input. -/
def fnExactBlockingWrong : ChangeSpec := { name := "fnExactBlocking", fn := fun _ => fun
  | [d1, d2, d3] => { results := [.lit (.bool false)], args := [d1, d2, d3] }
  | _ => none }
def FnExactBlockingWrongFalsely : Prop := fnExactBlockingRow.holds Try.pinned (OpenSpec.ofChange fnExactBlockingWrong)

/-- 'laws.FnExactNeeded17': WHATEVER THE INPUT: true; the input reads as it did. -/
def fnExactNeeded17Spec : ChangeSpec := { name := "fnExactNeeded17", fn := fun _ => fun
  | [d1, d2, d3] => { results := [.lit (.bool true)], args := [d1, d2, d3] }
  | _ => none }
def fnExactNeeded17Row : OpenClaim := { program := "ytiadakponjpkmaa", sum := "b2c17d825f4e2a5c6edd7c42c87b4c2d4686cc73e31f1d6be37c5c4aaee670e7", func := "loop.example/g00052/laws.FnExactNeeded17", spec := "fnExactNeeded17", apart := false }
def FnExactNeeded17Said : Prop := fnExactNeeded17Row.holds Try.pinned (OpenSpec.ofChange fnExactNeeded17Spec)

/-- ITS FALSE NEIGHBOUR: 'it returns false'. Refute it at one input. -/
def fnExactNeeded17Wrong : ChangeSpec := { name := "fnExactNeeded17", fn := fun _ => fun
  | [d1, d2, d3] => { results := [.lit (.bool false)], args := [d1, d2, d3] }
  | _ => none }
def FnExactNeeded17WrongFalsely : Prop := fnExactNeeded17Row.holds Try.pinned (OpenSpec.ofChange fnExactNeeded17Wrong)

/-- 'laws.FnExactTry': WHATEVER THE INPUT: true; the input reads as it did. -/
def fnExactTrySpec : ChangeSpec := { name := "fnExactTry", fn := fun _ => fun
  | [d1, d2, d3] => { results := [.lit (.bool true)], args := [d1, d2, d3] }
  | _ => none }
def fnExactTryRow : OpenClaim := { program := "ytiadakponjpkmaa", sum := "b2c17d825f4e2a5c6edd7c42c87b4c2d4686cc73e31f1d6be37c5c4aaee670e7", func := "loop.example/g00052/laws.FnExactTry", spec := "fnExactTry", unfollowed := true, recurses := true, apart := false }
def FnExactTrySaid : Prop := fnExactTryRow.holds Try.pinned (OpenSpec.ofChange fnExactTrySpec)

/-- ITS FALSE NEIGHBOUR: 'it returns false'. Refute it at one input. -/
def fnExactTryWrong : ChangeSpec := { name := "fnExactTry", fn := fun _ => fun
  | [d1, d2, d3] => { results := [.lit (.bool false)], args := [d1, d2, d3] }
  | _ => none }
def FnExactTryWrongFalsely : Prop := fnExactTryRow.holds Try.pinned (OpenSpec.ofChange fnExactTryWrong)

/-- 'laws.FnExactShed': WHATEVER THE INPUT: true; the input reads as it did. -/
def fnExactShedSpec : ChangeSpec := { name := "fnExactShed", fn := fun _ => fun
  | [d1, d2, d3] => { results := [.lit (.bool true)], args := [d1, d2, d3] }
  | _ => none }
def fnExactShedRow : OpenClaim := { program := "ytiadakponjpkmaa", sum := "b2c17d825f4e2a5c6edd7c42c87b4c2d4686cc73e31f1d6be37c5c4aaee670e7", func := "loop.example/g00052/laws.FnExactShed", spec := "fnExactShed", unfollowed := true, recurses := true, apart := false }
def FnExactShedSaid : Prop := fnExactShedRow.holds Try.pinned (OpenSpec.ofChange fnExactShedSpec)

/-- ITS FALSE NEIGHBOUR: 'it returns false'. Refute it at one input. -/
def fnExactShedWrong : ChangeSpec := { name := "fnExactShed", fn := fun _ => fun
  | [d1, d2, d3] => { results := [.lit (.bool false)], args := [d1, d2, d3] }
  | _ => none }
def FnExactShedWrongFalsely : Prop := fnExactShedRow.holds Try.pinned (OpenSpec.ofChange fnExactShedWrong)

/-- 'laws.FnExactFair': WHATEVER THE INPUT: true; the input reads as it did. -/
def fnExactFairSpec : ChangeSpec := { name := "fnExactFair", fn := fun _ => fun
  | [d1, d2] => { results := [.lit (.bool true)], args := [d1, d2] }
  | _ => none }
def fnExactFairRow : OpenClaim := { program := "ytiadakponjpkmaa", sum := "b2c17d825f4e2a5c6edd7c42c87b4c2d4686cc73e31f1d6be37c5c4aaee670e7", func := "loop.example/g00052/laws.FnExactFair", spec := "fnExactFair", apart := false }
def FnExactFairSaid : Prop := fnExactFairRow.holds Try.pinned (OpenSpec.ofChange fnExactFairSpec)

/-- ITS FALSE NEIGHBOUR: 'it returns false'. Refute it at one input. -/
def fnExactFairWrong : ChangeSpec := { name := "fnExactFair", fn := fun _ => fun
  | [d1, d2] => { results := [.lit (.bool false)], args := [d1, d2] }
  | _ => none }
def FnExactFairWrongFalsely : Prop := fnExactFairRow.holds Try.pinned (OpenSpec.ofChange fnExactFairWrong)

/- THE SECOND FORM. 'bulk': how many values and letters a reading holds, each counted each time it is reached (what is shared counts as often as it is met; a slice's spare places count too). A statement '..UptoSaid' is the law's where the arguments, and the package variables that the reading takes, are together of bulk at most 1048576: NARROWER than '..Said'. Prove '..Said' where nothing that the law and all that it calls make is longer than what came in: it says more and counts as full. Else prove '..UptoSaid'. A law counts once. -/
mutual
def uptoBulk {H : Type} : DataW H → Nat
  | .lit (.string bytes) => bytes.length + 1
  | .lit _ => 1
  | .nil => 1
  | .ptr d => uptoBulk d + 1
  | .slice elems spare => uptoBulkAll elems + uptoBulkAll spare + 1
  | .agg parts => uptoBulkAll parts + 1
  | .iface _ d => uptoBulk d + 1
  | .map entries => uptoBulkEntries entries + 1
  | .held _ => 1
def uptoBulkAll {H : Type} : List (DataW H) → Nat
  | [] => 0
  | d :: r => uptoBulk d + uptoBulkAll r
def uptoBulkEntries {H : Type} : List (Lit × DataW H) → Nat
  | [] => 0
  | x :: r => uptoBulkEntry x + uptoBulkEntries r
def uptoBulkEntry {H : Type} : Lit × DataW H → Nat
  | (.string bytes, d) => bytes.length + uptoBulk d + 1
  | (_, d) => uptoBulk d + 1
 end
def uptoSmall : (H : Type) → List (DataW H) → Bool := fun _ ds => decide (uptoBulkAll ds ≤ 1048576)
def OpenSpec.upto (s : _root_.Go.ChangeSpec) : _root_.Go.OpenSpec := { _root_.Go.OpenSpec.ofChange s with cond := some uptoSmall }

/-- 'laws.FnBlocked', WHERE WHAT IT READS IS OF BULK AT MOST 1048576: true; the input reads as it did. -/
def fnBlockedUptoRow : OpenClaim := { program := "ytiadakponjpkmaa", sum := "b2c17d825f4e2a5c6edd7c42c87b4c2d4686cc73e31f1d6be37c5c4aaee670e7", func := "loop.example/g00052/laws.FnBlocked", spec := "fnBlocked", apart := false, narrowed := true }
def FnBlockedUptoSaid : Prop := fnBlockedUptoRow.holds Try.pinned (OpenSpec.upto fnBlockedSpec)

/-- 'laws.FnTried', WHERE WHAT IT READS IS OF BULK AT MOST 1048576: true; the input reads as it did. -/
def fnTriedUptoRow : OpenClaim := { program := "ytiadakponjpkmaa", sum := "b2c17d825f4e2a5c6edd7c42c87b4c2d4686cc73e31f1d6be37c5c4aaee670e7", func := "loop.example/g00052/laws.FnTried", spec := "fnTried", unfollowed := true, recurses := true, apart := false, narrowed := true }
def FnTriedUptoSaid : Prop := fnTriedUptoRow.holds Try.pinned (OpenSpec.upto fnTriedSpec)

/-- 'laws.FnShedKept', WHERE WHAT IT READS IS OF BULK AT MOST 1048576: true; the input reads as it did. -/
def fnShedKeptUptoRow : OpenClaim := { program := "ytiadakponjpkmaa", sum := "b2c17d825f4e2a5c6edd7c42c87b4c2d4686cc73e31f1d6be37c5c4aaee670e7", func := "loop.example/g00052/laws.FnShedKept", spec := "fnShedKept", unfollowed := true, recurses := true, apart := false, narrowed := true }
def FnShedKeptUptoSaid : Prop := fnShedKeptUptoRow.holds Try.pinned (OpenSpec.upto fnShedKeptSpec)

/-- 'laws.FnFairTurns', WHERE WHAT IT READS IS OF BULK AT MOST 1048576: true; the input reads as it did. -/
def fnFairTurnsUptoRow : OpenClaim := { program := "ytiadakponjpkmaa", sum := "b2c17d825f4e2a5c6edd7c42c87b4c2d4686cc73e31f1d6be37c5c4aaee670e7", func := "loop.example/g00052/laws.FnFairTurns", spec := "fnFairTurns", apart := false, narrowed := true }
def FnFairTurnsUptoSaid : Prop := fnFairTurnsUptoRow.holds Try.pinned (OpenSpec.upto fnFairTurnsSpec)

/-- 'laws.FnExactBlocking', WHERE WHAT IT READS IS OF BULK AT MOST 1048576: true; the input reads as it did. -/
def fnExactBlockingUptoRow : OpenClaim := { program := "ytiadakponjpkmaa", sum := "b2c17d825f4e2a5c6edd7c42c87b4c2d4686cc73e31f1d6be37c5c4aaee670e7", func := "loop.example/g00052/laws.FnExactBlocking", spec := "fnExactBlocking", apart := false, narrowed := true }
def FnExactBlockingUptoSaid : Prop := fnExactBlockingUptoRow.holds Try.pinned (OpenSpec.upto fnExactBlockingSpec)

/-- 'laws.FnExactNeeded17', WHERE WHAT IT READS IS OF BULK AT MOST 1048576: true; the input reads as it did. -/
def fnExactNeeded17UptoRow : OpenClaim := { program := "ytiadakponjpkmaa", sum := "b2c17d825f4e2a5c6edd7c42c87b4c2d4686cc73e31f1d6be37c5c4aaee670e7", func := "loop.example/g00052/laws.FnExactNeeded17", spec := "fnExactNeeded17", apart := false, narrowed := true }
def FnExactNeeded17UptoSaid : Prop := fnExactNeeded17UptoRow.holds Try.pinned (OpenSpec.upto fnExactNeeded17Spec)

/-- 'laws.FnExactTry', WHERE WHAT IT READS IS OF BULK AT MOST 1048576: true; the input reads as it did. -/
def fnExactTryUptoRow : OpenClaim := { program := "ytiadakponjpkmaa", sum := "b2c17d825f4e2a5c6edd7c42c87b4c2d4686cc73e31f1d6be37c5c4aaee670e7", func := "loop.example/g00052/laws.FnExactTry", spec := "fnExactTry", unfollowed := true, recurses := true, apart := false, narrowed := true }
def FnExactTryUptoSaid : Prop := fnExactTryUptoRow.holds Try.pinned (OpenSpec.upto fnExactTrySpec)

/-- 'laws.FnExactShed', WHERE WHAT IT READS IS OF BULK AT MOST 1048576: true; the input reads as it did. -/
def fnExactShedUptoRow : OpenClaim := { program := "ytiadakponjpkmaa", sum := "b2c17d825f4e2a5c6edd7c42c87b4c2d4686cc73e31f1d6be37c5c4aaee670e7", func := "loop.example/g00052/laws.FnExactShed", spec := "fnExactShed", unfollowed := true, recurses := true, apart := false, narrowed := true }
def FnExactShedUptoSaid : Prop := fnExactShedUptoRow.holds Try.pinned (OpenSpec.upto fnExactShedSpec)

/-- 'laws.FnExactFair', WHERE WHAT IT READS IS OF BULK AT MOST 1048576: true; the input reads as it did. -/
def fnExactFairUptoRow : OpenClaim := { program := "ytiadakponjpkmaa", sum := "b2c17d825f4e2a5c6edd7c42c87b4c2d4686cc73e31f1d6be37c5c4aaee670e7", func := "loop.example/g00052/laws.FnExactFair", spec := "fnExactFair", apart := false, narrowed := true }
def FnExactFairUptoSaid : Prop := fnExactFairUptoRow.holds Try.pinned (OpenSpec.upto fnExactFairSpec)

end Rows
end Go.Proofs.Ytiadakponjpkmaa

/-
  No cell of these rows narrows 'for every input' (looked for: loops, veiled, ifaces, maps, wideKeys, modest, calm, conditions, laid).
  DERIVED. THE GIVEN ROWS OF THIS SEAT. 4 by the template 'for every input the law returns true; each argument reads behind the call as it read before'; 0 by the template 'total and deterministic' (their statements: YtejoopdpelcpeaaTotals.lean).
  GIVEN WITH THE SEED: the statements are not yours to turn. If you find one false, say at which input.
  Laid BY PROGRAM, IN A SANDBOX (cutbox-rows.mjs): the forced cells as the released guide's own fill.sh prints them over the translation 28140f9c5b4d3dde… (all of the seat's roots in one cut). By AI agents, Wed Nov 11 2026. No macro, syntax, notation, axiom, sorry.
-/
import Derived.Test.YtejoopdpelcpeaaChecked
import GoSem.Claim
import GoSem.ClaimJoined
import GoSem.ClaimMapViews
import Derived.JoinedTies
import Derived.KernelRfl
namespace Go.Proofs.Ytejoopdpelcpeaa
/- THE CELL 'sum', in the pinned program and in every row, IS THE sha256 OF THE DUMP (.gsa) THAT YtejoopdpelcpeaaProg.lean LOADS. Nothing in Lean hashes anything: it is a label: what it is worth is what the hold of that sum in a sandbox is worth. -/
noncomputable def Try.pinned : Pinned := { name := "ytejoopdpelcpeaa", sum := "28140f9c5b4d3dde2cb977fb0ece571854e40e759cdcaf32c9cbf8f995402e0a", checked := Try.checked }
namespace Rows
def none {H : Type} : Left H := { results := [], args := [] }

/-- 'laws.FnTraffic': WHATEVER THE INPUT: true; the input reads as it did. -/
def fnTrafficSpec : ChangeSpec := { name := "fnTraffic", fn := fun _ => fun
  | [d] => { results := [.lit (.bool true)], args := [d] }
  | _ => none }
def fnTrafficRow : OpenClaim := { program := "ytejoopdpelcpeaa", sum := "28140f9c5b4d3dde2cb977fb0ece571854e40e759cdcaf32c9cbf8f995402e0a", func := "loop.example/g00052/laws.FnTraffic", spec := "fnTraffic", inPlace := ["sync/atomic.AddInt64", "sync/atomic.LoadInt64", "(*sync.WaitGroup).Add", "internal/race.ReleaseMerge", "internal/race.Disable", "internal/race.Enable", "internal/synctest.IsInBubble", "internal/synctest.Associate[sync.WaitGroup]", "sync.fatal", "sync/atomic.OrUint64", "sync/atomic.AddUint64", "internal/race.Read", "sync/atomic.LoadUint64", "sync/atomic.StoreUint64", "internal/synctest.Disassociate[sync.WaitGroup]", "sync.runtime_Semrelease", "(*sync.WaitGroup).Done", "(*sync.WaitGroup).Wait", "internal/race.Acquire", "internal/synctest.IsAssociated[sync.WaitGroup]", "sync/atomic.CompareAndSwapUint64", "internal/race.Write", "sync.runtime_SemacquireWaitGroup"], unfollowed := true, recurses := true, leaving := true, apart := false }
def FnTrafficSaid : Prop := fnTrafficRow.holds Try.pinned (OpenSpec.ofChange fnTrafficSpec)

/-- ITS FALSE NEIGHBOUR: 'it returns false'. Refute it at one input. -/
def fnTrafficWrong : ChangeSpec := { name := "fnTraffic", fn := fun _ => fun
  | [d] => { results := [.lit (.bool false)], args := [d] }
  | _ => none }
def FnTrafficWrongFalsely : Prop := fnTrafficRow.holds Try.pinned (OpenSpec.ofChange fnTrafficWrong)

/-- 'laws.FnExactLinkOk': WHATEVER THE INPUT: true; the input reads as it did. -/
def fnExactLinkOkSpec : ChangeSpec := { name := "fnExactLinkOk", fn := fun _ => fun
  | [d] => { results := [.lit (.bool true)], args := [d] }
  | _ => none }
def fnExactLinkOkRow : OpenClaim := { program := "ytejoopdpelcpeaa", sum := "28140f9c5b4d3dde2cb977fb0ece571854e40e759cdcaf32c9cbf8f995402e0a", func := "loop.example/g00052/laws.FnExactLinkOk", spec := "fnExactLinkOk", apart := false }
def FnExactLinkOkSaid : Prop := fnExactLinkOkRow.holds Try.pinned (OpenSpec.ofChange fnExactLinkOkSpec)

/-- ITS FALSE NEIGHBOUR: 'it returns false'. Refute it at one input. -/
def fnExactLinkOkWrong : ChangeSpec := { name := "fnExactLinkOk", fn := fun _ => fun
  | [d] => { results := [.lit (.bool false)], args := [d] }
  | _ => none }
def FnExactLinkOkWrongFalsely : Prop := fnExactLinkOkRow.holds Try.pinned (OpenSpec.ofChange fnExactLinkOkWrong)

/-- 'laws.FnExactDoLink': WHATEVER THE INPUT: true; the input reads as it did. -/
def fnExactDoLinkSpec : ChangeSpec := { name := "fnExactDoLink", fn := fun _ => fun
  | [d1, d2] => { results := [.lit (.bool true)], args := [d1, d2] }
  | _ => none }
def fnExactDoLinkRow : OpenClaim := { program := "ytejoopdpelcpeaa", sum := "28140f9c5b4d3dde2cb977fb0ece571854e40e759cdcaf32c9cbf8f995402e0a", func := "loop.example/g00052/laws.FnExactDoLink", spec := "fnExactDoLink", inPlace := ["sync/atomic.AddInt64", "sync/atomic.LoadInt64"], apart := false }
def FnExactDoLinkSaid : Prop := fnExactDoLinkRow.holds Try.pinned (OpenSpec.ofChange fnExactDoLinkSpec)

/-- ITS FALSE NEIGHBOUR: 'it returns false'. Refute it at one input. -/
def fnExactDoLinkWrong : ChangeSpec := { name := "fnExactDoLink", fn := fun _ => fun
  | [d1, d2] => { results := [.lit (.bool false)], args := [d1, d2] }
  | _ => none }
def FnExactDoLinkWrongFalsely : Prop := fnExactDoLinkRow.holds Try.pinned (OpenSpec.ofChange fnExactDoLinkWrong)

/-- 'laws.FnExactRunLink': WHATEVER THE INPUT: true; the input reads as it did. -/
def fnExactRunLinkSpec : ChangeSpec := { name := "fnExactRunLink", fn := fun _ => fun
  | [d1, d2] => { results := [.lit (.bool true)], args := [d1, d2] }
  | _ => none }
def fnExactRunLinkRow : OpenClaim := { program := "ytejoopdpelcpeaa", sum := "28140f9c5b4d3dde2cb977fb0ece571854e40e759cdcaf32c9cbf8f995402e0a", func := "loop.example/g00052/laws.FnExactRunLink", spec := "fnExactRunLink", inPlace := ["sync/atomic.AddInt64", "sync/atomic.LoadInt64"], apart := false }
def FnExactRunLinkSaid : Prop := fnExactRunLinkRow.holds Try.pinned (OpenSpec.ofChange fnExactRunLinkSpec)

/-- ITS FALSE NEIGHBOUR: 'it returns false'. Refute it at one input. -/
def fnExactRunLinkWrong : ChangeSpec := { name := "fnExactRunLink", fn := fun _ => fun
  | [d1, d2] => { results := [.lit (.bool false)], args := [d1, d2] }
  | _ => none }
def FnExactRunLinkWrongFalsely : Prop := fnExactRunLinkRow.holds Try.pinned (OpenSpec.ofChange fnExactRunLinkWrong)

/- THE SECOND FORM. 'bulk': how many values and letters a reading holds, each counted each time it is reached (what is shared counts as often as it is met; a slice's spare places count too). A statement '..UptoSaid' is the law's where the arguments, and the package variables that the reading takes, are together of bulk at most 1048576: NARROWER than '..Said'. Prove '..Said' where nothing that the law and all that it calls make is longer than what came in: it says more and counts as full. Else prove '..UptoSaid'. A law counts once. -/
mutual
def uptoBulk {H : Type} : DataW H → Nat
  | .lit (.string bytes) => bytes.length + 1
  | .lit _ => 1
  | .nil => 1
  | .ptr d => uptoBulk d + 1
  | .slice elems spare => uptoBulkAll elems + uptoBulkAll spare + 1
  | .agg parts => uptoBulkAll parts + 1
  | .iface _ d => uptoBulk d + 1
  | .map entries => uptoBulkEntries entries + 1
  | .held _ => 1
def uptoBulkAll {H : Type} : List (DataW H) → Nat
  | [] => 0
  | d :: r => uptoBulk d + uptoBulkAll r
def uptoBulkEntries {H : Type} : List (Lit × DataW H) → Nat
  | [] => 0
  | x :: r => uptoBulkEntry x + uptoBulkEntries r
def uptoBulkEntry {H : Type} : Lit × DataW H → Nat
  | (.string bytes, d) => bytes.length + uptoBulk d + 1
  | (_, d) => uptoBulk d + 1
 end
def uptoSmall : (H : Type) → List (DataW H) → Bool := fun _ ds => decide (uptoBulkAll ds ≤ 1048576)
def OpenSpec.upto (s : _root_.Go.ChangeSpec) : _root_.Go.OpenSpec := { _root_.Go.OpenSpec.ofChange s with cond := some uptoSmall }

/-- 'laws.FnTraffic', WHERE WHAT IT READS IS OF BULK AT MOST 1048576: true; the input reads as it did. -/
def fnTrafficUptoRow : OpenClaim := { program := "ytejoopdpelcpeaa", sum := "28140f9c5b4d3dde2cb977fb0ece571854e40e759cdcaf32c9cbf8f995402e0a", func := "loop.example/g00052/laws.FnTraffic", spec := "fnTraffic", inPlace := ["sync/atomic.AddInt64", "sync/atomic.LoadInt64", "(*sync.WaitGroup).Add", "internal/race.ReleaseMerge", "internal/race.Disable", "internal/race.Enable", "internal/synctest.IsInBubble", "internal/synctest.Associate[sync.WaitGroup]", "sync.fatal", "sync/atomic.OrUint64", "sync/atomic.AddUint64", "internal/race.Read", "sync/atomic.LoadUint64", "sync/atomic.StoreUint64", "internal/synctest.Disassociate[sync.WaitGroup]", "sync.runtime_Semrelease", "(*sync.WaitGroup).Done", "(*sync.WaitGroup).Wait", "internal/race.Acquire", "internal/synctest.IsAssociated[sync.WaitGroup]", "sync/atomic.CompareAndSwapUint64", "internal/race.Write", "sync.runtime_SemacquireWaitGroup"], unfollowed := true, recurses := true, leaving := true, apart := false, narrowed := true }
def FnTrafficUptoSaid : Prop := fnTrafficUptoRow.holds Try.pinned (OpenSpec.upto fnTrafficSpec)

/-- 'laws.FnExactLinkOk', WHERE WHAT IT READS IS OF BULK AT MOST 1048576: true; the input reads as it did. -/
def fnExactLinkOkUptoRow : OpenClaim := { program := "ytejoopdpelcpeaa", sum := "28140f9c5b4d3dde2cb977fb0ece571854e40e759cdcaf32c9cbf8f995402e0a", func := "loop.example/g00052/laws.FnExactLinkOk", spec := "fnExactLinkOk", apart := false, narrowed := true }
def FnExactLinkOkUptoSaid : Prop := fnExactLinkOkUptoRow.holds Try.pinned (OpenSpec.upto fnExactLinkOkSpec)

/-- 'laws.FnExactDoLink', WHERE WHAT IT READS IS OF BULK AT MOST 1048576: true; the input reads as it did. -/
def fnExactDoLinkUptoRow : OpenClaim := { program := "ytejoopdpelcpeaa", sum := "28140f9c5b4d3dde2cb977fb0ece571854e40e759cdcaf32c9cbf8f995402e0a", func := "loop.example/g00052/laws.FnExactDoLink", spec := "fnExactDoLink", inPlace := ["sync/atomic.AddInt64", "sync/atomic.LoadInt64"], apart := false, narrowed := true }
def FnExactDoLinkUptoSaid : Prop := fnExactDoLinkUptoRow.holds Try.pinned (OpenSpec.upto fnExactDoLinkSpec)

/-- 'laws.FnExactRunLink', WHERE WHAT IT READS IS OF BULK AT MOST 1048576: true; the input reads as it did. -/
def fnExactRunLinkUptoRow : OpenClaim := { program := "ytejoopdpelcpeaa", sum := "28140f9c5b4d3dde2cb977fb0ece571854e40e759cdcaf32c9cbf8f995402e0a", func := "loop.example/g00052/laws.FnExactRunLink", spec := "fnExactRunLink", inPlace := ["sync/atomic.AddInt64", "sync/atomic.LoadInt64"], apart := false, narrowed := true }
def FnExactRunLinkUptoSaid : Prop := fnExactRunLinkUptoRow.holds Try.pinned (OpenSpec.upto fnExactRunLinkSpec)

end Rows
end Go.Proofs.Ytejoopdpelcpeaa

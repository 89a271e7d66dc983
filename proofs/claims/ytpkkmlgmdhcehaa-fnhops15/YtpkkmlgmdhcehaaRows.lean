/-
  No cell of these rows narrows 'for every input' (looked for: loops, veiled, ifaces, maps, wideKeys, modest, calm, conditions, laid).
  DERIVED. THE GIVEN ROWS OF THIS SEAT. 3 by the template 'for every input the law returns true; each argument reads behind the call as it read before'; 0 by the template 'total and deterministic' (their statements: YtpkkmlgmdhcehaaTotals.lean).
  GIVEN WITH THE SEED: the statements are not yours to turn. If you find one false, say at which input.
  Laid BY PROGRAM, IN A SANDBOX (cutbox-rows.mjs): the forced cells as the released guide's own fill.sh prints them over the translation 7c8c1cf46f00c6f9… (all of the seat's roots in one cut). By AI agents, Wed Nov 11 2026. No macro, syntax, notation, axiom, sorry.
-/
import Derived.Test.YtpkkmlgmdhcehaaChecked
import GoSem.Claim
import GoSem.ClaimJoined
import GoSem.ClaimMapViews
import Derived.JoinedTies
import Derived.KernelRfl
namespace Go.Proofs.Ytpkkmlgmdhcehaa
/- THE CELL 'sum', in the pinned program and in every row, IS THE sha256 OF THE DUMP (.gsa) THAT YtpkkmlgmdhcehaaProg.lean LOADS. Nothing in Lean hashes anything: it is a label: what it is worth is what the hold of that sum in a sandbox is worth. -/
noncomputable def Try.pinned : Pinned := { name := "ytpkkmlgmdhcehaa", sum := "7c8c1cf46f00c6f9bb86370a0b629a05e9890f5a7953540afdfdf0dfb2afcc08", checked := Try.checked }
namespace Rows
def none {H : Type} : Left H := { results := [], args := [] }

/-- 'laws.FnHops15': WHATEVER THE INPUT: true; the input reads as it did. -/
def fnHops15Spec : ChangeSpec := { name := "fnHops15", fn := fun _ => fun
  | [d] => { results := [.lit (.bool true)], args := [d] }
  | _ => none }
def fnHops15Row : OpenClaim := { program := "ytpkkmlgmdhcehaa", sum := "7c8c1cf46f00c6f9bb86370a0b629a05e9890f5a7953540afdfdf0dfb2afcc08", func := "loop.example/g00052/laws.FnHops15", spec := "fnHops15", apart := false }
def FnHops15Said : Prop := fnHops15Row.holds Try.pinned (OpenSpec.ofChange fnHops15Spec)

/-- ITS FALSE NEIGHBOUR: 'it returns false'. Refute it at one input. -/
def fnHops15Wrong : ChangeSpec := { name := "fnHops15", fn := fun _ => fun
  | [d] => { results := [.lit (.bool false)], args := [d] }
  | _ => none }
def FnHops15WrongFalsely : Prop := fnHops15Row.holds Try.pinned (OpenSpec.ofChange fnHops15Wrong)

/-- 'laws.FnExactKey15': WHATEVER THE INPUT: true; the input reads as it did. -/
def fnExactKey15Spec : ChangeSpec := { name := "fnExactKey15", fn := fun _ => fun
  | [d1, d2] => { results := [.lit (.bool true)], args := [d1, d2] }
  | _ => none }
def fnExactKey15Row : OpenClaim := { program := "ytpkkmlgmdhcehaa", sum := "7c8c1cf46f00c6f9bb86370a0b629a05e9890f5a7953540afdfdf0dfb2afcc08", func := "loop.example/g00052/laws.FnExactKey15", spec := "fnExactKey15", apart := false }
def FnExactKey15Said : Prop := fnExactKey15Row.holds Try.pinned (OpenSpec.ofChange fnExactKey15Spec)

/-- ITS FALSE NEIGHBOUR: 'it returns false'. Refute it at one input. -/
def fnExactKey15Wrong : ChangeSpec := { name := "fnExactKey15", fn := fun _ => fun
  | [d1, d2] => { results := [.lit (.bool false)], args := [d1, d2] }
  | _ => none }
def FnExactKey15WrongFalsely : Prop := fnExactKey15Row.holds Try.pinned (OpenSpec.ofChange fnExactKey15Wrong)

/-- 'laws.FnExactHop': WHATEVER THE INPUT: true; the input reads as it did. -/
def fnExactHopSpec : ChangeSpec := { name := "fnExactHop", fn := fun _ => fun
  | [d1, d2, d3] => { results := [.lit (.bool true)], args := [d1, d2, d3] }
  | _ => none }
def fnExactHopRow : OpenClaim := { program := "ytpkkmlgmdhcehaa", sum := "7c8c1cf46f00c6f9bb86370a0b629a05e9890f5a7953540afdfdf0dfb2afcc08", func := "loop.example/g00052/laws.FnExactHop", spec := "fnExactHop", apart := false }
def FnExactHopSaid : Prop := fnExactHopRow.holds Try.pinned (OpenSpec.ofChange fnExactHopSpec)

/-- ITS FALSE NEIGHBOUR: 'it returns false'. Refute it at one input. -/
def fnExactHopWrong : ChangeSpec := { name := "fnExactHop", fn := fun _ => fun
  | [d1, d2, d3] => { results := [.lit (.bool false)], args := [d1, d2, d3] }
  | _ => none }
def FnExactHopWrongFalsely : Prop := fnExactHopRow.holds Try.pinned (OpenSpec.ofChange fnExactHopWrong)

/- THE SECOND FORM. 'bulk': how many values and letters a reading holds, each counted each time it is reached (what is shared counts as often as it is met; a slice's spare places count too). A statement '..UptoSaid' is the law's where the arguments, and the package variables that the reading takes, are together of bulk at most 1048576: NARROWER than '..Said'. Prove '..Said' where nothing that the law and all that it calls make is longer than what came in: it says more and counts as full. Else prove '..UptoSaid'. A law counts once. -/
mutual
def uptoBulk {H : Type} : DataW H → Nat
  | .lit (.string bytes) => bytes.length + 1
  | .lit _ => 1
  | .nil => 1
  | .ptr d => uptoBulk d + 1
  | .slice elems spare => uptoBulkAll elems + uptoBulkAll spare + 1
  | .agg parts => uptoBulkAll parts + 1
  | .iface _ d => uptoBulk d + 1
  | .map entries => uptoBulkEntries entries + 1
  | .held _ => 1
def uptoBulkAll {H : Type} : List (DataW H) → Nat
  | [] => 0
  | d :: r => uptoBulk d + uptoBulkAll r
def uptoBulkEntries {H : Type} : List (Lit × DataW H) → Nat
  | [] => 0
  | x :: r => uptoBulkEntry x + uptoBulkEntries r
def uptoBulkEntry {H : Type} : Lit × DataW H → Nat
  | (.string bytes, d) => bytes.length + uptoBulk d + 1
  | (_, d) => uptoBulk d + 1
 end
def uptoSmall : (H : Type) → List (DataW H) → Bool := fun _ ds => decide (uptoBulkAll ds ≤ 1048576)
def OpenSpec.upto (s : _root_.Go.ChangeSpec) : _root_.Go.OpenSpec := { _root_.Go.OpenSpec.ofChange s with cond := some uptoSmall }

/-- 'laws.FnHops15', WHERE WHAT IT READS IS OF BULK AT MOST 1048576: true; the input reads as it did. -/
def fnHops15UptoRow : OpenClaim := { program := "ytpkkmlgmdhcehaa", sum := "7c8c1cf46f00c6f9bb86370a0b629a05e9890f5a7953540afdfdf0dfb2afcc08", func := "loop.example/g00052/laws.FnHops15", spec := "fnHops15", apart := false, narrowed := true }
def FnHops15UptoSaid : Prop := fnHops15UptoRow.holds Try.pinned (OpenSpec.upto fnHops15Spec)

/-- 'laws.FnExactKey15', WHERE WHAT IT READS IS OF BULK AT MOST 1048576: true; the input reads as it did. -/
def fnExactKey15UptoRow : OpenClaim := { program := "ytpkkmlgmdhcehaa", sum := "7c8c1cf46f00c6f9bb86370a0b629a05e9890f5a7953540afdfdf0dfb2afcc08", func := "loop.example/g00052/laws.FnExactKey15", spec := "fnExactKey15", apart := false, narrowed := true }
def FnExactKey15UptoSaid : Prop := fnExactKey15UptoRow.holds Try.pinned (OpenSpec.upto fnExactKey15Spec)

/-- 'laws.FnExactHop', WHERE WHAT IT READS IS OF BULK AT MOST 1048576: true; the input reads as it did. -/
def fnExactHopUptoRow : OpenClaim := { program := "ytpkkmlgmdhcehaa", sum := "7c8c1cf46f00c6f9bb86370a0b629a05e9890f5a7953540afdfdf0dfb2afcc08", func := "loop.example/g00052/laws.FnExactHop", spec := "fnExactHop", apart := false, narrowed := true }
def FnExactHopUptoSaid : Prop := fnExactHopUptoRow.holds Try.pinned (OpenSpec.upto fnExactHopSpec)

end Rows
end Go.Proofs.Ytpkkmlgmdhcehaa

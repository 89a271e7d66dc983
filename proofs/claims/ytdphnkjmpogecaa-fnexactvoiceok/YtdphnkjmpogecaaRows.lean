/-
  No cell of these rows narrows 'for every input' (looked for: loops, veiled, ifaces, maps, wideKeys, modest, calm, conditions, laid).
  DERIVED. THE GIVEN ROWS OF THIS SEAT. 4 by the template 'for every input the law returns true; each argument reads behind the call as it read before'; 0 by the template 'total and deterministic' (their statements: YtdphnkjmpogecaaTotals.lean).
  GIVEN WITH THE SEED: the statements are not yours to turn. If you find one false, say at which input.
  Laid BY PROGRAM, IN A SANDBOX (cutbox-rows.mjs): the forced cells as the released guide's own fill.sh prints them over the translation 624ed292348164ce… (all of the seat's roots in one cut). By AI agents, Wed Nov 11 2026. No macro, syntax, notation, axiom, sorry.
-/
import Derived.Test.YtdphnkjmpogecaaChecked
import GoSem.Claim
import GoSem.ClaimJoined
import GoSem.ClaimMapViews
import Derived.JoinedTies
import Derived.KernelRfl
namespace Go.Proofs.Ytdphnkjmpogecaa
/- THE CELL 'sum', in the pinned program and in every row, IS THE sha256 OF THE DUMP (.gsa) THAT YtdphnkjmpogecaaProg.lean LOADS. Nothing in Lean hashes anything: it is a label: what it is worth is what the hold of that sum in a sandbox is worth. -/
noncomputable def Try.pinned : Pinned := { name := "ytdphnkjmpogecaa", sum := "624ed292348164ceaaef9337c96a1e6ba6ab834bb1f7f5b9f4b0af1969338333", checked := Try.checked }
namespace Rows
def none {H : Type} : Left H := { results := [], args := [] }

/-- 'laws.FnLaw': WHATEVER THE INPUT: true; the input reads as it did. -/
def fnLawSpec : ChangeSpec := { name := "fnLaw", fn := fun _ => fun
  | [d] => { results := [.lit (.bool true)], args := [d] }
  | _ => none }
def fnLawRow : OpenClaim := { program := "ytdphnkjmpogecaa", sum := "624ed292348164ceaaef9337c96a1e6ba6ab834bb1f7f5b9f4b0af1969338333", func := "loop.example/g00052/laws.FnLaw", spec := "fnLaw", apart := false }
def FnLawSaid : Prop := fnLawRow.holds Try.pinned (OpenSpec.ofChange fnLawSpec)

/-- ITS FALSE NEIGHBOUR: 'it returns false'. Refute it at one input. -/
def fnLawWrong : ChangeSpec := { name := "fnLaw", fn := fun _ => fun
  | [d] => { results := [.lit (.bool false)], args := [d] }
  | _ => none }
def FnLawWrongFalsely : Prop := fnLawRow.holds Try.pinned (OpenSpec.ofChange fnLawWrong)

/-- 'laws.FnExactVoiceOk': WHATEVER THE INPUT: true; the input reads as it did. -/
def fnExactVoiceOkSpec : ChangeSpec := { name := "fnExactVoiceOk", fn := fun _ => fun
  | [d] => { results := [.lit (.bool true)], args := [d] }
  | _ => none }
def fnExactVoiceOkRow : OpenClaim := { program := "ytdphnkjmpogecaa", sum := "624ed292348164ceaaef9337c96a1e6ba6ab834bb1f7f5b9f4b0af1969338333", func := "loop.example/g00052/laws.FnExactVoiceOk", spec := "fnExactVoiceOk", apart := false }
def FnExactVoiceOkSaid : Prop := fnExactVoiceOkRow.holds Try.pinned (OpenSpec.ofChange fnExactVoiceOkSpec)

/-- ITS FALSE NEIGHBOUR: 'it returns false'. Refute it at one input. -/
def fnExactVoiceOkWrong : ChangeSpec := { name := "fnExactVoiceOk", fn := fun _ => fun
  | [d] => { results := [.lit (.bool false)], args := [d] }
  | _ => none }
def FnExactVoiceOkWrongFalsely : Prop := fnExactVoiceOkRow.holds Try.pinned (OpenSpec.ofChange fnExactVoiceOkWrong)

/-- 'laws.FnExactToLaw': WHATEVER THE INPUT: true; the input reads as it did. -/
def fnExactToLawSpec : ChangeSpec := { name := "fnExactToLaw", fn := fun _ => fun
  | [d] => { results := [.lit (.bool true)], args := [d] }
  | _ => none }
def fnExactToLawRow : OpenClaim := { program := "ytdphnkjmpogecaa", sum := "624ed292348164ceaaef9337c96a1e6ba6ab834bb1f7f5b9f4b0af1969338333", func := "loop.example/g00052/laws.FnExactToLaw", spec := "fnExactToLaw", apart := false }
def FnExactToLawSaid : Prop := fnExactToLawRow.holds Try.pinned (OpenSpec.ofChange fnExactToLawSpec)

/-- ITS FALSE NEIGHBOUR: 'it returns false'. Refute it at one input. -/
def fnExactToLawWrong : ChangeSpec := { name := "fnExactToLaw", fn := fun _ => fun
  | [d] => { results := [.lit (.bool false)], args := [d] }
  | _ => none }
def FnExactToLawWrongFalsely : Prop := fnExactToLawRow.holds Try.pinned (OpenSpec.ofChange fnExactToLawWrong)

/-- 'laws.FnExactFromLaw': WHATEVER THE INPUT: true; the input reads as it did. -/
def fnExactFromLawSpec : ChangeSpec := { name := "fnExactFromLaw", fn := fun _ => fun
  | [d] => { results := [.lit (.bool true)], args := [d] }
  | _ => none }
def fnExactFromLawRow : OpenClaim := { program := "ytdphnkjmpogecaa", sum := "624ed292348164ceaaef9337c96a1e6ba6ab834bb1f7f5b9f4b0af1969338333", func := "loop.example/g00052/laws.FnExactFromLaw", spec := "fnExactFromLaw", apart := false }
def FnExactFromLawSaid : Prop := fnExactFromLawRow.holds Try.pinned (OpenSpec.ofChange fnExactFromLawSpec)

/-- ITS FALSE NEIGHBOUR: 'it returns false'. Refute it at one input. -/
def fnExactFromLawWrong : ChangeSpec := { name := "fnExactFromLaw", fn := fun _ => fun
  | [d] => { results := [.lit (.bool false)], args := [d] }
  | _ => none }
def FnExactFromLawWrongFalsely : Prop := fnExactFromLawRow.holds Try.pinned (OpenSpec.ofChange fnExactFromLawWrong)

/- THE SECOND FORM. 'bulk': how many values and letters a reading holds, each counted each time it is reached (what is shared counts as often as it is met; a slice's spare places count too). A statement '..UptoSaid' is the law's where the arguments, and the package variables that the reading takes, are together of bulk at most 1048576: NARROWER than '..Said'. Prove '..Said' where nothing that the law and all that it calls make is longer than what came in: it says more and counts as full. Else prove '..UptoSaid'. A law counts once. -/
mutual
def uptoBulk {H : Type} : DataW H → Nat
  | .lit (.string bytes) => bytes.length + 1
  | .lit _ => 1
  | .nil => 1
  | .ptr d => uptoBulk d + 1
  | .slice elems spare => uptoBulkAll elems + uptoBulkAll spare + 1
  | .agg parts => uptoBulkAll parts + 1
  | .iface _ d => uptoBulk d + 1
  | .map entries => uptoBulkEntries entries + 1
  | .held _ => 1
def uptoBulkAll {H : Type} : List (DataW H) → Nat
  | [] => 0
  | d :: r => uptoBulk d + uptoBulkAll r
def uptoBulkEntries {H : Type} : List (Lit × DataW H) → Nat
  | [] => 0
  | x :: r => uptoBulkEntry x + uptoBulkEntries r
def uptoBulkEntry {H : Type} : Lit × DataW H → Nat
  | (.string bytes, d) => bytes.length + uptoBulk d + 1
  | (_, d) => uptoBulk d + 1
 end
def uptoSmall : (H : Type) → List (DataW H) → Bool := fun _ ds => decide (uptoBulkAll ds ≤ 1048576)
def OpenSpec.upto (s : _root_.Go.ChangeSpec) : _root_.Go.OpenSpec := { _root_.Go.OpenSpec.ofChange s with cond := some uptoSmall }

/-- 'laws.FnLaw', WHERE WHAT IT READS IS OF BULK AT MOST 1048576: true; the input reads as it did. -/
def fnLawUptoRow : OpenClaim := { program := "ytdphnkjmpogecaa", sum := "624ed292348164ceaaef9337c96a1e6ba6ab834bb1f7f5b9f4b0af1969338333", func := "loop.example/g00052/laws.FnLaw", spec := "fnLaw", apart := false, narrowed := true }
def FnLawUptoSaid : Prop := fnLawUptoRow.holds Try.pinned (OpenSpec.upto fnLawSpec)

/-- 'laws.FnExactVoiceOk', WHERE WHAT IT READS IS OF BULK AT MOST 1048576: true; the input reads as it did. -/
def fnExactVoiceOkUptoRow : OpenClaim := { program := "ytdphnkjmpogecaa", sum := "624ed292348164ceaaef9337c96a1e6ba6ab834bb1f7f5b9f4b0af1969338333", func := "loop.example/g00052/laws.FnExactVoiceOk", spec := "fnExactVoiceOk", apart := false, narrowed := true }
def FnExactVoiceOkUptoSaid : Prop := fnExactVoiceOkUptoRow.holds Try.pinned (OpenSpec.upto fnExactVoiceOkSpec)

/-- 'laws.FnExactToLaw', WHERE WHAT IT READS IS OF BULK AT MOST 1048576: true; the input reads as it did. -/
def fnExactToLawUptoRow : OpenClaim := { program := "ytdphnkjmpogecaa", sum := "624ed292348164ceaaef9337c96a1e6ba6ab834bb1f7f5b9f4b0af1969338333", func := "loop.example/g00052/laws.FnExactToLaw", spec := "fnExactToLaw", apart := false, narrowed := true }
def FnExactToLawUptoSaid : Prop := fnExactToLawUptoRow.holds Try.pinned (OpenSpec.upto fnExactToLawSpec)

/-- 'laws.FnExactFromLaw', WHERE WHAT IT READS IS OF BULK AT MOST 1048576: true; the input reads as it did. -/
def fnExactFromLawUptoRow : OpenClaim := { program := "ytdphnkjmpogecaa", sum := "624ed292348164ceaaef9337c96a1e6ba6ab834bb1f7f5b9f4b0af1969338333", func := "loop.example/g00052/laws.FnExactFromLaw", spec := "fnExactFromLaw", apart := false, narrowed := true }
def FnExactFromLawUptoSaid : Prop := fnExactFromLawUptoRow.holds Try.pinned (OpenSpec.upto fnExactFromLawSpec)

end Rows
end Go.Proofs.Ytdphnkjmpogecaa

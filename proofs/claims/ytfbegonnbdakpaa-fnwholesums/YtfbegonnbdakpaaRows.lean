/-
  No cell of these rows narrows 'for every input' (looked for: loops, veiled, ifaces, maps, wideKeys, modest, calm, conditions, laid).
  DERIVED. THE GIVEN ROWS OF THIS SEAT. 17 by the template 'for every input the law returns true; each argument reads behind the call as it read before'; 0 by the template 'total and deterministic' (their statements: YtfbegonnbdakpaaTotals.lean).
  GIVEN WITH THE SEED: the statements are not yours to turn. If you find one false, say at which input.
  Laid BY PROGRAM, IN A SANDBOX (cutbox-rows.mjs): the forced cells as the released guide's own fill.sh prints them over the translation 123fb426dfb6e033… (all of the seat's roots in one cut). By AI agents, Wed Nov 11 2026. No macro, syntax, notation, axiom, sorry.
-/
import Derived.Test.YtfbegonnbdakpaaChecked
import GoSem.Claim
import GoSem.ClaimJoined
import GoSem.ClaimMapViews
import Derived.JoinedTies
import Derived.KernelRfl
namespace Go.Proofs.Ytfbegonnbdakpaa
/- THE CELL 'sum', in the pinned program and in every row, IS THE sha256 OF THE DUMP (.gsa) THAT YtfbegonnbdakpaaProg.lean LOADS. Nothing in Lean hashes anything: it is a label: what it is worth is what the hold of that sum in a sandbox is worth. -/
noncomputable def Try.pinned : Pinned := { name := "ytfbegonnbdakpaa", sum := "123fb426dfb6e0333095ca8c17649769985100bfa0e5768f67d8680b78bcc799", checked := Try.checked }
namespace Rows
def none {H : Type} : Left H := { results := [], args := [] }

/-- 'laws.FnNarrowed': WHATEVER THE INPUT: true; the input reads as it did. -/
def fnNarrowedSpec : ChangeSpec := { name := "fnNarrowed", fn := fun _ => fun
  | [d] => { results := [.lit (.bool true)], args := [d] }
  | _ => none }
def fnNarrowedRow : OpenClaim := { program := "ytfbegonnbdakpaa", sum := "123fb426dfb6e0333095ca8c17649769985100bfa0e5768f67d8680b78bcc799", func := "loop.example/g00052/laws.FnNarrowed", spec := "fnNarrowed", apart := false }
def FnNarrowedSaid : Prop := fnNarrowedRow.holds Try.pinned (OpenSpec.ofChange fnNarrowedSpec)

/-- ITS FALSE NEIGHBOUR: 'it returns false'. Refute it at one input. -/
def fnNarrowedWrong : ChangeSpec := { name := "fnNarrowed", fn := fun _ => fun
  | [d] => { results := [.lit (.bool false)], args := [d] }
  | _ => none }
def FnNarrowedWrongFalsely : Prop := fnNarrowedRow.holds Try.pinned (OpenSpec.ofChange fnNarrowedWrong)

/-- 'laws.FnWholeSums': WHATEVER THE INPUT: true; the input reads as it did. -/
def fnWholeSumsSpec : ChangeSpec := { name := "fnWholeSums", fn := fun _ => fun
  | [d] => { results := [.lit (.bool true)], args := [d] }
  | _ => none }
def fnWholeSumsRow : OpenClaim := { program := "ytfbegonnbdakpaa", sum := "123fb426dfb6e0333095ca8c17649769985100bfa0e5768f67d8680b78bcc799", func := "loop.example/g00052/laws.FnWholeSums", spec := "fnWholeSums", apart := false }
def FnWholeSumsSaid : Prop := fnWholeSumsRow.holds Try.pinned (OpenSpec.ofChange fnWholeSumsSpec)

/-- ITS FALSE NEIGHBOUR: 'it returns false'. Refute it at one input. -/
def fnWholeSumsWrong : ChangeSpec := { name := "fnWholeSums", fn := fun _ => fun
  | [d] => { results := [.lit (.bool false)], args := [d] }
  | _ => none }
def FnWholeSumsWrongFalsely : Prop := fnWholeSumsRow.holds Try.pinned (OpenSpec.ofChange fnWholeSumsWrong)

/-- 'laws.FnTurned14': WHATEVER THE INPUT: true; the input reads as it did. -/
def fnTurned14Spec : ChangeSpec := { name := "fnTurned14", fn := fun _ => fun
  | [d] => { results := [.lit (.bool true)], args := [d] }
  | _ => none }
def fnTurned14Row : OpenClaim := { program := "ytfbegonnbdakpaa", sum := "123fb426dfb6e0333095ca8c17649769985100bfa0e5768f67d8680b78bcc799", func := "loop.example/g00052/laws.FnTurned14", spec := "fnTurned14", apart := false }
def FnTurned14Said : Prop := fnTurned14Row.holds Try.pinned (OpenSpec.ofChange fnTurned14Spec)

/-- ITS FALSE NEIGHBOUR: 'it returns false'. Refute it at one input. -/
def fnTurned14Wrong : ChangeSpec := { name := "fnTurned14", fn := fun _ => fun
  | [d] => { results := [.lit (.bool false)], args := [d] }
  | _ => none }
def FnTurned14WrongFalsely : Prop := fnTurned14Row.holds Try.pinned (OpenSpec.ofChange fnTurned14Wrong)

/-- 'laws.FnLearnt': WHATEVER THE INPUT: true; the input reads as it did. -/
def fnLearntSpec : ChangeSpec := { name := "fnLearnt", fn := fun _ => fun
  | [d] => { results := [.lit (.bool true)], args := [d] }
  | _ => none }
def fnLearntRow : OpenClaim := { program := "ytfbegonnbdakpaa", sum := "123fb426dfb6e0333095ca8c17649769985100bfa0e5768f67d8680b78bcc799", func := "loop.example/g00052/laws.FnLearnt", spec := "fnLearnt", apart := false }
def FnLearntSaid : Prop := fnLearntRow.holds Try.pinned (OpenSpec.ofChange fnLearntSpec)

/-- ITS FALSE NEIGHBOUR: 'it returns false'. Refute it at one input. -/
def fnLearntWrong : ChangeSpec := { name := "fnLearnt", fn := fun _ => fun
  | [d] => { results := [.lit (.bool false)], args := [d] }
  | _ => none }
def FnLearntWrongFalsely : Prop := fnLearntRow.holds Try.pinned (OpenSpec.ofChange fnLearntWrong)

/-- 'laws.FnExactWiden': WHATEVER THE INPUT: true; the input reads as it did. -/
def fnExactWidenSpec : ChangeSpec := { name := "fnExactWiden", fn := fun _ => fun
  | [d] => { results := [.lit (.bool true)], args := [d] }
  | _ => none }
def fnExactWidenRow : OpenClaim := { program := "ytfbegonnbdakpaa", sum := "123fb426dfb6e0333095ca8c17649769985100bfa0e5768f67d8680b78bcc799", func := "loop.example/g00052/laws.FnExactWiden", spec := "fnExactWiden", apart := false }
def FnExactWidenSaid : Prop := fnExactWidenRow.holds Try.pinned (OpenSpec.ofChange fnExactWidenSpec)

/-- ITS FALSE NEIGHBOUR: 'it returns false'. Refute it at one input. -/
def fnExactWidenWrong : ChangeSpec := { name := "fnExactWiden", fn := fun _ => fun
  | [d] => { results := [.lit (.bool false)], args := [d] }
  | _ => none }
def FnExactWidenWrongFalsely : Prop := fnExactWidenRow.holds Try.pinned (OpenSpec.ofChange fnExactWidenWrong)

/-- 'laws.FnExactNarrow': WHATEVER THE INPUT: true; the input reads as it did. -/
def fnExactNarrowSpec : ChangeSpec := { name := "fnExactNarrow", fn := fun _ => fun
  | [d] => { results := [.lit (.bool true)], args := [d] }
  | _ => none }
def fnExactNarrowRow : OpenClaim := { program := "ytfbegonnbdakpaa", sum := "123fb426dfb6e0333095ca8c17649769985100bfa0e5768f67d8680b78bcc799", func := "loop.example/g00052/laws.FnExactNarrow", spec := "fnExactNarrow", apart := false }
def FnExactNarrowSaid : Prop := fnExactNarrowRow.holds Try.pinned (OpenSpec.ofChange fnExactNarrowSpec)

/-- ITS FALSE NEIGHBOUR: 'it returns false'. Refute it at one input. -/
def fnExactNarrowWrong : ChangeSpec := { name := "fnExactNarrow", fn := fun _ => fun
  | [d] => { results := [.lit (.bool false)], args := [d] }
  | _ => none }
def FnExactNarrowWrongFalsely : Prop := fnExactNarrowRow.holds Try.pinned (OpenSpec.ofChange fnExactNarrowWrong)

/-- 'laws.FnExactAddSample': WHATEVER THE INPUT: true; the input reads as it did. -/
def fnExactAddSampleSpec : ChangeSpec := { name := "fnExactAddSample", fn := fun _ => fun
  | [d1, d2] => { results := [.lit (.bool true)], args := [d1, d2] }
  | _ => none }
def fnExactAddSampleRow : OpenClaim := { program := "ytfbegonnbdakpaa", sum := "123fb426dfb6e0333095ca8c17649769985100bfa0e5768f67d8680b78bcc799", func := "loop.example/g00052/laws.FnExactAddSample", spec := "fnExactAddSample", apart := false }
def FnExactAddSampleSaid : Prop := fnExactAddSampleRow.holds Try.pinned (OpenSpec.ofChange fnExactAddSampleSpec)

/-- ITS FALSE NEIGHBOUR: 'it returns false'. Refute it at one input. -/
def fnExactAddSampleWrong : ChangeSpec := { name := "fnExactAddSample", fn := fun _ => fun
  | [d1, d2] => { results := [.lit (.bool false)], args := [d1, d2] }
  | _ => none }
def FnExactAddSampleWrongFalsely : Prop := fnExactAddSampleRow.holds Try.pinned (OpenSpec.ofChange fnExactAddSampleWrong)

/-- 'laws.FnExactSubSample': WHATEVER THE INPUT: true; the input reads as it did. -/
def fnExactSubSampleSpec : ChangeSpec := { name := "fnExactSubSample", fn := fun _ => fun
  | [d1, d2] => { results := [.lit (.bool true)], args := [d1, d2] }
  | _ => none }
def fnExactSubSampleRow : OpenClaim := { program := "ytfbegonnbdakpaa", sum := "123fb426dfb6e0333095ca8c17649769985100bfa0e5768f67d8680b78bcc799", func := "loop.example/g00052/laws.FnExactSubSample", spec := "fnExactSubSample", apart := false }
def FnExactSubSampleSaid : Prop := fnExactSubSampleRow.holds Try.pinned (OpenSpec.ofChange fnExactSubSampleSpec)

/-- ITS FALSE NEIGHBOUR: 'it returns false'. Refute it at one input. -/
def fnExactSubSampleWrong : ChangeSpec := { name := "fnExactSubSample", fn := fun _ => fun
  | [d1, d2] => { results := [.lit (.bool false)], args := [d1, d2] }
  | _ => none }
def FnExactSubSampleWrongFalsely : Prop := fnExactSubSampleRow.holds Try.pinned (OpenSpec.ofChange fnExactSubSampleWrong)

/-- 'laws.FnExactMulSample': WHATEVER THE INPUT: true; the input reads as it did. -/
def fnExactMulSampleSpec : ChangeSpec := { name := "fnExactMulSample", fn := fun _ => fun
  | [d1, d2] => { results := [.lit (.bool true)], args := [d1, d2] }
  | _ => none }
def fnExactMulSampleRow : OpenClaim := { program := "ytfbegonnbdakpaa", sum := "123fb426dfb6e0333095ca8c17649769985100bfa0e5768f67d8680b78bcc799", func := "loop.example/g00052/laws.FnExactMulSample", spec := "fnExactMulSample", apart := false }
def FnExactMulSampleSaid : Prop := fnExactMulSampleRow.holds Try.pinned (OpenSpec.ofChange fnExactMulSampleSpec)

/-- ITS FALSE NEIGHBOUR: 'it returns false'. Refute it at one input. -/
def fnExactMulSampleWrong : ChangeSpec := { name := "fnExactMulSample", fn := fun _ => fun
  | [d1, d2] => { results := [.lit (.bool false)], args := [d1, d2] }
  | _ => none }
def FnExactMulSampleWrongFalsely : Prop := fnExactMulSampleRow.holds Try.pinned (OpenSpec.ofChange fnExactMulSampleWrong)

/-- 'laws.FnExactMulWide': WHATEVER THE INPUT: true; the input reads as it did. -/
def fnExactMulWideSpec : ChangeSpec := { name := "fnExactMulWide", fn := fun _ => fun
  | [d1, d2] => { results := [.lit (.bool true)], args := [d1, d2] }
  | _ => none }
def fnExactMulWideRow : OpenClaim := { program := "ytfbegonnbdakpaa", sum := "123fb426dfb6e0333095ca8c17649769985100bfa0e5768f67d8680b78bcc799", func := "loop.example/g00052/laws.FnExactMulWide", spec := "fnExactMulWide", apart := false }
def FnExactMulWideSaid : Prop := fnExactMulWideRow.holds Try.pinned (OpenSpec.ofChange fnExactMulWideSpec)

/-- ITS FALSE NEIGHBOUR: 'it returns false'. Refute it at one input. -/
def fnExactMulWideWrong : ChangeSpec := { name := "fnExactMulWide", fn := fun _ => fun
  | [d1, d2] => { results := [.lit (.bool false)], args := [d1, d2] }
  | _ => none }
def FnExactMulWideWrongFalsely : Prop := fnExactMulWideRow.holds Try.pinned (OpenSpec.ofChange fnExactMulWideWrong)

/-- 'laws.FnExactQuotWide': WHATEVER THE INPUT: true; the input reads as it did. -/
def fnExactQuotWideSpec : ChangeSpec := { name := "fnExactQuotWide", fn := fun _ => fun
  | [d1, d2] => { results := [.lit (.bool true)], args := [d1, d2] }
  | _ => none }
def fnExactQuotWideRow : OpenClaim := { program := "ytfbegonnbdakpaa", sum := "123fb426dfb6e0333095ca8c17649769985100bfa0e5768f67d8680b78bcc799", func := "loop.example/g00052/laws.FnExactQuotWide", spec := "fnExactQuotWide", inPlace := ["math.Float64bits", "math.Float64frombits"], apart := false }
def FnExactQuotWideSaid : Prop := fnExactQuotWideRow.holds Try.pinned (OpenSpec.ofChange fnExactQuotWideSpec)

/-- ITS FALSE NEIGHBOUR: 'it returns false'. Refute it at one input. -/
def fnExactQuotWideWrong : ChangeSpec := { name := "fnExactQuotWide", fn := fun _ => fun
  | [d1, d2] => { results := [.lit (.bool false)], args := [d1, d2] }
  | _ => none }
def FnExactQuotWideWrongFalsely : Prop := fnExactQuotWideRow.holds Try.pinned (OpenSpec.ofChange fnExactQuotWideWrong)

/-- 'laws.FnExactQuotSample': WHATEVER THE INPUT: true; the input reads as it did. -/
def fnExactQuotSampleSpec : ChangeSpec := { name := "fnExactQuotSample", fn := fun _ => fun
  | [d1, d2] => { results := [.lit (.bool true)], args := [d1, d2] }
  | _ => none }
def fnExactQuotSampleRow : OpenClaim := { program := "ytfbegonnbdakpaa", sum := "123fb426dfb6e0333095ca8c17649769985100bfa0e5768f67d8680b78bcc799", func := "loop.example/g00052/laws.FnExactQuotSample", spec := "fnExactQuotSample", inPlace := ["math.Float64bits", "math.Float64frombits"], apart := false }
def FnExactQuotSampleSaid : Prop := fnExactQuotSampleRow.holds Try.pinned (OpenSpec.ofChange fnExactQuotSampleSpec)

/-- ITS FALSE NEIGHBOUR: 'it returns false'. Refute it at one input. -/
def fnExactQuotSampleWrong : ChangeSpec := { name := "fnExactQuotSample", fn := fun _ => fun
  | [d1, d2] => { results := [.lit (.bool false)], args := [d1, d2] }
  | _ => none }
def FnExactQuotSampleWrongFalsely : Prop := fnExactQuotSampleRow.holds Try.pinned (OpenSpec.ofChange fnExactQuotSampleWrong)

/-- 'laws.FnExactSameSample': WHATEVER THE INPUT: true; the input reads as it did. -/
def fnExactSameSampleSpec : ChangeSpec := { name := "fnExactSameSample", fn := fun _ => fun
  | [d1, d2] => { results := [.lit (.bool true)], args := [d1, d2] }
  | _ => none }
def fnExactSameSampleRow : OpenClaim := { program := "ytfbegonnbdakpaa", sum := "123fb426dfb6e0333095ca8c17649769985100bfa0e5768f67d8680b78bcc799", func := "loop.example/g00052/laws.FnExactSameSample", spec := "fnExactSameSample", apart := false }
def FnExactSameSampleSaid : Prop := fnExactSameSampleRow.holds Try.pinned (OpenSpec.ofChange fnExactSameSampleSpec)

/-- ITS FALSE NEIGHBOUR: 'it returns false'. Refute it at one input. -/
def fnExactSameSampleWrong : ChangeSpec := { name := "fnExactSameSample", fn := fun _ => fun
  | [d1, d2] => { results := [.lit (.bool false)], args := [d1, d2] }
  | _ => none }
def FnExactSameSampleWrongFalsely : Prop := fnExactSameSampleRow.holds Try.pinned (OpenSpec.ofChange fnExactSameSampleWrong)

/-- 'laws.FnExactSums': WHATEVER THE INPUT: true; the input reads as it did. -/
def fnExactSumsSpec : ChangeSpec := { name := "fnExactSums", fn := fun _ => fun
  | [d] => { results := [.lit (.bool true)], args := [d] }
  | _ => none }
def fnExactSumsRow : OpenClaim := { program := "ytfbegonnbdakpaa", sum := "123fb426dfb6e0333095ca8c17649769985100bfa0e5768f67d8680b78bcc799", func := "loop.example/g00052/laws.FnExactSums", spec := "fnExactSums", apart := false }
def FnExactSumsSaid : Prop := fnExactSumsRow.holds Try.pinned (OpenSpec.ofChange fnExactSumsSpec)

/-- ITS FALSE NEIGHBOUR: 'it returns false'. Refute it at one input. -/
def fnExactSumsWrong : ChangeSpec := { name := "fnExactSums", fn := fun _ => fun
  | [d] => { results := [.lit (.bool false)], args := [d] }
  | _ => none }
def FnExactSumsWrongFalsely : Prop := fnExactSumsRow.holds Try.pinned (OpenSpec.ofChange fnExactSumsWrong)

/-- 'laws.FnExactMatch14': WHATEVER THE INPUT: true; the input reads as it did. -/
def fnExactMatch14Spec : ChangeSpec := { name := "fnExactMatch14", fn := fun _ => fun
  | [d1, d2] => { results := [.lit (.bool true)], args := [d1, d2] }
  | _ => none }
def fnExactMatch14Row : OpenClaim := { program := "ytfbegonnbdakpaa", sum := "123fb426dfb6e0333095ca8c17649769985100bfa0e5768f67d8680b78bcc799", func := "loop.example/g00052/laws.FnExactMatch14", spec := "fnExactMatch14", apart := false }
def FnExactMatch14Said : Prop := fnExactMatch14Row.holds Try.pinned (OpenSpec.ofChange fnExactMatch14Spec)

/-- ITS FALSE NEIGHBOUR: 'it returns false'. Refute it at one input. -/
def fnExactMatch14Wrong : ChangeSpec := { name := "fnExactMatch14", fn := fun _ => fun
  | [d1, d2] => { results := [.lit (.bool false)], args := [d1, d2] }
  | _ => none }
def FnExactMatch14WrongFalsely : Prop := fnExactMatch14Row.holds Try.pinned (OpenSpec.ofChange fnExactMatch14Wrong)

/-- 'laws.FnExactTurns': WHATEVER THE INPUT: true; the input reads as it did. -/
def fnExactTurnsSpec : ChangeSpec := { name := "fnExactTurns", fn := fun _ => fun
  | [d1, d2] => { results := [.lit (.bool true)], args := [d1, d2] }
  | _ => none }
def fnExactTurnsRow : OpenClaim := { program := "ytfbegonnbdakpaa", sum := "123fb426dfb6e0333095ca8c17649769985100bfa0e5768f67d8680b78bcc799", func := "loop.example/g00052/laws.FnExactTurns", spec := "fnExactTurns", apart := false }
def FnExactTurnsSaid : Prop := fnExactTurnsRow.holds Try.pinned (OpenSpec.ofChange fnExactTurnsSpec)

/-- ITS FALSE NEIGHBOUR: 'it returns false'. Refute it at one input. -/
def fnExactTurnsWrong : ChangeSpec := { name := "fnExactTurns", fn := fun _ => fun
  | [d1, d2] => { results := [.lit (.bool false)], args := [d1, d2] }
  | _ => none }
def FnExactTurnsWrongFalsely : Prop := fnExactTurnsRow.holds Try.pinned (OpenSpec.ofChange fnExactTurnsWrong)

/-- 'laws.FnExactLearn': WHATEVER THE INPUT: true; the input reads as it did. -/
def fnExactLearnSpec : ChangeSpec := { name := "fnExactLearn", fn := fun _ => fun
  | [d1, d2, d3, d4] => { results := [.lit (.bool true)], args := [d1, d2, d3, d4] }
  | _ => none }
def fnExactLearnRow : OpenClaim := { program := "ytfbegonnbdakpaa", sum := "123fb426dfb6e0333095ca8c17649769985100bfa0e5768f67d8680b78bcc799", func := "loop.example/g00052/laws.FnExactLearn", spec := "fnExactLearn", apart := false }
def FnExactLearnSaid : Prop := fnExactLearnRow.holds Try.pinned (OpenSpec.ofChange fnExactLearnSpec)

/-- ITS FALSE NEIGHBOUR: 'it returns false'. Refute it at one input. -/
def fnExactLearnWrong : ChangeSpec := { name := "fnExactLearn", fn := fun _ => fun
  | [d1, d2, d3, d4] => { results := [.lit (.bool false)], args := [d1, d2, d3, d4] }
  | _ => none }
def FnExactLearnWrongFalsely : Prop := fnExactLearnRow.holds Try.pinned (OpenSpec.ofChange fnExactLearnWrong)

/- THE SECOND FORM. 'bulk': how many values and letters a reading holds, each counted each time it is reached (what is shared counts as often as it is met; a slice's spare places count too). A statement '..UptoSaid' is the law's where the arguments, and the package variables that the reading takes, are together of bulk at most 1048576: NARROWER than '..Said'. Prove '..Said' where nothing that the law and all that it calls make is longer than what came in: it says more and counts as full. Else prove '..UptoSaid'. A law counts once. -/
mutual
def uptoBulk {H : Type} : DataW H → Nat
  | .lit (.string bytes) => bytes.length + 1
  | .lit _ => 1
  | .nil => 1
  | .ptr d => uptoBulk d + 1
  | .slice elems spare => uptoBulkAll elems + uptoBulkAll spare + 1
  | .agg parts => uptoBulkAll parts + 1
  | .iface _ d => uptoBulk d + 1
  | .map entries => uptoBulkEntries entries + 1
  | .held _ => 1
def uptoBulkAll {H : Type} : List (DataW H) → Nat
  | [] => 0
  | d :: r => uptoBulk d + uptoBulkAll r
def uptoBulkEntries {H : Type} : List (Lit × DataW H) → Nat
  | [] => 0
  | x :: r => uptoBulkEntry x + uptoBulkEntries r
def uptoBulkEntry {H : Type} : Lit × DataW H → Nat
  | (.string bytes, d) => bytes.length + uptoBulk d + 1
  | (_, d) => uptoBulk d + 1
 end
def uptoSmall : (H : Type) → List (DataW H) → Bool := fun _ ds => decide (uptoBulkAll ds ≤ 1048576)
def OpenSpec.upto (s : _root_.Go.ChangeSpec) : _root_.Go.OpenSpec := { _root_.Go.OpenSpec.ofChange s with cond := some uptoSmall }

/-- 'laws.FnNarrowed', WHERE WHAT IT READS IS OF BULK AT MOST 1048576: true; the input reads as it did. -/
def fnNarrowedUptoRow : OpenClaim := { program := "ytfbegonnbdakpaa", sum := "123fb426dfb6e0333095ca8c17649769985100bfa0e5768f67d8680b78bcc799", func := "loop.example/g00052/laws.FnNarrowed", spec := "fnNarrowed", apart := false, narrowed := true }
def FnNarrowedUptoSaid : Prop := fnNarrowedUptoRow.holds Try.pinned (OpenSpec.upto fnNarrowedSpec)

/-- 'laws.FnWholeSums', WHERE WHAT IT READS IS OF BULK AT MOST 1048576: true; the input reads as it did. -/
def fnWholeSumsUptoRow : OpenClaim := { program := "ytfbegonnbdakpaa", sum := "123fb426dfb6e0333095ca8c17649769985100bfa0e5768f67d8680b78bcc799", func := "loop.example/g00052/laws.FnWholeSums", spec := "fnWholeSums", apart := false, narrowed := true }
def FnWholeSumsUptoSaid : Prop := fnWholeSumsUptoRow.holds Try.pinned (OpenSpec.upto fnWholeSumsSpec)

/-- 'laws.FnTurned14', WHERE WHAT IT READS IS OF BULK AT MOST 1048576: true; the input reads as it did. -/
def fnTurned14UptoRow : OpenClaim := { program := "ytfbegonnbdakpaa", sum := "123fb426dfb6e0333095ca8c17649769985100bfa0e5768f67d8680b78bcc799", func := "loop.example/g00052/laws.FnTurned14", spec := "fnTurned14", apart := false, narrowed := true }
def FnTurned14UptoSaid : Prop := fnTurned14UptoRow.holds Try.pinned (OpenSpec.upto fnTurned14Spec)

/-- 'laws.FnLearnt', WHERE WHAT IT READS IS OF BULK AT MOST 1048576: true; the input reads as it did. -/
def fnLearntUptoRow : OpenClaim := { program := "ytfbegonnbdakpaa", sum := "123fb426dfb6e0333095ca8c17649769985100bfa0e5768f67d8680b78bcc799", func := "loop.example/g00052/laws.FnLearnt", spec := "fnLearnt", apart := false, narrowed := true }
def FnLearntUptoSaid : Prop := fnLearntUptoRow.holds Try.pinned (OpenSpec.upto fnLearntSpec)

/-- 'laws.FnExactWiden', WHERE WHAT IT READS IS OF BULK AT MOST 1048576: true; the input reads as it did. -/
def fnExactWidenUptoRow : OpenClaim := { program := "ytfbegonnbdakpaa", sum := "123fb426dfb6e0333095ca8c17649769985100bfa0e5768f67d8680b78bcc799", func := "loop.example/g00052/laws.FnExactWiden", spec := "fnExactWiden", apart := false, narrowed := true }
def FnExactWidenUptoSaid : Prop := fnExactWidenUptoRow.holds Try.pinned (OpenSpec.upto fnExactWidenSpec)

/-- 'laws.FnExactNarrow', WHERE WHAT IT READS IS OF BULK AT MOST 1048576: true; the input reads as it did. -/
def fnExactNarrowUptoRow : OpenClaim := { program := "ytfbegonnbdakpaa", sum := "123fb426dfb6e0333095ca8c17649769985100bfa0e5768f67d8680b78bcc799", func := "loop.example/g00052/laws.FnExactNarrow", spec := "fnExactNarrow", apart := false, narrowed := true }
def FnExactNarrowUptoSaid : Prop := fnExactNarrowUptoRow.holds Try.pinned (OpenSpec.upto fnExactNarrowSpec)

/-- 'laws.FnExactAddSample', WHERE WHAT IT READS IS OF BULK AT MOST 1048576: true; the input reads as it did. -/
def fnExactAddSampleUptoRow : OpenClaim := { program := "ytfbegonnbdakpaa", sum := "123fb426dfb6e0333095ca8c17649769985100bfa0e5768f67d8680b78bcc799", func := "loop.example/g00052/laws.FnExactAddSample", spec := "fnExactAddSample", apart := false, narrowed := true }
def FnExactAddSampleUptoSaid : Prop := fnExactAddSampleUptoRow.holds Try.pinned (OpenSpec.upto fnExactAddSampleSpec)

/-- 'laws.FnExactSubSample', WHERE WHAT IT READS IS OF BULK AT MOST 1048576: true; the input reads as it did. -/
def fnExactSubSampleUptoRow : OpenClaim := { program := "ytfbegonnbdakpaa", sum := "123fb426dfb6e0333095ca8c17649769985100bfa0e5768f67d8680b78bcc799", func := "loop.example/g00052/laws.FnExactSubSample", spec := "fnExactSubSample", apart := false, narrowed := true }
def FnExactSubSampleUptoSaid : Prop := fnExactSubSampleUptoRow.holds Try.pinned (OpenSpec.upto fnExactSubSampleSpec)

/-- 'laws.FnExactMulSample', WHERE WHAT IT READS IS OF BULK AT MOST 1048576: true; the input reads as it did. -/
def fnExactMulSampleUptoRow : OpenClaim := { program := "ytfbegonnbdakpaa", sum := "123fb426dfb6e0333095ca8c17649769985100bfa0e5768f67d8680b78bcc799", func := "loop.example/g00052/laws.FnExactMulSample", spec := "fnExactMulSample", apart := false, narrowed := true }
def FnExactMulSampleUptoSaid : Prop := fnExactMulSampleUptoRow.holds Try.pinned (OpenSpec.upto fnExactMulSampleSpec)

/-- 'laws.FnExactMulWide', WHERE WHAT IT READS IS OF BULK AT MOST 1048576: true; the input reads as it did. -/
def fnExactMulWideUptoRow : OpenClaim := { program := "ytfbegonnbdakpaa", sum := "123fb426dfb6e0333095ca8c17649769985100bfa0e5768f67d8680b78bcc799", func := "loop.example/g00052/laws.FnExactMulWide", spec := "fnExactMulWide", apart := false, narrowed := true }
def FnExactMulWideUptoSaid : Prop := fnExactMulWideUptoRow.holds Try.pinned (OpenSpec.upto fnExactMulWideSpec)

/-- 'laws.FnExactQuotWide', WHERE WHAT IT READS IS OF BULK AT MOST 1048576: true; the input reads as it did. -/
def fnExactQuotWideUptoRow : OpenClaim := { program := "ytfbegonnbdakpaa", sum := "123fb426dfb6e0333095ca8c17649769985100bfa0e5768f67d8680b78bcc799", func := "loop.example/g00052/laws.FnExactQuotWide", spec := "fnExactQuotWide", inPlace := ["math.Float64bits", "math.Float64frombits"], apart := false, narrowed := true }
def FnExactQuotWideUptoSaid : Prop := fnExactQuotWideUptoRow.holds Try.pinned (OpenSpec.upto fnExactQuotWideSpec)

/-- 'laws.FnExactQuotSample', WHERE WHAT IT READS IS OF BULK AT MOST 1048576: true; the input reads as it did. -/
def fnExactQuotSampleUptoRow : OpenClaim := { program := "ytfbegonnbdakpaa", sum := "123fb426dfb6e0333095ca8c17649769985100bfa0e5768f67d8680b78bcc799", func := "loop.example/g00052/laws.FnExactQuotSample", spec := "fnExactQuotSample", inPlace := ["math.Float64bits", "math.Float64frombits"], apart := false, narrowed := true }
def FnExactQuotSampleUptoSaid : Prop := fnExactQuotSampleUptoRow.holds Try.pinned (OpenSpec.upto fnExactQuotSampleSpec)

/-- 'laws.FnExactSameSample', WHERE WHAT IT READS IS OF BULK AT MOST 1048576: true; the input reads as it did. -/
def fnExactSameSampleUptoRow : OpenClaim := { program := "ytfbegonnbdakpaa", sum := "123fb426dfb6e0333095ca8c17649769985100bfa0e5768f67d8680b78bcc799", func := "loop.example/g00052/laws.FnExactSameSample", spec := "fnExactSameSample", apart := false, narrowed := true }
def FnExactSameSampleUptoSaid : Prop := fnExactSameSampleUptoRow.holds Try.pinned (OpenSpec.upto fnExactSameSampleSpec)

/-- 'laws.FnExactSums', WHERE WHAT IT READS IS OF BULK AT MOST 1048576: true; the input reads as it did. -/
def fnExactSumsUptoRow : OpenClaim := { program := "ytfbegonnbdakpaa", sum := "123fb426dfb6e0333095ca8c17649769985100bfa0e5768f67d8680b78bcc799", func := "loop.example/g00052/laws.FnExactSums", spec := "fnExactSums", apart := false, narrowed := true }
def FnExactSumsUptoSaid : Prop := fnExactSumsUptoRow.holds Try.pinned (OpenSpec.upto fnExactSumsSpec)

/-- 'laws.FnExactMatch14', WHERE WHAT IT READS IS OF BULK AT MOST 1048576: true; the input reads as it did. -/
def fnExactMatch14UptoRow : OpenClaim := { program := "ytfbegonnbdakpaa", sum := "123fb426dfb6e0333095ca8c17649769985100bfa0e5768f67d8680b78bcc799", func := "loop.example/g00052/laws.FnExactMatch14", spec := "fnExactMatch14", apart := false, narrowed := true }
def FnExactMatch14UptoSaid : Prop := fnExactMatch14UptoRow.holds Try.pinned (OpenSpec.upto fnExactMatch14Spec)

/-- 'laws.FnExactTurns', WHERE WHAT IT READS IS OF BULK AT MOST 1048576: true; the input reads as it did. -/
def fnExactTurnsUptoRow : OpenClaim := { program := "ytfbegonnbdakpaa", sum := "123fb426dfb6e0333095ca8c17649769985100bfa0e5768f67d8680b78bcc799", func := "loop.example/g00052/laws.FnExactTurns", spec := "fnExactTurns", apart := false, narrowed := true }
def FnExactTurnsUptoSaid : Prop := fnExactTurnsUptoRow.holds Try.pinned (OpenSpec.upto fnExactTurnsSpec)

/-- 'laws.FnExactLearn', WHERE WHAT IT READS IS OF BULK AT MOST 1048576: true; the input reads as it did. -/
def fnExactLearnUptoRow : OpenClaim := { program := "ytfbegonnbdakpaa", sum := "123fb426dfb6e0333095ca8c17649769985100bfa0e5768f67d8680b78bcc799", func := "loop.example/g00052/laws.FnExactLearn", spec := "fnExactLearn", apart := false, narrowed := true }
def FnExactLearnUptoSaid : Prop := fnExactLearnUptoRow.holds Try.pinned (OpenSpec.upto fnExactLearnSpec)

end Rows
end Go.Proofs.Ytfbegonnbdakpaa

/-
  NARROWER THAN 'FOR EVERY INPUT', by the rows' own cells (each row's printed sentence says how): FnVoiceBack: laid · FnFramed: laid · FnInOrder: laid · FnTwice: laid · FnFaded: laid · FnExactSqueeze: laid · FnExactExpand: laid · FnExactFrameOf: laid · FnExactOfFrame: laid · FnExactPlay: laid · FnExactHear12: laid.
  DERIVED. THE GIVEN ROWS OF THIS SEAT. 11 by the template 'for every input the law returns true; each argument reads behind the call as it read before'; 0 by the template 'total and deterministic' (their statements: YtkjfcebdjnclaaaDoorTotals.lean).
  GIVEN WITH THE SEED: the statements are not yours to turn. If you find one false, say at which input.
  Laid BY PROGRAM, IN A SANDBOX (cutbox-rows.mjs): the forced cells as the released guide's own fill.sh prints them over the translation 797eaf6fe7f7250a… (all of the seat's roots in one cut). By AI agents, Wed Nov 11 2026. No macro, syntax, notation, axiom, sorry.
-/
import Derived.Test.YtkjfcebdjnclaaaDoorChecked
import GoSem.Claim
import GoSem.ClaimJoined
import GoSem.ClaimMapViews
import Derived.JoinedTies
import Derived.KernelRfl
namespace Go.Proofs.YtkjfcebdjnclaaaDoor
/- THE CELL 'sum', in the pinned program and in every row, IS THE sha256 OF THE DUMP (.gsa) THAT YtkjfcebdjnclaaaDoorProg.lean LOADS. Nothing in Lean hashes anything: it is a label: what it is worth is what the hold of that sum in a sandbox is worth. -/
noncomputable def Tryd.pinned : Pinned := { name := "ytkjfcebdjnclaaadoor", sum := "797eaf6fe7f7250acf97e3bfe0c4a7badb671965b515300bb8b4aaed6b2d37d7", checked := Tryd.checked }
namespace Rows
def none {H : Type} : Left H := { results := [], args := [] }

/- WHAT THE LISTED PACKAGE-LEVEL VARIABLES READ AS WHEN THE CALL BEGINS. Each datum BY PROGRAM (the guide's laid-datum.mjs) off the statement by which the dump's own 'gosem.cut.vars' lays the variable. In a bare row this is a premise. The card (YtkjfcebdjnclaaaDoorCards.lean) ties it to the program's text. -/
def laid_loop_example_g00052_impl_stepChanges {H : Type} : DataW H := .agg [.lit (.int .i64 (-1)), .lit (.int .i64 (-1)), .lit (.int .i64 (-1)), .lit (.int .i64 (-1)), .lit (.int .i64 2), .lit (.int .i64 4), .lit (.int .i64 6), .lit (.int .i64 8)]

/-- 'laws.FnVoiceBack': WHATEVER THE INPUT: true; the input reads as it did. -/
def fnVoiceBackSpec : ChangeSpec := { name := "fnVoiceBack", vars := ["loop.example/g00052/impl.stepChanges"], fn := fun _ => fun
  | [d, g1] => { results := [.lit (.bool true)], args := [d], vars := [g1] }
  | _ => none }
def fnVoiceBackRow : OpenClaim := { program := "ytkjfcebdjnclaaadoor", sum := "797eaf6fe7f7250acf97e3bfe0c4a7badb671965b515300bb8b4aaed6b2d37d7", func := "loop.example/g00052/laws.FnVoiceBack", spec := "fnVoiceBack", named := ["loop.example/g00052/impl.stepChanges"], apart := false, laid := [("loop.example/g00052/impl.stepChanges", laid_loop_example_g00052_impl_stepChanges)] }
def FnVoiceBackSaid : Prop := fnVoiceBackRow.holds Tryd.pinned (OpenSpec.ofChange fnVoiceBackSpec)

/-- ITS FALSE NEIGHBOUR: 'it returns false'. Refute it at one input. -/
def fnVoiceBackWrong : ChangeSpec := { name := "fnVoiceBack", vars := ["loop.example/g00052/impl.stepChanges"], fn := fun _ => fun
  | [d, g1] => { results := [.lit (.bool false)], args := [d], vars := [g1] }
  | _ => none }
def FnVoiceBackWrongFalsely : Prop := fnVoiceBackRow.holds Tryd.pinned (OpenSpec.ofChange fnVoiceBackWrong)

/-- 'laws.FnFramed': WHATEVER THE INPUT: true; the input reads as it did. -/
def fnFramedSpec : ChangeSpec := { name := "fnFramed", vars := ["loop.example/g00052/impl.stepChanges"], fn := fun _ => fun
  | [d, g1] => { results := [.lit (.bool true)], args := [d], vars := [g1] }
  | _ => none }
def fnFramedRow : OpenClaim := { program := "ytkjfcebdjnclaaadoor", sum := "797eaf6fe7f7250acf97e3bfe0c4a7badb671965b515300bb8b4aaed6b2d37d7", func := "loop.example/g00052/laws.FnFramed", spec := "fnFramed", named := ["loop.example/g00052/impl.stepChanges"], apart := false, laid := [("loop.example/g00052/impl.stepChanges", laid_loop_example_g00052_impl_stepChanges)] }
def FnFramedSaid : Prop := fnFramedRow.holds Tryd.pinned (OpenSpec.ofChange fnFramedSpec)

/-- ITS FALSE NEIGHBOUR: 'it returns false'. Refute it at one input. -/
def fnFramedWrong : ChangeSpec := { name := "fnFramed", vars := ["loop.example/g00052/impl.stepChanges"], fn := fun _ => fun
  | [d, g1] => { results := [.lit (.bool false)], args := [d], vars := [g1] }
  | _ => none }
def FnFramedWrongFalsely : Prop := fnFramedRow.holds Tryd.pinned (OpenSpec.ofChange fnFramedWrong)

/-- 'laws.FnInOrder': WHATEVER THE INPUT: true; the input reads as it did. -/
def fnInOrderSpec : ChangeSpec := { name := "fnInOrder", vars := ["loop.example/g00052/impl.stepChanges"], fn := fun _ => fun
  | [d, g1] => { results := [.lit (.bool true)], args := [d], vars := [g1] }
  | _ => none }
def fnInOrderRow : OpenClaim := { program := "ytkjfcebdjnclaaadoor", sum := "797eaf6fe7f7250acf97e3bfe0c4a7badb671965b515300bb8b4aaed6b2d37d7", func := "loop.example/g00052/laws.FnInOrder", spec := "fnInOrder", inPlace := ["slices.overlaps[loop.example/g00052/impl.Packet]"], unfollowed := true, recurses := true, named := ["loop.example/g00052/impl.stepChanges"], apart := false, laid := [("loop.example/g00052/impl.stepChanges", laid_loop_example_g00052_impl_stepChanges)] }
def FnInOrderSaid : Prop := fnInOrderRow.holds Tryd.pinned (OpenSpec.ofChange fnInOrderSpec)

/-- ITS FALSE NEIGHBOUR: 'it returns false'. Refute it at one input. -/
def fnInOrderWrong : ChangeSpec := { name := "fnInOrder", vars := ["loop.example/g00052/impl.stepChanges"], fn := fun _ => fun
  | [d, g1] => { results := [.lit (.bool false)], args := [d], vars := [g1] }
  | _ => none }
def FnInOrderWrongFalsely : Prop := fnInOrderRow.holds Tryd.pinned (OpenSpec.ofChange fnInOrderWrong)

/-- 'laws.FnTwice': WHATEVER THE INPUT: true; the input reads as it did. -/
def fnTwiceSpec : ChangeSpec := { name := "fnTwice", vars := ["loop.example/g00052/impl.stepChanges"], fn := fun _ => fun
  | [d, g1] => { results := [.lit (.bool true)], args := [d], vars := [g1] }
  | _ => none }
def fnTwiceRow : OpenClaim := { program := "ytkjfcebdjnclaaadoor", sum := "797eaf6fe7f7250acf97e3bfe0c4a7badb671965b515300bb8b4aaed6b2d37d7", func := "loop.example/g00052/laws.FnTwice", spec := "fnTwice", inPlace := ["slices.overlaps[loop.example/g00052/impl.Packet]"], unfollowed := true, recurses := true, named := ["loop.example/g00052/impl.stepChanges"], apart := false, laid := [("loop.example/g00052/impl.stepChanges", laid_loop_example_g00052_impl_stepChanges)] }
def FnTwiceSaid : Prop := fnTwiceRow.holds Tryd.pinned (OpenSpec.ofChange fnTwiceSpec)

/-- ITS FALSE NEIGHBOUR: 'it returns false'. Refute it at one input. -/
def fnTwiceWrong : ChangeSpec := { name := "fnTwice", vars := ["loop.example/g00052/impl.stepChanges"], fn := fun _ => fun
  | [d, g1] => { results := [.lit (.bool false)], args := [d], vars := [g1] }
  | _ => none }
def FnTwiceWrongFalsely : Prop := fnTwiceRow.holds Tryd.pinned (OpenSpec.ofChange fnTwiceWrong)

/-- 'laws.FnFaded': WHATEVER THE INPUT: true; the input reads as it did. -/
def fnFadedSpec : ChangeSpec := { name := "fnFaded", vars := ["loop.example/g00052/impl.stepChanges"], fn := fun _ => fun
  | [d, g1] => { results := [.lit (.bool true)], args := [d], vars := [g1] }
  | _ => none }
def fnFadedRow : OpenClaim := { program := "ytkjfcebdjnclaaadoor", sum := "797eaf6fe7f7250acf97e3bfe0c4a7badb671965b515300bb8b4aaed6b2d37d7", func := "loop.example/g00052/laws.FnFaded", spec := "fnFaded", unfollowed := true, recurses := true, named := ["loop.example/g00052/impl.stepChanges"], apart := false, laid := [("loop.example/g00052/impl.stepChanges", laid_loop_example_g00052_impl_stepChanges)] }
def FnFadedSaid : Prop := fnFadedRow.holds Tryd.pinned (OpenSpec.ofChange fnFadedSpec)

/-- ITS FALSE NEIGHBOUR: 'it returns false'. Refute it at one input. -/
def fnFadedWrong : ChangeSpec := { name := "fnFaded", vars := ["loop.example/g00052/impl.stepChanges"], fn := fun _ => fun
  | [d, g1] => { results := [.lit (.bool false)], args := [d], vars := [g1] }
  | _ => none }
def FnFadedWrongFalsely : Prop := fnFadedRow.holds Tryd.pinned (OpenSpec.ofChange fnFadedWrong)

/-- 'laws.FnExactSqueeze': WHATEVER THE INPUT: true; the input reads as it did. -/
def fnExactSqueezeSpec : ChangeSpec := { name := "fnExactSqueeze", vars := ["loop.example/g00052/impl.stepChanges"], fn := fun _ => fun
  | [d1, d2, g1] => { results := [.lit (.bool true)], args := [d1, d2], vars := [g1] }
  | _ => none }
def fnExactSqueezeRow : OpenClaim := { program := "ytkjfcebdjnclaaadoor", sum := "797eaf6fe7f7250acf97e3bfe0c4a7badb671965b515300bb8b4aaed6b2d37d7", func := "loop.example/g00052/laws.FnExactSqueeze", spec := "fnExactSqueeze", named := ["loop.example/g00052/impl.stepChanges"], apart := false, laid := [("loop.example/g00052/impl.stepChanges", laid_loop_example_g00052_impl_stepChanges)] }
def FnExactSqueezeSaid : Prop := fnExactSqueezeRow.holds Tryd.pinned (OpenSpec.ofChange fnExactSqueezeSpec)

/-- ITS FALSE NEIGHBOUR: 'it returns false'. Refute it at one input. -/
def fnExactSqueezeWrong : ChangeSpec := { name := "fnExactSqueeze", vars := ["loop.example/g00052/impl.stepChanges"], fn := fun _ => fun
  | [d1, d2, g1] => { results := [.lit (.bool false)], args := [d1, d2], vars := [g1] }
  | _ => none }
def FnExactSqueezeWrongFalsely : Prop := fnExactSqueezeRow.holds Tryd.pinned (OpenSpec.ofChange fnExactSqueezeWrong)

/-- 'laws.FnExactExpand': WHATEVER THE INPUT: true; the input reads as it did. -/
def fnExactExpandSpec : ChangeSpec := { name := "fnExactExpand", vars := ["loop.example/g00052/impl.stepChanges"], fn := fun _ => fun
  | [d1, d2, g1] => { results := [.lit (.bool true)], args := [d1, d2], vars := [g1] }
  | _ => none }
def fnExactExpandRow : OpenClaim := { program := "ytkjfcebdjnclaaadoor", sum := "797eaf6fe7f7250acf97e3bfe0c4a7badb671965b515300bb8b4aaed6b2d37d7", func := "loop.example/g00052/laws.FnExactExpand", spec := "fnExactExpand", named := ["loop.example/g00052/impl.stepChanges"], apart := false, laid := [("loop.example/g00052/impl.stepChanges", laid_loop_example_g00052_impl_stepChanges)] }
def FnExactExpandSaid : Prop := fnExactExpandRow.holds Tryd.pinned (OpenSpec.ofChange fnExactExpandSpec)

/-- ITS FALSE NEIGHBOUR: 'it returns false'. Refute it at one input. -/
def fnExactExpandWrong : ChangeSpec := { name := "fnExactExpand", vars := ["loop.example/g00052/impl.stepChanges"], fn := fun _ => fun
  | [d1, d2, g1] => { results := [.lit (.bool false)], args := [d1, d2], vars := [g1] }
  | _ => none }
def FnExactExpandWrongFalsely : Prop := fnExactExpandRow.holds Tryd.pinned (OpenSpec.ofChange fnExactExpandWrong)

/-- 'laws.FnExactFrameOf': WHATEVER THE INPUT: true; the input reads as it did. -/
def fnExactFrameOfSpec : ChangeSpec := { name := "fnExactFrameOf", vars := ["loop.example/g00052/impl.stepChanges"], fn := fun _ => fun
  | [d1, d2, g1] => { results := [.lit (.bool true)], args := [d1, d2], vars := [g1] }
  | _ => none }
def fnExactFrameOfRow : OpenClaim := { program := "ytkjfcebdjnclaaadoor", sum := "797eaf6fe7f7250acf97e3bfe0c4a7badb671965b515300bb8b4aaed6b2d37d7", func := "loop.example/g00052/laws.FnExactFrameOf", spec := "fnExactFrameOf", named := ["loop.example/g00052/impl.stepChanges"], apart := false, laid := [("loop.example/g00052/impl.stepChanges", laid_loop_example_g00052_impl_stepChanges)] }
def FnExactFrameOfSaid : Prop := fnExactFrameOfRow.holds Tryd.pinned (OpenSpec.ofChange fnExactFrameOfSpec)

/-- ITS FALSE NEIGHBOUR: 'it returns false'. Refute it at one input. -/
def fnExactFrameOfWrong : ChangeSpec := { name := "fnExactFrameOf", vars := ["loop.example/g00052/impl.stepChanges"], fn := fun _ => fun
  | [d1, d2, g1] => { results := [.lit (.bool false)], args := [d1, d2], vars := [g1] }
  | _ => none }
def FnExactFrameOfWrongFalsely : Prop := fnExactFrameOfRow.holds Tryd.pinned (OpenSpec.ofChange fnExactFrameOfWrong)

/-- 'laws.FnExactOfFrame': WHATEVER THE INPUT: true; the input reads as it did. -/
def fnExactOfFrameSpec : ChangeSpec := { name := "fnExactOfFrame", vars := ["loop.example/g00052/impl.stepChanges"], fn := fun _ => fun
  | [d1, d2, g1] => { results := [.lit (.bool true)], args := [d1, d2], vars := [g1] }
  | _ => none }
def fnExactOfFrameRow : OpenClaim := { program := "ytkjfcebdjnclaaadoor", sum := "797eaf6fe7f7250acf97e3bfe0c4a7badb671965b515300bb8b4aaed6b2d37d7", func := "loop.example/g00052/laws.FnExactOfFrame", spec := "fnExactOfFrame", named := ["loop.example/g00052/impl.stepChanges"], apart := false, laid := [("loop.example/g00052/impl.stepChanges", laid_loop_example_g00052_impl_stepChanges)] }
def FnExactOfFrameSaid : Prop := fnExactOfFrameRow.holds Tryd.pinned (OpenSpec.ofChange fnExactOfFrameSpec)

/-- ITS FALSE NEIGHBOUR: 'it returns false'. Refute it at one input. -/
def fnExactOfFrameWrong : ChangeSpec := { name := "fnExactOfFrame", vars := ["loop.example/g00052/impl.stepChanges"], fn := fun _ => fun
  | [d1, d2, g1] => { results := [.lit (.bool false)], args := [d1, d2], vars := [g1] }
  | _ => none }
def FnExactOfFrameWrongFalsely : Prop := fnExactOfFrameRow.holds Tryd.pinned (OpenSpec.ofChange fnExactOfFrameWrong)

/-- 'laws.FnExactPlay': WHATEVER THE INPUT: true; the input reads as it did. -/
def fnExactPlaySpec : ChangeSpec := { name := "fnExactPlay", vars := ["loop.example/g00052/impl.stepChanges"], fn := fun _ => fun
  | [d, g1] => { results := [.lit (.bool true)], args := [d], vars := [g1] }
  | _ => none }
def fnExactPlayRow : OpenClaim := { program := "ytkjfcebdjnclaaadoor", sum := "797eaf6fe7f7250acf97e3bfe0c4a7badb671965b515300bb8b4aaed6b2d37d7", func := "loop.example/g00052/laws.FnExactPlay", spec := "fnExactPlay", unfollowed := true, recurses := true, named := ["loop.example/g00052/impl.stepChanges"], apart := false, laid := [("loop.example/g00052/impl.stepChanges", laid_loop_example_g00052_impl_stepChanges)] }
def FnExactPlaySaid : Prop := fnExactPlayRow.holds Tryd.pinned (OpenSpec.ofChange fnExactPlaySpec)

/-- ITS FALSE NEIGHBOUR: 'it returns false'. Refute it at one input. -/
def fnExactPlayWrong : ChangeSpec := { name := "fnExactPlay", vars := ["loop.example/g00052/impl.stepChanges"], fn := fun _ => fun
  | [d, g1] => { results := [.lit (.bool false)], args := [d], vars := [g1] }
  | _ => none }
def FnExactPlayWrongFalsely : Prop := fnExactPlayRow.holds Tryd.pinned (OpenSpec.ofChange fnExactPlayWrong)

/-- 'laws.FnExactHear12': WHATEVER THE INPUT: true; the input reads as it did. -/
def fnExactHear12Spec : ChangeSpec := { name := "fnExactHear12", vars := ["loop.example/g00052/impl.stepChanges"], fn := fun _ => fun
  | [d1, d2, d3, g1] => { results := [.lit (.bool true)], args := [d1, d2, d3], vars := [g1] }
  | _ => none }
def fnExactHear12Row : OpenClaim := { program := "ytkjfcebdjnclaaadoor", sum := "797eaf6fe7f7250acf97e3bfe0c4a7badb671965b515300bb8b4aaed6b2d37d7", func := "loop.example/g00052/laws.FnExactHear12", spec := "fnExactHear12", inPlace := ["slices.overlaps[loop.example/g00052/impl.Packet]"], unfollowed := true, recurses := true, named := ["loop.example/g00052/impl.stepChanges"], apart := false, laid := [("loop.example/g00052/impl.stepChanges", laid_loop_example_g00052_impl_stepChanges)] }
def FnExactHear12Said : Prop := fnExactHear12Row.holds Tryd.pinned (OpenSpec.ofChange fnExactHear12Spec)

/-- ITS FALSE NEIGHBOUR: 'it returns false'. Refute it at one input. -/
def fnExactHear12Wrong : ChangeSpec := { name := "fnExactHear12", vars := ["loop.example/g00052/impl.stepChanges"], fn := fun _ => fun
  | [d1, d2, d3, g1] => { results := [.lit (.bool false)], args := [d1, d2, d3], vars := [g1] }
  | _ => none }
def FnExactHear12WrongFalsely : Prop := fnExactHear12Row.holds Tryd.pinned (OpenSpec.ofChange fnExactHear12Wrong)

/- THE SECOND FORM. 'bulk': how many values and letters a reading holds, each counted each time it is reached (what is shared counts as often as it is met; a slice's spare places count too). A statement '..UptoSaid' is the law's where the arguments, and the package variables that the reading takes, are together of bulk at most 1048576: NARROWER than '..Said'. Prove '..Said' where nothing that the law and all that it calls make is longer than what came in: it says more and counts as full. Else prove '..UptoSaid'. A law counts once. -/
mutual
def uptoBulk {H : Type} : DataW H → Nat
  | .lit (.string bytes) => bytes.length + 1
  | .lit _ => 1
  | .nil => 1
  | .ptr d => uptoBulk d + 1
  | .slice elems spare => uptoBulkAll elems + uptoBulkAll spare + 1
  | .agg parts => uptoBulkAll parts + 1
  | .iface _ d => uptoBulk d + 1
  | .map entries => uptoBulkEntries entries + 1
  | .held _ => 1
def uptoBulkAll {H : Type} : List (DataW H) → Nat
  | [] => 0
  | d :: r => uptoBulk d + uptoBulkAll r
def uptoBulkEntries {H : Type} : List (Lit × DataW H) → Nat
  | [] => 0
  | x :: r => uptoBulkEntry x + uptoBulkEntries r
def uptoBulkEntry {H : Type} : Lit × DataW H → Nat
  | (.string bytes, d) => bytes.length + uptoBulk d + 1
  | (_, d) => uptoBulk d + 1
 end
def uptoSmall : (H : Type) → List (DataW H) → Bool := fun _ ds => decide (uptoBulkAll ds ≤ 1048576)
def OpenSpec.upto (s : _root_.Go.ChangeSpec) : _root_.Go.OpenSpec := { _root_.Go.OpenSpec.ofChange s with cond := some uptoSmall }

/-- 'laws.FnVoiceBack', WHERE WHAT IT READS IS OF BULK AT MOST 1048576: true; the input reads as it did. -/
def fnVoiceBackUptoRow : OpenClaim := { program := "ytkjfcebdjnclaaadoor", sum := "797eaf6fe7f7250acf97e3bfe0c4a7badb671965b515300bb8b4aaed6b2d37d7", func := "loop.example/g00052/laws.FnVoiceBack", spec := "fnVoiceBack", named := ["loop.example/g00052/impl.stepChanges"], apart := false, laid := [("loop.example/g00052/impl.stepChanges", laid_loop_example_g00052_impl_stepChanges)], narrowed := true }
def FnVoiceBackUptoSaid : Prop := fnVoiceBackUptoRow.holds Tryd.pinned (OpenSpec.upto fnVoiceBackSpec)

/-- 'laws.FnFramed', WHERE WHAT IT READS IS OF BULK AT MOST 1048576: true; the input reads as it did. -/
def fnFramedUptoRow : OpenClaim := { program := "ytkjfcebdjnclaaadoor", sum := "797eaf6fe7f7250acf97e3bfe0c4a7badb671965b515300bb8b4aaed6b2d37d7", func := "loop.example/g00052/laws.FnFramed", spec := "fnFramed", named := ["loop.example/g00052/impl.stepChanges"], apart := false, laid := [("loop.example/g00052/impl.stepChanges", laid_loop_example_g00052_impl_stepChanges)], narrowed := true }
def FnFramedUptoSaid : Prop := fnFramedUptoRow.holds Tryd.pinned (OpenSpec.upto fnFramedSpec)

/-- 'laws.FnInOrder', WHERE WHAT IT READS IS OF BULK AT MOST 1048576: true; the input reads as it did. -/
def fnInOrderUptoRow : OpenClaim := { program := "ytkjfcebdjnclaaadoor", sum := "797eaf6fe7f7250acf97e3bfe0c4a7badb671965b515300bb8b4aaed6b2d37d7", func := "loop.example/g00052/laws.FnInOrder", spec := "fnInOrder", inPlace := ["slices.overlaps[loop.example/g00052/impl.Packet]"], unfollowed := true, recurses := true, named := ["loop.example/g00052/impl.stepChanges"], apart := false, laid := [("loop.example/g00052/impl.stepChanges", laid_loop_example_g00052_impl_stepChanges)], narrowed := true }
def FnInOrderUptoSaid : Prop := fnInOrderUptoRow.holds Tryd.pinned (OpenSpec.upto fnInOrderSpec)

/-- 'laws.FnTwice', WHERE WHAT IT READS IS OF BULK AT MOST 1048576: true; the input reads as it did. -/
def fnTwiceUptoRow : OpenClaim := { program := "ytkjfcebdjnclaaadoor", sum := "797eaf6fe7f7250acf97e3bfe0c4a7badb671965b515300bb8b4aaed6b2d37d7", func := "loop.example/g00052/laws.FnTwice", spec := "fnTwice", inPlace := ["slices.overlaps[loop.example/g00052/impl.Packet]"], unfollowed := true, recurses := true, named := ["loop.example/g00052/impl.stepChanges"], apart := false, laid := [("loop.example/g00052/impl.stepChanges", laid_loop_example_g00052_impl_stepChanges)], narrowed := true }
def FnTwiceUptoSaid : Prop := fnTwiceUptoRow.holds Tryd.pinned (OpenSpec.upto fnTwiceSpec)

/-- 'laws.FnFaded', WHERE WHAT IT READS IS OF BULK AT MOST 1048576: true; the input reads as it did. -/
def fnFadedUptoRow : OpenClaim := { program := "ytkjfcebdjnclaaadoor", sum := "797eaf6fe7f7250acf97e3bfe0c4a7badb671965b515300bb8b4aaed6b2d37d7", func := "loop.example/g00052/laws.FnFaded", spec := "fnFaded", unfollowed := true, recurses := true, named := ["loop.example/g00052/impl.stepChanges"], apart := false, laid := [("loop.example/g00052/impl.stepChanges", laid_loop_example_g00052_impl_stepChanges)], narrowed := true }
def FnFadedUptoSaid : Prop := fnFadedUptoRow.holds Tryd.pinned (OpenSpec.upto fnFadedSpec)

/-- 'laws.FnExactSqueeze', WHERE WHAT IT READS IS OF BULK AT MOST 1048576: true; the input reads as it did. -/
def fnExactSqueezeUptoRow : OpenClaim := { program := "ytkjfcebdjnclaaadoor", sum := "797eaf6fe7f7250acf97e3bfe0c4a7badb671965b515300bb8b4aaed6b2d37d7", func := "loop.example/g00052/laws.FnExactSqueeze", spec := "fnExactSqueeze", named := ["loop.example/g00052/impl.stepChanges"], apart := false, laid := [("loop.example/g00052/impl.stepChanges", laid_loop_example_g00052_impl_stepChanges)], narrowed := true }
def FnExactSqueezeUptoSaid : Prop := fnExactSqueezeUptoRow.holds Tryd.pinned (OpenSpec.upto fnExactSqueezeSpec)

/-- 'laws.FnExactExpand', WHERE WHAT IT READS IS OF BULK AT MOST 1048576: true; the input reads as it did. -/
def fnExactExpandUptoRow : OpenClaim := { program := "ytkjfcebdjnclaaadoor", sum := "797eaf6fe7f7250acf97e3bfe0c4a7badb671965b515300bb8b4aaed6b2d37d7", func := "loop.example/g00052/laws.FnExactExpand", spec := "fnExactExpand", named := ["loop.example/g00052/impl.stepChanges"], apart := false, laid := [("loop.example/g00052/impl.stepChanges", laid_loop_example_g00052_impl_stepChanges)], narrowed := true }
def FnExactExpandUptoSaid : Prop := fnExactExpandUptoRow.holds Tryd.pinned (OpenSpec.upto fnExactExpandSpec)

/-- 'laws.FnExactFrameOf', WHERE WHAT IT READS IS OF BULK AT MOST 1048576: true; the input reads as it did. -/
def fnExactFrameOfUptoRow : OpenClaim := { program := "ytkjfcebdjnclaaadoor", sum := "797eaf6fe7f7250acf97e3bfe0c4a7badb671965b515300bb8b4aaed6b2d37d7", func := "loop.example/g00052/laws.FnExactFrameOf", spec := "fnExactFrameOf", named := ["loop.example/g00052/impl.stepChanges"], apart := false, laid := [("loop.example/g00052/impl.stepChanges", laid_loop_example_g00052_impl_stepChanges)], narrowed := true }
def FnExactFrameOfUptoSaid : Prop := fnExactFrameOfUptoRow.holds Tryd.pinned (OpenSpec.upto fnExactFrameOfSpec)

/-- 'laws.FnExactOfFrame', WHERE WHAT IT READS IS OF BULK AT MOST 1048576: true; the input reads as it did. -/
def fnExactOfFrameUptoRow : OpenClaim := { program := "ytkjfcebdjnclaaadoor", sum := "797eaf6fe7f7250acf97e3bfe0c4a7badb671965b515300bb8b4aaed6b2d37d7", func := "loop.example/g00052/laws.FnExactOfFrame", spec := "fnExactOfFrame", named := ["loop.example/g00052/impl.stepChanges"], apart := false, laid := [("loop.example/g00052/impl.stepChanges", laid_loop_example_g00052_impl_stepChanges)], narrowed := true }
def FnExactOfFrameUptoSaid : Prop := fnExactOfFrameUptoRow.holds Tryd.pinned (OpenSpec.upto fnExactOfFrameSpec)

/-- 'laws.FnExactPlay', WHERE WHAT IT READS IS OF BULK AT MOST 1048576: true; the input reads as it did. -/
def fnExactPlayUptoRow : OpenClaim := { program := "ytkjfcebdjnclaaadoor", sum := "797eaf6fe7f7250acf97e3bfe0c4a7badb671965b515300bb8b4aaed6b2d37d7", func := "loop.example/g00052/laws.FnExactPlay", spec := "fnExactPlay", unfollowed := true, recurses := true, named := ["loop.example/g00052/impl.stepChanges"], apart := false, laid := [("loop.example/g00052/impl.stepChanges", laid_loop_example_g00052_impl_stepChanges)], narrowed := true }
def FnExactPlayUptoSaid : Prop := fnExactPlayUptoRow.holds Tryd.pinned (OpenSpec.upto fnExactPlaySpec)

/-- 'laws.FnExactHear12', WHERE WHAT IT READS IS OF BULK AT MOST 1048576: true; the input reads as it did. -/
def fnExactHear12UptoRow : OpenClaim := { program := "ytkjfcebdjnclaaadoor", sum := "797eaf6fe7f7250acf97e3bfe0c4a7badb671965b515300bb8b4aaed6b2d37d7", func := "loop.example/g00052/laws.FnExactHear12", spec := "fnExactHear12", inPlace := ["slices.overlaps[loop.example/g00052/impl.Packet]"], unfollowed := true, recurses := true, named := ["loop.example/g00052/impl.stepChanges"], apart := false, laid := [("loop.example/g00052/impl.stepChanges", laid_loop_example_g00052_impl_stepChanges)], narrowed := true }
def FnExactHear12UptoSaid : Prop := fnExactHear12UptoRow.holds Tryd.pinned (OpenSpec.upto fnExactHear12Spec)

end Rows
end Go.Proofs.YtkjfcebdjnclaaaDoor

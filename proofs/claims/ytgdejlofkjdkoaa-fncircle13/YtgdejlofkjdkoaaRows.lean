/-
  No cell of these rows narrows 'for every input' (looked for: loops, veiled, ifaces, maps, wideKeys, modest, calm, conditions, laid).
  DERIVED. THE GIVEN ROWS OF THIS SEAT. 3 by the template 'for every input the law returns true; each argument reads behind the call as it read before'; 0 by the template 'total and deterministic' (their statements: YtgdejlofkjdkoaaTotals.lean).
  GIVEN WITH THE SEED: the statements are not yours to turn. If you find one false, say at which input.
  Laid BY PROGRAM, IN A SANDBOX (cutbox-rows.mjs): the forced cells as the released guide's own fill.sh prints them over the translation dd384ac796ec27f2… (all of the seat's roots in one cut). By AI agents, Wed Nov 11 2026. No macro, syntax, notation, axiom, sorry.
-/
import Derived.Test.YtgdejlofkjdkoaaChecked
import GoSem.Claim
import GoSem.ClaimJoined
import GoSem.ClaimMapViews
import Derived.JoinedTies
import Derived.KernelRfl
namespace Go.Proofs.Ytgdejlofkjdkoaa
/- THE CELL 'sum', in the pinned program and in every row, IS THE sha256 OF THE DUMP (.gsa) THAT YtgdejlofkjdkoaaProg.lean LOADS. Nothing in Lean hashes anything: it is a label: what it is worth is what the hold of that sum in a sandbox is worth. -/
noncomputable def Try.pinned : Pinned := { name := "ytgdejlofkjdkoaa", sum := "dd384ac796ec27f28d316b49e48840061273b9cb19f88e07150383363a855daa", checked := Try.checked }
namespace Rows
def none {H : Type} : Left H := { results := [], args := [] }

/-- 'laws.FnCircle13': WHATEVER THE INPUT: true; the input reads as it did. -/
def fnCircle13Spec : ChangeSpec := { name := "fnCircle13", fn := fun _ => fun
  | [d] => { results := [.lit (.bool true)], args := [d] }
  | _ => none }
def fnCircle13Row : OpenClaim := { program := "ytgdejlofkjdkoaa", sum := "dd384ac796ec27f28d316b49e48840061273b9cb19f88e07150383363a855daa", func := "loop.example/g00052/laws.FnCircle13", spec := "fnCircle13", apart := false }
def FnCircle13Said : Prop := fnCircle13Row.holds Try.pinned (OpenSpec.ofChange fnCircle13Spec)

/-- ITS FALSE NEIGHBOUR: 'it returns false'. Refute it at one input. -/
def fnCircle13Wrong : ChangeSpec := { name := "fnCircle13", fn := fun _ => fun
  | [d] => { results := [.lit (.bool false)], args := [d] }
  | _ => none }
def FnCircle13WrongFalsely : Prop := fnCircle13Row.holds Try.pinned (OpenSpec.ofChange fnCircle13Wrong)

/-- 'laws.FnExactWave': WHATEVER THE INPUT: true; the input reads as it did. -/
def fnExactWaveSpec : ChangeSpec := { name := "fnExactWave", fn := fun _ => fun
  | [d] => { results := [.lit (.bool true)], args := [d] }
  | _ => none }
def fnExactWaveRow : OpenClaim := { program := "ytgdejlofkjdkoaa", sum := "dd384ac796ec27f28d316b49e48840061273b9cb19f88e07150383363a855daa", func := "loop.example/g00052/laws.FnExactWave", spec := "fnExactWave", apart := false }
def FnExactWaveSaid : Prop := fnExactWaveRow.holds Try.pinned (OpenSpec.ofChange fnExactWaveSpec)

/-- ITS FALSE NEIGHBOUR: 'it returns false'. Refute it at one input. -/
def fnExactWaveWrong : ChangeSpec := { name := "fnExactWave", fn := fun _ => fun
  | [d] => { results := [.lit (.bool false)], args := [d] }
  | _ => none }
def FnExactWaveWrongFalsely : Prop := fnExactWaveRow.holds Try.pinned (OpenSpec.ofChange fnExactWaveWrong)

/-- 'laws.FnExactPower13': WHATEVER THE INPUT: true; the input reads as it did. -/
def fnExactPower13Spec : ChangeSpec := { name := "fnExactPower13", fn := fun _ => fun
  | [d1, d2] => { results := [.lit (.bool true)], args := [d1, d2] }
  | _ => none }
def fnExactPower13Row : OpenClaim := { program := "ytgdejlofkjdkoaa", sum := "dd384ac796ec27f28d316b49e48840061273b9cb19f88e07150383363a855daa", func := "loop.example/g00052/laws.FnExactPower13", spec := "fnExactPower13", apart := false }
def FnExactPower13Said : Prop := fnExactPower13Row.holds Try.pinned (OpenSpec.ofChange fnExactPower13Spec)

/-- ITS FALSE NEIGHBOUR: 'it returns false'. Refute it at one input. -/
def fnExactPower13Wrong : ChangeSpec := { name := "fnExactPower13", fn := fun _ => fun
  | [d1, d2] => { results := [.lit (.bool false)], args := [d1, d2] }
  | _ => none }
def FnExactPower13WrongFalsely : Prop := fnExactPower13Row.holds Try.pinned (OpenSpec.ofChange fnExactPower13Wrong)

/- THE SECOND FORM. 'bulk': how many values and letters a reading holds, each counted each time it is reached (what is shared counts as often as it is met; a slice's spare places count too). A statement '..UptoSaid' is the law's where the arguments, and the package variables that the reading takes, are together of bulk at most 1048576: NARROWER than '..Said'. Prove '..Said' where nothing that the law and all that it calls make is longer than what came in: it says more and counts as full. Else prove '..UptoSaid'. A law counts once. -/
mutual
def uptoBulk {H : Type} : DataW H → Nat
  | .lit (.string bytes) => bytes.length + 1
  | .lit _ => 1
  | .nil => 1
  | .ptr d => uptoBulk d + 1
  | .slice elems spare => uptoBulkAll elems + uptoBulkAll spare + 1
  | .agg parts => uptoBulkAll parts + 1
  | .iface _ d => uptoBulk d + 1
  | .map entries => uptoBulkEntries entries + 1
  | .held _ => 1
def uptoBulkAll {H : Type} : List (DataW H) → Nat
  | [] => 0
  | d :: r => uptoBulk d + uptoBulkAll r
def uptoBulkEntries {H : Type} : List (Lit × DataW H) → Nat
  | [] => 0
  | x :: r => uptoBulkEntry x + uptoBulkEntries r
def uptoBulkEntry {H : Type} : Lit × DataW H → Nat
  | (.string bytes, d) => bytes.length + uptoBulk d + 1
  | (_, d) => uptoBulk d + 1
 end
def uptoSmall : (H : Type) → List (DataW H) → Bool := fun _ ds => decide (uptoBulkAll ds ≤ 1048576)
def OpenSpec.upto (s : _root_.Go.ChangeSpec) : _root_.Go.OpenSpec := { _root_.Go.OpenSpec.ofChange s with cond := some uptoSmall }

/-- 'laws.FnCircle13', WHERE WHAT IT READS IS OF BULK AT MOST 1048576: true; the input reads as it did. -/
def fnCircle13UptoRow : OpenClaim := { program := "ytgdejlofkjdkoaa", sum := "dd384ac796ec27f28d316b49e48840061273b9cb19f88e07150383363a855daa", func := "loop.example/g00052/laws.FnCircle13", spec := "fnCircle13", apart := false, narrowed := true }
def FnCircle13UptoSaid : Prop := fnCircle13UptoRow.holds Try.pinned (OpenSpec.upto fnCircle13Spec)

/-- 'laws.FnExactWave', WHERE WHAT IT READS IS OF BULK AT MOST 1048576: true; the input reads as it did. -/
def fnExactWaveUptoRow : OpenClaim := { program := "ytgdejlofkjdkoaa", sum := "dd384ac796ec27f28d316b49e48840061273b9cb19f88e07150383363a855daa", func := "loop.example/g00052/laws.FnExactWave", spec := "fnExactWave", apart := false, narrowed := true }
def FnExactWaveUptoSaid : Prop := fnExactWaveUptoRow.holds Try.pinned (OpenSpec.upto fnExactWaveSpec)

/-- 'laws.FnExactPower13', WHERE WHAT IT READS IS OF BULK AT MOST 1048576: true; the input reads as it did. -/
def fnExactPower13UptoRow : OpenClaim := { program := "ytgdejlofkjdkoaa", sum := "dd384ac796ec27f28d316b49e48840061273b9cb19f88e07150383363a855daa", func := "loop.example/g00052/laws.FnExactPower13", spec := "fnExactPower13", apart := false, narrowed := true }
def FnExactPower13UptoSaid : Prop := fnExactPower13UptoRow.holds Try.pinned (OpenSpec.upto fnExactPower13Spec)

end Rows
end Go.Proofs.Ytgdejlofkjdkoaa

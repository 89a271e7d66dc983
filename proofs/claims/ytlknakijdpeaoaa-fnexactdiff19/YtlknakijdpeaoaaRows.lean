/-
  No cell of these rows narrows 'for every input' (looked for: loops, veiled, ifaces, maps, wideKeys, modest, calm, conditions, laid).
  DERIVED. THE GIVEN ROWS OF THIS SEAT. 6 by the template 'for every input the law returns true; each argument reads behind the call as it read before'; 0 by the template 'total and deterministic' (their statements: YtlknakijdpeaoaaTotals.lean).
  GIVEN WITH THE SEED: the statements are not yours to turn. If you find one false, say at which input.
  Laid BY PROGRAM, IN A SANDBOX (cutbox-rows.mjs): the forced cells as the released guide's own fill.sh prints them over the translation 5fc7c37e21ee6931… (all of the seat's roots in one cut). By AI agents, Wed Nov 11 2026. No macro, syntax, notation, axiom, sorry.
-/
import Derived.Test.YtlknakijdpeaoaaChecked
import GoSem.Claim
import GoSem.ClaimJoined
import GoSem.ClaimMapViews
import Derived.JoinedTies
import Derived.KernelRfl
namespace Go.Proofs.Ytlknakijdpeaoaa
/- THE CELL 'sum', in the pinned program and in every row, IS THE sha256 OF THE DUMP (.gsa) THAT YtlknakijdpeaoaaProg.lean LOADS. Nothing in Lean hashes anything: it is a label: what it is worth is what the hold of that sum in a sandbox is worth. -/
noncomputable def Try.pinned : Pinned := { name := "ytlknakijdpeaoaa", sum := "5fc7c37e21ee6931248e9ceaeef8d8d4203ec855deb171f7669578d7ec32928c", checked := Try.checked }
namespace Rows
def none {H : Type} : Left H := { results := [], args := [] }

/-- 'laws.FnUpper': WHATEVER THE INPUT: true; the input reads as it did. -/
def fnUpperSpec : ChangeSpec := { name := "fnUpper", fn := fun _ => fun
  | [d] => { results := [.lit (.bool true)], args := [d] }
  | _ => none }
def fnUpperRow : OpenClaim := { program := "ytlknakijdpeaoaa", sum := "5fc7c37e21ee6931248e9ceaeef8d8d4203ec855deb171f7669578d7ec32928c", func := "loop.example/g00052/laws.FnUpper", spec := "fnUpper", apart := false }
def FnUpperSaid : Prop := fnUpperRow.holds Try.pinned (OpenSpec.ofChange fnUpperSpec)

/-- ITS FALSE NEIGHBOUR: 'it returns false'. Refute it at one input. -/
def fnUpperWrong : ChangeSpec := { name := "fnUpper", fn := fun _ => fun
  | [d] => { results := [.lit (.bool false)], args := [d] }
  | _ => none }
def FnUpperWrongFalsely : Prop := fnUpperRow.holds Try.pinned (OpenSpec.ofChange fnUpperWrong)

/-- 'laws.FnExactWordOk': WHATEVER THE INPUT: true; the input reads as it did. -/
def fnExactWordOkSpec : ChangeSpec := { name := "fnExactWordOk", fn := fun _ => fun
  | [d] => { results := [.lit (.bool true)], args := [d] }
  | _ => none }
def fnExactWordOkRow : OpenClaim := { program := "ytlknakijdpeaoaa", sum := "5fc7c37e21ee6931248e9ceaeef8d8d4203ec855deb171f7669578d7ec32928c", func := "loop.example/g00052/laws.FnExactWordOk", spec := "fnExactWordOk", apart := false }
def FnExactWordOkSaid : Prop := fnExactWordOkRow.holds Try.pinned (OpenSpec.ofChange fnExactWordOkSpec)

/-- ITS FALSE NEIGHBOUR: 'it returns false'. Refute it at one input. -/
def fnExactWordOkWrong : ChangeSpec := { name := "fnExactWordOk", fn := fun _ => fun
  | [d] => { results := [.lit (.bool false)], args := [d] }
  | _ => none }
def FnExactWordOkWrongFalsely : Prop := fnExactWordOkRow.holds Try.pinned (OpenSpec.ofChange fnExactWordOkWrong)

/-- 'laws.FnExactSettingsOk': WHATEVER THE INPUT: true; the input reads as it did. -/
def fnExactSettingsOkSpec : ChangeSpec := { name := "fnExactSettingsOk", fn := fun _ => fun
  | [d] => { results := [.lit (.bool true)], args := [d] }
  | _ => none }
def fnExactSettingsOkRow : OpenClaim := { program := "ytlknakijdpeaoaa", sum := "5fc7c37e21ee6931248e9ceaeef8d8d4203ec855deb171f7669578d7ec32928c", func := "loop.example/g00052/laws.FnExactSettingsOk", spec := "fnExactSettingsOk", apart := false }
def FnExactSettingsOkSaid : Prop := fnExactSettingsOkRow.holds Try.pinned (OpenSpec.ofChange fnExactSettingsOkSpec)

/-- ITS FALSE NEIGHBOUR: 'it returns false'. Refute it at one input. -/
def fnExactSettingsOkWrong : ChangeSpec := { name := "fnExactSettingsOk", fn := fun _ => fun
  | [d] => { results := [.lit (.bool false)], args := [d] }
  | _ => none }
def FnExactSettingsOkWrongFalsely : Prop := fnExactSettingsOkRow.holds Try.pinned (OpenSpec.ofChange fnExactSettingsOkWrong)

/-- 'laws.FnExactUpper': WHATEVER THE INPUT: true; the input reads as it did. -/
def fnExactUpperSpec : ChangeSpec := { name := "fnExactUpper", fn := fun _ => fun
  | [d] => { results := [.lit (.bool true)], args := [d] }
  | _ => none }
def fnExactUpperRow : OpenClaim := { program := "ytlknakijdpeaoaa", sum := "5fc7c37e21ee6931248e9ceaeef8d8d4203ec855deb171f7669578d7ec32928c", func := "loop.example/g00052/laws.FnExactUpper", spec := "fnExactUpper", apart := false }
def FnExactUpperSaid : Prop := fnExactUpperRow.holds Try.pinned (OpenSpec.ofChange fnExactUpperSpec)

/-- ITS FALSE NEIGHBOUR: 'it returns false'. Refute it at one input. -/
def fnExactUpperWrong : ChangeSpec := { name := "fnExactUpper", fn := fun _ => fun
  | [d] => { results := [.lit (.bool false)], args := [d] }
  | _ => none }
def FnExactUpperWrongFalsely : Prop := fnExactUpperRow.holds Try.pinned (OpenSpec.ofChange fnExactUpperWrong)

/-- 'laws.FnExactDiff19': WHATEVER THE INPUT: true; the input reads as it did. -/
def fnExactDiff19Spec : ChangeSpec := { name := "fnExactDiff19", fn := fun _ => fun
  | [d1, d2] => { results := [.lit (.bool true)], args := [d1, d2] }
  | _ => none }
def fnExactDiff19Row : OpenClaim := { program := "ytlknakijdpeaoaa", sum := "5fc7c37e21ee6931248e9ceaeef8d8d4203ec855deb171f7669578d7ec32928c", func := "loop.example/g00052/laws.FnExactDiff19", spec := "fnExactDiff19", inPlace := ["internal/bytealg.abigen_runtime_cmpstring", "internal/abi.NoEscape"], unfollowed := true, recurses := true, apart := false }
def FnExactDiff19Said : Prop := fnExactDiff19Row.holds Try.pinned (OpenSpec.ofChange fnExactDiff19Spec)

/-- ITS FALSE NEIGHBOUR: 'it returns false'. Refute it at one input. -/
def fnExactDiff19Wrong : ChangeSpec := { name := "fnExactDiff19", fn := fun _ => fun
  | [d1, d2] => { results := [.lit (.bool false)], args := [d1, d2] }
  | _ => none }
def FnExactDiff19WrongFalsely : Prop := fnExactDiff19Row.holds Try.pinned (OpenSpec.ofChange fnExactDiff19Wrong)

/-- 'laws.FnExactFind19': WHATEVER THE INPUT: true; the input reads as it did. -/
def fnExactFind19Spec : ChangeSpec := { name := "fnExactFind19", fn := fun _ => fun
  | [d1, d2] => { results := [.lit (.bool true)], args := [d1, d2] }
  | _ => none }
def fnExactFind19Row : OpenClaim := { program := "ytlknakijdpeaoaa", sum := "5fc7c37e21ee6931248e9ceaeef8d8d4203ec855deb171f7669578d7ec32928c", func := "loop.example/g00052/laws.FnExactFind19", spec := "fnExactFind19", inPlace := ["internal/bytealg.abigen_runtime_cmpstring"], unfollowed := true, recurses := true, apart := false }
def FnExactFind19Said : Prop := fnExactFind19Row.holds Try.pinned (OpenSpec.ofChange fnExactFind19Spec)

/-- ITS FALSE NEIGHBOUR: 'it returns false'. Refute it at one input. -/
def fnExactFind19Wrong : ChangeSpec := { name := "fnExactFind19", fn := fun _ => fun
  | [d1, d2] => { results := [.lit (.bool false)], args := [d1, d2] }
  | _ => none }
def FnExactFind19WrongFalsely : Prop := fnExactFind19Row.holds Try.pinned (OpenSpec.ofChange fnExactFind19Wrong)

/- THE SECOND FORM. 'bulk': how many values and letters a reading holds, each counted each time it is reached (what is shared counts as often as it is met; a slice's spare places count too). A statement '..UptoSaid' is the law's where the arguments, and the package variables that the reading takes, are together of bulk at most 1048576: NARROWER than '..Said'. Prove '..Said' where nothing that the law and all that it calls make is longer than what came in: it says more and counts as full. Else prove '..UptoSaid'. A law counts once. -/
mutual
def uptoBulk {H : Type} : DataW H → Nat
  | .lit (.string bytes) => bytes.length + 1
  | .lit _ => 1
  | .nil => 1
  | .ptr d => uptoBulk d + 1
  | .slice elems spare => uptoBulkAll elems + uptoBulkAll spare + 1
  | .agg parts => uptoBulkAll parts + 1
  | .iface _ d => uptoBulk d + 1
  | .map entries => uptoBulkEntries entries + 1
  | .held _ => 1
def uptoBulkAll {H : Type} : List (DataW H) → Nat
  | [] => 0
  | d :: r => uptoBulk d + uptoBulkAll r
def uptoBulkEntries {H : Type} : List (Lit × DataW H) → Nat
  | [] => 0
  | x :: r => uptoBulkEntry x + uptoBulkEntries r
def uptoBulkEntry {H : Type} : Lit × DataW H → Nat
  | (.string bytes, d) => bytes.length + uptoBulk d + 1
  | (_, d) => uptoBulk d + 1
 end
def uptoSmall : (H : Type) → List (DataW H) → Bool := fun _ ds => decide (uptoBulkAll ds ≤ 1048576)
def OpenSpec.upto (s : _root_.Go.ChangeSpec) : _root_.Go.OpenSpec := { _root_.Go.OpenSpec.ofChange s with cond := some uptoSmall }

/-- 'laws.FnUpper', WHERE WHAT IT READS IS OF BULK AT MOST 1048576: true; the input reads as it did. -/
def fnUpperUptoRow : OpenClaim := { program := "ytlknakijdpeaoaa", sum := "5fc7c37e21ee6931248e9ceaeef8d8d4203ec855deb171f7669578d7ec32928c", func := "loop.example/g00052/laws.FnUpper", spec := "fnUpper", apart := false, narrowed := true }
def FnUpperUptoSaid : Prop := fnUpperUptoRow.holds Try.pinned (OpenSpec.upto fnUpperSpec)

/-- 'laws.FnExactWordOk', WHERE WHAT IT READS IS OF BULK AT MOST 1048576: true; the input reads as it did. -/
def fnExactWordOkUptoRow : OpenClaim := { program := "ytlknakijdpeaoaa", sum := "5fc7c37e21ee6931248e9ceaeef8d8d4203ec855deb171f7669578d7ec32928c", func := "loop.example/g00052/laws.FnExactWordOk", spec := "fnExactWordOk", apart := false, narrowed := true }
def FnExactWordOkUptoSaid : Prop := fnExactWordOkUptoRow.holds Try.pinned (OpenSpec.upto fnExactWordOkSpec)

/-- 'laws.FnExactSettingsOk', WHERE WHAT IT READS IS OF BULK AT MOST 1048576: true; the input reads as it did. -/
def fnExactSettingsOkUptoRow : OpenClaim := { program := "ytlknakijdpeaoaa", sum := "5fc7c37e21ee6931248e9ceaeef8d8d4203ec855deb171f7669578d7ec32928c", func := "loop.example/g00052/laws.FnExactSettingsOk", spec := "fnExactSettingsOk", apart := false, narrowed := true }
def FnExactSettingsOkUptoSaid : Prop := fnExactSettingsOkUptoRow.holds Try.pinned (OpenSpec.upto fnExactSettingsOkSpec)

/-- 'laws.FnExactUpper', WHERE WHAT IT READS IS OF BULK AT MOST 1048576: true; the input reads as it did. -/
def fnExactUpperUptoRow : OpenClaim := { program := "ytlknakijdpeaoaa", sum := "5fc7c37e21ee6931248e9ceaeef8d8d4203ec855deb171f7669578d7ec32928c", func := "loop.example/g00052/laws.FnExactUpper", spec := "fnExactUpper", apart := false, narrowed := true }
def FnExactUpperUptoSaid : Prop := fnExactUpperUptoRow.holds Try.pinned (OpenSpec.upto fnExactUpperSpec)

/-- 'laws.FnExactDiff19', WHERE WHAT IT READS IS OF BULK AT MOST 1048576: true; the input reads as it did. -/
def fnExactDiff19UptoRow : OpenClaim := { program := "ytlknakijdpeaoaa", sum := "5fc7c37e21ee6931248e9ceaeef8d8d4203ec855deb171f7669578d7ec32928c", func := "loop.example/g00052/laws.FnExactDiff19", spec := "fnExactDiff19", inPlace := ["internal/bytealg.abigen_runtime_cmpstring", "internal/abi.NoEscape"], unfollowed := true, recurses := true, apart := false, narrowed := true }
def FnExactDiff19UptoSaid : Prop := fnExactDiff19UptoRow.holds Try.pinned (OpenSpec.upto fnExactDiff19Spec)

/-- 'laws.FnExactFind19', WHERE WHAT IT READS IS OF BULK AT MOST 1048576: true; the input reads as it did. -/
def fnExactFind19UptoRow : OpenClaim := { program := "ytlknakijdpeaoaa", sum := "5fc7c37e21ee6931248e9ceaeef8d8d4203ec855deb171f7669578d7ec32928c", func := "loop.example/g00052/laws.FnExactFind19", spec := "fnExactFind19", inPlace := ["internal/bytealg.abigen_runtime_cmpstring"], unfollowed := true, recurses := true, apart := false, narrowed := true }
def FnExactFind19UptoSaid : Prop := fnExactFind19UptoRow.holds Try.pinned (OpenSpec.upto fnExactFind19Spec)

end Rows
end Go.Proofs.Ytlknakijdpeaoaa

/- Arguments of samples and wide ones, opened; no condition. -/
import Derived.Test.YtomgdlnpajfjhaaSmp
import Derived.Test.YtomgdlnpajfjhaaFlt
import Derived.Deep.SlicePairs
import Derived.Deep.Strs
namespace Go.Proofs.Ytomgdlnpajfjhaa
open Go.RowKit Go.ChangeShapes Go.WideShapes Go.ChangeAt
set_option linter.unusedVariables false
set_option linter.unusedSimpArgs false
set_option maxRecDepth 8000
theorem cells24 : Try.prog.cellsOf 25 = 1 := by kernel_rfl
theorem cells28 : Try.prog.cellsOf 36 = 1 := by kernel_rfl
theorem trod_float {H : Type} {enc : TypeId × Value → H} {P : Program} {W : World} {base : Nat} {sp : Nat → Bool} {held : Bool} {fuel : Nat} {t : TypeId} {k : FloatKind} {v : Value} {x : DataW H × List MemPlace} (ht : P.underlying t = some (.float k)) (h : DataW.trod enc P W base sp held fuel t [v] = some x) : ∃ b, v = .float k b := by
  cases fuel with
  | zero => simp [DataW.trod] at h
  | succ n =>
    simp only [DataW.trod, ht] at h
    cases v <;> simp at h
    rename_i k' b
    refine ⟨b, ?_⟩
    first
      | (obtain ⟨h1, _⟩ := h; obtain ⟨h2, _⟩ := h1; rw [h2])
      | skip
/-- a sample's cells -/
def smC (k : Nat × Nat) : List Value := [.float .f32 k.1, .float .f32 k.2]
theorem smC_len (k : Nat × Nat) : (smC k).length = 2 := rfl
theorem addr_add (b off : Nat) (k : Nat) : (⟨b, off, none⟩ : Addr).add k = ⟨b, off + k, none⟩ := by unfold Addr.add; split <;> simp_all
section
variable {H : Type} {enc : TypeId × Value → H} {W : World} {base : Nat} {held : Bool}
end
end Go.Proofs.Ytomgdlnpajfjhaa

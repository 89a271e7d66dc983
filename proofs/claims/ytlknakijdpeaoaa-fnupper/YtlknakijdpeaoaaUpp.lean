/- Words made great; no condition. -/
import Derived.Test.YtlknakijdpeaoaaWrd
namespace Go.Proofs.Ytlknakijdpeaoaa
open Go.RowKit Go.ChangeShapes Go.WideShapes Go.ChangeAt
set_option linter.unusedVariables false
set_option linter.unusedSimpArgs false
set_option maxRecDepth 8000

/-- a letter made great -/
def up (r : Nat) : Nat := if (97 ≤ r ∧ r ≤ 122) ∨ ((224 ≤ r ∧ r ≤ 254) ∧ r ≠ 247) ∨ ((945 ≤ r ∧ r ≤ 969) ∧ r ≠ 962) ∨ (1072 ≤ r ∧ r ≤ 1103) then r - 32 else r
theorem up_le (r : Nat) : up r ≤ r := by unfold up; split <;> omega
/-- a text made great -/
def upS (s : ByteArray) : ByteArray := if wB s then runesBytes (rI ((rn s 0).map up)) else ⟨#[]⟩
theorem wdB_good {rs : List Nat} (h : wdB rs = true) : ∀ r ∈ rs, isL r = true ∨ isM r = true := fun r hr => by
  unfold wdB at h
  simp only [Bool.and_eq_true, List.all_eq_true, Bool.or_eq_true] at h
  exact h.2 r hr
theorem good_lt {r : Nat} (h : isL r = true ∨ isM r = true) : r < 2048 := by
  rcases h with h | h
  · exact isL_lt h
  · exact isM_lt h
theorem good_247 {r : Nat} (h : isL r = true ∨ isM r = true) : r ≠ 247 := by
  rintro rfl
  revert h; decide
theorem rI_app (a b : List Nat) : rI (a ++ b) = rI a ++ rI b := by simp [rI]
theorem runesBytes_snoc (zs : List Int) (z : Int) : runesBytes (zs ++ [z]) = runesBytes zs ++ Utf8.encode z := by simp [runesBytes, List.foldl_append]
theorem enc_small {r : Nat} (h : r < 128) : Utf8.encode (r : Int) = ⟨#[UInt8.ofNat r]⟩ := by
  have hv : Utf8.valid (r : Int) = true := by unfold Utf8.valid; simp; omega
  unfold Utf8.encode
  simp only [hv, if_true]
  rw [if_pos (by omega)]
  simp
theorem enc_two {r : Nat} (h : 128 ≤ r) (h2 : r < 2048) : Utf8.encode (r : Int) = ⟨#[UInt8.ofNat (192 + r / 64), UInt8.ofNat (128 + r % 64)]⟩ := by
  have hv : Utf8.valid (r : Int) = true := by unfold Utf8.valid; simp; omega
  unfold Utf8.encode
  simp only [hv, if_true]
  rw [if_neg (by omega), if_pos (by omega)]
  simp

end Go.Proofs.Ytlknakijdpeaoaa

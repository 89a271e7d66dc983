/- What a right fabric is; no condition. -/
import Derived.Test.YtikhfeafbckjlaaDoorFIn
namespace Go.Proofs.YtikhfeafbckjlaaDoor
open Go.RowKit Go.ChangeShapes Go.WideShapes Go.ChangeAt
set_option linter.unusedVariables false
set_option linter.unusedSimpArgs false
set_option maxRecDepth 8000
/-- a path that stays in its fabric -/
def PIn (n m : Int) (x : Int × Int × Int) : Prop := FEnd n x.1 ∧ FEnd n x.2.1 ∧ 0 ≤ x.2.2 ∧ x.2.2 ≤ m - 1
/-- the first j paths are right -/
def FTo (s p m : Int) (ps : Tri) (j : Nat) : Prop := ∀ i (h : i < ps.length), i < j → PIn (s * p) m ps[i] ∧ ∀ k (hk : k < i), ¬ Clash p ps[i] ps[k]
/-- a right fabric -/
def FOk (s p m : Int) (ps : Tri) : Prop := (1 ≤ s ∧ s ≤ 6) ∧ (1 ≤ p ∧ p ≤ 4) ∧ (1 ≤ m ∧ m ≤ 12) ∧ FTo s p m ps ps.length
theorem sides {s p : Int} (h : 1 ≤ s ∧ s ≤ 6) (h' : 1 ≤ p ∧ p ≤ 4) : 1 ≤ s * p ∧ s * p ≤ 24 := by
  obtain ⟨h1, h2⟩ := h
  obtain ⟨h3, h4⟩ := h'
  have a : 1 * 1 ≤ s * p := Int.mul_le_mul h1 h3 (by omega) (by omega)
  have b : s * p ≤ 6 * 4 := Int.mul_le_mul h2 h4 (by omega) (by omega)
  omega
end Go.Proofs.YtikhfeafbckjlaaDoor

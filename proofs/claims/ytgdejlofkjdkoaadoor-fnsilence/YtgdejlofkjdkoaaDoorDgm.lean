/- What a digit is; the two tables are as they were laid. -/
import Derived.Test.YtgdejlofkjdkoaaDoorTon
import Derived.Test.YtgdejlofkjdkoaaDoorMixT
namespace Go.Proofs.YtgdejlofkjdkoaaDoor
open Go.RowKit Go.ChangeShapes Go.WideShapes Go.ChangeAt
set_option linter.unusedVariables false
set_option linter.unusedSimpArgs false
set_option maxRecDepth 8000

/-- the place of the greatest among the first j, of some the first -/
def bst (p : Nat → Int) : Nat → Nat
  | 0 => 0
  | j + 1 => if p (bst p j) < p j then j else bst p j
theorem bst_le (p : Nat → Int) : ∀ j, bst p (j + 1) ≤ j
  | 0 => by simp [bst]
  | j + 1 => by
    have := bst_le p j
    rw [bst]
    split <;> omega
/-- is each other one at most an eighth of it? -/
def outB (p : Nat → Int) (b : Nat) : Nat → Bool
  | 0 => true
  | j + 1 => outB p b j && (decide (j = b) || decide (8 * p j ≤ p b))
/-- the squares of the first j levels -/
def enF (zs : List Int) : Nat → Int
  | 0 => 0
  | j + 1 => enF zs j + zs.getD j 0 * zs.getD j 0
theorem sq_bd {x : Int} (h : -32767 ≤ x ∧ x ≤ 32767) : 0 ≤ x * x ∧ x * x ≤ 1073676289 := by
  have := mul_bd h h
  refine ⟨?_, by omega⟩
  rcases Int.le_total 0 x with h0 | h0
  · exact Int.mul_nonneg h0 h0
  · exact Int.mul_nonneg_of_nonpos_of_nonpos h0 h0
theorem enF_bd {zs : List Int} (h : lvP zs) : ∀ j, j ≤ zs.length → 0 ≤ enF zs j ∧ enF zs j ≤ 1073676289 * j
  | 0, _ => by simp [enF]
  | j + 1, hj => by
    have h1 := enF_bd h j (by omega)
    have h2 := sq_bd (h j (by omega))
    simp only [enF]
    omega
theorem pw_bd {zs : List Int} (h : lvP zs) (hl : zs.length ≤ 128) (st : Int) : 0 ≤ pw zs st ∧ pw zs st ≤ 35184372088832 := by
  have b1 := sX_bd h st 0 zs.length (Nat.le_refl _)
  have b2 := sX_bd h st 64 zs.length (Nat.le_refl _)
  have c1 : -4194304 ≤ sX zs st 0 zs.length / 1073741824 ∧ sX zs st 0 zs.length / 1073741824 ≤ 4194304 := by omega
  have c2 : -4194304 ≤ sX zs st 64 zs.length / 1073741824 ∧ sX zs st 64 zs.length / 1073741824 ≤ 4194304 := by omega
  have d1 := mul_bd c1 c1
  have d2 := mul_bd c2 c2
  have s1 : ∀ x : Int, 0 ≤ x * x := fun x => by
    rcases Int.le_total 0 x with h0 | h0
    · exact Int.mul_nonneg h0 h0
    · exact Int.mul_nonneg_of_nonpos_of_nonpos h0 h0
  have e1 := s1 (sX zs st 0 zs.length / 1073741824)
  have e2 := s1 (sX zs st 64 zs.length / 1073741824)
  unfold pw
  omega
def rwP (zs : List Int) (k : Nat) : Int := pw zs (12 + 2 * k)
def clP (zs : List Int) (k : Nat) : Int := pw zs (22 + 4 * k)
/-- is it one? -/
def dgB (zs : List Int) (p q : Int) (o1 o2 : Bool) : Bool := o1 && o2 && decide (1000000 ≤ p) && decide (1000000 ≤ q) && decide (p ≤ 8 * q) && decide (q ≤ 8 * p) && decide (128 * enF zs 128 ≤ 4 * (p + q))
/-- the digit that levels hold -/
def dgF (zs : List Int) : Int :=
  if (decide (zs.length = 128) && lvB zs && dgB zs (rwP zs (bst (rwP zs) 4)) (clP zs (bst (clP zs) 4)) (outB (rwP zs) (bst (rwP zs) 4) 4) (outB (clP zs) (bst (clP zs) 4) 4)) = true then 4 * (bst (rwP zs) 4 : Nat) + (bst (clP zs) 4 : Nat) else -1
/-- four powers -/
def A4 (p : Nat → Int) : Array Value := #[.int .i64 (p 0), .int .i64 (p 1), .int .i64 (p 2), .int .i64 (p 3)]
theorem A4_at (p : Nat → Int) (i : Nat) (h : i < 4) : (A4 p)[i]? = some (.int .i64 (p i)) := by
  match i, h with
  | 0, _ => rfl
  | 1, _ => rfl
  | 2, _ => rfl
  | 3, _ => rfl

end Go.Proofs.YtgdejlofkjdkoaaDoor

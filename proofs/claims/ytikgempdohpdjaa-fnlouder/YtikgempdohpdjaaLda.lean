/- What Loudness tells; no condition. -/
import Derived.Test.YtikgempdohpdjaaNst
namespace Go.Proofs.Ytikgempdohpdjaa
open Go.RowKit Go.ChangeShapes Go.WideShapes Go.ChangeAt
set_option linter.unusedVariables false
set_option linter.unusedSimpArgs false
set_option maxRecDepth 8000

def gkB (g : List (List Int)) (i : Nat) : Bool := decide ((g.getD i []).length = g.length) && awB (g.getD i []) 0 1000 && decide (1 ≤ (g.getD i []).getD i 0)
def gnB (g : List (List Int)) : Bool := decide (1 ≤ (g.length : Int) ∧ (g.length : Int) ≤ 12) && (List.range g.length).all (gkB g)
theorem gnB_row {g : List (List Int)} {i : Nat} (hi : i < g.length) (h : gkB g i = false) : gnB g = false := by
  unfold gnB
  rw [show (List.range g.length).all (gkB g) = false from by
    rw [List.all_eq_false]; exact ⟨i, List.mem_range.2 hi, by rw [h]; simp⟩]
  simp
theorem gnB_all {g : List (List Int)} (h : ∀ i, i < g.length → gkB g i = true) : gnB g = decide (1 ≤ (g.length : Int) ∧ (g.length : Int) ≤ 12) := by
  unfold gnB
  rw [show (List.range g.length).all (gkB g) = true from List.all_eq_true.2 fun i hi => h i (List.mem_range.1 hi)]
  simp
structure GOk (g : List (List Int)) : Prop where
  lo : 1 ≤ g.length
  hi : g.length ≤ 12
  len : ∀ i, i < g.length → (g.getD i []).length = g.length
  bd : ∀ i k, i < g.length → k < g.length → 0 ≤ (g.getD i []).getD k 0 ∧ (g.getD i []).getD k 0 ≤ 1000
  dg : ∀ i, i < g.length → 1 ≤ (g.getD i []).getD i 0
theorem gnB_ok {g : List (List Int)} (h : gnB g = true) : GOk g := by
  unfold gnB at h
  rw [Bool.and_eq_true, decide_eq_true_eq] at h
  have hr : ∀ i, i < g.length → gkB g i = true := fun i hi => List.all_eq_true.1 h.2 i (List.mem_range.2 hi)
  have hl : ∀ i, i < g.length → (g.getD i []).length = g.length := fun i hi => by
    have := hr i hi
    unfold gkB at this
    rw [Bool.and_eq_true, Bool.and_eq_true, decide_eq_true_eq] at this
    exact this.1.1
  refine ⟨by omega, by omega, hl, fun i k hi hk => ?_, fun i hi => ?_⟩
  · have := hr i hi
    unfold gkB at this
    rw [Bool.and_eq_true, Bool.and_eq_true] at this
    exact awB_at this.1.2 k (by rw [hl i hi]; exact hk)
  · have := hr i hi
    unfold gkB at this
    rw [Bool.and_eq_true, decide_eq_true_eq] at this
    exact this.2
/-- what the first k of the others bring to station i, and the noise -/
def nxS (row : List Int) (noise : Int) (loud : List Int) (i : Nat) : Nat → Int
  | 0 => noise
  | k + 1 => if k = i then nxS row noise loud i k else nxS row noise loud i k + row.getD k 0 * loud.getD k 0
def cap6 (q : Int) : Int := if 1000000 < q then 1000000 else q
def nxV (g : List (List Int)) (noise want : Int) (loud : List Int) (i : Nat) : Int :=
  cap6 ((want * nxS (g.getD i []) noise loud i g.length + (g.getD i []).getD i 0 - 1) / (g.getD i []).getD i 0)
def nxL (g : List (List Int)) (noise want : Int) (loud : List Int) : List Int := (List.range g.length).map (nxV g noise want loud)
theorem nxL_len (g : List (List Int)) (noise want : Int) (loud : List Int) : (nxL g noise want loud).length = g.length := by simp [nxL]
theorem nxL_at (g : List (List Int)) (noise want : Int) (loud : List Int) (i : Nat) (h : i < g.length) : (nxL g noise want loud).getD i 0 = nxV g noise want loud i := by simp [nxL, List.getElem?_map, List.getElem?_range h]
structure LOk (n : Nat) (loud : List Int) : Prop where
  len : loud.length = n
  bd : ∀ k, k < n → 1 ≤ loud.getD k 0 ∧ loud.getD k 0 ≤ 1000000
theorem nxS_bd {g : List (List Int)} (hg : GOk g) {noise : Int} {loud : List Int} (h1 : 1 ≤ noise) (h2 : noise ≤ 1000) (hl : LOk g.length loud) {i : Nat} (hi : i < g.length) : ∀ k, k ≤ g.length → 1 ≤ nxS (g.getD i []) noise loud i k ∧ nxS (g.getD i []) noise loud i k ≤ 1000 + 1000000000 * (k : Int)
  | 0, _ => by simp [nxS]; omega
  | k + 1, hk => by
    have ih := nxS_bd hg h1 h2 hl hi k (by omega)
    have b1 := hg.bd i k hi (by omega)
    have b2 := hl.bd k (by omega)
    have p0 : 0 ≤ (g.getD i []).getD k 0 * loud.getD k 0 := Int.mul_nonneg b1.1 (by omega)
    have p1 : (g.getD i []).getD k 0 * loud.getD k 0 ≤ 1000 * 1000000 := Int.mul_le_mul b1.2 b2.2 (by omega) (by omega)
    rw [nxS]
    split
    · push_cast; omega
    · push_cast; omega
theorem nxV_bd {g : List (List Int)} (hg : GOk g) {noise want : Int} {loud : List Int} (h1 : 1 ≤ noise) (h2 : noise ≤ 1000) (w1 : 1 ≤ want) (hl : LOk g.length loud) {i : Nat} (hi : i < g.length) : 1 ≤ nxV g noise want loud i ∧ nxV g noise want loud i ≤ 1000000 := by
  have b := nxS_bd hg h1 h2 hl hi g.length (Nat.le_refl _)
  have d := hg.dg i hi
  have hp : 1 ≤ want * nxS (g.getD i []) noise loud i g.length := Int.mul_pos (by omega) (by omega)
  unfold nxV
  have hq : 1 ≤ (want * nxS (g.getD i []) noise loud i g.length + (g.getD i []).getD i 0 - 1) / (g.getD i []).getD i 0 := by
    refine Int.le_ediv_of_mul_le (by omega) ?_
    rw [Int.one_mul]; omega
  unfold cap6; split <;> omega
theorem nxL_ok {g : List (List Int)} (hg : GOk g) {noise want : Int} {loud : List Int} (h1 : 1 ≤ noise) (h2 : noise ≤ 1000) (w1 : 1 ≤ want) (hl : LOk g.length loud) : LOk g.length (nxL g noise want loud) :=
  ⟨nxL_len _ _ _ _, fun k hk => by rw [nxL_at _ _ _ _ _ hk]; exact nxV_bd hg h1 h2 w1 hl hk⟩
def ldN (g : List (List Int)) (noise want : Int) : Nat → List Int
  | 0 => List.replicate g.length 1
  | s + 1 => nxL g noise want (ldN g noise want s)
theorem ldN_ok {g : List (List Int)} (hg : GOk g) {noise want : Int} (h1 : 1 ≤ noise) (h2 : noise ≤ 1000) (w1 : 1 ≤ want) : ∀ s, LOk g.length (ldN g noise want s)
  | 0 => ⟨by simp [ldN], fun k hk => by simp [ldN, List.getElem?_replicate, hk]⟩
  | s + 1 => nxL_ok hg h1 h2 w1 (ldN_ok hg h1 h2 w1 s)
def ldB (g : List (List Int)) (noise want steps : Int) : Bool := gnB g && decide (1 ≤ noise ∧ noise ≤ 1000) && decide (1 ≤ want ∧ want ≤ 100) && decide (0 ≤ steps ∧ steps ≤ 50)
def ldR (g : List (List Int)) (noise want steps : Int) : List Int := if ldB g noise want steps = true then ldN g noise want steps.toNat else []
theorem ldR_no {g : List (List Int)} {noise want steps : Int} (h : ldB g noise want steps = false) : ldR g noise want steps = [] := by unfold ldR; rw [h]; rfl
theorem ldR_yes {g : List (List Int)} {noise want steps : Int} (h : ldB g noise want steps = true) : ldR g noise want steps = ldN g noise want steps.toNat := by unfold ldR; rw [if_pos h]
def LdR (g : List (List Int)) (noise want steps : Int) (w : World) (e : Ending) (w' : World) : Prop := ∃ v, e = .returned (.tuple #[v, .bool (ldB g noise want steps)]) ∧ Ow .i64 3 w.heap.size w' v (ldR g noise want steps) ∧ Below w.heap.size w w'

end Go.Proofs.Ytikgempdohpdjaa

/- Blocks of rows; no condition. -/
import Derived.Test.YtikgempdohpdjaaIvm
import Derived.Test.YtikgempdohpdjaaDraw
namespace Go.Proofs.Ytikgempdohpdjaa
open Go.RowKit Go.ChangeShapes Go.WideShapes Go.ChangeAt
set_option linter.unusedVariables false
set_option linter.unusedSimpArgs false
set_option maxRecDepth 8000
theorem blk_ne {v v' : Value} {P : Nat} (h : ∀ k, v.ownBlock = some k → k < P) (h' : ∀ k, v'.ownBlock = some k → P ≤ k) : v.ownBlock = none ∨ v.ownBlock ≠ v'.ownBlock := by
  cases hv : v.ownBlock with
  | none => exact .inl rfl
  | some k => exact .inr (fun e => by have := h k hv; have := h' k e.symm; omega)
theorem blk_ne' {v v' : Value} {P : Nat} (h : ∀ k, v.ownBlock = some k → P ≤ k) (h' : ∀ k, v'.ownBlock = some k → k < P) : v.ownBlock = none ∨ v.ownBlock ≠ v'.ownBlock := by
  cases hv : v.ownBlock with
  | none => exact .inl rfl
  | some k => exact .inr (fun e => by have := h k hv; have := h' k e.symm; omega)
theorem rd_blk {w : World} {v : Value} {zs : List Int} (h : Rd .i64 w v zs) : zs = [] ∨ ∀ k, v.ownBlock = some k → k < w.heap.size := by
  obtain ⟨a, cap, rfl, h1, h2, h3⟩ := h
  rcases h3 with h3 | ⟨b, off, rfl, h4⟩
  · exact .inl h3
  · cases zs with
    | nil => exact .inl rfl
    | cons z r => exact .inr fun k e => by cases e; exact block_lt_of_cell (h4 0 (by simp))

end Go.Proofs.Ytikgempdohpdjaa

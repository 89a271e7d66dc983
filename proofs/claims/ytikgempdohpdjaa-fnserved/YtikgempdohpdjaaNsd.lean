/- Rows of rows, cell by cell; no condition. -/
import Derived.Test.YtikgempdohpdjaaNst
namespace Go.Proofs.Ytikgempdohpdjaa
open Go.RowKit Go.ChangeShapes Go.WideShapes Go.ChangeAt
set_option linter.unusedVariables false
set_option linter.unusedSimpArgs false
set_option maxRecDepth 8000

theorem rnd {w : World} {a : Option Addr} {n cap : Nat} {ls : List (List Int)} (h : Rn w (.slice a n cap) ls) : ∀ j, j < ls.length → ∃ (bo : Nat × Nat) (u : Value), a = some ⟨bo.1, bo.2, none⟩ ∧ bo.1 < w.heap.size ∧ Rd .i64 w u (ls.getD j []) ∧ ∀ W, Below w.heap.size w W → W.cell? ⟨bo.1, bo.2 + j, none⟩ = some u := fun j hj => by
  obtain ⟨a', cap', he, -, -, h3⟩ := h
  cases he
  rcases h3 with h3 | ⟨b, off, h0, h4⟩
  · rw [h3] at hj; simp at hj
  · obtain ⟨u, hc, hr⟩ := h4 j hj
    exact ⟨(b, off), u, h0, block_lt_of_cell hc, hr, fun W hW => by rw [hW.cell (block_lt_of_cell hc)]; exact hc⟩

end Go.Proofs.Ytikgempdohpdjaa

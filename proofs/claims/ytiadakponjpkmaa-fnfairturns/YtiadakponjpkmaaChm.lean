/- What Changes tells; no condition. -/
import Derived.Test.YtiadakponjpkmaaIvm
import Derived.Test.YtiadakponjpkmaaApp
import Derived.Test.YtiadakponjpkmaaMixT
namespace Go.Proofs.Ytiadakponjpkmaa
open Go.RowKit Go.ChangeShapes Go.WideShapes Go.ChangeAt
set_option linter.unusedVariables false
set_option linter.unusedSimpArgs false
set_option maxRecDepth 8000

/-- a row that is read, cell by cell, in every world in which nothing old was turned -/
theorem rdc {w : World} {a : Option Addr} {n cap : Nat} {zs : List Int} (h : Rd .i64 w (.slice a n cap) zs) : ∀ W j, j < zs.length → Below w.heap.size w W → ∃ bo : Nat × Nat, a = some ⟨bo.1, bo.2, none⟩ ∧ bo.1 < w.heap.size ∧ W.cell? ⟨bo.1, bo.2 + j, none⟩ = some (.int .i64 (zs.getD j 0)) := fun W j hj hW => by
  obtain ⟨a', cap', he, -, -, h3⟩ := h
  cases he
  rcases h3 with h3 | ⟨b, off, h0, h4⟩
  · rw [h3] at hj; simp at hj
  · have hc := h4 j hj
    exact ⟨(b, off), h0, block_lt_of_cell hc, by rw [hW.cell (block_lt_of_cell hc)]; exact hc⟩
end Go.Proofs.Ytiadakponjpkmaa

/- Voice that is drawn; no condition. -/
import Derived.Test.YtikgempdohpdjaaDra
import Derived.Test.YtikgempdohpdjaaApp
namespace Go.Proofs.Ytikgempdohpdjaa
open Go.RowKit Go.ChangeShapes Go.WideShapes Go.ChangeAt
set_option linter.unusedVariables false
set_option linter.unusedSimpArgs false
set_option maxRecDepth 8000
theorem Dc.belowB {w W W' : World} {g : Nat} {cv : Value} {zs : List Int} (h : Dc w W g cv zs) (hb : Below w.heap.size W W') : Dc w W' g cv zs := by
  have hg := h.gr
  obtain ⟨i, hh, k, h1, h2⟩ := h.dr.cur
  have hrd : Rd .u8 W' cv zs := by
    obtain ⟨a, cap, hv, e1, e2, e3⟩ := h.dr.rd
    refine ⟨a, cap, hv, e1, e2, ?_⟩
    rcases e3 with e3 | ⟨bb, off, rfl, e4⟩
    · exact .inl e3
    · rcases h.cl with h0 | h0
      · exact .inl h0
      · refine .inr ⟨bb, off, rfl, fun i hi => ?_⟩
        have hlt := h0 bb (by rw [hv]; rfl)
        rw [← e4 i hi]
        simp only [World.cell?, hb.block bb hlt]
  exact ⟨⟨⟨i, hh, k.below hb h.lt, h1, h2⟩, hrd, h.dr.ap, h.dr.ok, h.dr.len⟩, ⟨hb.os.trans hg.os, hb.tape.trans hg.tape, hb.output.trans hg.output, Nat.le_trans hg.size hb.size, fun j hj hn => (hb.block j hj).trans (hg.block j hj hn)⟩, h.lt, h.cl⟩
theorem Ow.drawn {base : Nat} {W W' : World} {v : Value} {ys : List Int} {g : Nat} (h : Ow .i64 3 base W v ys) (hg : W.grownBy W' (some g)) (hl : g < base) : Ow .i64 3 base W' v ys := World.ownsRow.kept (row := some g) h hg (h.low g hl)
theorem getD_bd (ys : List Int) (k : Nat) (lo hi : Int) (h : ∀ y ∈ ys, lo ≤ y ∧ y ≤ hi) (hk : k < ys.length) : lo ≤ ys.getD k 0 ∧ ys.getD k 0 ≤ hi := by
  rw [List.getD_eq_getElem?_getD, List.getElem?_eq_getElem hk, Option.getD_some]; exact h _ (List.getElem_mem hk)
end Go.Proofs.Ytikgempdohpdjaa

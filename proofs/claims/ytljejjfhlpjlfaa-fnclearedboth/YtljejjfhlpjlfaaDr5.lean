/- Events drawn; no condition; no condition. -/
import Derived.Test.YtljejjfhlpjlfaaDrE
namespace Go.Proofs.Ytljejjfhlpjlfaa
open Go.RowKit Go.ChangeShapes Go.WideShapes Go.ChangeAt
set_option linter.unusedVariables false
set_option linter.unusedSimpArgs false
set_option maxRecDepth 8000
/-- events are drawn: some, so many -/
def DeR (g : Nat) (cv : Value) (zs : List Int) (n : Int) (w : World) (e : Ending) (w' : World) : Prop := ∃ v' es, e = .returned v' ∧ (es : Mvs).length = n.toNat ∧ Op mf mg 35 w.heap.size w' v' es ∧ Dr w' g cv zs ∧ w.grownBy w' (some g)
/-- events at hand, the cursor apart -/
structure De (w W : World) (g : Nat) (cv : Value) (zs : List Int) (v : Value) (es : Mvs) : Prop where
  own : Op mf mg 35 w.heap.size W v es
  dr : Dr W g cv zs
  gr : w.grownBy W (some g)
  lt : g < w.heap.size
  cl : zs = [] ∨ ∀ k, cv.ownBlock = some k → k < w.heap.size
theorem De.below {w W W' : World} {g : Nat} {cv : Value} {zs : List Int} {v : Value} {es : Mvs} (h : De w W g cv zs v es) (hb : Below W.heap.size W W') : De w W' g cv zs v es :=
  ⟨h.own.below hb, h.dr.below hb, ⟨hb.os.trans h.gr.os, hb.tape.trans h.gr.tape, hb.output.trans h.gr.output, Nat.le_trans h.gr.size hb.size, fun j hj hne => (hb.block j (Nat.lt_of_lt_of_le hj h.gr.size)).trans (h.gr.block j hj hne)⟩, h.lt, h.cl⟩
theorem De.draw {w W W' : World} {g : Nat} {cv : Value} {zs : List Int} {v : Value} {es : Mvs} (h : De w W g cv zs v es) (hd : Dr W' g cv zs) (hg : W.grownBy W' (some g)) : De w W' g cv zs v es := by
  refine ⟨?_, hd, grown_trans h.gr hg, h.lt, h.cl⟩
  cases hv : v.ownBlock with
  | none => exact World.ownsRow.kept h.own hg (.inl hv)
  | some k => exact World.ownsRow.kept h.own hg (.inr (by rw [hv]; intro e; have := (World.ownsRow.lt h.own k hv).1; have := Option.some.inj e; have := h.lt; omega))
theorem De.app {w W W' : World} {g : Nat} {cv : Value} {zs : List Int} {v v' : Value} {es es' : Mvs} (h : De w W g cv zs v es) (ho : Op mf mg 35 w.heap.size W' v' es') (hg : W.grownBy W' v.ownBlock) : De w W' g cv zs v' es' := by
  have hne : ∀ k, v.ownBlock = some k → w.heap.size ≤ k := fun k e => (World.ownsRow.lt h.own k e).1
  have hd : Dr W' g cv zs := by
    obtain ⟨i, hh, k, h1, h2⟩ := h.dr.cur
    refine ⟨⟨i, hh, k.grown hg (fun e => by have := hne g e; have := h.lt; omega), h1, h2⟩, h.dr.rd.grownE hg ?_, h.dr.ap, h.dr.ok, h.dr.len⟩
    rcases h.cl with h0 | h0
    · exact .inl h0
    · cases hv : cv.ownBlock with
      | none => exact .inr (.inl rfl)
      | some k => exact .inr (.inr (fun e => by have := h0 k hv; have := hne k e.symm; omega))
  exact ⟨ho, hd, ⟨hg.os.trans h.gr.os, hg.tape.trans h.gr.tape, hg.output.trans h.gr.output, Nat.le_trans h.gr.size hg.size, fun j hj hn => (hg.block j (Nat.lt_of_lt_of_le hj h.gr.size) (fun e => by have := hne j e.symm; omega)).trans (h.gr.block j hj hn)⟩, h.lt, h.cl⟩
theorem De.start {w : World} {g : Nat} {cv : Value} {zs : List Int} (h : Dr w g cv zs) : De w (w.alloc (Obj.cells #[] 35)) g cv zs (.slice (some ⟨w.heap.size, 0, none⟩) 0 0) [] := by
  have hb : Below w.heap.size w (w.alloc (Obj.cells #[] 35)) := (Below.refl _ _).alloc (Nat.le_refl _) _
  refine ⟨World.ownsRow_lit w #[] 0 (Nat.le_refl _) (by simp) (by simp), h.below hb, ⟨hb.os, hb.tape, hb.output, hb.size, fun j hj _ => hb.block j hj⟩, h.lt, ?_⟩
  obtain ⟨a, cap, rfl, -, -, h3⟩ := h.rd
  rcases h3 with h3 | ⟨b, off, rfl, h4⟩
  · exact .inl h3
  · cases zs with
    | nil => exact .inl rfl
    | cons z r => exact .inr (fun k e => by simp [Value.ownBlock] at e; subst e; exact block_lt_of_cell (h4 0 (by simp)))
end Go.Proofs.Ytljejjfhlpjlfaa

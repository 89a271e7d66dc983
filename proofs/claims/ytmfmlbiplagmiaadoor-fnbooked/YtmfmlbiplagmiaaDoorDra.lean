/- Draws; no condition. -/
import Derived.Test.YtmfmlbiplagmiaaDoorDraw
import Derived.Test.YtmfmlbiplagmiaaDoorApp
namespace Go.Proofs.YtmfmlbiplagmiaaDoor
open Go.RowKit Go.ChangeShapes Go.WideShapes Go.ChangeAt
set_option linter.unusedVariables false
set_option linter.unusedSimpArgs false
set_option maxRecDepth 8000
set_option linter.unusedVariables false
set_option linter.unusedSimpArgs false
theorem Ow.low {k : IntKind} {e : TypeId} {base : Nat} {w : World} {v : Value} {zs : List Int} (h : Ow k e base w v zs) (g : Nat) (hg : g < base) : v.ownBlock = none ∨ v.ownBlock ≠ some g := by
  cases hv : v.ownBlock with
  | none => exact .inl rfl
  | some j => refine .inr fun e => ?_; have := (World.ownsRow.lt h j hv).1; simp at e; omega
theorem grown_then_below {w w1 w2 : World} {row : Option Nat} (h : w.grownBy w1 row) (hb : Below w.heap.size w1 w2) : w.grownBy w2 row :=
  ⟨hb.os.trans h.os, hb.tape.trans h.tape, hb.output.trans h.output, Nat.le_trans h.size hb.size, fun k hk hne => (hb.block k hk).trans (h.block k hk hne)⟩
/-- a cursor, behind something that turned nothing below B -/
theorem Dr.onto {w w1 w2 : World} {g : Nat} {cv : Value} {zs : List Int} (h : Dr w g cv zs) (h1 : Dr w1 g cv zs) (hg : w.grownBy w1 (some g)) (hb : Below w.heap.size w1 w2) : Dr w2 g cv zs ∧ w.grownBy w2 (some g) := by
  have hg2 := grown_then_below hg hb
  obtain ⟨i, hh, k, e1, e2⟩ := h1.cur
  exact ⟨h.of hg2 ⟨i, hh, k.below hb h.lt, e1, e2⟩, hg2⟩
set_option maxHeartbeats 1600000 in
theorem pickInt_c (g : Nat) (cv : Value) (zs : List Int) (v : Value) (ys : List Int) (w : World) (h : Dr w g cv zs) (hv : Rd .i64 w v ys) (hap : v.ownBlock = none ∨ v.ownBlock ≠ some g) (hl : 0 < ys.length) (hl2 : ys.length ≤ 2097152) :
   Calls Tryd.prog 46 #[.pointer (some ⟨g, 0, none⟩), v] w fun e w' => ∃ x : Int, e = .returned (.int .i64 x) ∧ (∃ k, k < ys.length ∧ x = ys.getD k 0) ∧ Dr w' g cv zs ∧ w.grownBy w' (some g) := by
  have hv' := hv
  obtain ⟨a, cap, rfl, h1, h2, h3⟩ := hv
  unfold maxLen at h2
  go_enter Tryd.func46, Tryd.ntmps46
  go_wp2_with fail
  refine (below_c g cv zs _ _ h (by omega)).mono ?_
  rintro e w1 ⟨x, rfl, x0, x1, x2, d1, g1⟩
  have x1' := x1 (by omega)
  obtain ⟨xn, rfl⟩ := Int.eq_ofNat_of_zero_le x0
  obtain ⟨a', cap', he, _, _, h3'⟩ := hv'.grown g1 hap
  simp only [Value.slice.injEq] at he
  obtain ⟨rfl, _, rfl⟩ := he
  rcases h3' with h3' | ⟨b, off, rfl, h4⟩
  · subst h3'; simp at hl
  have hc := h4 xn (by omega)
  clear h3 h4 x1 x2 hv'
  go_wp2
  go_ret
  exact ⟨_, rfl, ⟨xn, by omega, rfl⟩, d1, g1⟩

end Go.Proofs.YtmfmlbiplagmiaaDoor
namespace Go.Proofs.YtmfmlbiplagmiaaDoor
open Go.RowKit Go.ChangeShapes Go.WideShapes Go.ChangeAt
set_option linter.unusedVariables false
set_option linter.unusedSimpArgs false
set_option maxRecDepth 8000
set_option maxHeartbeats 1600000
theorem big_c (v : Value) (zs : List Int) (w : World) (h : Rd .u8 w v zs) : Calls Tryd.prog 7 #[v] w fun e w' => e = .returned (.bool (decide ((1048576 : Int) < (zs.length : Int)))) ∧ w' = w := by
  obtain ⟨a, cap, rfl, -, h2, -⟩ := h
  unfold maxLen at h2
  go_enter Tryd.func7, Tryd.ntmps7
  go_wp2
  go_ret
  exact ⟨rfl, rfl⟩
theorem Blk.grownD {w w' : World} {g : Nat} {cs : Array Value} {t : TypeId} {row : Option Nat} (h : Blk w g cs t) (hg : w.grownBy w' row) (hne : some g ≠ row) : Blk w' g cs t := by
  rw [Blk, hg.block g h.lt hne]; exact h
/-- from w on nothing old was turned but the cursor g -/
structure Dc (w W : World) (g : Nat) (cv : Value) (zs : List Int) : Prop where
  dr : Dr W g cv zs
  gr : w.grownBy W (some g)
  lt : g < w.heap.size
  cl : zs = [] ∨ ∀ k, cv.ownBlock = some k → k < w.heap.size
theorem Dc.start {w : World} {g : Nat} {cv : Value} {zs : List Int} (h : Dr w g cv zs) : Dc w w g cv zs := by
  refine ⟨h, grown_refl _ _, h.lt, ?_⟩
  obtain ⟨a, cap, rfl, -, -, h3⟩ := h.rd
  rcases h3 with h3 | ⟨b, off, rfl, h4⟩
  · exact .inl h3
  · cases zs with
    | nil => exact .inl rfl
    | cons z r => exact .inr (fun k e => by simp [Value.ownBlock] at e; subst e; exact block_lt_of_cell (h4 0 (by simp)))
theorem Dc.below {w W W' : World} {g : Nat} {cv : Value} {zs : List Int} (h : Dc w W g cv zs) (hb : Below W.heap.size W W') : Dc w W' g cv zs :=
  ⟨h.dr.below hb, ⟨hb.os.trans h.gr.os, hb.tape.trans h.gr.tape, hb.output.trans h.gr.output, Nat.le_trans h.gr.size hb.size, fun j hj hne => (hb.block j (Nat.lt_of_lt_of_le hj h.gr.size)).trans (h.gr.block j hj hne)⟩, h.lt, h.cl⟩
theorem Dc.draw {w W W' : World} {g : Nat} {cv : Value} {zs : List Int} (h : Dc w W g cv zs) (hd : Dr W' g cv zs) (hg : W.grownBy W' (some g)) : Dc w W' g cv zs := ⟨hd, grown_trans h.gr hg, h.lt, h.cl⟩
/-- a row that is new is written -/
theorem Dc.app {w W W' : World} {g : Nat} {cv : Value} {zs : List Int} {row : Option Nat} (h : Dc w W g cv zs) (hr : ∀ k, row = some k → w.heap.size ≤ k) (hg : W.grownBy W' row) : Dc w W' g cv zs := by
  have hd : Dr W' g cv zs := by
    obtain ⟨i, hh, k, h1, h2⟩ := h.dr.cur
    refine ⟨⟨i, hh, k.grownD hg (fun e => by have := hr g e.symm; have := h.lt; omega), h1, h2⟩, h.dr.rd.grownE hg ?_, h.dr.ap, h.dr.ok, h.dr.len⟩
    rcases h.cl with h0 | h0
    · exact .inl h0
    · cases hv : cv.ownBlock with
      | none => exact .inr (.inl rfl)
      | some k => exact .inr (.inr (fun e => by have := h0 k hv; have := hr k e.symm; omega))
  exact ⟨hd, ⟨hg.os.trans h.gr.os, hg.tape.trans h.gr.tape, hg.output.trans h.gr.output, Nat.le_trans h.gr.size hg.size, fun j hj hn => (hg.block j (Nat.lt_of_lt_of_le hj h.gr.size) (fun e => by have := hr j e.symm; omega)).trans (h.gr.block j hj hn)⟩, h.lt, h.cl⟩
/-- numbers written out -/
theorem Rd.lit (W : World) (zs : List Int) (h : zs.length ≤ 1000) : Rd .i64 (W.alloc (.cells (zs.map (Value.int .i64)).toArray 3)) (.slice (some ⟨W.heap.size, 0, none⟩) zs.length zs.length) zs := by
  have h1 : Ow .i64 3 W.heap.size (W.alloc (.cells (zs.map (Value.int .i64)).toArray 3)) (.slice (some ⟨W.heap.size, 0, none⟩) zs.length zs.length) zs := by
    have := World.ownsRow_lit (e := 3) (size := 1) (base := W.heap.size) W (zs.map (Value.int .i64)).toArray zs.length (Nat.le_refl _) (by unfold maxLen; omega) (by simp)
    unfold Ow; simpa using this
  exact h1.rd
end Go.Proofs.YtmfmlbiplagmiaaDoor
namespace Go.Proofs.YtmfmlbiplagmiaaDoor
open Go.RowKit Go.ChangeShapes Go.WideShapes Go.ChangeAt
set_option linter.unusedVariables false
set_option linter.unusedSimpArgs false
set_option maxRecDepth 8000
theorem Dc.belowB {w W W' : World} {g : Nat} {cv : Value} {zs : List Int} (h : Dc w W g cv zs) (hb : Below w.heap.size W W') : Dc w W' g cv zs := by
  have hg := h.gr
  obtain ⟨i, hh, k, h1, h2⟩ := h.dr.cur
  have hrd : Rd .u8 W' cv zs := by
    obtain ⟨a, cap, hv, e1, e2, e3⟩ := h.dr.rd
    refine ⟨a, cap, hv, e1, e2, ?_⟩
    rcases e3 with e3 | ⟨bb, off, rfl, e4⟩
    · exact .inl e3
    · rcases h.cl with h0 | h0
      · exact .inl h0
      · refine .inr ⟨bb, off, rfl, fun i hi => ?_⟩
        have hlt := h0 bb (by rw [hv]; rfl)
        rw [← e4 i hi]
        simp only [World.cell?, hb.block bb hlt]
  exact ⟨⟨⟨i, hh, k.below hb h.lt, h1, h2⟩, hrd, h.dr.ap, h.dr.ok, h.dr.len⟩, ⟨hb.os.trans hg.os, hb.tape.trans hg.tape, hb.output.trans hg.output, Nat.le_trans hg.size hb.size, fun j hj hn => (hb.block j hj).trans (hg.block j hj hn)⟩, h.lt, h.cl⟩
theorem Ow.drawn {base : Nat} {W W' : World} {v : Value} {ys : List Int} {g : Nat} (h : Ow .i64 3 base W v ys) (hg : W.grownBy W' (some g)) (hl : g < base) : Ow .i64 3 base W' v ys := World.ownsRow.kept (row := some g) h hg (h.low g hl)
theorem getD_bd (ys : List Int) (k : Nat) (lo hi : Int) (h : ∀ y ∈ ys, lo ≤ y ∧ y ≤ hi) (hk : k < ys.length) : lo ≤ ys.getD k 0 ∧ ys.getD k 0 ≤ hi := by
  rw [List.getD_eq_getElem?_getD, List.getElem?_eq_getElem hk, Option.getD_some]; exact h _ (List.getElem_mem hk)
end Go.Proofs.YtmfmlbiplagmiaaDoor

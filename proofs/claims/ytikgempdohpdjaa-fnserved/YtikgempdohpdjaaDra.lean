/- Draws; no condition. -/
import Derived.Test.YtikgempdohpdjaaDrawB
namespace Go.Proofs.Ytikgempdohpdjaa
open Go.RowKit Go.ChangeShapes Go.WideShapes Go.ChangeAt
set_option linter.unusedVariables false
set_option linter.unusedSimpArgs false
set_option maxRecDepth 8000
set_option maxHeartbeats 1600000
theorem big_c (v : Value) (zs : List Int) (w : World) (h : Rd .u8 w v zs) : Calls Try.prog 12 #[v] w fun e w' => e = .returned (.bool (decide ((1048576 : Int) < (zs.length : Int)))) ∧ w' = w := by
  obtain ⟨a, cap, rfl, -, h2, -⟩ := h
  unfold maxLen at h2
  go_enter Try.func12, Try.ntmps12
  go_wp2
  go_ret
  exact ⟨rfl, rfl⟩
theorem Blk.grown {w w' : World} {g : Nat} {cs : Array Value} {t : TypeId} {row : Option Nat} (h : Blk w g cs t) (hg : w.grownBy w' row) (hne : some g ≠ row) : Blk w' g cs t := by
  rw [Blk, hg.block g h.lt hne]; exact h
/-- from w on nothing old was turned but the cursor g -/
structure Dc (w W : World) (g : Nat) (cv : Value) (zs : List Int) : Prop where
  dr : Dr W g cv zs
  gr : w.grownBy W (some g)
  lt : g < w.heap.size
  cl : zs = [] ∨ ∀ k, cv.ownBlock = some k → k < w.heap.size
theorem Dc.start {w : World} {g : Nat} {cv : Value} {zs : List Int} (h : Dr w g cv zs) : Dc w w g cv zs := by
  refine ⟨h, grown_refl _ _, h.lt, ?_⟩
  obtain ⟨a, cap, rfl, -, -, h3⟩ := h.rd
  rcases h3 with h3 | ⟨b, off, rfl, h4⟩
  · exact .inl h3
  · cases zs with
    | nil => exact .inl rfl
    | cons z r => exact .inr (fun k e => by simp [Value.ownBlock] at e; subst e; exact block_lt_of_cell (h4 0 (by simp)))
theorem Dc.below {w W W' : World} {g : Nat} {cv : Value} {zs : List Int} (h : Dc w W g cv zs) (hb : Below W.heap.size W W') : Dc w W' g cv zs :=
  ⟨h.dr.below hb, ⟨hb.os.trans h.gr.os, hb.tape.trans h.gr.tape, hb.output.trans h.gr.output, Nat.le_trans h.gr.size hb.size, fun j hj hne => (hb.block j (Nat.lt_of_lt_of_le hj h.gr.size)).trans (h.gr.block j hj hne)⟩, h.lt, h.cl⟩
theorem Dc.draw {w W W' : World} {g : Nat} {cv : Value} {zs : List Int} (h : Dc w W g cv zs) (hd : Dr W' g cv zs) (hg : W.grownBy W' (some g)) : Dc w W' g cv zs := ⟨hd, grown_trans h.gr hg, h.lt, h.cl⟩
/-- a row that is new is written -/
theorem Dc.app {w W W' : World} {g : Nat} {cv : Value} {zs : List Int} {row : Option Nat} (h : Dc w W g cv zs) (hr : ∀ k, row = some k → w.heap.size ≤ k) (hg : W.grownBy W' row) : Dc w W' g cv zs := by
  have hd : Dr W' g cv zs := by
    obtain ⟨i, hh, k, h1, h2⟩ := h.dr.cur
    refine ⟨⟨i, hh, k.grown hg (fun e => by have := hr g e.symm; have := h.lt; omega), h1, h2⟩, h.dr.rd.grownE hg ?_, h.dr.ap, h.dr.ok, h.dr.len⟩
    rcases h.cl with h0 | h0
    · exact .inl h0
    · cases hv : cv.ownBlock with
      | none => exact .inr (.inl rfl)
      | some k => exact .inr (.inr (fun e => by have := h0 k hv; have := hr k e.symm; omega))
  exact ⟨hd, ⟨hg.os.trans h.gr.os, hg.tape.trans h.gr.tape, hg.output.trans h.gr.output, Nat.le_trans h.gr.size hg.size, fun j hj hn => (hg.block j (Nat.lt_of_lt_of_le hj h.gr.size) (fun e => by have := hr j e.symm; omega)).trans (h.gr.block j hj hn)⟩, h.lt, h.cl⟩
/-- numbers written out -/
theorem Rd.lit (W : World) (zs : List Int) (h : zs.length ≤ 1000) : Rd .i64 (W.alloc (.cells (zs.map (Value.int .i64)).toArray 3)) (.slice (some ⟨W.heap.size, 0, none⟩) zs.length zs.length) zs := by
  have h1 : Ow .i64 3 W.heap.size (W.alloc (.cells (zs.map (Value.int .i64)).toArray 3)) (.slice (some ⟨W.heap.size, 0, none⟩) zs.length zs.length) zs := by
    have := World.ownsRow_lit (e := 3) (size := 1) (base := W.heap.size) W (zs.map (Value.int .i64)).toArray zs.length (Nat.le_refl _) (by unfold maxLen; omega) (by simp)
    unfold Ow; simpa using this
  exact h1.rd
end Go.Proofs.Ytikgempdohpdjaa

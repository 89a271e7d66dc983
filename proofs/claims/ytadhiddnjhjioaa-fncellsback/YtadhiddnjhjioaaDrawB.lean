/- Contracts of the functions that draw bits: a slice of numbers of bounded length in memory of its own; no condition. -/
import Derived.Test.YtadhiddnjhjioaaDraw
namespace Go.Proofs.Ytadhiddnjhjioaa
open Go.RowKit Go.ChangeShapes Go.WideShapes Go.ChangeAt
set_option linter.unusedVariables false
set_option linter.unusedSimpArgs false
theorem Ow.low {k : IntKind} {e : TypeId} {base : Nat} {w : World} {v : Value} {zs : List Int} (h : Ow k e base w v zs) (g : Nat) (hg : g < base) : v.ownBlock = none ∨ v.ownBlock ≠ some g := by
  cases hv : v.ownBlock with
  | none => exact .inl rfl
  | some j => refine .inr fun e => ?_; have := (World.ownsRow.lt h j hv).1; simp at e; omega
theorem grown_then_below {w w1 w2 : World} {row : Option Nat} (h : w.grownBy w1 row) (hb : Below w.heap.size w1 w2) : w.grownBy w2 row :=
  ⟨hb.os.trans h.os, hb.tape.trans h.tape, hb.output.trans h.output, Nat.le_trans h.size hb.size, fun k hk hne => (hb.block k hk).trans (h.block k hk hne)⟩
/-- a cursor, behind something that turned nothing below B -/
theorem Dr.onto {w w1 w2 : World} {g : Nat} {cv : Value} {zs : List Int} (h : Dr w g cv zs) (h1 : Dr w1 g cv zs) (hg : w.grownBy w1 (some g)) (hb : Below w.heap.size w1 w2) : Dr w2 g cv zs ∧ w.grownBy w2 (some g) := by
  have hg2 := grown_then_below hg hb
  obtain ⟨i, hh, k, e1, e2⟩ := h1.cur
  exact ⟨h.of hg2 ⟨i, hh, k.below hb h.lt, e1, e2⟩, hg2⟩
set_option maxHeartbeats 1600000 in
theorem bits_c (g : Nat) (cv : Value) (zs : List Int) (n : Int) (w : World) (h : Dr w g cv zs) (h0 : 0 ≤ n) (hn : n ≤ 1048576) :
   Calls Try.prog 58 #[.pointer (some ⟨g, 0, none⟩), .int .i64 n] w fun e w' => ∃ v' ys, e = .returned v' ∧ Ow .i64 3 w.heap.size w' v' ys ∧ (ys.length : Int) ≤ n ∧ Dr w' g cv zs ∧ w.grownBy w' (some g) := by
  have hD := h
  obtain ⟨n, rfl⟩ := Int.eq_ofNat_of_zero_le h0
  have hglt := h.lt
  have he0 := Ow.empty .i64 3 w.heap.size w (Nat.le_refl _)
  have hb0 : Below w.heap.size w (w.alloc (.cells #[] 3)) := (Below.refl _ _).alloc (Nat.le_refl _) _
  have hd0 := h.onto h (grown_refl w (some g)) hb0
  go_enter Try.func58, Try.ntmps58
  go_wp2
  go_loopw [5, 6] (fun u i wr => ∃ (j : Nat) (ys : List Int), j ≤ n ∧ i = .int .i64 j ∧ ys.length = j ∧ Ow .i64 3 w.heap.size wr u ys ∧ Dr wr g cv zs ∧ w.grownBy wr (some g)) (fun _ i _ => n - (intOf i).toNat)
  case atStart => exact ⟨0, [], Nat.zero_le _, rfl, rfl, he0, hd0.1, hd0.2⟩
  case round =>
    obtain ⟨j, ys, hj, rfl, hyl, hw, hdr, hgr⟩ := hrel
    clear he0 hb0 hd0
    have hs0 := hgr.size
    by_cases hlt : j < n
    · have HYL : Hid (ys.length = j) := hyl
      have hyl2 : ys.length ≤ 1048576 := by omega
      clear hyl
      go_wp2_with fail
      refine (once_c g cv zs 4 _ hdr (by omega)).mono ?_
      rintro e w1 ⟨b, rfl, d1, g1⟩
      have hw1 : Ow .i64 3 w.heap.size w1 u5 ys := World.ownsRow.kept hw g1 (hw.low g hglt)
      have hgr1 := grown_trans hgr g1
      have hs1 := hgr1.size
      clear hw hdr hgr g1
      cases b with
      | true =>
        go_wp2_with (at_builtin; refine appI rfl (.tmp 16) (.tmp 18) rfl w.heap.size _ ys rfl (hw1.alloc _) w1.heap.size 0 rfl (by simp) (by omega) (by simp; omega) ?_)
        intro v2 w2 ho2 hb2
        have hd2 := hD.onto d1 hgr1 (((Below.refl w.heap.size w1).alloc hs1 (.cells #[.int .i64 0] 3)).trans hb2)
        clear hb2 hw1 d1 hgr1
        go_wp2
        go_roundw
        case rel => exact ⟨j + 1, ys ++ [0], by omega, by go_num, by have := HYL.out; simp; omega, ho2, hd2.1, hd2.2⟩
        case measure => simp [intOf]; omega
      | false =>
        go_wp2_with (at_builtin; refine appI rfl (.tmp 16) (.tmp 18) rfl w.heap.size _ ys rfl (hw1.alloc _) w1.heap.size 1 rfl (by simp) (by omega) (by simp; omega) ?_)
        intro v2 w2 ho2 hb2
        have hd2 := hD.onto d1 hgr1 (((Below.refl w.heap.size w1).alloc hs1 (.cells #[.int .i64 1] 3)).trans hb2)
        clear hb2 hw1 d1 hgr1
        go_wp2
        go_roundw
        case rel => exact ⟨j + 1, ys ++ [1], by omega, by go_num, by have := HYL.out; simp; omega, ho2, hd2.1, hd2.2⟩
        case measure => simp [intOf]; omega
    · go_wp2
      go_ret
      exact ⟨_, ys, rfl, hw, by omega, hdr, hgr⟩
set_option maxHeartbeats 1600000 in
theorem pick_c (g : Nat) (cv : Value) (zs : List Int) (v : Value) (ys : List Int) (w : World) (h : Dr w g cv zs) (hv : Rd .i64 w v ys) (hap : v.ownBlock = none ∨ v.ownBlock ≠ some g) (hl : 0 < ys.length) (hl2 : ys.length ≤ 1048576) :
   Calls Try.prog 59 #[.pointer (some ⟨g, 0, none⟩), v] w fun e w' => ∃ x : Int, e = .returned (.int .i64 x) ∧ Dr w' g cv zs ∧ w.grownBy w' (some g) := by
  have hv' := hv
  obtain ⟨a, cap, rfl, h1, h2, h3⟩ := hv
  unfold maxLen at h2
  go_enter Try.func59, Try.ntmps59
  go_wp2_with fail
  refine (below_c g cv zs _ _ h (by omega)).mono ?_
  rintro e w1 ⟨x, rfl, x0, x1, x2, d1, g1⟩
  have x1' := x1 (by omega)
  obtain ⟨xn, rfl⟩ := Int.eq_ofNat_of_zero_le x0
  obtain ⟨a', cap', he, _, _, h3'⟩ := hv'.grown g1 hap
  simp only [Value.slice.injEq] at he
  obtain ⟨rfl, _, rfl⟩ := he
  rcases h3' with h3' | ⟨b, off, rfl, h4⟩
  · subst h3'; simp at hl
  have hc := h4 xn (by omega)
  clear h3 h4 x1 x2 hv'
  go_wp2
  go_ret
  exact ⟨_, rfl, d1, g1⟩
end Go.Proofs.Ytadhiddnjhjioaa

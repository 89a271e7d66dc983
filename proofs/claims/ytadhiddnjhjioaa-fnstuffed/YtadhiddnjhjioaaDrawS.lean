/- The contract of DrawStuff: some slice of numbers of bounded length, in memory of its own; no condition. -/
import Derived.Test.YtadhiddnjhjioaaDrawB
namespace Go.Proofs.Ytadhiddnjhjioaa
open Go.RowKit Go.ChangeShapes Go.WideShapes Go.ChangeAt
set_option linter.unusedVariables false
set_option linter.unusedSimpArgs false
set_option maxHeartbeats 3200000 in
theorem drawStuff_c (v : Value) (zs : List Int) (w : World) (h : Rd .u8 w v zs) (hok : ∀ z ∈ zs, 0 ≤ z ∧ z ≤ 255) (hlen : zs.length ≤ 1048576) :
   Calls Try.prog 23 #[v] w fun e w' => ∃ v' ys, e = .returned v' ∧ Ow .i64 3 w.heap.size w' v' ys ∧ ys.length ≤ 4000 ∧ Below w.heap.size w w' := by
  obtain ⟨i0, hi, hz0, hz1, hz2⟩ := info_parts toIInfo
  go_enter Try.func23, Try.ntmps23
  go_wp2_with fail
  refine (new_c v zs _ h hok hlen).mono ?_
  rintro e w1 ⟨g, rfl, d1, hg, c1⟩
  go_wp2_with fail
  refine (size_c v zs 40 _ d1.rd (by omega) (by omega)).mono ?_
  rintro e w1' ⟨x, rfl, x0, x1, hw1⟩
  have hw1' := hw1.symm
  subst hw1'
  go_wp2_with fail
  refine (below_c g v zs _ _ d1 (by omega)).mono ?_
  rintro e w2 ⟨n, rfl, n0, n1, n2, d2, g2⟩
  have n1' := n1 (by omega)
  clear n1 n2
  have c2 : Below w.heap.size w w2 := c1.grown g2 c1.size (fun j hj => by simp at hj; omega)
  go_wp2_with fail
  refine (bits_c g v zs n _ d2 n0 (by omega)).mono ?_
  rintro e w3 ⟨vb, yb, rfl, ob, lb, d3, g3⟩
  have hglt := d2.lt
  go_wp2_with fail
  refine (once_c g v zs 30 _ d3 (by omega)).mono ?_
  rintro e w4 ⟨b30, rfl, d4, g4⟩
  have o4 : Ow .i64 3 w2.heap.size w4 vb yb := World.ownsRow.kept ob g4 (ob.low g hglt)
  have g24 := grown_trans g3 g4
  have lb4 : yb.length ≤ 200 := by omega
  clear ob d3 g3 g4 lb hok h
  cases b30 with
  | false =>
    go_wp2_with fail
    refine (once_c g v zs 60 _ d4 (by omega)).mono ?_
    rintro e w7 ⟨b60, rfl, d7, g7⟩
    have o7 : Ow .i64 3 w2.heap.size w7 vb yb := World.ownsRow.kept o4 g7 (o4.low g hglt)
    have g27 := grown_trans g24 g7
    have c7 : Below w.heap.size w w7 := c2.grown g27 c2.size (fun j hj => by simp at hj; omega)
    clear g7
    cases b60 with
    | false =>
      go_wp2
      go_ret
      exact ⟨_, yb, rfl, o7.mono c2.size, by omega, c7⟩
    | true =>
      go_wp2_with fail
      refine (below_c g v zs 2 _ d7 (by omega)).mono ?_
      rintro e w8 ⟨m, rfl, m0, m1, m2, d8, g8⟩
      have m1' := m1 (by omega)
      clear m1 m2
      obtain ⟨mn, rfl⟩ := Int.eq_ofNat_of_zero_le m0
      have c8 : Below w.heap.size w w8 := c7.grown g8 c7.size (fun j hj => by simp at hj; omega)
      have s8 := c8.size
      go_wp2_with (at_make; refine wpList_make_full _ rfl _ _ 37 rfl w.heap.size 3 i0 (.int .i64 0) 1 Try.underlying37 hi hz0 hz1 .i64 .i64 _ _ (2000 + mn) rfl rfl (by omega) (by omega) (by rw [hz2]; omega) (by unfold maxLen; omega) s8 ?_)
      intro w9 o9 g9
      have o9' : Ow .i64 3 w.heap.size w9 (.slice (some ⟨w8.heap.size, 0, none⟩) (2000 + mn) (2000 + mn)) (List.replicate (2000 + mn) 0) := by
        have e : (madeCells #[Value.int .i64 0] (2000 + mn)).toList = (List.replicate (2000 + mn) (0 : Int)).map (Value.int .i64) := by rw [toList_madeCells_one]; simp
        unfold Ow
        rw [List.length_replicate, ← e]
        exact o9
      have c9 : Below w.heap.size w w9 := c8.grown g9 s8 (by simp)
      clear o9 g9
      go_wp2
      go_ret
      exact ⟨_, List.replicate (2000 + mn) 0, rfl, o9', by simp; omega, c9⟩
  | true =>
    have hs4 := g24.size
    have hbA : Below w4.heap.size w4 (w4.alloc (.cells #[.int .i64 2, .int .i64 (-1)] 3)) := (Below.refl _ _).alloc (Nat.le_refl _) _
    have hlit : Ow .i64 3 w4.heap.size (w4.alloc (.cells #[.int .i64 2, .int .i64 (-1)] 3)) (.slice (some ⟨w4.heap.size, 0, none⟩) 2 2) [2, -1] := World.ownsRow_lit w4 #[.int .i64 2, .int .i64 (-1)] 2 (Nat.le_refl _) (by simp [maxLen]) (by simp)
    have dA := d4.below hbA
    have hgl4 := d4.lt
    go_wp2_with fail
    refine (pick_c g v zs _ [2, -1] _ dA hlit.rd (hlit.low g hgl4) (by simp) (by simp)).mono ?_
    rintro e w5 ⟨p, rfl, d5, g5⟩
    have oA : Ow .i64 3 w2.heap.size (w4.alloc (.cells #[.int .i64 2, .int .i64 (-1)] 3)) vb yb := o4.alloc _
    have o5 : Ow .i64 3 w2.heap.size w5 vb yb := World.ownsRow.kept oA g5 (oA.low g hglt)
    have g25 := grown_trans (grown_alloc g24 (.cells #[.int .i64 2, .int .i64 (-1)] 3)) g5
    have hs5 := g25.size
    clear oA g5 dA hlit hbA o4 g24 d4
    go_wp2_with (at_builtin; refine appI rfl (.tmp 16) (.tmp 20) rfl w2.heap.size _ yb rfl (o5.alloc _) w5.heap.size p rfl (by simp) (by omega) (by simp; omega) ?_)
    intro v6 w6 o6 b6
    have d6 := d2.onto d5 g25 (((Below.refl w2.heap.size w5).alloc hs5 (.cells #[.int .i64 p] 3)).trans b6)
    obtain ⟨d6, g26⟩ := d6
    have lb6 : (yb ++ [p]).length ≤ 300 := by simp; omega
    clear b6 o5 d5 g25
    go_wp2_with fail
    refine (once_c g v zs 60 _ d6 (by omega)).mono ?_
    rintro e w7 ⟨b60, rfl, d7, g7⟩
    have o7 : Ow .i64 3 w2.heap.size w7 v6 (yb ++ [p]) := World.ownsRow.kept o6 g7 (o6.low g hglt)
    have g27 := grown_trans g26 g7
    have c7 : Below w.heap.size w w7 := c2.grown g27 c2.size (fun j hj => by simp at hj; omega)
    clear g7
    cases b60 with
    | false =>
      go_wp2
      go_ret
      exact ⟨_, (yb ++ [p]), rfl, o7.mono c2.size, by omega, c7⟩
    | true =>
      go_wp2_with fail
      refine (below_c g v zs 2 _ d7 (by omega)).mono ?_
      rintro e w8 ⟨m, rfl, m0, m1, m2, d8, g8⟩
      have m1' := m1 (by omega)
      clear m1 m2
      obtain ⟨mn, rfl⟩ := Int.eq_ofNat_of_zero_le m0
      have c8 : Below w.heap.size w w8 := c7.grown g8 c7.size (fun j hj => by simp at hj; omega)
      have s8 := c8.size
      go_wp2_with (at_make; refine wpList_make_full _ rfl _ _ 37 rfl w.heap.size 3 i0 (.int .i64 0) 1 Try.underlying37 hi hz0 hz1 .i64 .i64 _ _ (2000 + mn) rfl rfl (by omega) (by omega) (by rw [hz2]; omega) (by unfold maxLen; omega) s8 ?_)
      intro w9 o9 g9
      have o9' : Ow .i64 3 w.heap.size w9 (.slice (some ⟨w8.heap.size, 0, none⟩) (2000 + mn) (2000 + mn)) (List.replicate (2000 + mn) 0) := by
        have e : (madeCells #[Value.int .i64 0] (2000 + mn)).toList = (List.replicate (2000 + mn) (0 : Int)).map (Value.int .i64) := by rw [toList_madeCells_one]; simp
        unfold Ow
        rw [List.length_replicate, ← e]
        exact o9
      have c9 : Below w.heap.size w w9 := c8.grown g9 s8 (by simp)
      clear o9 g9
      go_wp2
      go_ret
      exact ⟨_, List.replicate (2000 + mn) 0, rfl, o9', by simp; omega, c9⟩
end Go.Proofs.Ytadhiddnjhjioaa

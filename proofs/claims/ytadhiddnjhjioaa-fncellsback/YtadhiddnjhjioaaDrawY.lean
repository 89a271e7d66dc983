/- Contracts of the functions that draw bytes for cells: a slice of bytes of bounded length in memory of its own; no condition. -/
import Derived.Test.YtadhiddnjhjioaaDrawB
import Derived.Test.YtadhiddnjhjioaaSlA
namespace Go.Proofs.Ytadhiddnjhjioaa
open Go.RowKit Go.ChangeShapes Go.WideShapes Go.ChangeAt
set_option linter.unusedVariables false
set_option linter.unusedSimpArgs false
set_option maxHeartbeats 1600000 in
theorem bytes_c (g : Nat) (cv : Value) (zs : List Int) (n : Int) (w : World) (h : Dr w g cv zs) (h0 : 0 ≤ n) (hn : n ≤ 1048576) :
   Calls Try.prog 51 #[.pointer (some ⟨g, 0, none⟩), .int .i64 n] w fun e w' => ∃ v' ys, e = .returned v' ∧ Ow .u8 5 w.heap.size w' v' ys ∧ bytesOk ys ∧ (ys.length : Int) ≤ n ∧ Dr w' g cv zs ∧ w.grownBy w' (some g) := by
  have hD := h
  obtain ⟨n, rfl⟩ := Int.eq_ofNat_of_zero_le h0
  have hglt := h.lt
  have he0 := Ow.empty .u8 5 w.heap.size w (Nat.le_refl _)
  have hb0 : Below w.heap.size w (w.alloc (.cells #[] 5)) := (Below.refl _ _).alloc (Nat.le_refl _) _
  have hd0 := h.onto h (grown_refl w (some g)) hb0
  go_enter Try.func51, Try.ntmps51
  go_wp2
  go_loopw [5, 6] (fun u i wr => ∃ (j : Nat) (ys : List Int), j ≤ n ∧ i = .int .i64 j ∧ ys.length = j ∧ bytesOk ys ∧ Ow .u8 5 w.heap.size wr u ys ∧ Dr wr g cv zs ∧ w.grownBy wr (some g)) (fun _ i _ => n - (intOf i).toNat)
  case atStart => exact ⟨0, [], Nat.zero_le _, rfl, rfl, by simp [bytesOk], he0, hd0.1, hd0.2⟩
  case round =>
    obtain ⟨j, ys, hj, rfl, hyl, hyo, hw, hdr, hgr⟩ := hrel
    clear he0 hb0 hd0
    have hs0 := hgr.size
    by_cases hlt : j < n
    · have HYL : Hid (ys.length = j) := hyl
      have HYO : Hid (bytesOk ys) := hyo
      have hyl2 : ys.length ≤ 1048576 := by omega
      clear hyl hyo
      go_wp2_with fail
      refine (byte_c g cv zs _ hdr).mono ?_
      rintro e w1 ⟨x, rfl, x0, x1, d1, g1⟩
      have hw1 : Ow .u8 5 w.heap.size w1 u5 ys := World.ownsRow.kept hw g1 (hw.low g hglt)
      have hgr1 := grown_trans hgr g1
      have hs1 := hgr1.size
      clear hw hdr hgr g1
      go_wp2_with (at_builtin; refine appB rfl (.tmp 13) (.tmp 17) rfl w.heap.size _ ys rfl (hw1.alloc _) w1.heap.size x rfl (by simp) (by omega) (by simp; omega) ?_)
      intro v2 w2 ho2 hb2
      have hd2 := hD.onto d1 hgr1 (((Below.refl w.heap.size w1).alloc hs1 (.cells #[.int .u8 x] 5)).trans hb2)
      clear hb2 hw1 d1 hgr1
      go_wp2
      go_roundw
      case rel => exact ⟨j + 1, ys ++ [x], by omega, by go_num, by have := HYL.out; simp; omega, fun z hz => by rcases List.mem_append.1 hz with h | h; exact HYO.out z h; (have : z = x := by simpa using h); omega, ho2, hd2.1, hd2.2⟩
      case measure => simp [intOf]; omega
    · go_wp2
      go_ret
      exact ⟨_, ys, rfl, hw, hyo, by omega, hdr, hgr⟩
set_option maxHeartbeats 3200000 in
theorem drawCells_c (v : Value) (zs : List Int) (w : World) (h : Rd .u8 w v zs) (hok : ∀ z ∈ zs, 0 ≤ z ∧ z ≤ 255) (hlen : zs.length ≤ 1048576) :
   Calls Try.prog 14 #[v] w fun e w' => ∃ v' ys, e = .returned v' ∧ Ow .u8 5 w.heap.size w' v' ys ∧ bytesOk ys ∧ ys.length ≤ 2000 ∧ Below w.heap.size w w' := by
  obtain ⟨i0, hi, hz0, hz1, hz2⟩ := info_parts toBInfo
  go_enter Try.func14, Try.ntmps14
  go_wp2_with fail
  refine (new_c v zs _ h hok hlen).mono ?_
  rintro e w1 ⟨g, rfl, d1, hg, c1⟩
  go_wp2_with fail
  refine (once_c g v zs 40 _ d1 (by omega)).mono ?_
  rintro e w2 ⟨b40, rfl, d2, g2⟩
  have c2 : Below w.heap.size w w2 := c1.grown g2 c1.size (fun j hj => by simp at hj; omega)
  clear d1 c1 g2 hok h
  cases b40 with
  | true =>
    go_wp2_with fail
    refine (below_c g v zs 2 _ d2 (by omega)).mono ?_
    rintro e w8 ⟨m, rfl, m0, m1, m2, d8, g8⟩
    have m1' := m1 (by omega)
    clear m1 m2
    obtain ⟨mn, rfl⟩ := Int.eq_ofNat_of_zero_le m0
    have c8 : Below w.heap.size w w8 := c2.grown g8 c2.size (fun j hj => by simp at hj; omega)
    have s8 := c8.size
    go_wp2_with (at_make; refine wpList_make_full _ rfl _ _ 22 rfl w.heap.size 5 i0 (.int .u8 0) 1 Try.underlying22 hi hz0 hz1 .i64 .i64 _ _ (900 + mn) rfl rfl (by omega) (by omega) (by rw [hz2]; omega) (by unfold maxLen; omega) s8 ?_)
    intro w9 o9 g9
    have o9' : Ow .u8 5 w.heap.size w9 (.slice (some ⟨w8.heap.size, 0, none⟩) (900 + mn) (900 + mn)) (List.replicate (900 + mn) 0) := by
      have e : (madeCells #[Value.int .u8 0] (900 + mn)).toList = (List.replicate (900 + mn) (0 : Int)).map (Value.int .u8) := by rw [toList_madeCells_one]; simp
      unfold Ow
      rw [List.length_replicate, ← e]
      exact o9
    have c9 : Below w.heap.size w w9 := c8.grown g9 s8 (by simp)
    clear o9 g9
    go_wp2
    go_ret
    exact ⟨_, List.replicate (900 + mn) 0, rfl, o9', fun z hz => by have := List.eq_of_mem_replicate hz; omega, by simp; omega, c9⟩
  | false =>
    go_wp2_with fail
    refine (size_c v zs 40 _ d2.rd (by omega) (by omega)).mono ?_
    rintro e w3 ⟨x, rfl, x0, x1, hw3⟩
    have hw3' := hw3.symm
    subst hw3'
    go_wp2_with fail
    refine (below_c g v zs _ _ d2 (by omega)).mono ?_
    rintro e w4 ⟨n, rfl, n0, n1, n2, d4, g4⟩
    have n1' := n1 (by omega)
    clear n1 n2
    have c4 : Below w.heap.size w w4 := c2.grown g4 c2.size (fun j hj => by simp at hj; omega)
    go_wp2_with fail
    refine (bytes_c g v zs n _ d4 n0 (by omega)).mono ?_
    rintro e w5 ⟨vb, yb, rfl, ob, yo, lb, d5, g5⟩
    have c5 : Below w.heap.size w w5 := c4.grown g5 c4.size (fun j hj => by simp at hj; omega)
    go_wp2
    go_ret
    exact ⟨_, yb, rfl, ob.mono c4.size, yo, by omega, c5⟩
end Go.Proofs.Ytadhiddnjhjioaa

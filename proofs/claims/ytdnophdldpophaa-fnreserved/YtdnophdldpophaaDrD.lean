/- l9DrawBegin; no condition. -/
import Derived.Test.YtdnophdldpophaaDrC
namespace Go.Proofs.Ytdnophdldpophaa
open Go.RowKit Go.ChangeShapes Go.WideShapes Go.ChangeAt
set_option linter.unusedVariables false
set_option linter.unusedSimpArgs false
set_option maxRecDepth 8000
set_option maxHeartbeats 3200000 in
theorem begin_c (g : Nat) (cv : Value) (zs : List Int) (w : World) (h : Dr w g cv zs) :
   Calls Try.prog 33 #[.pointer (some ⟨g, 0, none⟩)] w fun e w' => ∃ x : Int, e = .returned (.int .i64 x) ∧ Dr w' g cv zs ∧ w.grownBy w' (some g) := by
  have D_w : Hid (Dc w w g cv zs) := Dc.start h
  clear h
  go_enter Try.func33, Try.ntmps33
  go_wp2_with (fail)
  refine (below_c g cv zs 12 _ D_w.out.dr (by omega)).mono ?_
  rintro e w1 ⟨x, rfl, hx0, hx1, hx2, d1, g1⟩
  have D_w1 : Hid (Dc w w1 g cv zs) := D_w.out.draw d1 g1
  clear d1 g1 D_w
  clear hx2
  by_cases hc0 : x = 0
  · subst hc0
    have ba : Below w1.heap.size w1 (w1.alloc (Obj.cells #[.int .i64 (-1), .int .i64 0, .int .i64 1000000000, .int .i64 1000000001, .int .i64 999999950] 3)) := (Below.refl _ _).alloc (Nat.le_refl _) _
    have lr : Rd .i64 (w1.alloc (Obj.cells #[.int .i64 (-1), .int .i64 0, .int .i64 1000000000, .int .i64 1000000001, .int .i64 999999950] 3)) (.slice (some ⟨w1.heap.size, 0, none⟩) 5 5) [-1, 0, 1000000000, 1000000001, 999999950] := Rd.lit w1 [-1, 0, 1000000000, 1000000001, 999999950] (by decide)
    have hgl : g < w1.heap.size := D_w1.out.dr.lt
    obtain ⟨W2, hW2⟩ : ∃ W, w1.alloc (Obj.cells #[.int .i64 (-1), .int .i64 0, .int .i64 1000000000, .int .i64 1000000001, .int .i64 999999950] 3) = W := ⟨_, rfl⟩
    obtain ⟨qW2, hqW2⟩ : ∃ X, w1.heap.size = X := ⟨_, rfl⟩
    rw [hW2] at ba lr
    rw [hqW2] at lr hgl
    have LR : Hid (Rd .i64 W2 (.slice (some ⟨qW2, 0, none⟩) 5 5) [-1, 0, 1000000000, 1000000001, 999999950]) := lr
    have LN : Hid (g < qW2) := hgl
    have D_W2 : Hid (Dc w W2 g cv zs) := D_w1.out.below ba
    clear ba lr hgl D_w1
    go_wp2_with (fail)
    refine (pickInt_c g cv zs (.slice (some ⟨qW2, 0, none⟩) 5 5) [-1, 0, 1000000000, 1000000001, 999999950] _ D_W2.out.dr LR.out (.inr (by have := LN.out; simp [Value.ownBlock]; omega)) (by decide) (by decide)).mono ?_
    rintro e w3 ⟨y, rfl, d1, g1⟩
    have D_w3 : Hid (Dc w w3 g cv zs) := D_W2.out.draw d1 g1
    clear d1 g1 D_W2 hW2 hqW2 LR LN
    go_wp2
    go_ret
    exact ⟨_, rfl, D_w3.out.dr, D_w3.out.gr⟩
  have hb0 : (x == 0) = false := beq_eq_false_iff_ne.2 hc0
  by_cases hc1 : x = 1
  · subst hc1
    have ba : Below w1.heap.size w1 (w1.alloc (Obj.cells #[.int .i64 86390, .int .i64 28700, .int .i64 64790, .int .i64 259200] 3)) := (Below.refl _ _).alloc (Nat.le_refl _) _
    have lr : Rd .i64 (w1.alloc (Obj.cells #[.int .i64 86390, .int .i64 28700, .int .i64 64790, .int .i64 259200] 3)) (.slice (some ⟨w1.heap.size, 0, none⟩) 4 4) [86390, 28700, 64790, 259200] := Rd.lit w1 [86390, 28700, 64790, 259200] (by decide)
    have hgl : g < w1.heap.size := D_w1.out.dr.lt
    obtain ⟨W2, hW2⟩ : ∃ W, w1.alloc (Obj.cells #[.int .i64 86390, .int .i64 28700, .int .i64 64790, .int .i64 259200] 3) = W := ⟨_, rfl⟩
    obtain ⟨qW2, hqW2⟩ : ∃ X, w1.heap.size = X := ⟨_, rfl⟩
    rw [hW2] at ba lr
    rw [hqW2] at lr hgl
    have LR : Hid (Rd .i64 W2 (.slice (some ⟨qW2, 0, none⟩) 4 4) [86390, 28700, 64790, 259200]) := lr
    have LN : Hid (g < qW2) := hgl
    have D_W2 : Hid (Dc w W2 g cv zs) := D_w1.out.below ba
    clear ba lr hgl D_w1
    go_wp2_with (fail)
    refine (pickInt_c g cv zs (.slice (some ⟨qW2, 0, none⟩) 4 4) [86390, 28700, 64790, 259200] _ D_W2.out.dr LR.out (.inr (by have := LN.out; simp [Value.ownBlock]; omega)) (by decide) (by decide)).mono ?_
    rintro e w3 ⟨y, rfl, d1, g1⟩
    have D_w3 : Hid (Dc w w3 g cv zs) := D_W2.out.draw d1 g1
    clear d1 g1 D_W2 hW2 hqW2 LR LN
    go_wp2_with (fail)
    refine (below_c g cv zs 20 _ D_w3.out.dr (by omega)).mono ?_
    rintro e w4 ⟨u, rfl, hu0, hu1, hu2, d1, g1⟩
    have D_w4 : Hid (Dc w w4 g cv zs) := D_w3.out.draw d1 g1
    clear d1 g1 D_w3
    go_wp2
    go_ret
    exact ⟨_, rfl, D_w4.out.dr, D_w4.out.gr⟩
  have hb1 : (x == 1) = false := beq_eq_false_iff_ne.2 hc1
  by_cases hc2 : x = 2
  · subst hc2
    have ba : Below w1.heap.size w1 (w1.alloc (Obj.cells #[.int .i64 86390, .int .i64 28700, .int .i64 64790, .int .i64 259200] 3)) := (Below.refl _ _).alloc (Nat.le_refl _) _
    have lr : Rd .i64 (w1.alloc (Obj.cells #[.int .i64 86390, .int .i64 28700, .int .i64 64790, .int .i64 259200] 3)) (.slice (some ⟨w1.heap.size, 0, none⟩) 4 4) [86390, 28700, 64790, 259200] := Rd.lit w1 [86390, 28700, 64790, 259200] (by decide)
    have hgl : g < w1.heap.size := D_w1.out.dr.lt
    obtain ⟨W2, hW2⟩ : ∃ W, w1.alloc (Obj.cells #[.int .i64 86390, .int .i64 28700, .int .i64 64790, .int .i64 259200] 3) = W := ⟨_, rfl⟩
    obtain ⟨qW2, hqW2⟩ : ∃ X, w1.heap.size = X := ⟨_, rfl⟩
    rw [hW2] at ba lr
    rw [hqW2] at lr hgl
    have LR : Hid (Rd .i64 W2 (.slice (some ⟨qW2, 0, none⟩) 4 4) [86390, 28700, 64790, 259200]) := lr
    have LN : Hid (g < qW2) := hgl
    have D_W2 : Hid (Dc w W2 g cv zs) := D_w1.out.below ba
    clear ba lr hgl D_w1
    go_wp2_with (fail)
    refine (pickInt_c g cv zs (.slice (some ⟨qW2, 0, none⟩) 4 4) [86390, 28700, 64790, 259200] _ D_W2.out.dr LR.out (.inr (by have := LN.out; simp [Value.ownBlock]; omega)) (by decide) (by decide)).mono ?_
    rintro e w3 ⟨y, rfl, d1, g1⟩
    have D_w3 : Hid (Dc w w3 g cv zs) := D_W2.out.draw d1 g1
    clear d1 g1 D_W2 hW2 hqW2 LR LN
    go_wp2_with (fail)
    refine (below_c g cv zs 20 _ D_w3.out.dr (by omega)).mono ?_
    rintro e w4 ⟨u, rfl, hu0, hu1, hu2, d1, g1⟩
    have D_w4 : Hid (Dc w w4 g cv zs) := D_w3.out.draw d1 g1
    clear d1 g1 D_w3
    go_wp2
    go_ret
    exact ⟨_, rfl, D_w4.out.dr, D_w4.out.gr⟩
  have hb2 : (x == 2) = false := beq_eq_false_iff_ne.2 hc2
  by_cases hc3 : x = 3
  · subst hc3
    have ba : Below w1.heap.size w1 (w1.alloc (Obj.cells #[.int .i64 86390, .int .i64 28700, .int .i64 64790, .int .i64 259200] 3)) := (Below.refl _ _).alloc (Nat.le_refl _) _
    have lr : Rd .i64 (w1.alloc (Obj.cells #[.int .i64 86390, .int .i64 28700, .int .i64 64790, .int .i64 259200] 3)) (.slice (some ⟨w1.heap.size, 0, none⟩) 4 4) [86390, 28700, 64790, 259200] := Rd.lit w1 [86390, 28700, 64790, 259200] (by decide)
    have hgl : g < w1.heap.size := D_w1.out.dr.lt
    obtain ⟨W2, hW2⟩ : ∃ W, w1.alloc (Obj.cells #[.int .i64 86390, .int .i64 28700, .int .i64 64790, .int .i64 259200] 3) = W := ⟨_, rfl⟩
    obtain ⟨qW2, hqW2⟩ : ∃ X, w1.heap.size = X := ⟨_, rfl⟩
    rw [hW2] at ba lr
    rw [hqW2] at lr hgl
    have LR : Hid (Rd .i64 W2 (.slice (some ⟨qW2, 0, none⟩) 4 4) [86390, 28700, 64790, 259200]) := lr
    have LN : Hid (g < qW2) := hgl
    have D_W2 : Hid (Dc w W2 g cv zs) := D_w1.out.below ba
    clear ba lr hgl D_w1
    go_wp2_with (fail)
    refine (pickInt_c g cv zs (.slice (some ⟨qW2, 0, none⟩) 4 4) [86390, 28700, 64790, 259200] _ D_W2.out.dr LR.out (.inr (by have := LN.out; simp [Value.ownBlock]; omega)) (by decide) (by decide)).mono ?_
    rintro e w3 ⟨y, rfl, d1, g1⟩
    have D_w3 : Hid (Dc w w3 g cv zs) := D_W2.out.draw d1 g1
    clear d1 g1 D_W2 hW2 hqW2 LR LN
    go_wp2_with (fail)
    refine (below_c g cv zs 20 _ D_w3.out.dr (by omega)).mono ?_
    rintro e w4 ⟨u, rfl, hu0, hu1, hu2, d1, g1⟩
    have D_w4 : Hid (Dc w w4 g cv zs) := D_w3.out.draw d1 g1
    clear d1 g1 D_w3
    go_wp2
    go_ret
    exact ⟨_, rfl, D_w4.out.dr, D_w4.out.gr⟩
  have hb3 : (x == 3) = false := beq_eq_false_iff_ne.2 hc3
  go_wp2_with (fail)
  refine (below_c g cv zs 90000 _ D_w1.out.dr (by omega)).mono ?_
  rintro e w2 ⟨y, rfl, hy0, hy1, hy2, d1, g1⟩
  have D_w2 : Hid (Dc w w2 g cv zs) := D_w1.out.draw d1 g1
  clear d1 g1 D_w1
  go_wp2
  go_ret
  exact ⟨_, rfl, D_w2.out.dr, D_w2.out.gr⟩
end Go.Proofs.Ytdnophdldpophaa

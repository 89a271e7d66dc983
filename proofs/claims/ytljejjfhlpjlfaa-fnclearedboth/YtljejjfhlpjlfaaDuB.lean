/- Contracts of the laws' helpers that copy, compare and measure duos; no condition. -/
import Derived.Test.YtljejjfhlpjlfaaDuA
namespace Go.Proofs.Ytljejjfhlpjlfaa
open Go.RowKit Go.ChangeShapes Go.WideShapes Go.ChangeAt
set_option linter.unusedVariables false
set_option linter.unusedSimpArgs false
set_option maxRecDepth 8000

set_option maxHeartbeats 1600000 in
theorem eqHalfA2_c (s c s' c' x y x' y' : Int) (w : World) : Calls Try.prog 49 #[.agg (H4 s c s' c'), .agg (H4 x y x' y')] w fun e w' => e = .returned (.bool (decide ((s, c) = (x, y)) && decide ((s', c') = (x', y')))) ∧ Below w.heap.size w w' := by
  obtain ⟨W0, hW0⟩ : ∃ W0, ((w.alloc (Obj.cells (H4 s c s' c') 28)).alloc (Obj.cells (H4 x y x' y') 28)) = W0 := ⟨_, rfl⟩
  have z0 : W0.heap.size = w.heap.size + 2 := by rw [← hW0]; simp
  have HB : Hid (Below w.heap.size w W0) := by rw [← hW0]; exact ((Below.refl _ _).alloc (Nat.le_refl _) _).alloc (by simp) _
  have K0 : Hid (Blk W0 w.heap.size (H4 s c s' c') 28) := by rw [← hW0]; exact (Blk.new _ _ _).alloc _
  have K1 : Hid (Blk W0 (w.heap.size + 1) (H4 x y x' y') 28) := by rw [← hW0]; exact Blk.newAt _ (w.heap.size + 1) _ 28 (by simp)
  go_enter Try.func49, Try.ntmps49
  go_wp2
  clear hW0
  go_loopw [5] (fun i wr => Hid (Blk wr w.heap.size (H4 s c s' c') 28 ∧ Blk wr (w.heap.size + 1) (H4 x y x' y') 28 ∧ Below w.heap.size w wr) ∧ (i = .int .i64 0 ∨ (i = .int .i64 1 ∧ Hid ((s, c) = (x, y))) ∨ (i = .int .i64 2 ∧ Hid ((s, c) = (x, y) ∧ (s', c') = (x', y'))))) (fun i _ => 2 - (intOf i).toNat)
  case atStart => exact ⟨⟨K0.out, K1.out, HB.out⟩, .inl rfl⟩
  case round =>
    clear K0 K1 HB z0
    obtain ⟨⟨q0, q1, hb⟩, rfl | ⟨rfl, he⟩ | ⟨rfl, he⟩⟩ := hrel
    · have t0 : ∀ W : Ov wr, W.wd.cell? ⟨w.heap.size, 0, none⟩ = some (.int .i64 s) := ov_cell (by rw [q0.cell 0]; rfl)
      have t1 : ∀ W : Ov wr, W.wd.cell? ⟨w.heap.size, 1, none⟩ = some (.int .i64 c) := ov_cell (by rw [q0.cell 1]; rfl)
      have t2 : ∀ W : Ov wr, W.wd.cell? ⟨w.heap.size + 1, 0, none⟩ = some (.int .i64 x) := ov_cell (by rw [q1.cell 0]; rfl)
      have t3 : ∀ W : Ov wr, W.wd.cell? ⟨w.heap.size + 1, 1, none⟩ = some (.int .i64 y) := ov_cell (by rw [q1.cell 1]; rfl)
      have ne : Nonempty (Ov wr) := ⟨⟨_, Below.refl _ _⟩⟩
      obtain ⟨q, hq⟩ : ∃ q, decide ((s, c) = (x, y)) = q := ⟨_, rfl⟩
      have HC : Hid (∀ W : Ov wr, Calls Try.prog 66 #[.agg (H2 s c), .agg (H2 x y)] W.wd fun e w'' => e = .returned (.bool q) ∧ ∃ W' : Ov wr, w'' = W'.wd) := fun W => ov_call (by rw [← hq]; exact eqHalf_c _ _ _ _ W.wd)
      have H0 : Hid (Blk wr w.heap.size (H4 s c s' c') 28) := q0
      have H1 : Hid (Blk wr (w.heap.size + 1) (H4 x y x' y') 28) := q1
      have HH : Hid _ := hb
      have HQ : Hid _ := hq
      clear q0 q1 hb hq
      go_wp2
      refine region_over (by kernel_rfl) (by kernel_rfl) ?_
      repeat (go_big_quiet_step (first | (go_at_call 66; exact HC.out _)))
      refine wpQuiet_nil ?_
      rintro _ ⟨W, rfl⟩
      have HBW : Hid (Below w.heap.size w W.wd) := belowCall HH.out W.ok HH.out.size
      have X0 : Hid (Blk W.wd w.heap.size (H4 s c s' c') 28) := H0.out.below W.ok H0.out.lt
      have X1 : Hid (Blk W.wd (w.heap.size + 1) (H4 x y x' y') 28) := H1.out.below W.ok H1.out.lt
      clear HC t0 t1 t2 t3 H0 H1 HH
      cases q with
      | false =>
        have HD : Hid ((decide ((s, c) = (x, y)) && decide ((s', c') = (x', y'))) = false) := by show _ = false; rw [HQ.out]; simp
        go_wp2
        go_ret
        exact ⟨by rw [HD.out]; rfl, HBW.out⟩
      | true =>
        have HE : Hid ((s, c) = (x, y)) := (of_decide_eq_true HQ.out : (s, c) = (x, y))
        go_wp2
        go_roundw
        case rel => exact ⟨⟨X0.out, X1.out, HBW.out⟩, .inr (.inl ⟨by go_num, HE.out⟩)⟩
        case measure => simp [intOf]
    · have t0 : ∀ W : Ov wr, W.wd.cell? ⟨w.heap.size, 2, none⟩ = some (.int .i64 s') := ov_cell (by rw [q0.cell 2]; rfl)
      have t1 : ∀ W : Ov wr, W.wd.cell? ⟨w.heap.size, 3, none⟩ = some (.int .i64 c') := ov_cell (by rw [q0.cell 3]; rfl)
      have t2 : ∀ W : Ov wr, W.wd.cell? ⟨w.heap.size + 1, 2, none⟩ = some (.int .i64 x') := ov_cell (by rw [q1.cell 2]; rfl)
      have t3 : ∀ W : Ov wr, W.wd.cell? ⟨w.heap.size + 1, 3, none⟩ = some (.int .i64 y') := ov_cell (by rw [q1.cell 3]; rfl)
      have ne : Nonempty (Ov wr) := ⟨⟨_, Below.refl _ _⟩⟩
      obtain ⟨q, hq⟩ : ∃ q, decide ((s', c') = (x', y')) = q := ⟨_, rfl⟩
      have HC : Hid (∀ W : Ov wr, Calls Try.prog 66 #[.agg (H2 s' c'), .agg (H2 x' y')] W.wd fun e w'' => e = .returned (.bool q) ∧ ∃ W' : Ov wr, w'' = W'.wd) := fun W => ov_call (by rw [← hq]; exact eqHalf_c _ _ _ _ W.wd)
      have H0 : Hid (Blk wr w.heap.size (H4 s c s' c') 28) := q0
      have H1 : Hid (Blk wr (w.heap.size + 1) (H4 x y x' y') 28) := q1
      have HH : Hid _ := hb
      have HQ : Hid _ := hq
      clear q0 q1 hb hq
      go_wp2
      refine region_over (by kernel_rfl) (by kernel_rfl) ?_
      repeat (go_big_quiet_step (first | (go_at_call 66; exact HC.out _)))
      refine wpQuiet_nil ?_
      rintro _ ⟨W, rfl⟩
      have HBW : Hid (Below w.heap.size w W.wd) := belowCall HH.out W.ok HH.out.size
      have X0 : Hid (Blk W.wd w.heap.size (H4 s c s' c') 28) := H0.out.below W.ok H0.out.lt
      have X1 : Hid (Blk W.wd (w.heap.size + 1) (H4 x y x' y') 28) := H1.out.below W.ok H1.out.lt
      clear HC t0 t1 t2 t3 H0 H1 HH
      cases q with
      | false =>
        have HD : Hid ((decide ((s, c) = (x, y)) && decide ((s', c') = (x', y'))) = false) := by show _ = false; rw [HQ.out]; simp
        go_wp2
        go_ret
        exact ⟨by rw [HD.out]; rfl, HBW.out⟩
      | true =>
        have HE : Hid ((s', c') = (x', y')) := (of_decide_eq_true HQ.out : (s', c') = (x', y'))
        go_wp2
        go_roundw
        case rel => exact ⟨⟨X0.out, X1.out, HBW.out⟩, .inr (.inr ⟨by go_num, he.out, HE.out⟩)⟩
        case measure => simp [intOf]
    · have HH : Hid _ := hb
      have HD : Hid ((decide ((s, c) = (x, y)) && decide ((s', c') = (x', y'))) = true) := by show _ = true; simp [he.out.1, he.out.2]
      clear q0 q1 hb he
      go_wp2
      go_ret
      exact ⟨by rw [HD.out]; rfl, HH.out⟩


theorem szDuo_c (s c s' c' : Int) (v : Value) (ls : Tri) (left : Int) (w : World) (h : Rt w v ls) (h0 : 0 ≤ left) (h1 : left ≤ 1048576) :
   Calls Try.prog 21 #[.agg (D5 s c s' c' v), .int .i64 left] w fun e w' => e = .returned (.int .i64 (lft left ls.length)) ∧ Below w.heap.size w w' := by
  have hb : Below w.heap.size w (w.alloc (Obj.cells (D5 s c s' c' v) 44)) := (Below.refl _ _).alloc (Nat.le_refl _) _
  have HB : Hid _ := hb
  have HH : Hid (Rt (w.alloc (Obj.cells (D5 s c s' c' v) 44)) v ls) := h.below hb
  obtain ⟨a, cap, rfl, -⟩ := h
  clear hb
  go_enter Try.func21, Try.ntmps21
  by_cases hl : left - ls.length < 0
  · have hq : lft left ls.length = -1 := by simp [lft, hl]
    go_wp2_with (go_at_call 43; refine (szSigS_c _ _ _ _ HH.out h0 h1).mono ?_; rintro e w2 ⟨rfl, rfl⟩; rw [hq])
    go_ret
    exact ⟨by rw [hq]; rfl, HB.out⟩
  · have hq : lft left ls.length = left - ls.length := by simp only [lft]; rw [if_neg hl]
    go_wp2_with (go_at_call 43; refine (szSigS_c _ _ _ _ HH.out h0 h1).mono ?_; rintro e w2 ⟨rfl, rfl⟩; rw [hq])
    go_ret
    exact ⟨by rw [hq]; rfl, HB.out⟩
theorem grown_set (w : World) (g k : Nat) (x : Value) : w.grownBy (w.setCell ⟨g, k, none⟩ x) (some g) :=
  ⟨rfl, rfl, rfl, by simp, fun i _ hi => heap_setCell_other w ⟨g, k, none⟩ i x (fun e => hi (by simp [e]))⟩
set_option maxHeartbeats 1600000 in
theorem eqDuo_c (s c s' c' x y x' y' : Int) (v v' : Value) (xs ys : Tri) (w : World) (h : Rt w v xs) (h' : Rt w v' ys) :
   Calls Try.prog 24 #[.agg (D5 s c s' c' v), .agg (D5 x y x' y' v')] w fun e w' => e = .returned (.bool ((decide ((s, c) = (x, y)) && decide ((s', c') = (x', y'))) && decide (xs = ys))) ∧ Below w.heap.size w w' := by
  have hb : Below w.heap.size w ((w.alloc (Obj.cells (D5 s c s' c' v) 31)).alloc (Obj.cells (D5 x y x' y' v') 31)) := ((Below.refl _ _).alloc (Nat.le_refl _) _).alloc (by simp) _
  have K0 : Hid (Blk ((w.alloc (Obj.cells (D5 s c s' c' v) 31)).alloc (Obj.cells (D5 x y x' y' v') 31)) w.heap.size (D5 s c s' c' v) 31) := (Blk.new _ _ _).alloc _
  have K1 : Hid (Blk ((w.alloc (Obj.cells (D5 s c s' c' v) 31)).alloc (Obj.cells (D5 x y x' y' v') 31)) (w.heap.size + 1) (D5 x y x' y' v') 31) := Blk.newAt _ (w.heap.size + 1) _ 31 (by simp)
  have HB : Hid _ := hb
  have HR : Hid (∀ W, Below w.heap.size w W → Rt W v xs ∧ Rt W v' ys) := fun W hW => ⟨h.below hW, h'.below hW⟩
  obtain ⟨a, cap, rfl, -⟩ := h
  obtain ⟨a', cap', rfl, -⟩ := h'
  clear hb
  obtain ⟨q, hq⟩ : ∃ q, (decide ((s, c) = (x, y)) && decide ((s', c') = (x', y'))) = q := ⟨_, rfl⟩
  rw [hq]
  go_enter Try.func24, Try.ntmps24
  go_wp2_with (fail)
  refine (eqHalfA2_c _ _ _ _ _ _ _ _ _).mono ?_
  rintro e w2 ⟨rfl, b2⟩
  rw [hq]
  have HBW : Hid (Below w.heap.size w w2) := belowCall HB.out b2 HB.out.size
  have l0 := K0.out.lt
  have l1 := K1.out.lt
  have c0 := (K0.out.below b2 l0).cell 4
  have c1 := (K1.out.below b2 l1).cell 4
  simp at c0 c1
  clear hq K0 K1 HB b2 l0 l1
  cases q with
  | false =>
    go_wp2
    go_ret
    exact ⟨by simp, HBW.out⟩
  | true =>
    go_wp2_with (fail)
    refine (eqSigS_c _ _ _ _ _ (HR.out _ HBW.out).1 (HR.out _ HBW.out).2).mono ?_
    rintro e w3 ⟨rfl, b3⟩
    have HBW3 : Hid (Below w.heap.size w w3) := belowCall HBW.out b3 HBW.out.size
    clear HR b3 HBW c0 c1
    obtain ⟨q, hq⟩ : ∃ q, decide (xs = ys) = q := ⟨_, rfl⟩
    rw [hq]
    have HQ : Hid (decide (xs = ys) = q) := hq
    clear hq
    cases q with
    | false =>
      go_wp2
      go_ret
      exact ⟨by first | rfl | (rw [HQ.out]; rfl), HBW3.out⟩
    | true =>
      go_wp2
      go_ret
      exact ⟨by first | rfl | (rw [HQ.out]; rfl), HBW3.out⟩
set_option maxHeartbeats 1600000 in
theorem toDuo_c (s c s' c' : Int) (v : Value) (ls : Tri) (w : World) (h : Rt w v ls) (hn : ls.length ≤ 1048576) :
   Calls Try.prog 22 #[.agg (D5 s c s' c' v)] w fun e w' => ∃ v', e = .returned (.agg (D5 s c s' c' v')) ∧ Ot 66 w.heap.size w' v' ls ∧ Below w.heap.size w w' := by
  obtain ⟨W0, hW0⟩ : ∃ W0, ((w.alloc (Obj.cells (D5 s c s' c' v) 44)).alloc (Obj.cells (D5 0 0 0 0 (.slice none 0 0)) 31)).alloc (Obj.cells (D5 0 0 0 0 (.slice none 0 0)) 31) = W0 := ⟨_, rfl⟩
  have z0 : W0.heap.size = w.heap.size + 3 := by rw [← hW0]; simp
  have HB : Hid (Below w.heap.size w W0) := by rw [← hW0]; exact (((Below.refl _ _).alloc (Nat.le_refl _) _).alloc (by simp) _).alloc (by simp; omega) _
  have K0 : Hid (Blk W0 w.heap.size (D5 s c s' c' v) 44) := by rw [← hW0]; exact ((Blk.new _ _ _).alloc _).alloc _
  have K1 : Hid (Blk W0 (w.heap.size + 1) (D5 0 0 0 0 (.slice none 0 0)) 31) := by rw [← hW0]; exact (Blk.newAt _ (w.heap.size + 1) _ 31 (by simp)).alloc _
  have K2 : Hid (Blk W0 (w.heap.size + 1 + 1) (D5 0 0 0 0 (.slice none 0 0)) 31) := by rw [← hW0]; exact Blk.newAt _ (w.heap.size + 1 + 1) _ 31 (by simp)
  have HR : Hid (∀ W, Below w.heap.size w W → Rt W v ls) := fun W hW => h.below hW
  obtain ⟨a, cap, rfl, -⟩ := h
  obtain ⟨n, hnn⟩ : ∃ n, ls.length = n := ⟨_, rfl⟩
  rw [hnn] at HR K0 hW0 ⊢
  have t0 := K0.out.cell 0
  have t1 := K0.out.cell 1
  have t2 := K0.out.cell 2
  have t3 := K0.out.cell 3
  simp at t0 t1 t2 t3
  go_enter Try.func22, Try.ntmps22
  go_wp2_with (fail)
  clear hW0
  refine (toHalfA2_c _ _ _ _ _).mono ?_
  rintro e w2 ⟨rfl, b2⟩
  have HBW : Hid (Below w.heap.size w w2) := belowCall HB.out b2 HB.out.size
  have q0 := K0.out.below b2 K0.out.lt
  have q1 := K1.out.below b2 K1.out.lt
  have q2 := K2.out.below b2 K2.out.lt
  have d0 := q2.cell 0
  have d1 := q2.cell 1
  have d2 := q2.cell 2
  have d3 := q2.cell 3
  have f0 := q2.frozen 0
  have f1 := q2.frozen 1
  have f2 := q2.frozen 2
  have f3 := q2.frozen 3
  simp at d0 d1 d2 d3
  obtain ⟨W3, hW3⟩ : ∃ W3, ((((w2.setCell ⟨w.heap.size + 1 + 1, 0, none⟩ (.int .i64 s)).setCell ⟨w.heap.size + 1 + 1, 1, none⟩ (.int .i64 c)).setCell ⟨w.heap.size + 1 + 1, 2, none⟩ (.int .i64 s')).setCell ⟨w.heap.size + 1 + 1, 3, none⟩ (.int .i64 c')) = W3 := ⟨_, rfl⟩
  have hB3 : Below w.heap.size w W3 := by rw [← hW3]; exact (((HBW.out.setCell (by dsimp only; omega) _).setCell (by dsimp only; omega) _).setCell (by dsimp only; omega) _).setCell (by dsimp only; omega) _
  have Q1 : Blk W3 (w.heap.size + 1) (D5 0 0 0 0 (.slice none 0 0)) 31 := by rw [← hW3]; exact (((q1.other _ _ (by simp)).other _ _ (by simp)).other _ _ (by simp)).other _ _ (by simp)
  have Q2 : Blk W3 (w.heap.size + 1 + 1) (D5 s c s' c' (.slice none 0 0)) 31 := by rw [← hW3]; exact (((q2.set 0 (.int .i64 s)).set 1 (.int .i64 c)).set 2 (.int .i64 s')).set 3 (.int .i64 c')
  have Q0 : Blk W3 w.heap.size (D5 s c s' c' (.slice a n cap)) 44 := by rw [← hW3]; exact (((q0.other _ _ (by simp; omega)).other _ _ (by simp; omega)).other _ _ (by simp; omega)).other _ _ (by simp; omega)
  have t4 := Q0.cell 4
  simp at t4
  have HB3 : Hid (Below w.heap.size w W3) := hB3
  have HQ1 : Hid (Blk W3 (w.heap.size + 1) (D5 0 0 0 0 (.slice none 0 0)) 31) := Q1
  have HQ2 : Hid (Blk W3 (w.heap.size + 1 + 1) (D5 s c s' c' (.slice none 0 0)) 31) := Q2
  clear K0 K1 K2 HB HBW q0 q1 q2 Q0 Q1 Q2 hB3 b2 t0 t1 t2 t3
  go_wp2_with (fail)
  clear hW3 d0 d1 d2 d3 f0 f1 f2 f3 t4
  refine (toSigS_c _ _ _ (HR.out _ HB3.out) hn).mono ?_
  rintro e w4 ⟨v', rfl, hO, b4⟩
  have q1 := HQ1.out.below b4 HQ1.out.lt
  have q2 := HQ2.out.below b4 HQ2.out.lt
  have hbb := belowCall HB3.out b4 HB3.out.size
  obtain ⟨a', cap', rfl, -⟩ := hO.rd
  rw [hnn] at hO ⊢
  have hsz : w.heap.size + 3 ≤ W3.heap.size := by have := HQ2.out.lt; omega
  have hoff : ∀ k, k < w.heap.size + 3 → (Value.slice a' n cap').ownBlock ≠ some k := fun k hk e => by
    have := (World.ownsRow.lt hO k e).1
    omega
  have keep : ∀ (W W' : World) (k : Nat), k < w.heap.size + 3 → W.grownBy W' (some k) → Ot 66 w.heap.size W (.slice a' n cap') ls → Ot 66 w.heap.size W' (.slice a' n cap') ls := by
    intro W W' k hk hg hh
    exact World.ownsRow.kept hh hg (.inr (hoff k hk))
  have start : Ot 66 w.heap.size w4 (.slice a' n cap') ls := hO.mono (by omega)
  have c0 := q2.cell 0
  have c1 := q2.cell 1
  have c2 := q2.cell 2
  have c3 := q2.cell 3
  have c4 := q2.cell 4
  have f4 := q2.frozen 4
  have d0 := q1.cell 0
  have d1 := q1.cell 1
  have d2 := q1.cell 2
  have d3 := q1.cell 3
  have d4 := q1.cell 4
  have e0 := q1.frozen 0
  have e1 := q1.frozen 1
  have e2 := q1.frozen 2
  have e3 := q1.frozen 3
  have e4 := q1.frozen 4
  simp at c0 c1 c2 c3 c4 d0 d1 d2 d3 d4
  have Q1 := (((((q1.other ⟨w.heap.size + 1 + 1, 4, none⟩ (.slice a' n cap') (by simp)).set 0 (.int .i64 s)).set 1 (.int .i64 c)).set 2 (.int .i64 s')).set 3 (.int .i64 c')).set 4 (.slice a' n cap')
  have H1 : Hid _ := Q1
  have g1 := keep _ _ _ (by omega) (grown_set w4 (w.heap.size + 1 + 1) 4 (.slice a' n cap')) start
  have g2 := keep _ _ _ (by omega) (grown_set _ (w.heap.size + 1) 0 (.int .i64 s)) g1
  have g3 := keep _ _ _ (by omega) (grown_set _ (w.heap.size + 1) 1 (.int .i64 c)) g2
  have g4 := keep _ _ _ (by omega) (grown_set _ (w.heap.size + 1) 2 (.int .i64 s')) g3
  have g5 := keep _ _ _ (by omega) (grown_set _ (w.heap.size + 1) 3 (.int .i64 c')) g4
  have g6 := keep _ _ _ (by omega) (grown_set _ (w.heap.size + 1) 4 (.slice a' n cap')) g5
  have G3 : Hid _ := g6
  have B3 : Hid (Below w.heap.size w ((((((w4.setCell ⟨w.heap.size + 1 + 1, 4, none⟩ (.slice a' n cap')).setCell ⟨w.heap.size + 1, 0, none⟩ (.int .i64 s)).setCell ⟨w.heap.size + 1, 1, none⟩ (.int .i64 c)).setCell ⟨w.heap.size + 1, 2, none⟩ (.int .i64 s')).setCell ⟨w.heap.size + 1, 3, none⟩ (.int .i64 c')).setCell ⟨w.heap.size + 1, 4, none⟩ (.slice a' n cap'))) := (((((hbb.setCell (by dsimp only; omega) _).setCell (by dsimp only; omega) _).setCell (by dsimp only; omega) _).setCell (by dsimp only; omega) _).setCell (by dsimp only; omega) _).setCell (by dsimp only; omega) _
  clear HQ1 HQ2 HB3 HR q1 q2 Q1 g1 g2 g3 g4 g5 g6 hoff keep start hO hbb b4 hsz
  go_wp2
  exact bodyPost_ret (v := .agg (D5 s c s' c' (.slice a' n cap'))) (results_cell_row rfl _ _ _ 31 _ (0, 0) _ rfl H1.out Try.underlying31 rfl size31) rfl ⟨_, rfl, G3.out, B3.out⟩

end Go.Proofs.Ytljejjfhlpjlfaa

/- The model's LinkOk; no condition. -/
import Derived.Test.YtejoopdpelcpeaaMkE
import Derived.Test.YtejoopdpelcpeaaMkU
import Derived.Test.YtejoopdpelcpeaaOver
namespace Go.Proofs.Ytejoopdpelcpeaa
open Go.RowKit Go.ChangeShapes Go.WideShapes Go.ChangeAt
set_option linter.unusedVariables false
set_option linter.unusedSimpArgs false
set_option maxRecDepth 8000
set_option maxHeartbeats 12800000 in
theorem okM_c (vo0 vi0 vo1 vi1 v00 v01 v10 v11 : Value) (s0 a0 t0 s1 a1 t1 u : Int) (zo0 zi0 zo1 zi1 : Txs) (l00 l01 l10 l11 : Uns) (w : World) (h : Rl w vo0 vi0 vo1 vi1 v00 v01 v10 v11 zo0 zi0 zo1 zi1 l00 l01 l10 l11) (hm : Sl15 zo0 zi0 zo1 zi1 l00 l01 l10 l11 1048576) :
    Calls Try.prog 11 #[.agg (L15 vo0 vi0 vo1 vi1 v00 v01 v10 v11 s0 a0 t0 s1 a1 t1 u)] w (Bo (LkP s0 a0 t0 s1 a1 t1 u zo0 zi0 zo1 zi1 l00 l01 l10 l11) w) := by
  obtain ⟨W0, hW0⟩ : ∃ W0, w.alloc (Obj.cells (L15 vo0 vi0 vo1 vi1 v00 v01 v10 v11 s0 a0 t0 s1 a1 t1 u) 32) = W0 := ⟨_, rfl⟩
  have hb0 : Below w.heap.size w W0 := by rw [← hW0]; exact (Below.refl _ _).alloc (Nat.le_refl _) _
  have HB : Hid (Below w.heap.size w W0) := hb0
  have K0 : Hid (Blk W0 w.heap.size (L15 vo0 vi0 vo1 vi1 v00 v01 v10 v11 s0 a0 t0 s1 a1 t1 u) 32) := by rw [← hW0]; exact Blk.new _ _ _
  have HR : Hid (Rl W0 vo0 vi0 vo1 vi1 v00 v01 v10 v11 zo0 zi0 zo1 zi1 l00 l01 l10 l11) := h.below hb0
  have HM : Hid (Sl15 zo0 zi0 zo1 zi1 l00 l01 l10 l11 1048576) := hm
  obtain ⟨a_vo0, p_vo0, e_vo0, c_vo0, q_vo0, d_vo0⟩ := (h.below hb0).rvo0
  obtain ⟨a_vi0, p_vi0, e_vi0, c_vi0, q_vi0, d_vi0⟩ := (h.below hb0).rvi0
  obtain ⟨a_vo1, p_vo1, e_vo1, c_vo1, q_vo1, d_vo1⟩ := (h.below hb0).rvo1
  obtain ⟨a_vi1, p_vi1, e_vi1, c_vi1, q_vi1, d_vi1⟩ := (h.below hb0).rvi1
  obtain ⟨a_v00, p_v00, e_v00, c_v00, q_v00, d_v00⟩ := (h.below hb0).rv00
  obtain ⟨a_v01, p_v01, e_v01, c_v01, q_v01, d_v01⟩ := (h.below hb0).rv01
  obtain ⟨a_v10, p_v10, e_v10, c_v10, q_v10, d_v10⟩ := (h.below hb0).rv10
  obtain ⟨a_v11, p_v11, e_v11, c_v11, q_v11, d_v11⟩ := (h.below hb0).rv11
  subst e_vo0 e_vi0 e_vo1 e_vi1 e_v00 e_v01 e_v10 e_v11
  unfold maxLen at q_vo0 q_vi0 q_vo1 q_vi1 q_v00 q_v01 q_v10 q_v11
  have D_v00 : Hid (l00 = [] ∨ ∃ b off, a_v00 = some ⟨b, off, none⟩ ∧ ∀ i (h : i < l00.length), W0.cell? ⟨b, off + i * 3, none⟩ = some (.int .i64 l00[i].ack) ∧ W0.cell? ⟨b, off + i * 3 + 1, none⟩ = some (.int .i64 l00[i].seq) ∧ W0.cell? ⟨b, off + i * 3 + 2, none⟩ = some (.string l00[i].dat)) := d_v00
  have D_v01 : Hid (l01 = [] ∨ ∃ b off, a_v01 = some ⟨b, off, none⟩ ∧ ∀ i (h : i < l01.length), W0.cell? ⟨b, off + i * 3, none⟩ = some (.int .i64 l01[i].ack) ∧ W0.cell? ⟨b, off + i * 3 + 1, none⟩ = some (.int .i64 l01[i].seq) ∧ W0.cell? ⟨b, off + i * 3 + 2, none⟩ = some (.string l01[i].dat)) := d_v01
  have D_v10 : Hid (l10 = [] ∨ ∃ b off, a_v10 = some ⟨b, off, none⟩ ∧ ∀ i (h : i < l10.length), W0.cell? ⟨b, off + i * 3, none⟩ = some (.int .i64 l10[i].ack) ∧ W0.cell? ⟨b, off + i * 3 + 1, none⟩ = some (.int .i64 l10[i].seq) ∧ W0.cell? ⟨b, off + i * 3 + 2, none⟩ = some (.string l10[i].dat)) := d_v10
  have D_v11 : Hid (l11 = [] ∨ ∃ b off, a_v11 = some ⟨b, off, none⟩ ∧ ∀ i (h : i < l11.length), W0.cell? ⟨b, off + i * 3, none⟩ = some (.int .i64 l11[i].ack) ∧ W0.cell? ⟨b, off + i * 3 + 1, none⟩ = some (.int .i64 l11[i].seq) ∧ W0.cell? ⟨b, off + i * 3 + 2, none⟩ = some (.string l11[i].dat)) := d_v11
  clear h hb0 hm d_vo0 d_vi0 d_vo1 d_vi1 d_v00 d_v01 d_v10 d_v11
  have x0 := K0.out.cell 0
  have x1 := K0.out.cell 1
  have x2 := K0.out.cell 2
  have x3 := K0.out.cell 3
  have x4 := K0.out.cell 4
  have x5 := K0.out.cell 5
  have x6 := K0.out.cell 6
  have x7 := K0.out.cell 7
  have x8 := K0.out.cell 8
  have x9 := K0.out.cell 9
  simp at x0 x1 x2 x3 x4 x5 x6 x7 x8 x9
  go_enter Try.func11, Try.ntmps11
  go_wp2_with (fail)
  clear hW0
  refine (end_c _ _ _ _ s0 a0 t0 s1 a1 t1 zo0 zi0 zo1 zi1 W0 HR.out.rvo0 HR.out.rvi0 HR.out.rvo1 HR.out.rvi1 HM.out.mvo0).mono ?_
  rintro e w1 ⟨q, rfl, hq, b1⟩
  have B1 : Hid (Below W0.heap.size W0 w1) := b1
  have HB1 : Hid (Below w.heap.size w w1) := belowCall HB.out b1 HB.out.size
  clear b1
  by_cases hE : EndP zo0 zi0 s0 a0 t0 zo1 s1 t1
  case neg =>
    obtain rfl : q = false := by cases q with | false => rfl | true => exact absurd (hq.1 rfl) hE
    clear hq
    go_wp2
    go_ret
    exact Bo.no (fun x => hE x.2.1) HB1.out
  obtain rfl : q = true := hq.2 hE
  have E0 : Hid (EndP zo0 zi0 s0 a0 t0 zo1 s1 t1) := hE
  clear hq hE x0 x1 x2 x3 x4 x5 x6 x7 x8 x9
  have K1 := K0.out.below B1.out K0.out.lt
  have x0 := K1.cell 0
  have x1 := K1.cell 1
  have x2 := K1.cell 2
  have x3 := K1.cell 3
  have x4 := K1.cell 4
  have x5 := K1.cell 5
  have x6 := K1.cell 6
  have x7 := K1.cell 7
  have x8 := K1.cell 8
  have x9 := K1.cell 9
  simp at x0 x1 x2 x3 x4 x5 x6 x7 x8 x9
  clear K1
  go_wp2_with (fail)
  refine (end_c _ _ _ _ s1 a1 t1 s0 a0 t0 zo1 zi1 zo0 zi0 w1 (HR.out.rvo1.below B1.out) (HR.out.rvi1.below B1.out) (HR.out.rvo0.below B1.out) (HR.out.rvi0.below B1.out) HM.out.mvo1).mono ?_
  rintro e w2 ⟨q, rfl, hq, b2⟩
  have B2 : Hid (Below W0.heap.size W0 w2) := belowCall B1.out b2 B1.out.size
  have HB2 : Hid (Below w.heap.size w w2) := belowCall HB1.out b2 HB1.out.size
  clear b2 HB1 B1
  by_cases hE : EndP zo1 zi1 s1 a1 t1 zo0 s0 t0
  case neg =>
    obtain rfl : q = false := by cases q with | false => rfl | true => exact absurd (hq.1 rfl) hE
    clear hq
    go_wp2
    go_ret
    exact Bo.no (fun x => hE x.2.2.1) HB2.out
  obtain rfl : q = true := hq.2 hE
  have E1 : Hid (EndP zo1 zi1 s1 a1 t1 zo0 s0 t0) := hE
  clear hq hE x0 x1 x2 x3 x4 x5 x6 x7 x8 x9
  have K2 := K0.out.below B2.out K0.out.lt
  have x14 := K2.cell 14
  simp at x14
  clear K2
  go_wp2_with (fail)
  refine (in_c u 0 1 w2).mono ?_
  rintro e wq ⟨rfl, hwq⟩
  rw [hwq]
  clear hwq wq
  by_cases hu : 0 ≤ u ∧ u ≤ 1
  case neg =>
    rw [decide_eq_false hu]
    go_wp2
    go_ret
    exact Bo.no (fun x => hu x.1) HB2.out
  rw [decide_eq_true hu]
  have HU : Hid (0 ≤ u ∧ u ≤ 1) := hu
  clear hu x14
  go_wp2
  refine wp_loop_rounds 3 ?_
  rw [rounds_succ]
  go_wp2
  refine wp_loop_rounds 3 ?_
  rw [rounds_succ]
  have KK := K0.out.below B2.out K0.out.lt
  have y0 := KK.cell 10
  simp at y0
  have HW0 : Hid (Below w.heap.size w w2) := belowCall HB.out B2.out HB.out.size
  clear KK
  by_cases hk0 : 100 < l00.length
  · have hk' : (100 : Int) < (l00.length : Int) := by omega
    go_wp2
    go_ret
    exact Bo.no (fun x => by have := x.2.2.2.1.1; omega) HW0.out
  have hk0' : ((100 : Int) < (l00.length : Int)) = False := eq_false (by omega)
  go_wp2
  go_loopw [6] (fun i wr => ∃ j : Nat, j ≤ l00.length ∧ i = .int .i64 j ∧ Hid (Below W0.heap.size W0 wr) ∧ Hid (∀ k (h : k < l00.length), k < j → UnP zo1 s1 t1 l00[k])) (fun i _ => l00.length - (intOf i).toNat)
  case atStart => exact ⟨0, Nat.zero_le _, rfl, B2.out, fun k h hk => absurd hk (by omega)⟩
  case round =>
    obtain ⟨j0, hj0, rfl, hbr0, hA0⟩ := hrel
    clear y0 HW0
    have HW0 : Hid (Below w.heap.size w wr) := belowCall HB.out hbr0.out HB.out.size
    by_cases hlt0 : j0 < l00.length
    case pos =>
      have hji : (j0 : Int) < (l00.length : Int) := by omega
      have hj0 : (0 : Int) ≤ (j0 : Int) := by omega
      rcases D_v00.out with h3 | ⟨b, off, rfl, h4⟩
      · subst h3; simp at hlt0
      obtain ⟨r, hr⟩ : ∃ r, l00[j0] = r := ⟨_, rfl⟩
      have HRr : Hid (l00[j0] = r) := hr
      have hc := h4 j0 hlt0
      rw [hr] at hc
      have hcb : b < W0.heap.size := block_lt_of_cell hc.1
      have e0 : ∀ W : Ov wr, W.wd.cell? ⟨b, off + j0 * 3, none⟩ = some (.int .i64 r.ack) := ov_cell ((hbr0.out.cell (p := ⟨b, off + j0 * 3, none⟩) hcb).trans hc.1)
      have e1 : ∀ W : Ov wr, W.wd.cell? ⟨b, off + j0 * 3 + 1, none⟩ = some (.int .i64 r.seq) := ov_cell ((hbr0.out.cell (p := ⟨b, off + j0 * 3 + 1, none⟩) hcb).trans hc.2.1)
      have e2 : ∀ W : Ov wr, W.wd.cell? ⟨b, off + j0 * 3 + 2, none⟩ = some (.string r.dat) := ov_cell ((hbr0.out.cell (p := ⟨b, off + j0 * 3 + 2, none⟩) hcb).trans hc.2.2)
      have KK := K0.out.below hbr0.out K0.out.lt
      have g0 : ∀ W : Ov wr, W.wd.cell? ⟨w.heap.size, 5, none⟩ = some (.slice a_vo1 zo1.length p_vo1) := ov_cell (KK.cell 5)
      have g1 : ∀ W : Ov wr, W.wd.cell? ⟨w.heap.size, 6, none⟩ = some (.int .i64 s1) := ov_cell (KK.cell 6)
      have g2 : ∀ W : Ov wr, W.wd.cell? ⟨w.heap.size, 7, none⟩ = some (.int .i64 a1) := ov_cell (KK.cell 7)
      have g3 : ∀ W : Ov wr, W.wd.cell? ⟨w.heap.size, 8, none⟩ = some (.int .i64 t1) := ov_cell (KK.cell 8)
      have g4 : ∀ W : Ov wr, W.wd.cell? ⟨w.heap.size, 9, none⟩ = some (.slice a_vi1 zi1.length p_vi1) := ov_cell (KK.cell 9)
      have ne : Nonempty (Ov wr) := ⟨⟨_, Below.refl _ _⟩⟩
      have HS : Hid (s1 ≤ (zo1.length : Int)) := E1.out.1.2.2.1.2
      have CU : Hid (∀ W : Ov wr, Calls Try.prog 39 #[.agg (U3 r), .agg (E5 (.slice a_vo1 zo1.length p_vo1) (.slice a_vi1 zi1.length p_vi1) s1 a1 t1)] W.wd (Bo (UnP zo1 s1 t1 r) W.wd)) := fun W => unit_c r _ _ s1 a1 t1 zo1 zi1 W.wd ((HR.out.rvo1.below hbr0.out).below W.ok) ((HR.out.rvi1.below hbr0.out).below W.ok) HS.out
      have hsub : (1 : Int) - 0 = 1 := by decide
      clear h4 hc hr KK
      by_cases hU : UnP zo1 s1 t1 r
      · have HC : Hid (∀ W : Ov wr, Calls Try.prog 39 #[.agg (U3 r), .agg (E5 (.slice a_vo1 zo1.length p_vo1) (.slice a_vi1 zi1.length p_vi1) s1 a1 t1)] W.wd fun e w'' => e = .returned (.bool true) ∧ ∃ W' : Ov wr, w'' = W'.wd) := fun W => ov_call ((CU.out W).mono fun e w' ⟨q, he, hq, hb⟩ => ⟨by rw [he, hq.2 hU], hb⟩)
        have HN : Hid (∀ k (h : k < l00.length), k < j0 + 1 → UnP zo1 s1 t1 l00[k]) := fun k h hk => by
          by_cases hkj : k < j0
          · exact hA0.out k h hkj
          · obtain rfl : k = j0 := by omega
            rw [HRr.out]; exact hU
        clear CU hU
        go_wp2
        refine region_over (by kernel_rfl) (by kernel_rfl) ?_
        repeat (go_big_quiet_step (first | (go_at_call 39; exact HC.out _)))
        refine wpQuiet_nil ?_
        rintro _ ⟨V, rfl⟩
        have HBW : Hid (Below W0.heap.size W0 V.wd) := belowCall hbr0.out V.ok hbr0.out.size
        clear HC
        go_wp2
        go_roundw
        case rel => exact ⟨j0 + 1, by omega, by go_num, HBW.out, HN.out⟩
        case measure => simp [intOf]; omega
      · have HC : Hid (∀ W : Ov wr, Calls Try.prog 39 #[.agg (U3 r), .agg (E5 (.slice a_vo1 zo1.length p_vo1) (.slice a_vi1 zi1.length p_vi1) s1 a1 t1)] W.wd fun e w'' => e = .returned (.bool false) ∧ ∃ W' : Ov wr, w'' = W'.wd) := fun W => ov_call ((CU.out W).mono fun e w' ⟨q, he, hq, hb⟩ => ⟨by rw [he]; cases q with | false => rfl | true => exact absurd (hq.1 rfl) hU, hb⟩)
        clear CU
        have HU2 : Hid (¬ UnP zo1 s1 t1 r) := hU
        clear hU
        go_wp2
        refine region_over (by kernel_rfl) (by kernel_rfl) ?_
        repeat (go_big_quiet_step (first | (go_at_call 39; exact HC.out _)))
        refine wpQuiet_nil ?_
        rintro _ ⟨V, rfl⟩
        have HBW : Hid (Below w.heap.size w V.wd) := belowCall HW0.out V.ok HW0.out.size
        clear HC
        go_wp2
        go_ret
        exact Bo.no (fun x => HU2.out (by have := x.2.2.2.1.2 _ (List.getElem_mem hlt0); rw [HRr.out] at this; exact this)) HBW.out
    obtain rfl : j0 = l00.length := by omega
    have U0 : Hid (UsP zo1 s1 t1 l00) := ⟨by omega, fun r hr => by
      obtain ⟨i, hi, rfl⟩ := List.getElem_of_mem hr
      exact hA0.out i hi hi⟩
    have B30 : Hid (Below W0.heap.size W0 wr) := hbr0.out
    clear hA0 hbr0 hlt0 HW0
    go_wp2
    rw [rounds_succ]
    obtain ⟨wk0, hwk0⟩ : ∃ W, wr = W := ⟨_, rfl⟩
    rw [hwk0] at B30 ⊢
    clear hwk0
    have KK := K0.out.below B30.out K0.out.lt
    have y1 := KK.cell 11
    simp at y1
    have HW1 : Hid (Below w.heap.size w wk0) := belowCall HB.out B30.out HB.out.size
    clear KK
    by_cases hk1 : 100 < l01.length
    · have hk' : (100 : Int) < (l01.length : Int) := by omega
      go_wp2
      go_ret
      exact Bo.no (fun x => by have := x.2.2.2.2.1.1; omega) HW1.out
    have hk1' : ((100 : Int) < (l01.length : Int)) = False := eq_false (by omega)
    go_wp2
    go_loopw [6] (fun i wr => ∃ j : Nat, j ≤ l01.length ∧ i = .int .i64 j ∧ Hid (Below W0.heap.size W0 wr) ∧ Hid (∀ k (h : k < l01.length), k < j → UnP zo0 s0 t0 l01[k])) (fun i _ => l01.length - (intOf i).toNat)
    case atStart => exact ⟨0, Nat.zero_le _, rfl, B30.out, fun k h hk => absurd hk (by omega)⟩
    case round =>
      obtain ⟨j1, hj1, rfl, hbr1, hA1⟩ := hrel
      clear y1 HW1
      have HW1 : Hid (Below w.heap.size w wr) := belowCall HB.out hbr1.out HB.out.size
      by_cases hlt1 : j1 < l01.length
      case pos =>
        have hji : (j1 : Int) < (l01.length : Int) := by omega
        have hj0 : (0 : Int) ≤ (j1 : Int) := by omega
        rcases D_v01.out with h3 | ⟨b, off, rfl, h4⟩
        · subst h3; simp at hlt1
        obtain ⟨r, hr⟩ : ∃ r, l01[j1] = r := ⟨_, rfl⟩
        have HRr : Hid (l01[j1] = r) := hr
        have hc := h4 j1 hlt1
        rw [hr] at hc
        have hcb : b < W0.heap.size := block_lt_of_cell hc.1
        have e0 : ∀ W : Ov wr, W.wd.cell? ⟨b, off + j1 * 3, none⟩ = some (.int .i64 r.ack) := ov_cell ((hbr1.out.cell (p := ⟨b, off + j1 * 3, none⟩) hcb).trans hc.1)
        have e1 : ∀ W : Ov wr, W.wd.cell? ⟨b, off + j1 * 3 + 1, none⟩ = some (.int .i64 r.seq) := ov_cell ((hbr1.out.cell (p := ⟨b, off + j1 * 3 + 1, none⟩) hcb).trans hc.2.1)
        have e2 : ∀ W : Ov wr, W.wd.cell? ⟨b, off + j1 * 3 + 2, none⟩ = some (.string r.dat) := ov_cell ((hbr1.out.cell (p := ⟨b, off + j1 * 3 + 2, none⟩) hcb).trans hc.2.2)
        have KK := K0.out.below hbr1.out K0.out.lt
        have g0 : ∀ W : Ov wr, W.wd.cell? ⟨w.heap.size, 0, none⟩ = some (.slice a_vo0 zo0.length p_vo0) := ov_cell (KK.cell 0)
        have g1 : ∀ W : Ov wr, W.wd.cell? ⟨w.heap.size, 1, none⟩ = some (.int .i64 s0) := ov_cell (KK.cell 1)
        have g2 : ∀ W : Ov wr, W.wd.cell? ⟨w.heap.size, 2, none⟩ = some (.int .i64 a0) := ov_cell (KK.cell 2)
        have g3 : ∀ W : Ov wr, W.wd.cell? ⟨w.heap.size, 3, none⟩ = some (.int .i64 t0) := ov_cell (KK.cell 3)
        have g4 : ∀ W : Ov wr, W.wd.cell? ⟨w.heap.size, 4, none⟩ = some (.slice a_vi0 zi0.length p_vi0) := ov_cell (KK.cell 4)
        have ne : Nonempty (Ov wr) := ⟨⟨_, Below.refl _ _⟩⟩
        have HS : Hid (s0 ≤ (zo0.length : Int)) := E0.out.1.2.2.1.2
        have CU : Hid (∀ W : Ov wr, Calls Try.prog 39 #[.agg (U3 r), .agg (E5 (.slice a_vo0 zo0.length p_vo0) (.slice a_vi0 zi0.length p_vi0) s0 a0 t0)] W.wd (Bo (UnP zo0 s0 t0 r) W.wd)) := fun W => unit_c r _ _ s0 a0 t0 zo0 zi0 W.wd ((HR.out.rvo0.below hbr1.out).below W.ok) ((HR.out.rvi0.below hbr1.out).below W.ok) HS.out
        have hsub : (1 : Int) - 1 = 0 := by decide
        clear h4 hc hr KK
        by_cases hU : UnP zo0 s0 t0 r
        · have HC : Hid (∀ W : Ov wr, Calls Try.prog 39 #[.agg (U3 r), .agg (E5 (.slice a_vo0 zo0.length p_vo0) (.slice a_vi0 zi0.length p_vi0) s0 a0 t0)] W.wd fun e w'' => e = .returned (.bool true) ∧ ∃ W' : Ov wr, w'' = W'.wd) := fun W => ov_call ((CU.out W).mono fun e w' ⟨q, he, hq, hb⟩ => ⟨by rw [he, hq.2 hU], hb⟩)
          have HN : Hid (∀ k (h : k < l01.length), k < j1 + 1 → UnP zo0 s0 t0 l01[k]) := fun k h hk => by
            by_cases hkj : k < j1
            · exact hA1.out k h hkj
            · obtain rfl : k = j1 := by omega
              rw [HRr.out]; exact hU
          clear CU hU
          go_wp2
          refine region_over (by kernel_rfl) (by kernel_rfl) ?_
          repeat (go_big_quiet_step (first | (go_at_call 39; exact HC.out _)))
          refine wpQuiet_nil ?_
          rintro _ ⟨V, rfl⟩
          have HBW : Hid (Below W0.heap.size W0 V.wd) := belowCall hbr1.out V.ok hbr1.out.size
          clear HC
          go_wp2
          go_roundw
          case rel => exact ⟨j1 + 1, by omega, by go_num, HBW.out, HN.out⟩
          case measure => simp [intOf]; omega
        · have HC : Hid (∀ W : Ov wr, Calls Try.prog 39 #[.agg (U3 r), .agg (E5 (.slice a_vo0 zo0.length p_vo0) (.slice a_vi0 zi0.length p_vi0) s0 a0 t0)] W.wd fun e w'' => e = .returned (.bool false) ∧ ∃ W' : Ov wr, w'' = W'.wd) := fun W => ov_call ((CU.out W).mono fun e w' ⟨q, he, hq, hb⟩ => ⟨by rw [he]; cases q with | false => rfl | true => exact absurd (hq.1 rfl) hU, hb⟩)
          clear CU
          have HU2 : Hid (¬ UnP zo0 s0 t0 r) := hU
          clear hU
          go_wp2
          refine region_over (by kernel_rfl) (by kernel_rfl) ?_
          repeat (go_big_quiet_step (first | (go_at_call 39; exact HC.out _)))
          refine wpQuiet_nil ?_
          rintro _ ⟨V, rfl⟩
          have HBW : Hid (Below w.heap.size w V.wd) := belowCall HW1.out V.ok HW1.out.size
          clear HC
          go_wp2
          go_ret
          exact Bo.no (fun x => HU2.out (by have := x.2.2.2.2.1.2 _ (List.getElem_mem hlt1); rw [HRr.out] at this; exact this)) HBW.out
      obtain rfl : j1 = l01.length := by omega
      have U1 : Hid (UsP zo0 s0 t0 l01) := ⟨by omega, fun r hr => by
        obtain ⟨i, hi, rfl⟩ := List.getElem_of_mem hr
        exact hA1.out i hi hi⟩
      have B31 : Hid (Below W0.heap.size W0 wr) := hbr1.out
      clear hA1 hbr1 hlt1 HW1
      go_wp2
      rw [rounds_succ]
      go_wp2
      rw [rounds_succ]
      go_wp2
      refine wp_loop_rounds 3 ?_
      rw [rounds_succ]
      obtain ⟨wk1, hwk1⟩ : ∃ W, wr = W := ⟨_, rfl⟩
      rw [hwk1] at B31 ⊢
      clear hwk1
      have KK := K0.out.below B31.out K0.out.lt
      have y2 := KK.cell 12
      simp at y2
      have HW2 : Hid (Below w.heap.size w wk1) := belowCall HB.out B31.out HB.out.size
      clear KK
      by_cases hk2 : 100 < l10.length
      · have hk' : (100 : Int) < (l10.length : Int) := by omega
        go_wp2
        go_ret
        exact Bo.no (fun x => by have := x.2.2.2.2.2.1.1; omega) HW2.out
      have hk2' : ((100 : Int) < (l10.length : Int)) = False := eq_false (by omega)
      go_wp2
      go_loopw [6] (fun i wr => ∃ j : Nat, j ≤ l10.length ∧ i = .int .i64 j ∧ Hid (Below W0.heap.size W0 wr) ∧ Hid (∀ k (h : k < l10.length), k < j → UnP zo1 s1 t1 l10[k])) (fun i _ => l10.length - (intOf i).toNat)
      case atStart => exact ⟨0, Nat.zero_le _, rfl, B31.out, fun k h hk => absurd hk (by omega)⟩
      case round =>
        obtain ⟨j2, hj2, rfl, hbr2, hA2⟩ := hrel
        clear y2 HW2
        have HW2 : Hid (Below w.heap.size w wr) := belowCall HB.out hbr2.out HB.out.size
        by_cases hlt2 : j2 < l10.length
        case pos =>
          have hji : (j2 : Int) < (l10.length : Int) := by omega
          have hj0 : (0 : Int) ≤ (j2 : Int) := by omega
          rcases D_v10.out with h3 | ⟨b, off, rfl, h4⟩
          · subst h3; simp at hlt2
          obtain ⟨r, hr⟩ : ∃ r, l10[j2] = r := ⟨_, rfl⟩
          have HRr : Hid (l10[j2] = r) := hr
          have hc := h4 j2 hlt2
          rw [hr] at hc
          have hcb : b < W0.heap.size := block_lt_of_cell hc.1
          have e0 : ∀ W : Ov wr, W.wd.cell? ⟨b, off + j2 * 3, none⟩ = some (.int .i64 r.ack) := ov_cell ((hbr2.out.cell (p := ⟨b, off + j2 * 3, none⟩) hcb).trans hc.1)
          have e1 : ∀ W : Ov wr, W.wd.cell? ⟨b, off + j2 * 3 + 1, none⟩ = some (.int .i64 r.seq) := ov_cell ((hbr2.out.cell (p := ⟨b, off + j2 * 3 + 1, none⟩) hcb).trans hc.2.1)
          have e2 : ∀ W : Ov wr, W.wd.cell? ⟨b, off + j2 * 3 + 2, none⟩ = some (.string r.dat) := ov_cell ((hbr2.out.cell (p := ⟨b, off + j2 * 3 + 2, none⟩) hcb).trans hc.2.2)
          have KK := K0.out.below hbr2.out K0.out.lt
          have g0 : ∀ W : Ov wr, W.wd.cell? ⟨w.heap.size, 5, none⟩ = some (.slice a_vo1 zo1.length p_vo1) := ov_cell (KK.cell 5)
          have g1 : ∀ W : Ov wr, W.wd.cell? ⟨w.heap.size, 6, none⟩ = some (.int .i64 s1) := ov_cell (KK.cell 6)
          have g2 : ∀ W : Ov wr, W.wd.cell? ⟨w.heap.size, 7, none⟩ = some (.int .i64 a1) := ov_cell (KK.cell 7)
          have g3 : ∀ W : Ov wr, W.wd.cell? ⟨w.heap.size, 8, none⟩ = some (.int .i64 t1) := ov_cell (KK.cell 8)
          have g4 : ∀ W : Ov wr, W.wd.cell? ⟨w.heap.size, 9, none⟩ = some (.slice a_vi1 zi1.length p_vi1) := ov_cell (KK.cell 9)
          have ne : Nonempty (Ov wr) := ⟨⟨_, Below.refl _ _⟩⟩
          have HS : Hid (s1 ≤ (zo1.length : Int)) := E1.out.1.2.2.1.2
          have CU : Hid (∀ W : Ov wr, Calls Try.prog 39 #[.agg (U3 r), .agg (E5 (.slice a_vo1 zo1.length p_vo1) (.slice a_vi1 zi1.length p_vi1) s1 a1 t1)] W.wd (Bo (UnP zo1 s1 t1 r) W.wd)) := fun W => unit_c r _ _ s1 a1 t1 zo1 zi1 W.wd ((HR.out.rvo1.below hbr2.out).below W.ok) ((HR.out.rvi1.below hbr2.out).below W.ok) HS.out
          have hsub : (1 : Int) - 0 = 1 := by decide
          clear h4 hc hr KK
          by_cases hU : UnP zo1 s1 t1 r
          · have HC : Hid (∀ W : Ov wr, Calls Try.prog 39 #[.agg (U3 r), .agg (E5 (.slice a_vo1 zo1.length p_vo1) (.slice a_vi1 zi1.length p_vi1) s1 a1 t1)] W.wd fun e w'' => e = .returned (.bool true) ∧ ∃ W' : Ov wr, w'' = W'.wd) := fun W => ov_call ((CU.out W).mono fun e w' ⟨q, he, hq, hb⟩ => ⟨by rw [he, hq.2 hU], hb⟩)
            have HN : Hid (∀ k (h : k < l10.length), k < j2 + 1 → UnP zo1 s1 t1 l10[k]) := fun k h hk => by
              by_cases hkj : k < j2
              · exact hA2.out k h hkj
              · obtain rfl : k = j2 := by omega
                rw [HRr.out]; exact hU
            clear CU hU
            go_wp2
            refine region_over (by kernel_rfl) (by kernel_rfl) ?_
            repeat (go_big_quiet_step (first | (go_at_call 39; exact HC.out _)))
            refine wpQuiet_nil ?_
            rintro _ ⟨V, rfl⟩
            have HBW : Hid (Below W0.heap.size W0 V.wd) := belowCall hbr2.out V.ok hbr2.out.size
            clear HC
            go_wp2
            go_roundw
            case rel => exact ⟨j2 + 1, by omega, by go_num, HBW.out, HN.out⟩
            case measure => simp [intOf]; omega
          · have HC : Hid (∀ W : Ov wr, Calls Try.prog 39 #[.agg (U3 r), .agg (E5 (.slice a_vo1 zo1.length p_vo1) (.slice a_vi1 zi1.length p_vi1) s1 a1 t1)] W.wd fun e w'' => e = .returned (.bool false) ∧ ∃ W' : Ov wr, w'' = W'.wd) := fun W => ov_call ((CU.out W).mono fun e w' ⟨q, he, hq, hb⟩ => ⟨by rw [he]; cases q with | false => rfl | true => exact absurd (hq.1 rfl) hU, hb⟩)
            clear CU
            have HU2 : Hid (¬ UnP zo1 s1 t1 r) := hU
            clear hU
            go_wp2
            refine region_over (by kernel_rfl) (by kernel_rfl) ?_
            repeat (go_big_quiet_step (first | (go_at_call 39; exact HC.out _)))
            refine wpQuiet_nil ?_
            rintro _ ⟨V, rfl⟩
            have HBW : Hid (Below w.heap.size w V.wd) := belowCall HW2.out V.ok HW2.out.size
            clear HC
            go_wp2
            go_ret
            exact Bo.no (fun x => HU2.out (by have := x.2.2.2.2.2.1.2 _ (List.getElem_mem hlt2); rw [HRr.out] at this; exact this)) HBW.out
        obtain rfl : j2 = l10.length := by omega
        have U2 : Hid (UsP zo1 s1 t1 l10) := ⟨by omega, fun r hr => by
          obtain ⟨i, hi, rfl⟩ := List.getElem_of_mem hr
          exact hA2.out i hi hi⟩
        have B32 : Hid (Below W0.heap.size W0 wr) := hbr2.out
        clear hA2 hbr2 hlt2 HW2
        go_wp2
        rw [rounds_succ]
        obtain ⟨wk2, hwk2⟩ : ∃ W, wr = W := ⟨_, rfl⟩
        rw [hwk2] at B32 ⊢
        clear hwk2
        have KK := K0.out.below B32.out K0.out.lt
        have y3 := KK.cell 13
        simp at y3
        have HW3 : Hid (Below w.heap.size w wk2) := belowCall HB.out B32.out HB.out.size
        clear KK
        by_cases hk3 : 100 < l11.length
        · have hk' : (100 : Int) < (l11.length : Int) := by omega
          go_wp2
          go_ret
          exact Bo.no (fun x => by have := x.2.2.2.2.2.2.1; omega) HW3.out
        have hk3' : ((100 : Int) < (l11.length : Int)) = False := eq_false (by omega)
        go_wp2
        go_loopw [6] (fun i wr => ∃ j : Nat, j ≤ l11.length ∧ i = .int .i64 j ∧ Hid (Below W0.heap.size W0 wr) ∧ Hid (∀ k (h : k < l11.length), k < j → UnP zo0 s0 t0 l11[k])) (fun i _ => l11.length - (intOf i).toNat)
        case atStart => exact ⟨0, Nat.zero_le _, rfl, B32.out, fun k h hk => absurd hk (by omega)⟩
        case round =>
          obtain ⟨j3, hj3, rfl, hbr3, hA3⟩ := hrel
          clear y3 HW3
          have HW3 : Hid (Below w.heap.size w wr) := belowCall HB.out hbr3.out HB.out.size
          by_cases hlt3 : j3 < l11.length
          case pos =>
            have hji : (j3 : Int) < (l11.length : Int) := by omega
            have hj0 : (0 : Int) ≤ (j3 : Int) := by omega
            rcases D_v11.out with h3 | ⟨b, off, rfl, h4⟩
            · subst h3; simp at hlt3
            obtain ⟨r, hr⟩ : ∃ r, l11[j3] = r := ⟨_, rfl⟩
            have HRr : Hid (l11[j3] = r) := hr
            have hc := h4 j3 hlt3
            rw [hr] at hc
            have hcb : b < W0.heap.size := block_lt_of_cell hc.1
            have e0 : ∀ W : Ov wr, W.wd.cell? ⟨b, off + j3 * 3, none⟩ = some (.int .i64 r.ack) := ov_cell ((hbr3.out.cell (p := ⟨b, off + j3 * 3, none⟩) hcb).trans hc.1)
            have e1 : ∀ W : Ov wr, W.wd.cell? ⟨b, off + j3 * 3 + 1, none⟩ = some (.int .i64 r.seq) := ov_cell ((hbr3.out.cell (p := ⟨b, off + j3 * 3 + 1, none⟩) hcb).trans hc.2.1)
            have e2 : ∀ W : Ov wr, W.wd.cell? ⟨b, off + j3 * 3 + 2, none⟩ = some (.string r.dat) := ov_cell ((hbr3.out.cell (p := ⟨b, off + j3 * 3 + 2, none⟩) hcb).trans hc.2.2)
            have KK := K0.out.below hbr3.out K0.out.lt
            have g0 : ∀ W : Ov wr, W.wd.cell? ⟨w.heap.size, 0, none⟩ = some (.slice a_vo0 zo0.length p_vo0) := ov_cell (KK.cell 0)
            have g1 : ∀ W : Ov wr, W.wd.cell? ⟨w.heap.size, 1, none⟩ = some (.int .i64 s0) := ov_cell (KK.cell 1)
            have g2 : ∀ W : Ov wr, W.wd.cell? ⟨w.heap.size, 2, none⟩ = some (.int .i64 a0) := ov_cell (KK.cell 2)
            have g3 : ∀ W : Ov wr, W.wd.cell? ⟨w.heap.size, 3, none⟩ = some (.int .i64 t0) := ov_cell (KK.cell 3)
            have g4 : ∀ W : Ov wr, W.wd.cell? ⟨w.heap.size, 4, none⟩ = some (.slice a_vi0 zi0.length p_vi0) := ov_cell (KK.cell 4)
            have ne : Nonempty (Ov wr) := ⟨⟨_, Below.refl _ _⟩⟩
            have HS : Hid (s0 ≤ (zo0.length : Int)) := E0.out.1.2.2.1.2
            have CU : Hid (∀ W : Ov wr, Calls Try.prog 39 #[.agg (U3 r), .agg (E5 (.slice a_vo0 zo0.length p_vo0) (.slice a_vi0 zi0.length p_vi0) s0 a0 t0)] W.wd (Bo (UnP zo0 s0 t0 r) W.wd)) := fun W => unit_c r _ _ s0 a0 t0 zo0 zi0 W.wd ((HR.out.rvo0.below hbr3.out).below W.ok) ((HR.out.rvi0.below hbr3.out).below W.ok) HS.out
            have hsub : (1 : Int) - 1 = 0 := by decide
            clear h4 hc hr KK
            by_cases hU : UnP zo0 s0 t0 r
            · have HC : Hid (∀ W : Ov wr, Calls Try.prog 39 #[.agg (U3 r), .agg (E5 (.slice a_vo0 zo0.length p_vo0) (.slice a_vi0 zi0.length p_vi0) s0 a0 t0)] W.wd fun e w'' => e = .returned (.bool true) ∧ ∃ W' : Ov wr, w'' = W'.wd) := fun W => ov_call ((CU.out W).mono fun e w' ⟨q, he, hq, hb⟩ => ⟨by rw [he, hq.2 hU], hb⟩)
              have HN : Hid (∀ k (h : k < l11.length), k < j3 + 1 → UnP zo0 s0 t0 l11[k]) := fun k h hk => by
                by_cases hkj : k < j3
                · exact hA3.out k h hkj
                · obtain rfl : k = j3 := by omega
                  rw [HRr.out]; exact hU
              clear CU hU
              go_wp2
              refine region_over (by kernel_rfl) (by kernel_rfl) ?_
              repeat (go_big_quiet_step (first | (go_at_call 39; exact HC.out _)))
              refine wpQuiet_nil ?_
              rintro _ ⟨V, rfl⟩
              have HBW : Hid (Below W0.heap.size W0 V.wd) := belowCall hbr3.out V.ok hbr3.out.size
              clear HC
              go_wp2
              go_roundw
              case rel => exact ⟨j3 + 1, by omega, by go_num, HBW.out, HN.out⟩
              case measure => simp [intOf]; omega
            · have HC : Hid (∀ W : Ov wr, Calls Try.prog 39 #[.agg (U3 r), .agg (E5 (.slice a_vo0 zo0.length p_vo0) (.slice a_vi0 zi0.length p_vi0) s0 a0 t0)] W.wd fun e w'' => e = .returned (.bool false) ∧ ∃ W' : Ov wr, w'' = W'.wd) := fun W => ov_call ((CU.out W).mono fun e w' ⟨q, he, hq, hb⟩ => ⟨by rw [he]; cases q with | false => rfl | true => exact absurd (hq.1 rfl) hU, hb⟩)
              clear CU
              have HU2 : Hid (¬ UnP zo0 s0 t0 r) := hU
              clear hU
              go_wp2
              refine region_over (by kernel_rfl) (by kernel_rfl) ?_
              repeat (go_big_quiet_step (first | (go_at_call 39; exact HC.out _)))
              refine wpQuiet_nil ?_
              rintro _ ⟨V, rfl⟩
              have HBW : Hid (Below w.heap.size w V.wd) := belowCall HW3.out V.ok HW3.out.size
              clear HC
              go_wp2
              go_ret
              exact Bo.no (fun x => HU2.out (by have := x.2.2.2.2.2.2.2 _ (List.getElem_mem hlt3); rw [HRr.out] at this; exact this)) HBW.out
          obtain rfl : j3 = l11.length := by omega
          have U3 : Hid (UsP zo0 s0 t0 l11) := ⟨by omega, fun r hr => by
            obtain ⟨i, hi, rfl⟩ := List.getElem_of_mem hr
            exact hA3.out i hi hi⟩
          have B33 : Hid (Below W0.heap.size W0 wr) := hbr3.out
          clear hA3 hbr3 hlt3 HW3
          go_wp2
          rw [rounds_succ]
          go_wp2
          rw [rounds_succ]
          go_wp2
          go_ret
          exact Bo.yes ⟨HU.out, E0.out, E1.out, U0.out, U1.out, U2.out, U3.out⟩ (belowCall HB.out B33.out HB.out.size)
end Go.Proofs.Ytejoopdpelcpeaa

/- The program's LinkOk; no condition. -/
import Derived.Test.YtejoopdpelcpeaaIoI
import Derived.Test.YtejoopdpelcpeaaIoU
namespace Go.Proofs.Ytejoopdpelcpeaa
open Go.RowKit Go.ChangeShapes Go.WideShapes Go.ChangeAt
set_option linter.unusedVariables false
set_option linter.unusedSimpArgs false
set_option maxRecDepth 8000
set_option maxHeartbeats 12800000 in
theorem okI_c (vo0 vi0 vo1 vi1 v00 v01 v10 v11 : Value) (s0 a0 t0 s1 a1 t1 u : Int) (zo0 zi0 zo1 zi1 : Txs) (l00 l01 l10 l11 : Uns) (w : World) (h : Rl w vo0 vi0 vo1 vi1 v00 v01 v10 v11 zo0 zi0 zo1 zi1 l00 l01 l10 l11) (hm : Sl15 zo0 zi0 zo1 zi1 l00 l01 l10 l11 1048576) :
    Calls Try.prog 12 #[.agg (L15 vo0 vi0 vo1 vi1 v00 v01 v10 v11 s0 a0 t0 s1 a1 t1 u)] w (Bo (LkP s0 a0 t0 s1 a1 t1 u zo0 zi0 zo1 zi1 l00 l01 l10 l11) w) := by
  obtain ⟨W0, hW0⟩ : ∃ W0, w.alloc (Obj.cells (L15 vo0 vi0 vo1 vi1 v00 v01 v10 v11 s0 a0 t0 s1 a1 t1 u) 32) = W0 := ⟨_, rfl⟩
  have hb0 : Below w.heap.size w W0 := by rw [← hW0]; exact (Below.refl _ _).alloc (Nat.le_refl _) _
  have HB : Hid (Below w.heap.size w W0) := hb0
  have K0 : Hid (Blk W0 w.heap.size (L15 vo0 vi0 vo1 vi1 v00 v01 v10 v11 s0 a0 t0 s1 a1 t1 u) 32) := by rw [← hW0]; exact Blk.new _ _ _
  have HR : Hid (Rl W0 vo0 vi0 vo1 vi1 v00 v01 v10 v11 zo0 zi0 zo1 zi1 l00 l01 l10 l11) := h.below hb0
  have HM : Hid (Sl15 zo0 zi0 zo1 zi1 l00 l01 l10 l11 1048576) := hm
  obtain ⟨a_vo0, p_vo0, e_vo0, c_vo0, q_vo0, d_vo0⟩ := (h.below hb0).rvo0
  obtain ⟨a_vi0, p_vi0, e_vi0, c_vi0, q_vi0, d_vi0⟩ := (h.below hb0).rvi0
  obtain ⟨a_vo1, p_vo1, e_vo1, c_vo1, q_vo1, d_vo1⟩ := (h.below hb0).rvo1
  obtain ⟨a_vi1, p_vi1, e_vi1, c_vi1, q_vi1, d_vi1⟩ := (h.below hb0).rvi1
  obtain ⟨a_v00, p_v00, e_v00, c_v00, q_v00, d_v00⟩ := (h.below hb0).rv00
  obtain ⟨a_v01, p_v01, e_v01, c_v01, q_v01, d_v01⟩ := (h.below hb0).rv01
  obtain ⟨a_v10, p_v10, e_v10, c_v10, q_v10, d_v10⟩ := (h.below hb0).rv10
  obtain ⟨a_v11, p_v11, e_v11, c_v11, q_v11, d_v11⟩ := (h.below hb0).rv11
  subst e_vo0 e_vi0 e_vo1 e_vi1 e_v00 e_v01 e_v10 e_v11
  unfold maxLen at q_vo0 q_vi0 q_vo1 q_vi1 q_v00 q_v01 q_v10 q_v11
  clear h hb0 hm d_vo0 d_vi0 d_vo1 d_vi1 d_v00 d_v01 d_v10 d_v11
  have x0 := K0.out.cell 0
  have x1 := K0.out.cell 1
  have x2 := K0.out.cell 2
  have x3 := K0.out.cell 3
  have x4 := K0.out.cell 4
  have x5 := K0.out.cell 5
  have x6 := K0.out.cell 6
  have x7 := K0.out.cell 7
  have x8 := K0.out.cell 8
  have x9 := K0.out.cell 9
  have x14 := K0.out.cell 14
  simp at x0 x1 x2 x3 x4 x5 x6 x7 x8 x9 x14
  go_enter Try.func12, Try.ntmps12
  go_wp2_with (fail)
  clear hW0
  refine (within_c u 0 1 W0).mono ?_
  rintro e wq ⟨rfl, hwq⟩
  rw [hwq]
  clear hwq wq
  by_cases hu : 0 ≤ u ∧ u ≤ 1
  case neg =>
    rw [decide_eq_false hu]
    go_wp2
    go_ret
    exact Bo.no (fun x => hu x.1) HB.out
  rw [decide_eq_true hu]
  have HU : Hid (0 ≤ u ∧ u ≤ 1) := hu
  clear hu x14
  go_wp2_with (fail)
  refine (out_c _ _ s0 a0 t0 zo0 zi0 W0 HR.out.rvo0 HR.out.rvi0 HM.out.mvo0).mono ?_
  rintro e w1 ⟨q, rfl, hq, b1⟩
  have B1 : Hid (Below W0.heap.size W0 w1) := b1
  have HB1 : Hid (Below w.heap.size w w1) := belowCall HB.out b1 HB.out.size
  clear b1
  by_cases hE : OutP zo0 s0 a0
  case neg =>
    obtain rfl : q = false := by cases q with | false => rfl | true => exact absurd (hq.1 rfl) hE
    clear hq
    go_wp2
    go_ret
    exact Bo.no (fun x => hE x.2.1.1) HB1.out
  obtain rfl : q = true := hq.2 hE
  have E0 : Hid (OutP zo0 s0 a0) := hE
  clear hq hE x0 x1 x2 x3 x4 x5 x6 x7 x8 x9
  have K1 := K0.out.below B1.out K0.out.lt
  have x5 := K1.cell 5
  have x6 := K1.cell 6
  have x7 := K1.cell 7
  have x8 := K1.cell 8
  have x9 := K1.cell 9
  simp at x5 x6 x7 x8 x9
  clear K1
  go_wp2_with (fail)
  refine (out_c _ _ s1 a1 t1 zo1 zi1 w1 (HR.out.rvo1.below B1.out) (HR.out.rvi1.below B1.out) HM.out.mvo1).mono ?_
  rintro e w2 ⟨q, rfl, hq, b2⟩
  have B2 : Hid (Below W0.heap.size W0 w2) := belowCall B1.out b2 B1.out.size
  have HB2 : Hid (Below w.heap.size w w2) := belowCall HB1.out b2 HB1.out.size
  clear b2 HB1 B1
  by_cases hE : OutP zo1 s1 a1
  case neg =>
    obtain rfl : q = false := by cases q with | false => rfl | true => exact absurd (hq.1 rfl) hE
    clear hq
    go_wp2
    go_ret
    exact Bo.no (fun x => hE x.2.2.1.1) HB2.out
  obtain rfl : q = true := hq.2 hE
  have E1 : Hid (OutP zo1 s1 a1) := hE
  clear hq hE x5 x6 x7 x8 x9
  go_wp2
  refine wp_loop_rounds 3 ?_
  rw [rounds_succ]
  have KK := K0.out.below B2.out K0.out.lt
  have x0 := KK.cell 5
  have x1 := KK.cell 6
  have x2 := KK.cell 7
  have x3 := KK.cell 8
  have x4 := KK.cell 9
  simp at x0 x1 x2 x3 x4
  obtain ⟨X0, hX0⟩ : ∃ W, w2.alloc (Obj.cells (E5 (.slice a_vo1 zo1.length p_vo1) (.slice a_vi1 zi1.length p_vi1) s1 a1 t1) 26) = W := ⟨_, rfl⟩
  have bX : Below w2.heap.size w2 X0 := by rw [← hX0]; exact (Below.refl _ _).alloc (Nat.le_refl _) _
  have BX0 : Hid (Below W0.heap.size W0 X0) := belowCall B2.out bX B2.out.size
  have HX0 : Hid (Below w.heap.size w X0) := belowCall HB2.out bX HB2.out.size
  have KF : Hid (Blk X0 w2.heap.size (E5 (.slice a_vo1 zo1.length p_vo1) (.slice a_vi1 zi1.length p_vi1) s1 a1 t1) 26) := by rw [← hX0]; exact Blk.new _ _ _
  have KX := K0.out.below BX0.out K0.out.lt
  have f0 : ∀ W : Ov X0, W.wd.cell? ⟨w2.heap.size, 0, none⟩ = some ((.slice a_vo1 zo1.length p_vo1)) := ov_cell (KF.out.cell 0)
  have g0 : ∀ W : Ov X0, W.wd.cell? ⟨w.heap.size, 0, none⟩ = some ((.slice a_vo0 zo0.length p_vo0)) := ov_cell (KX.cell 0)
  have f1 : ∀ W : Ov X0, W.wd.cell? ⟨w2.heap.size, 1, none⟩ = some (.int .i64 s1) := ov_cell (KF.out.cell 1)
  have g1 : ∀ W : Ov X0, W.wd.cell? ⟨w.heap.size, 1, none⟩ = some (.int .i64 s0) := ov_cell (KX.cell 1)
  have f2 : ∀ W : Ov X0, W.wd.cell? ⟨w2.heap.size, 2, none⟩ = some (.int .i64 a1) := ov_cell (KF.out.cell 2)
  have g2 : ∀ W : Ov X0, W.wd.cell? ⟨w.heap.size, 2, none⟩ = some (.int .i64 a0) := ov_cell (KX.cell 2)
  have f3 : ∀ W : Ov X0, W.wd.cell? ⟨w2.heap.size, 3, none⟩ = some (.int .i64 t1) := ov_cell (KF.out.cell 3)
  have g3 : ∀ W : Ov X0, W.wd.cell? ⟨w.heap.size, 3, none⟩ = some (.int .i64 t0) := ov_cell (KX.cell 3)
  have f4 : ∀ W : Ov X0, W.wd.cell? ⟨w2.heap.size, 4, none⟩ = some ((.slice a_vi1 zi1.length p_vi1)) := ov_cell (KF.out.cell 4)
  have g4 : ∀ W : Ov X0, W.wd.cell? ⟨w.heap.size, 4, none⟩ = some ((.slice a_vi0 zi0.length p_vi0)) := ov_cell (KX.cell 4)
  have ya : ∀ W : Ov X0, W.wd.cell? ⟨w.heap.size, 10, none⟩ = some ((.slice a_v00 l00.length p_v00)) := ov_cell (KX.cell 10)
  have yb : ∀ W : Ov X0, W.wd.cell? ⟨w.heap.size, 12, none⟩ = some ((.slice a_v10 l10.length p_v10)) := ov_cell (KX.cell 12)
  have ne : Nonempty (Ov X0) := ⟨⟨_, Below.refl _ _⟩⟩
  have CI : Hid (∀ W : Ov X0, Calls Try.prog 42 #[.agg (E5 (.slice a_vo0 zo0.length p_vo0) (.slice a_vi0 zi0.length p_vi0) s0 a0 t0), .agg (E5 (.slice a_vo1 zo1.length p_vo1) (.slice a_vi1 zi1.length p_vi1) s1 a1 t1)] W.wd (Bo (t0 = zi0.length ∧ t0 ≤ s1 ∧ a1 ≤ t0 ∧ InP zi0 zo1) W.wd)) := fun W => inI_c _ _ _ _ s0 a0 t0 s1 a1 t1 zo0 zi0 zo1 zi1 W.wd ((HR.out.rvo0.below BX0.out).below W.ok) ((HR.out.rvi0.below BX0.out).below W.ok) ((HR.out.rvo1.below BX0.out).below W.ok) ((HR.out.rvi1.below BX0.out).below W.ok) E1.out
  have CA : Hid (∀ W : Ov X0, Calls Try.prog 43 #[(.slice a_v00 l00.length p_v00), .agg (E5 (.slice a_vo1 zo1.length p_vo1) (.slice a_vi1 zi1.length p_vi1) s1 a1 t1)] W.wd (Bo (UsP zo1 s1 t1 l00) W.wd)) := fun W => units_c _ _ _ l00 s1 a1 t1 zo1 zi1 W.wd ((HR.out.rv00.below BX0.out).below W.ok) ((HR.out.rvo1.below BX0.out).below W.ok) ((HR.out.rvi1.below BX0.out).below W.ok) E1.out.2.2.1.2
  have CB : Hid (∀ W : Ov X0, Calls Try.prog 43 #[(.slice a_v10 l10.length p_v10), .agg (E5 (.slice a_vo1 zo1.length p_vo1) (.slice a_vi1 zi1.length p_vi1) s1 a1 t1)] W.wd (Bo (UsP zo1 s1 t1 l10) W.wd)) := fun W => units_c _ _ _ l10 s1 a1 t1 zo1 zi1 W.wd ((HR.out.rv10.below BX0.out).below W.ok) ((HR.out.rvo1.below BX0.out).below W.ok) ((HR.out.rvi1.below BX0.out).below W.ok) E1.out.2.2.1.2
  clear KK KX bX
  by_cases hI : (t0 = zi0.length ∧ t0 ≤ s1 ∧ a1 ≤ t0 ∧ InP zi0 zo1)
  case neg =>
    have HI : Hid (∀ W : Ov X0, Calls Try.prog 42 #[.agg (E5 (.slice a_vo0 zo0.length p_vo0) (.slice a_vi0 zi0.length p_vi0) s0 a0 t0), .agg (E5 (.slice a_vo1 zo1.length p_vo1) (.slice a_vi1 zi1.length p_vi1) s1 a1 t1)] W.wd fun e w'' => e = .returned (.bool false) ∧ ∃ W' : Ov X0, w'' = W'.wd) := fun W => ov_call ((CI.out W).mono fun e w' ⟨q, he, hq, hb⟩ => ⟨by rw [he]; cases q with | false => rfl | true => exact absurd (hq.1 rfl) hI, hb⟩)
    have NI : Hid (¬ (t0 = zi0.length ∧ t0 ≤ s1 ∧ a1 ≤ t0 ∧ InP zi0 zo1)) := hI
    clear hI CI CA CB
    go_wp2
    refine region_over (by kernel_rfl) (by kernel_rfl) ?_
    repeat (go_big_quiet_step (first | (go_at_call 42; first | with_reducible exact HI.out _)))
    refine wpQuiet_nil ?_
    rintro _ ⟨V0, rfl⟩
    have HV : Hid (Below w.heap.size w V0.wd) := belowCall HX0.out V0.ok HX0.out.size
    go_wp2
    go_ret
    exact Bo.no (fun x => NI.out ⟨x.2.1.2.1, x.2.1.2.2.1, x.2.2.1.2.2.2.1, x.2.1.2.2.2.2⟩) HV.out
  have HI : Hid (∀ W : Ov X0, Calls Try.prog 42 #[.agg (E5 (.slice a_vo0 zo0.length p_vo0) (.slice a_vi0 zi0.length p_vi0) s0 a0 t0), .agg (E5 (.slice a_vo1 zo1.length p_vo1) (.slice a_vi1 zi1.length p_vi1) s1 a1 t1)] W.wd fun e w'' => e = .returned (.bool true) ∧ ∃ W' : Ov X0, w'' = W'.wd) := fun W => ov_call ((CI.out W).mono fun e w' ⟨q, he, hq, hb⟩ => ⟨by rw [he, hq.2 hI], hb⟩)
  have I0 : Hid (t0 = zi0.length ∧ t0 ≤ s1 ∧ a1 ≤ t0 ∧ InP zi0 zo1) := hI
  clear hI CI
  by_cases hA : UsP zo1 s1 t1 l00
  case neg =>
    have HA : Hid (∀ W : Ov X0, Calls Try.prog 43 #[(.slice a_v00 l00.length p_v00), .agg (E5 (.slice a_vo1 zo1.length p_vo1) (.slice a_vi1 zi1.length p_vi1) s1 a1 t1)] W.wd fun e w'' => e = .returned (.bool false) ∧ ∃ W' : Ov X0, w'' = W'.wd) := fun W => ov_call ((CA.out W).mono fun e w' ⟨q, he, hq, hb⟩ => ⟨by rw [he]; cases q with | false => rfl | true => exact absurd (hq.1 rfl) hA, hb⟩)
    have NI : Hid (¬ UsP zo1 s1 t1 l00) := hA
    clear hA CA CB
    go_wp2
    refine region_over (by kernel_rfl) (by kernel_rfl) ?_
    repeat (go_big_quiet_step (first | (go_at_call 42; first | with_reducible exact HI.out _) | (go_at_call 43; first | with_reducible exact HA.out _)))
    refine wpQuiet_nil ?_
    rintro _ ⟨V0, rfl⟩
    have HV : Hid (Below w.heap.size w V0.wd) := belowCall HX0.out V0.ok HX0.out.size
    go_wp2
    go_ret
    exact Bo.no (fun x => NI.out x.2.2.2.1) HV.out
  have HA : Hid (∀ W : Ov X0, Calls Try.prog 43 #[(.slice a_v00 l00.length p_v00), .agg (E5 (.slice a_vo1 zo1.length p_vo1) (.slice a_vi1 zi1.length p_vi1) s1 a1 t1)] W.wd fun e w'' => e = .returned (.bool true) ∧ ∃ W' : Ov X0, w'' = W'.wd) := fun W => ov_call ((CA.out W).mono fun e w' ⟨q, he, hq, hb⟩ => ⟨by rw [he, hq.2 hA], hb⟩)
  have A0 : Hid (UsP zo1 s1 t1 l00) := hA
  clear hA CA
  by_cases hB : UsP zo1 s1 t1 l10
  case neg =>
    have HBb : Hid (∀ W : Ov X0, Calls Try.prog 43 #[(.slice a_v10 l10.length p_v10), .agg (E5 (.slice a_vo1 zo1.length p_vo1) (.slice a_vi1 zi1.length p_vi1) s1 a1 t1)] W.wd fun e w'' => e = .returned (.bool false) ∧ ∃ W' : Ov X0, w'' = W'.wd) := fun W => ov_call ((CB.out W).mono fun e w' ⟨q, he, hq, hb⟩ => ⟨by rw [he]; cases q with | false => rfl | true => exact absurd (hq.1 rfl) hB, hb⟩)
    have NI : Hid (¬ UsP zo1 s1 t1 l10) := hB
    clear hB CB
    go_wp2
    refine region_over (by kernel_rfl) (by kernel_rfl) ?_
    repeat (go_big_quiet_step (first | (go_at_call 42; first | with_reducible exact HI.out _) | (go_at_call 43; first | with_reducible exact HA.out _ | with_reducible exact HBb.out _)))
    refine wpQuiet_nil ?_
    rintro _ ⟨V0, rfl⟩
    have HV : Hid (Below w.heap.size w V0.wd) := belowCall HX0.out V0.ok HX0.out.size
    go_wp2
    go_ret
    exact Bo.no (fun x => NI.out x.2.2.2.2.2.1) HV.out
  have HBb : Hid (∀ W : Ov X0, Calls Try.prog 43 #[(.slice a_v10 l10.length p_v10), .agg (E5 (.slice a_vo1 zo1.length p_vo1) (.slice a_vi1 zi1.length p_vi1) s1 a1 t1)] W.wd fun e w'' => e = .returned (.bool true) ∧ ∃ W' : Ov X0, w'' = W'.wd) := fun W => ov_call ((CB.out W).mono fun e w' ⟨q, he, hq, hb⟩ => ⟨by rw [he, hq.2 hB], hb⟩)
  have Q0 : Hid (UsP zo1 s1 t1 l10) := hB
  clear hB CB
  go_wp2
  refine region_over (by kernel_rfl) (by kernel_rfl) ?_
  repeat (go_big_quiet_step (first | (go_at_call 42; first | with_reducible exact HI.out _) | (go_at_call 43; first | with_reducible exact HA.out _ | with_reducible exact HBb.out _)))
  refine wpQuiet_nil ?_
  rintro _ ⟨V0, rfl⟩
  have BV0 : Hid (Below W0.heap.size W0 V0.wd) := belowCall BX0.out V0.ok BX0.out.size
  have HV0 : Hid (Below w.heap.size w V0.wd) := belowCall HX0.out V0.ok HX0.out.size
  clear HI HA HBb f0 g0 x0 f1 g1 x1 f2 g2 x2 f3 g3 x3 f4 g4 x4 ya yb ne KF
  go_wp2
  rw [rounds_succ]
  have KK := K0.out.below BV0.out K0.out.lt
  have x0 := KK.cell 0
  have x1 := KK.cell 1
  have x2 := KK.cell 2
  have x3 := KK.cell 3
  have x4 := KK.cell 4
  simp at x0 x1 x2 x3 x4
  obtain ⟨X1, hX1⟩ : ∃ W, V0.wd.alloc (Obj.cells (E5 (.slice a_vo0 zo0.length p_vo0) (.slice a_vi0 zi0.length p_vi0) s0 a0 t0) 26) = W := ⟨_, rfl⟩
  have bX : Below V0.wd.heap.size V0.wd X1 := by rw [← hX1]; exact (Below.refl _ _).alloc (Nat.le_refl _) _
  have BX1 : Hid (Below W0.heap.size W0 X1) := belowCall BV0.out bX BV0.out.size
  have HX1 : Hid (Below w.heap.size w X1) := belowCall HV0.out bX HV0.out.size
  have KF : Hid (Blk X1 V0.wd.heap.size (E5 (.slice a_vo0 zo0.length p_vo0) (.slice a_vi0 zi0.length p_vi0) s0 a0 t0) 26) := by rw [← hX1]; exact Blk.new _ _ _
  have KX := K0.out.below BX1.out K0.out.lt
  have f0 : ∀ W : Ov X1, W.wd.cell? ⟨V0.wd.heap.size, 0, none⟩ = some ((.slice a_vo0 zo0.length p_vo0)) := ov_cell (KF.out.cell 0)
  have g0 : ∀ W : Ov X1, W.wd.cell? ⟨w.heap.size, 5, none⟩ = some ((.slice a_vo1 zo1.length p_vo1)) := ov_cell (KX.cell 5)
  have f1 : ∀ W : Ov X1, W.wd.cell? ⟨V0.wd.heap.size, 1, none⟩ = some (.int .i64 s0) := ov_cell (KF.out.cell 1)
  have g1 : ∀ W : Ov X1, W.wd.cell? ⟨w.heap.size, 6, none⟩ = some (.int .i64 s1) := ov_cell (KX.cell 6)
  have f2 : ∀ W : Ov X1, W.wd.cell? ⟨V0.wd.heap.size, 2, none⟩ = some (.int .i64 a0) := ov_cell (KF.out.cell 2)
  have g2 : ∀ W : Ov X1, W.wd.cell? ⟨w.heap.size, 7, none⟩ = some (.int .i64 a1) := ov_cell (KX.cell 7)
  have f3 : ∀ W : Ov X1, W.wd.cell? ⟨V0.wd.heap.size, 3, none⟩ = some (.int .i64 t0) := ov_cell (KF.out.cell 3)
  have g3 : ∀ W : Ov X1, W.wd.cell? ⟨w.heap.size, 8, none⟩ = some (.int .i64 t1) := ov_cell (KX.cell 8)
  have f4 : ∀ W : Ov X1, W.wd.cell? ⟨V0.wd.heap.size, 4, none⟩ = some ((.slice a_vi0 zi0.length p_vi0)) := ov_cell (KF.out.cell 4)
  have g4 : ∀ W : Ov X1, W.wd.cell? ⟨w.heap.size, 9, none⟩ = some ((.slice a_vi1 zi1.length p_vi1)) := ov_cell (KX.cell 9)
  have ya : ∀ W : Ov X1, W.wd.cell? ⟨w.heap.size, 11, none⟩ = some ((.slice a_v01 l01.length p_v01)) := ov_cell (KX.cell 11)
  have yb : ∀ W : Ov X1, W.wd.cell? ⟨w.heap.size, 13, none⟩ = some ((.slice a_v11 l11.length p_v11)) := ov_cell (KX.cell 13)
  have ne : Nonempty (Ov X1) := ⟨⟨_, Below.refl _ _⟩⟩
  have CI : Hid (∀ W : Ov X1, Calls Try.prog 42 #[.agg (E5 (.slice a_vo1 zo1.length p_vo1) (.slice a_vi1 zi1.length p_vi1) s1 a1 t1), .agg (E5 (.slice a_vo0 zo0.length p_vo0) (.slice a_vi0 zi0.length p_vi0) s0 a0 t0)] W.wd (Bo (t1 = zi1.length ∧ t1 ≤ s0 ∧ a0 ≤ t1 ∧ InP zi1 zo0) W.wd)) := fun W => inI_c _ _ _ _ s1 a1 t1 s0 a0 t0 zo1 zi1 zo0 zi0 W.wd ((HR.out.rvo1.below BX1.out).below W.ok) ((HR.out.rvi1.below BX1.out).below W.ok) ((HR.out.rvo0.below BX1.out).below W.ok) ((HR.out.rvi0.below BX1.out).below W.ok) E0.out
  have CA : Hid (∀ W : Ov X1, Calls Try.prog 43 #[(.slice a_v01 l01.length p_v01), .agg (E5 (.slice a_vo0 zo0.length p_vo0) (.slice a_vi0 zi0.length p_vi0) s0 a0 t0)] W.wd (Bo (UsP zo0 s0 t0 l01) W.wd)) := fun W => units_c _ _ _ l01 s0 a0 t0 zo0 zi0 W.wd ((HR.out.rv01.below BX1.out).below W.ok) ((HR.out.rvo0.below BX1.out).below W.ok) ((HR.out.rvi0.below BX1.out).below W.ok) E0.out.2.2.1.2
  have CB : Hid (∀ W : Ov X1, Calls Try.prog 43 #[(.slice a_v11 l11.length p_v11), .agg (E5 (.slice a_vo0 zo0.length p_vo0) (.slice a_vi0 zi0.length p_vi0) s0 a0 t0)] W.wd (Bo (UsP zo0 s0 t0 l11) W.wd)) := fun W => units_c _ _ _ l11 s0 a0 t0 zo0 zi0 W.wd ((HR.out.rv11.below BX1.out).below W.ok) ((HR.out.rvo0.below BX1.out).below W.ok) ((HR.out.rvi0.below BX1.out).below W.ok) E0.out.2.2.1.2
  clear KK KX bX
  by_cases hI : (t1 = zi1.length ∧ t1 ≤ s0 ∧ a0 ≤ t1 ∧ InP zi1 zo0)
  case neg =>
    have HI : Hid (∀ W : Ov X1, Calls Try.prog 42 #[.agg (E5 (.slice a_vo1 zo1.length p_vo1) (.slice a_vi1 zi1.length p_vi1) s1 a1 t1), .agg (E5 (.slice a_vo0 zo0.length p_vo0) (.slice a_vi0 zi0.length p_vi0) s0 a0 t0)] W.wd fun e w'' => e = .returned (.bool false) ∧ ∃ W' : Ov X1, w'' = W'.wd) := fun W => ov_call ((CI.out W).mono fun e w' ⟨q, he, hq, hb⟩ => ⟨by rw [he]; cases q with | false => rfl | true => exact absurd (hq.1 rfl) hI, hb⟩)
    have NI : Hid (¬ (t1 = zi1.length ∧ t1 ≤ s0 ∧ a0 ≤ t1 ∧ InP zi1 zo0)) := hI
    clear hI CI CA CB
    go_wp2
    refine region_over (by kernel_rfl) (by kernel_rfl) ?_
    repeat (go_big_quiet_step (first | (go_at_call 42; first | with_reducible exact HI.out _)))
    refine wpQuiet_nil ?_
    rintro _ ⟨V1, rfl⟩
    have HV : Hid (Below w.heap.size w V1.wd) := belowCall HX1.out V1.ok HX1.out.size
    go_wp2
    go_ret
    exact Bo.no (fun x => NI.out ⟨x.2.2.1.2.1, x.2.2.1.2.2.1, x.2.1.2.2.2.1, x.2.2.1.2.2.2.2⟩) HV.out
  have HI : Hid (∀ W : Ov X1, Calls Try.prog 42 #[.agg (E5 (.slice a_vo1 zo1.length p_vo1) (.slice a_vi1 zi1.length p_vi1) s1 a1 t1), .agg (E5 (.slice a_vo0 zo0.length p_vo0) (.slice a_vi0 zi0.length p_vi0) s0 a0 t0)] W.wd fun e w'' => e = .returned (.bool true) ∧ ∃ W' : Ov X1, w'' = W'.wd) := fun W => ov_call ((CI.out W).mono fun e w' ⟨q, he, hq, hb⟩ => ⟨by rw [he, hq.2 hI], hb⟩)
  have I1 : Hid (t1 = zi1.length ∧ t1 ≤ s0 ∧ a0 ≤ t1 ∧ InP zi1 zo0) := hI
  clear hI CI
  by_cases hA : UsP zo0 s0 t0 l01
  case neg =>
    have HA : Hid (∀ W : Ov X1, Calls Try.prog 43 #[(.slice a_v01 l01.length p_v01), .agg (E5 (.slice a_vo0 zo0.length p_vo0) (.slice a_vi0 zi0.length p_vi0) s0 a0 t0)] W.wd fun e w'' => e = .returned (.bool false) ∧ ∃ W' : Ov X1, w'' = W'.wd) := fun W => ov_call ((CA.out W).mono fun e w' ⟨q, he, hq, hb⟩ => ⟨by rw [he]; cases q with | false => rfl | true => exact absurd (hq.1 rfl) hA, hb⟩)
    have NI : Hid (¬ UsP zo0 s0 t0 l01) := hA
    clear hA CA CB
    go_wp2
    refine region_over (by kernel_rfl) (by kernel_rfl) ?_
    repeat (go_big_quiet_step (first | (go_at_call 42; first | with_reducible exact HI.out _) | (go_at_call 43; first | with_reducible exact HA.out _)))
    refine wpQuiet_nil ?_
    rintro _ ⟨V1, rfl⟩
    have HV : Hid (Below w.heap.size w V1.wd) := belowCall HX1.out V1.ok HX1.out.size
    go_wp2
    go_ret
    exact Bo.no (fun x => NI.out x.2.2.2.2.1) HV.out
  have HA : Hid (∀ W : Ov X1, Calls Try.prog 43 #[(.slice a_v01 l01.length p_v01), .agg (E5 (.slice a_vo0 zo0.length p_vo0) (.slice a_vi0 zi0.length p_vi0) s0 a0 t0)] W.wd fun e w'' => e = .returned (.bool true) ∧ ∃ W' : Ov X1, w'' = W'.wd) := fun W => ov_call ((CA.out W).mono fun e w' ⟨q, he, hq, hb⟩ => ⟨by rw [he, hq.2 hA], hb⟩)
  have A1 : Hid (UsP zo0 s0 t0 l01) := hA
  clear hA CA
  by_cases hB : UsP zo0 s0 t0 l11
  case neg =>
    have HBb : Hid (∀ W : Ov X1, Calls Try.prog 43 #[(.slice a_v11 l11.length p_v11), .agg (E5 (.slice a_vo0 zo0.length p_vo0) (.slice a_vi0 zi0.length p_vi0) s0 a0 t0)] W.wd fun e w'' => e = .returned (.bool false) ∧ ∃ W' : Ov X1, w'' = W'.wd) := fun W => ov_call ((CB.out W).mono fun e w' ⟨q, he, hq, hb⟩ => ⟨by rw [he]; cases q with | false => rfl | true => exact absurd (hq.1 rfl) hB, hb⟩)
    have NI : Hid (¬ UsP zo0 s0 t0 l11) := hB
    clear hB CB
    go_wp2
    refine region_over (by kernel_rfl) (by kernel_rfl) ?_
    repeat (go_big_quiet_step (first | (go_at_call 42; first | with_reducible exact HI.out _) | (go_at_call 43; first | with_reducible exact HA.out _ | with_reducible exact HBb.out _)))
    refine wpQuiet_nil ?_
    rintro _ ⟨V1, rfl⟩
    have HV : Hid (Below w.heap.size w V1.wd) := belowCall HX1.out V1.ok HX1.out.size
    go_wp2
    go_ret
    exact Bo.no (fun x => NI.out x.2.2.2.2.2.2) HV.out
  have HBb : Hid (∀ W : Ov X1, Calls Try.prog 43 #[(.slice a_v11 l11.length p_v11), .agg (E5 (.slice a_vo0 zo0.length p_vo0) (.slice a_vi0 zi0.length p_vi0) s0 a0 t0)] W.wd fun e w'' => e = .returned (.bool true) ∧ ∃ W' : Ov X1, w'' = W'.wd) := fun W => ov_call ((CB.out W).mono fun e w' ⟨q, he, hq, hb⟩ => ⟨by rw [he, hq.2 hB], hb⟩)
  have Q1 : Hid (UsP zo0 s0 t0 l11) := hB
  clear hB CB
  go_wp2
  refine region_over (by kernel_rfl) (by kernel_rfl) ?_
  repeat (go_big_quiet_step (first | (go_at_call 42; first | with_reducible exact HI.out _) | (go_at_call 43; first | with_reducible exact HA.out _ | with_reducible exact HBb.out _)))
  refine wpQuiet_nil ?_
  rintro _ ⟨V1, rfl⟩
  have BV1 : Hid (Below W0.heap.size W0 V1.wd) := belowCall BX1.out V1.ok BX1.out.size
  have HV1 : Hid (Below w.heap.size w V1.wd) := belowCall HX1.out V1.ok HX1.out.size
  clear HI HA HBb f0 g0 x0 f1 g1 x1 f2 g2 x2 f3 g3 x3 f4 g4 x4 ya yb ne KF
  go_wp2
  rw [rounds_succ]
  go_wp2
  go_ret
  exact Bo.yes ⟨HU.out, ⟨E0.out, I0.out.1, I0.out.2.1, I1.out.2.2.1, I0.out.2.2.2⟩, ⟨E1.out, I1.out.1, I1.out.2.1, I0.out.2.2.1, I1.out.2.2.2⟩, A0.out, A1.out, Q0.out, Q1.out⟩ HV1.out
end Go.Proofs.Ytejoopdpelcpeaa

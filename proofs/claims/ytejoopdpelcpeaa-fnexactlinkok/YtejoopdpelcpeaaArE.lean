/- Ends measured and compared; two ends at once: copied, measured, compared; no condition. -/
import Derived.Test.YtejoopdpelcpeaaSw
namespace Go.Proofs.Ytejoopdpelcpeaa
open Go.RowKit Go.ChangeShapes Go.WideShapes Go.ChangeAt
set_option linter.unusedVariables false
set_option linter.unusedSimpArgs false
set_option maxRecDepth 8000
set_option maxHeartbeats 1600000 in
theorem szEnd_c (vo vi : Value) (s a t : Int) (zo zi : Txs) (L : Int) (w : World) (hL0 : 0 ≤ L) (hL : L ≤ 1048576) (ho : Rx w vo zo) (hi : Rx w vi zi) (mo : ∀ r ∈ zo, r.size ≤ maxLen) (mi : ∀ r ∈ zi, r.size ≤ maxLen) :
    Calls Try.prog 79 #[.agg (E5 vo vi s a t), .int .i64 L] w fun e w' => ∃ z : Int, e = .returned (.int .i64 z) ∧ -1 ≤ z ∧ z ≤ L ∧ (0 ≤ z → (zo.length ≤ 1048576 ∧ ∀ r ∈ zo, r.size ≤ 1048576) ∧ (zi.length ≤ 1048576 ∧ ∀ r ∈ zi, r.size ≤ 1048576)) ∧ Below w.heap.size w w' := by
  obtain ⟨W0, hW0⟩ : ∃ W0, w.alloc (Obj.cells (E5 vo vi s a t) 41) = W0 := ⟨_, rfl⟩
  have HB : Hid (Below w.heap.size w W0) := by rw [← hW0]; exact (Below.refl _ _).alloc (Nat.le_refl _) _
  have K0 : Hid (Blk W0 w.heap.size (E5 vo vi s a t) 41) := by rw [← hW0]; exact Blk.new _ _ _
  have HO : Hid (Rx w vo zo) := ho
  have HI : Hid (Rx w vi zi) := hi
  have MO : Hid (∀ r ∈ zo, r.size ≤ maxLen) := mo
  have MI : Hid (∀ r ∈ zi, r.size ≤ maxLen) := mi
  obtain ⟨a0, p0, hv0, -⟩ := ho
  obtain ⟨a1, p1, hv1, -⟩ := hi
  subst hv0 hv1
  have x0 := K0.out.cell 0
  simp at x0
  clear mo mi
  go_enter Try.func79, Try.ntmps79
  go_wp2_with (fail)
  clear hW0
  refine (szTextS_c _ zo L W0 hL0 hL (HO.out.below HB.out) MO.out).mono ?_
  rintro e w1 ⟨z, rfl, hz0, hz1, hz2, b1⟩
  have HB1 : Hid (Below w.heap.size w w1) := belowCall HB.out b1 HB.out.size
  have k := K0.out.below b1 K0.out.lt
  have x4 := k.cell 4
  simp at x4
  have HZ : Hid (0 ≤ z → (zo.length ≤ 1048576 ∧ ∀ r ∈ zo, r.size ≤ 1048576)) := fun h => ⟨by have := (hz2 h).1; omega, (hz2 h).2⟩
  clear k b1 hz2 HB K0 x0
  by_cases hneg : z < 0
  · go_wp2
    go_ret
    exact ⟨-1, rfl, by omega, by omega, fun h => absurd h (by omega), HB1.out⟩
  have HP : Hid (zo.length ≤ 1048576 ∧ ∀ r ∈ zo, r.size ≤ 1048576) := HZ.out (by omega)
  clear HZ
  go_wp2_with (fail)
  refine (szTextS_c _ zi z w1 (by omega) (by omega) (HI.out.below HB1.out) MI.out).mono ?_
  rintro e w2 ⟨y, rfl, hy0, hy1, hy2, b2⟩
  have HB2 : Hid (Below w.heap.size w w2) := belowCall HB1.out b2 HB1.out.size
  have HZ : Hid (0 ≤ y → (zi.length ≤ 1048576 ∧ ∀ r ∈ zi, r.size ≤ 1048576)) := fun h => ⟨by have := (hy2 h).1; omega, (hy2 h).2⟩
  clear b2 hy2 x4 HB1
  by_cases hn2 : y < 0
  · go_wp2
    go_ret
    exact ⟨-1, rfl, by omega, by omega, fun h => absurd h (by omega), HB2.out⟩
  go_wp2
  go_ret
  exact ⟨_, rfl, by omega, by omega, fun h => ⟨HP.out, HZ.out h⟩, HB2.out⟩
set_option maxHeartbeats 1600000 in
theorem eqEnd_t (vo vi vo' vi' : Value) (s a t : Int) (zo zi : Txs) (w : World) (ho : Rx w vo zo) (hi : Rx w vi zi) (go : Rx w vo' zo) (gi : Rx w vi' zi) :
    Calls Try.prog 83 #[.agg (E5 vo vi s a t), .agg (E5 vo' vi' s a t)] w fun e w' => e = .returned (.bool true) ∧ Below w.heap.size w w' := by
  obtain ⟨W0, hW0⟩ : ∃ W0, (w.alloc (Obj.cells (E5 vo vi s a t) 26)).alloc (Obj.cells (E5 vo' vi' s a t) 26) = W0 := ⟨_, rfl⟩
  have HB : Hid (Below w.heap.size w W0) := by rw [← hW0]; exact ((Below.refl _ _).alloc (Nat.le_refl _) _).alloc (by simp) _
  have K0 : Hid (Blk W0 w.heap.size (E5 vo vi s a t) 26) := by rw [← hW0]; exact (Blk.new _ _ _).alloc _
  have K1 : Hid (Blk W0 (w.heap.size + 1) (E5 vo' vi' s a t) 26) := by rw [← hW0]; exact Blk.newAt _ (w.heap.size + 1) _ 26 (by simp)
  have HO : Hid (Rx w vo zo) := ho
  have HI : Hid (Rx w vi zi) := hi
  have GO : Hid (Rx w vo' zo) := go
  have GI : Hid (Rx w vi' zi) := gi
  obtain ⟨a0, p0, hv0, -⟩ := ho
  obtain ⟨a1, p1, hv1, -⟩ := hi
  obtain ⟨c0, d0, hu0, -⟩ := go
  obtain ⟨c1, d1, hu1, -⟩ := gi
  subst hv0 hv1 hu0 hu1
  have x0 := K0.out.cell 0
  have y0 := K1.out.cell 0
  simp at x0 y0
  have gs : (s != s) = false := by simp
  have ga : (a != a) = false := by simp
  have gt : (t != t) = false := by simp
  go_enter Try.func83, Try.ntmps83
  go_wp2_with (fail)
  clear hW0
  refine (eqTextS_t _ _ zo W0 (HO.out.below HB.out) (GO.out.below HB.out)).mono ?_
  rintro e w1 ⟨rfl, b1⟩
  have HB1 : Hid (Below w.heap.size w w1) := belowCall HB.out b1 HB.out.size
  have k := K0.out.below b1 K0.out.lt
  have l := K1.out.below b1 K1.out.lt
  have x1 := k.cell 1
  have x2 := k.cell 2
  have x3 := k.cell 3
  have x4 := k.cell 4
  have y1 := l.cell 1
  have y2 := l.cell 2
  have y3 := l.cell 3
  have y4 := l.cell 4
  simp at x1 x2 x3 x4 y1 y2 y3 y4
  clear k l b1 HB K0 K1 x0 y0
  go_wp2_with (fail)
  refine (eqTextS_t _ _ zi w1 (HI.out.below HB1.out) (GI.out.below HB1.out)).mono ?_
  rintro e w2 ⟨rfl, b2⟩
  have HB2 : Hid (Below w.heap.size w w2) := belowCall HB1.out b2 HB1.out.size
  clear b2 HB1
  go_wp2
  go_ret
  exact ⟨rfl, HB2.out⟩
theorem infoA27 : (Try.prog.info? 27).map (·.size) = some 10 := by kernel_rfl
set_option maxHeartbeats 3200000 in
theorem toEndA2_c (vo0 vi0 vo1 vi1 : Value) (s0 a0 t0 s1 a1 t1 : Int) (zo0 zi0 zo1 zi1 : Txs) (w : World) (hvo0 : Rx w vo0 zo0) (hvi0 : Rx w vi0 zi0) (hvo1 : Rx w vo1 zo1) (hvi1 : Rx w vi1 zi1) (nvo0 : zo0.length ≤ 1048576) (nvi0 : zi0.length ≤ 1048576) (nvo1 : zo1.length ≤ 1048576) (nvi1 : zi1.length ≤ 1048576) :
    Calls Try.prog 48 #[.agg #[vo0, .int .i64 s0, .int .i64 a0, .int .i64 t0, vi0, vo1, .int .i64 s1, .int .i64 a1, .int .i64 t1, vi1]] w fun x w' => ∃ yvo0 yvi0 yvo1 yvi1 m1 m2 m3, x = .returned (.agg #[yvo0, .int .i64 s0, .int .i64 a0, .int .i64 t0, yvi0, yvo1, .int .i64 s1, .int .i64 a1, .int .i64 t1, yvi1]) ∧ OX w.heap.size m1 w' yvo0 zo0 ∧ OX m1 m2 w' yvi0 zi0 ∧ OX m2 m3 w' yvo1 zo1 ∧ OX m3 w'.heap.size w' yvi1 zi1 ∧ Below w.heap.size w w' := by
  obtain ⟨W0, hW0⟩ : ∃ W0, ((w.alloc (Obj.cells #[vo0, .int .i64 s0, .int .i64 a0, .int .i64 t0, vi0, vo1, .int .i64 s1, .int .i64 a1, .int .i64 t1, vi1] 42)).alloc (Obj.cells #[.slice none 0 0, .int .i64 0, .int .i64 0, .int .i64 0, .slice none 0 0, .slice none 0 0, .int .i64 0, .int .i64 0, .int .i64 0, .slice none 0 0] 27)).alloc (Obj.cells #[.slice none 0 0, .int .i64 0, .int .i64 0, .int .i64 0, .slice none 0 0, .slice none 0 0, .int .i64 0, .int .i64 0, .int .i64 0, .slice none 0 0] 27) = W0 := ⟨_, rfl⟩
  have zs : W0.heap.size = w.heap.size + 3 := by rw [← hW0]; simp
  have HB : Hid (Below w.heap.size w W0) := by rw [← hW0]; exact (((Below.refl _ _).alloc (Nat.le_refl _) _).alloc (by simp) _).alloc (by simp; omega) _
  have K0 : Hid (Blk W0 w.heap.size #[vo0, .int .i64 s0, .int .i64 a0, .int .i64 t0, vi0, vo1, .int .i64 s1, .int .i64 a1, .int .i64 t1, vi1] 42) := by rw [← hW0]; exact ((Blk.new _ _ _).alloc _).alloc _
  have K1 : Hid (Blk W0 (w.heap.size + 1) #[.slice none 0 0, .int .i64 0, .int .i64 0, .int .i64 0, .slice none 0 0, .slice none 0 0, .int .i64 0, .int .i64 0, .int .i64 0, .slice none 0 0] 27) := by rw [← hW0]; exact (Blk.newAt _ (w.heap.size + 1) _ 27 (by simp)).alloc _
  have K2 : Hid (Blk W0 (w.heap.size + 1 + 1) #[.slice none 0 0, .int .i64 0, .int .i64 0, .int .i64 0, .slice none 0 0, .slice none 0 0, .int .i64 0, .int .i64 0, .int .i64 0, .slice none 0 0] 27) := by rw [← hW0]; exact Blk.newAt _ (w.heap.size + 1 + 1) _ 27 (by simp)
  have Hvo0 : Hid (Rx w vo0 zo0) := hvo0
  have Hvi0 : Hid (Rx w vi0 zi0) := hvi0
  have Hvo1 : Hid (Rx w vo1 zo1) := hvo1
  have Hvi1 : Hid (Rx w vi1 zi1) := hvi1
  obtain ⟨a_vo0, p_vo0, e_vo0, -⟩ := hvo0
  obtain ⟨a_vi0, p_vi0, e_vi0, -⟩ := hvi0
  obtain ⟨a_vo1, p_vo1, e_vo1, -⟩ := hvo1
  obtain ⟨a_vi1, p_vi1, e_vi1, -⟩ := hvi1
  subst e_vo0 e_vi0 e_vo1 e_vi1
  have x0 := K0.out.cell 0
  have x1 := K0.out.cell 1
  have x2 := K0.out.cell 2
  have x3 := K0.out.cell 3
  have x4 := K0.out.cell 4
  simp at x0 x1 x2 x3 x4
  go_enter Try.func48, Try.ntmps48
  go_wp2
  refine wp_loop_rounds 3 ?_
  rw [rounds_succ]
  go_wp2_with (fail)
  clear hW0
  refine (toEnd_c _ _ _ _ _ zo0 zi0 W0 (Hvo0.out.below HB.out) (Hvi0.out.below HB.out) nvo0 nvi0).mono ?_
  rintro e w1 ⟨uvo0, uvi0, m01, rfl, o_uvo0, o_uvi0, bw1⟩
  obtain ⟨c_vo0, d_vo0, e_vo0⟩ := o_uvo0.form
  obtain ⟨c_vi0, d_vi0, e_vi0⟩ := o_uvi0.form
  subst e_vo0 e_vi0
  have k0 := K0.out.below bw1 K0.out.lt
  have k1 := K1.out.below bw1 K1.out.lt
  have k2 := K2.out.below bw1 K2.out.lt
  have z1 : W0.heap.size ≤ w1.heap.size := bw1.size
  obtain ⟨W2, hW2⟩ : ∃ W, (((((w1.setCell ⟨w.heap.size + 1 + 1, 0, none⟩ (.slice c_vo0 zo0.length d_vo0)).setCell ⟨w.heap.size + 1 + 1, 1, none⟩ (.int .i64 s0)).setCell ⟨w.heap.size + 1 + 1, 2, none⟩ (.int .i64 a0)).setCell ⟨w.heap.size + 1 + 1, 3, none⟩ (.int .i64 t0)).setCell ⟨w.heap.size + 1 + 1, 4, none⟩ (.slice c_vi0 zi0.length d_vi0)) = W := ⟨_, rfl⟩
  have z2 : W2.heap.size = w1.heap.size := by rw [← hW2]; simp
  have hf : Fr (fun k => k = w.heap.size + 1 + 1) w1 W2 := by
    rw [← hW2]
    exact Fr.ofGrown (grown_setW [.slice c_vo0 zo0.length d_vo0, .int .i64 s0, .int .i64 a0, .int .i64 t0, .slice c_vi0 zi0.length d_vi0] w1 (w.heap.size + 1 + 1) 0) (fun k e => (Option.some.inj e).symm)
  have P_vo0 : Hid (OX W0.heap.size m01 W2 (.slice c_vo0 zo0.length d_vo0) zo0) := o_uvo0.fr hf (fun k h1 h2 => by omega)
  have L_vo0 := o_uvo0.le
  have P_vi0 : Hid (OX m01 w1.heap.size W2 (.slice c_vi0 zi0.length d_vi0) zi0) := o_uvi0.fr hf (fun k h1 h2 => by have := o_uvo0.le; omega)
  have L_vi0 := o_uvi0.le
  have Q0 : Hid (Blk W2 w.heap.size #[.slice a_vo0 zo0.length p_vo0, .int .i64 s0, .int .i64 a0, .int .i64 t0, .slice a_vi0 zi0.length p_vi0, .slice a_vo1 zo1.length p_vo1, .int .i64 s1, .int .i64 a1, .int .i64 t1, .slice a_vi1 zi1.length p_vi1] 42) := k0.fr hf (by omega)
  have Q1 : Hid (Blk W2 (w.heap.size + 1) #[.slice none 0 0, .int .i64 0, .int .i64 0, .int .i64 0, .slice none 0 0, .slice none 0 0, .int .i64 0, .int .i64 0, .int .i64 0, .slice none 0 0] 27) := k1.fr hf (by omega)
  have Q2 : Hid (Blk W2 (w.heap.size + 1 + 1) #[.slice c_vo0 zo0.length d_vo0, .int .i64 s0, .int .i64 a0, .int .i64 t0, .slice c_vi0 zi0.length d_vi0, .slice none 0 0, .int .i64 0, .int .i64 0, .int .i64 0, .slice none 0 0] 27) := by
    rw [← hW2]; exact k2.setWs [.slice c_vo0 zo0.length d_vo0, .int .i64 s0, .int .i64 a0, .int .i64 t0, .slice c_vi0 zi0.length d_vi0] 0
  have HB2 : Hid (Below w.heap.size w W2) := (belowCall HB.out bw1 HB.out.size).trans (hf.below (by omega) (fun k e => by omega))
  have x5 := Q0.out.cell 5
  have x6 := Q0.out.cell 6
  have x7 := Q0.out.cell 7
  have x8 := Q0.out.cell 8
  have x9 := Q0.out.cell 9
  have d0 := k2.cell 0
  have df0 := k2.frozen 0
  have d1 := k2.cell 1
  have df1 := k2.frozen 1
  have d2 := k2.cell 2
  have df2 := k2.frozen 2
  have d3 := k2.cell 3
  have df3 := k2.frozen 3
  have d4 := k2.cell 4
  have df4 := k2.frozen 4
  simp at x5 x6 x7 x8 x9 d0 d1 d2 d3 d4
  have lk0 := k0.lt
  have lk2 := k2.lt
  clear k0 k1 k2 bw1 hf HB K0 K1 K2 o_uvo0 o_uvi0 x0 x1 x2 x3 x4
  go_wp2
  rw [rounds_succ]
  go_wp2_with (fail)
  clear hW2
  refine (toEnd_c _ _ _ _ _ zo1 zi1 W2 (Hvo1.out.below HB2.out) (Hvi1.out.below HB2.out) nvo1 nvi1).mono ?_
  rintro e w3 ⟨uvo1, uvi1, m11, rfl, o_uvo1, o_uvi1, bw3⟩
  obtain ⟨c_vo1, d_vo1, e_vo1⟩ := o_uvo1.form
  obtain ⟨c_vi1, d_vi1, e_vi1⟩ := o_uvi1.form
  subst e_vo1 e_vi1
  have k1 := Q1.out.below bw3 Q1.out.lt
  have k2 := Q2.out.below bw3 Q2.out.lt
  have z3 : W2.heap.size ≤ w3.heap.size := bw3.size
  have HF : Hid (∀ W, (((((((((((((((w3.setCell ⟨w.heap.size + 1 + 1, 5, none⟩ (.slice c_vo1 zo1.length d_vo1)).setCell ⟨w.heap.size + 1 + 1, 6, none⟩ (.int .i64 s1)).setCell ⟨w.heap.size + 1 + 1, 7, none⟩ (.int .i64 a1)).setCell ⟨w.heap.size + 1 + 1, 8, none⟩ (.int .i64 t1)).setCell ⟨w.heap.size + 1 + 1, 9, none⟩ (.slice c_vi1 zi1.length d_vi1)).setCell ⟨w.heap.size + 1, 0, none⟩ (.slice c_vo0 zo0.length d_vo0)).setCell ⟨w.heap.size + 1, 1, none⟩ (.int .i64 s0)).setCell ⟨w.heap.size + 1, 2, none⟩ (.int .i64 a0)).setCell ⟨w.heap.size + 1, 3, none⟩ (.int .i64 t0)).setCell ⟨w.heap.size + 1, 4, none⟩ (.slice c_vi0 zi0.length d_vi0)).setCell ⟨w.heap.size + 1, 5, none⟩ (.slice c_vo1 zo1.length d_vo1)).setCell ⟨w.heap.size + 1, 6, none⟩ (.int .i64 s1)).setCell ⟨w.heap.size + 1, 7, none⟩ (.int .i64 a1)).setCell ⟨w.heap.size + 1, 8, none⟩ (.int .i64 t1)).setCell ⟨w.heap.size + 1, 9, none⟩ (.slice c_vi1 zi1.length d_vi1)) = W →
      Blk W (w.heap.size + 1) #[.slice c_vo0 zo0.length d_vo0, .int .i64 s0, .int .i64 a0, .int .i64 t0, .slice c_vi0 zi0.length d_vi0, .slice c_vo1 zo1.length d_vo1, .int .i64 s1, .int .i64 a1, .int .i64 t1, .slice c_vi1 zi1.length d_vi1] 27 ∧ OX w.heap.size m01 W (.slice c_vo0 zo0.length d_vo0) zo0 ∧ OX m01 w1.heap.size W (.slice c_vi0 zi0.length d_vi0) zi0 ∧ OX w1.heap.size m11 W (.slice c_vo1 zo1.length d_vo1) zo1 ∧ OX m11 W.heap.size W (.slice c_vi1 zi1.length d_vi1) zi1 ∧ Below w.heap.size w W) := by
    intro W hW
    have hz : W.heap.size = w3.heap.size := by rw [← hW]; simp
    have hf : Fr (fun k => k = w.heap.size + 1 + 1 ∨ k = w.heap.size + 1) w3 W := by
      rw [← hW]
      exact (Fr.ofGrown (grown_setW [.slice c_vo1 zo1.length d_vo1, .int .i64 s1, .int .i64 a1, .int .i64 t1, .slice c_vi1 zi1.length d_vi1] w3 (w.heap.size + 1 + 1) 5) (fun k e => .inl (Option.some.inj e).symm)).trans (Fr.ofGrown (grown_setW [.slice c_vo0 zo0.length d_vo0, .int .i64 s0, .int .i64 a0, .int .i64 t0, .slice c_vi0 zi0.length d_vi0, .slice c_vo1 zo1.length d_vo1, .int .i64 s1, .int .i64 a1, .int .i64 t1, .slice c_vi1 zi1.length d_vi1] _ (w.heap.size + 1) 0) (fun k e => .inr (Option.some.inj e).symm))
    have L_vo1 := o_uvo1.le
    have L_vi1 := o_uvi1.le
    have r_vo0 := (P_vo0.out.below bw3).fr hf (fun k h1 h2 => by omega)
    have r_vi0 := (P_vi0.out.below bw3).fr hf (fun k h1 h2 => by omega)
    have r_vo1 := o_uvo1.fr hf (fun k h1 h2 => by omega)
    have r_vi1 := o_uvi1.fr hf (fun k h1 h2 => by omega)
    refine ⟨?_, r_vo0.mono (by omega) (by omega), r_vi0.mono (by omega) (by omega), r_vo1.mono (by omega) (by omega), r_vi1.mono (by omega) (by omega), (belowCall HB2.out bw3 HB2.out.size).trans (hf.below (by omega) (fun k e => by omega))⟩
    rw [← hW]
    exact (k1.setWo (w.heap.size + 1 + 1) 5 [.slice c_vo1 zo1.length d_vo1, .int .i64 s1, .int .i64 a1, .int .i64 t1, .slice c_vi1 zi1.length d_vi1] (by omega)).setAll [.slice c_vo0 zo0.length d_vo0, .int .i64 s0, .int .i64 a0, .int .i64 t0, .slice c_vi0 zi0.length d_vi0, .slice c_vo1 zo1.length d_vo1, .int .i64 s1, .int .i64 a1, .int .i64 t1, .slice c_vi1 zi1.length d_vi1] rfl
  have y0 := k1.cell 0
  have yf0 := k1.frozen 0
  have g0 := k2.cell 0
  have y1 := k1.cell 1
  have yf1 := k1.frozen 1
  have g1 := k2.cell 1
  have y2 := k1.cell 2
  have yf2 := k1.frozen 2
  have g2 := k2.cell 2
  have y3 := k1.cell 3
  have yf3 := k1.frozen 3
  have g3 := k2.cell 3
  have y4 := k1.cell 4
  have yf4 := k1.frozen 4
  have g4 := k2.cell 4
  have y5 := k1.cell 5
  have yf5 := k1.frozen 5
  have g5 := k2.cell 5
  have y6 := k1.cell 6
  have yf6 := k1.frozen 6
  have g6 := k2.cell 6
  have y7 := k1.cell 7
  have yf7 := k1.frozen 7
  have g7 := k2.cell 7
  have y8 := k1.cell 8
  have yf8 := k1.frozen 8
  have g8 := k2.cell 8
  have y9 := k1.cell 9
  have yf9 := k1.frozen 9
  have g9 := k2.cell 9
  have gf5 := k2.frozen 5
  have gf6 := k2.frozen 6
  have gf7 := k2.frozen 7
  have gf8 := k2.frozen 8
  have gf9 := k2.frozen 9
  simp at y0 g0 y1 g1 y2 g2 y3 g3 y4 g4 y5 g5 y6 g6 y7 g7 y8 g8 y9 g9
  have lk1 := k1.lt
  have lk3 := k2.lt
  clear k1 k2 bw3 HB2 Q0 Q1 Q2 o_uvo1 o_uvi1 P_vo0 P_vi0 d0 df0 d1 df1 d2 df2 d3 df3 d4 df4 x5 x6 x7 x8 x9 lk2 lk0
  go_wp2
  rw [rounds_succ]
  go_wp2
  exact bodyPost_ret (v := .agg #[.slice c_vo0 zo0.length d_vo0, .int .i64 s0, .int .i64 a0, .int .i64 t0, .slice c_vi0 zi0.length d_vi0, .slice c_vo1 zo1.length d_vo1, .int .i64 s1, .int .i64 a1, .int .i64 t1, .slice c_vi1 zi1.length d_vi1]) (results_cell_row rfl _ _ _ 27 _ (0, 0) _ rfl (HF.out _ rfl).1 Try.underlying27 rfl infoA27) rfl ⟨_, _, _, _, _, _, _, rfl, (HF.out _ rfl).2⟩
set_option maxHeartbeats 1600000 in
theorem szEndA2_c (vo0 vi0 vo1 vi1 : Value) (s0 a0 t0 s1 a1 t1 : Int) (zo0 zi0 zo1 zi1 : Txs) (L : Int) (w : World) (hL0 : 0 ≤ L) (hL : L ≤ 1048576) (hvo0 : Rx w vo0 zo0) (hvi0 : Rx w vi0 zi0) (hvo1 : Rx w vo1 zo1) (hvi1 : Rx w vi1 zi1) (mvo0 : ∀ r ∈ zo0, r.size ≤ maxLen) (mvi0 : ∀ r ∈ zi0, r.size ≤ maxLen) (mvo1 : ∀ r ∈ zo1, r.size ≤ maxLen) (mvi1 : ∀ r ∈ zi1, r.size ≤ maxLen) :
    Calls Try.prog 46 #[.agg #[vo0, .int .i64 s0, .int .i64 a0, .int .i64 t0, vi0, vo1, .int .i64 s1, .int .i64 a1, .int .i64 t1, vi1], .int .i64 L] w fun e w' => ∃ z : Int, e = .returned (.int .i64 z) ∧ -1 ≤ z ∧ z ≤ L ∧ (0 ≤ z → (zo0.length ≤ 1048576 ∧ ∀ r ∈ zo0, r.size ≤ 1048576) ∧ (zi0.length ≤ 1048576 ∧ ∀ r ∈ zi0, r.size ≤ 1048576) ∧ (zo1.length ≤ 1048576 ∧ ∀ r ∈ zo1, r.size ≤ 1048576) ∧ (zi1.length ≤ 1048576 ∧ ∀ r ∈ zi1, r.size ≤ 1048576)) ∧ Below w.heap.size w w' := by
  obtain ⟨W0, hW0⟩ : ∃ W0, w.alloc (Obj.cells #[vo0, .int .i64 s0, .int .i64 a0, .int .i64 t0, vi0, vo1, .int .i64 s1, .int .i64 a1, .int .i64 t1, vi1] 42) = W0 := ⟨_, rfl⟩
  have HB : Hid (Below w.heap.size w W0) := by rw [← hW0]; exact (Below.refl _ _).alloc (Nat.le_refl _) _
  have K0 : Hid (Blk W0 w.heap.size #[vo0, .int .i64 s0, .int .i64 a0, .int .i64 t0, vi0, vo1, .int .i64 s1, .int .i64 a1, .int .i64 t1, vi1] 42) := by rw [← hW0]; exact Blk.new _ _ _
  have Hvo0 : Hid (Rx w vo0 zo0) := hvo0
  have Mvo0 : Hid (∀ r ∈ zo0, r.size ≤ maxLen) := mvo0
  have Hvi0 : Hid (Rx w vi0 zi0) := hvi0
  have Mvi0 : Hid (∀ r ∈ zi0, r.size ≤ maxLen) := mvi0
  have Hvo1 : Hid (Rx w vo1 zo1) := hvo1
  have Mvo1 : Hid (∀ r ∈ zo1, r.size ≤ maxLen) := mvo1
  have Hvi1 : Hid (Rx w vi1 zi1) := hvi1
  have Mvi1 : Hid (∀ r ∈ zi1, r.size ≤ maxLen) := mvi1
  obtain ⟨a_vo0, p_vo0, e_vo0, -⟩ := hvo0
  obtain ⟨a_vi0, p_vi0, e_vi0, -⟩ := hvi0
  obtain ⟨a_vo1, p_vo1, e_vo1, -⟩ := hvo1
  obtain ⟨a_vi1, p_vi1, e_vi1, -⟩ := hvi1
  subst e_vo0 e_vi0 e_vo1 e_vi1
  have x0 := K0.out.cell 0
  have x1 := K0.out.cell 1
  have x2 := K0.out.cell 2
  have x3 := K0.out.cell 3
  have x4 := K0.out.cell 4
  simp at x0 x1 x2 x3 x4
  clear mvo0 mvi0 mvo1 mvi1
  go_enter Try.func46, Try.ntmps46
  go_wp2
  refine wp_loop_rounds 3 ?_
  rw [rounds_succ]
  go_wp2_with (fail)
  clear hW0
  refine (szEnd_c _ _ _ _ _ zo0 zi0 L W0 hL0 hL (Hvo0.out.below HB.out) (Hvi0.out.below HB.out) Mvo0.out Mvi0.out).mono ?_
  rintro e w1 ⟨z, rfl, hz0, hz1, hz2, b1⟩
  have HB1 : Hid (Below w.heap.size w w1) := belowCall HB.out b1 HB.out.size
  have Q0 : Hid (Blk w1 w.heap.size #[.slice a_vo0 zo0.length p_vo0, .int .i64 s0, .int .i64 a0, .int .i64 t0, .slice a_vi0 zi0.length p_vi0, .slice a_vo1 zo1.length p_vo1, .int .i64 s1, .int .i64 a1, .int .i64 t1, .slice a_vi1 zi1.length p_vi1] 42) := K0.out.below b1 K0.out.lt
  have HZ : Hid (0 ≤ z → (zo0.length ≤ 1048576 ∧ ∀ r ∈ zo0, r.size ≤ 1048576) ∧ (zi0.length ≤ 1048576 ∧ ∀ r ∈ zi0, r.size ≤ 1048576)) := fun h => hz2 h
  have x5 := Q0.out.cell 5
  have x6 := Q0.out.cell 6
  have x7 := Q0.out.cell 7
  have x8 := Q0.out.cell 8
  have x9 := Q0.out.cell 9
  simp at x5 x6 x7 x8 x9
  clear b1 hz2 K0 HB x0 x1 x2 x3 x4
  by_cases hneg : z < 0
  · go_wp2
    go_ret
    exact ⟨-1, rfl, by omega, by omega, fun h => absurd h (by omega), HB1.out⟩
  have HP : Hid ((zo0.length ≤ 1048576 ∧ ∀ r ∈ zo0, r.size ≤ 1048576) ∧ (zi0.length ≤ 1048576 ∧ ∀ r ∈ zi0, r.size ≤ 1048576)) := HZ.out (by omega)
  clear HZ
  go_wp2
  rw [rounds_succ]
  go_wp2_with (fail)
  refine (szEnd_c _ _ _ _ _ zo1 zi1 z w1 (by omega) (by omega) (Hvo1.out.below HB1.out) (Hvi1.out.below HB1.out) Mvo1.out Mvi1.out).mono ?_
  rintro e w2 ⟨y, rfl, hy0, hy1, hy2, b2⟩
  have HB2 : Hid (Below w.heap.size w w2) := belowCall HB1.out b2 HB1.out.size
  have HZ : Hid (0 ≤ y → (zo1.length ≤ 1048576 ∧ ∀ r ∈ zo1, r.size ≤ 1048576) ∧ (zi1.length ≤ 1048576 ∧ ∀ r ∈ zi1, r.size ≤ 1048576)) := fun h => hy2 h
  clear b2 hy2 HB1 Q0 x5 x6 x7 x8 x9
  by_cases hneg2 : y < 0
  · go_wp2
    go_ret
    exact ⟨-1, rfl, by omega, by omega, fun h => absurd h (by omega), HB2.out⟩
  go_wp2
  rw [rounds_succ]
  go_wp2
  go_ret
  exact ⟨_, rfl, by omega, by omega, fun h => ⟨HP.out.1, HP.out.2, HZ.out h⟩, HB2.out⟩
set_option maxHeartbeats 3200000 in
theorem eqEndA2_t (vo0 vi0 vo1 vi1 vo0' vi0' vo1' vi1' : Value) (s0 a0 t0 s1 a1 t1 : Int) (zo0 zi0 zo1 zi1 : Txs) (w : World) (hvo0 : Rx w vo0 zo0) (hvi0 : Rx w vi0 zi0) (hvo1 : Rx w vo1 zo1) (hvi1 : Rx w vi1 zi1) (gvo0 : Rx w vo0' zo0) (gvi0 : Rx w vi0' zi0) (gvo1 : Rx w vo1' zo1) (gvi1 : Rx w vi1' zi1) :
    Calls Try.prog 50 #[.agg #[vo0, .int .i64 s0, .int .i64 a0, .int .i64 t0, vi0, vo1, .int .i64 s1, .int .i64 a1, .int .i64 t1, vi1], .agg #[vo0', .int .i64 s0, .int .i64 a0, .int .i64 t0, vi0', vo1', .int .i64 s1, .int .i64 a1, .int .i64 t1, vi1']] w fun e w' => e = .returned (.bool true) ∧ Below w.heap.size w w' := by
  obtain ⟨W0, hW0⟩ : ∃ W0, (w.alloc (Obj.cells #[vo0, .int .i64 s0, .int .i64 a0, .int .i64 t0, vi0, vo1, .int .i64 s1, .int .i64 a1, .int .i64 t1, vi1] 27)).alloc (Obj.cells #[vo0', .int .i64 s0, .int .i64 a0, .int .i64 t0, vi0', vo1', .int .i64 s1, .int .i64 a1, .int .i64 t1, vi1'] 27) = W0 := ⟨_, rfl⟩
  have HB : Hid (Below w.heap.size w W0) := by rw [← hW0]; exact ((Below.refl _ _).alloc (Nat.le_refl _) _).alloc (by simp) _
  have K0 : Hid (Blk W0 w.heap.size #[vo0, .int .i64 s0, .int .i64 a0, .int .i64 t0, vi0, vo1, .int .i64 s1, .int .i64 a1, .int .i64 t1, vi1] 27) := by rw [← hW0]; exact (Blk.new _ _ _).alloc _
  have K1 : Hid (Blk W0 (w.heap.size + 1) #[vo0', .int .i64 s0, .int .i64 a0, .int .i64 t0, vi0', vo1', .int .i64 s1, .int .i64 a1, .int .i64 t1, vi1'] 27) := by rw [← hW0]; exact Blk.newAt _ (w.heap.size + 1) _ 27 (by simp)
  have C0 : Hid (∀ W, Below w.heap.size w W → Calls Try.prog 83 #[(.agg (E5 vo0 vi0 s0 a0 t0)), (.agg (E5 vo0' vi0' s0 a0 t0))] W fun e w' => e = .returned (.bool true) ∧ Below W.heap.size W w') := fun W hW => eqEnd_t _ _ _ _ _ _ _ zo0 zi0 W (hvo0.below hW) (hvi0.below hW) (gvo0.below hW) (gvi0.below hW)
  have C1 : Hid (∀ W, Below w.heap.size w W → Calls Try.prog 83 #[(.agg (E5 vo1 vi1 s1 a1 t1)), (.agg (E5 vo1' vi1' s1 a1 t1))] W fun e w' => e = .returned (.bool true) ∧ Below W.heap.size W w') := fun W hW => eqEnd_t _ _ _ _ _ _ _ zo1 zi1 W (hvo1.below hW) (hvi1.below hW) (gvo1.below hW) (gvi1.below hW)
  obtain ⟨a_vo0, p_vo0, e_vo0, -⟩ := hvo0
  obtain ⟨c_vo0, d_vo0, f_vo0, -⟩ := gvo0
  obtain ⟨a_vi0, p_vi0, e_vi0, -⟩ := hvi0
  obtain ⟨c_vi0, d_vi0, f_vi0, -⟩ := gvi0
  obtain ⟨a_vo1, p_vo1, e_vo1, -⟩ := hvo1
  obtain ⟨c_vo1, d_vo1, f_vo1, -⟩ := gvo1
  obtain ⟨a_vi1, p_vi1, e_vi1, -⟩ := hvi1
  obtain ⟨c_vi1, d_vi1, f_vi1, -⟩ := gvi1
  subst e_vo0 f_vo0 e_vi0 f_vi0 e_vo1 f_vo1 e_vi1 f_vi1
  go_enter Try.func50, Try.ntmps50
  go_wp2
  clear hW0
  refine wp_loop_rounds 3 ?_
  rw [rounds_succ]
  have y0 : ∀ W : Ov W0, W.wd.cell? ⟨w.heap.size, 0, none⟩ = some ((.slice a_vo0 zo0.length p_vo0)) := ov_cell (K0.out.cell 0)
  have x0 : ∀ W : Ov W0, W.wd.cell? ⟨w.heap.size + 1, 0, none⟩ = some ((.slice c_vo0 zo0.length d_vo0)) := ov_cell (K1.out.cell 0)
  have y1 : ∀ W : Ov W0, W.wd.cell? ⟨w.heap.size, 1, none⟩ = some (.int .i64 s0) := ov_cell (K0.out.cell 1)
  have x1 : ∀ W : Ov W0, W.wd.cell? ⟨w.heap.size + 1, 1, none⟩ = some (.int .i64 s0) := ov_cell (K1.out.cell 1)
  have y2 : ∀ W : Ov W0, W.wd.cell? ⟨w.heap.size, 2, none⟩ = some (.int .i64 a0) := ov_cell (K0.out.cell 2)
  have x2 : ∀ W : Ov W0, W.wd.cell? ⟨w.heap.size + 1, 2, none⟩ = some (.int .i64 a0) := ov_cell (K1.out.cell 2)
  have y3 : ∀ W : Ov W0, W.wd.cell? ⟨w.heap.size, 3, none⟩ = some (.int .i64 t0) := ov_cell (K0.out.cell 3)
  have x3 : ∀ W : Ov W0, W.wd.cell? ⟨w.heap.size + 1, 3, none⟩ = some (.int .i64 t0) := ov_cell (K1.out.cell 3)
  have y4 : ∀ W : Ov W0, W.wd.cell? ⟨w.heap.size, 4, none⟩ = some ((.slice a_vi0 zi0.length p_vi0)) := ov_cell (K0.out.cell 4)
  have x4 : ∀ W : Ov W0, W.wd.cell? ⟨w.heap.size + 1, 4, none⟩ = some ((.slice c_vi0 zi0.length d_vi0)) := ov_cell (K1.out.cell 4)
  have ne0 : Nonempty (Ov W0) := ⟨⟨_, Below.refl _ _⟩⟩
  have HC0 : Hid (∀ W : Ov W0, Calls Try.prog 83 #[(.agg (E5 (.slice a_vo0 zo0.length p_vo0) (.slice a_vi0 zi0.length p_vi0) s0 a0 t0)), (.agg (E5 (.slice c_vo0 zo0.length d_vo0) (.slice c_vi0 zi0.length d_vi0) s0 a0 t0))] W.wd fun e w'' => e = .returned (.bool true) ∧ ∃ W' : Ov W0, w'' = W'.wd) := fun W => ov_call (C0.out W.wd (belowCall HB.out W.ok HB.out.size))
  go_wp2
  refine region_over (by kernel_rfl) (by kernel_rfl) ?_
  repeat (go_big_quiet_step (first | (go_at_call 83; exact HC0.out _)))
  refine wpQuiet_nil ?_
  rintro _ ⟨V0, rfl⟩
  have HBv0 : Hid (Below w.heap.size w V0.wd) := belowCall HB.out V0.ok HB.out.size
  have Ka0 : Hid (Blk V0.wd w.heap.size #[.slice a_vo0 zo0.length p_vo0, .int .i64 s0, .int .i64 a0, .int .i64 t0, .slice a_vi0 zi0.length p_vi0, .slice a_vo1 zo1.length p_vo1, .int .i64 s1, .int .i64 a1, .int .i64 t1, .slice a_vi1 zi1.length p_vi1] 27) := K0.out.below V0.ok K0.out.lt
  have Kb0 : Hid (Blk V0.wd (w.heap.size + 1) #[.slice c_vo0 zo0.length d_vo0, .int .i64 s0, .int .i64 a0, .int .i64 t0, .slice c_vi0 zi0.length d_vi0, .slice c_vo1 zo1.length d_vo1, .int .i64 s1, .int .i64 a1, .int .i64 t1, .slice c_vi1 zi1.length d_vi1] 27) := K1.out.below V0.ok K1.out.lt
  clear HC0 y0 x0 y1 x1 y2 x2 y3 x3 y4 x4 ne0
  go_wp2
  rw [rounds_succ]
  have y0 : ∀ W : Ov V0.wd, W.wd.cell? ⟨w.heap.size, 5, none⟩ = some ((.slice a_vo1 zo1.length p_vo1)) := ov_cell (Ka0.out.cell 5)
  have x0 : ∀ W : Ov V0.wd, W.wd.cell? ⟨w.heap.size + 1, 5, none⟩ = some ((.slice c_vo1 zo1.length d_vo1)) := ov_cell (Kb0.out.cell 5)
  have y1 : ∀ W : Ov V0.wd, W.wd.cell? ⟨w.heap.size, 6, none⟩ = some (.int .i64 s1) := ov_cell (Ka0.out.cell 6)
  have x1 : ∀ W : Ov V0.wd, W.wd.cell? ⟨w.heap.size + 1, 6, none⟩ = some (.int .i64 s1) := ov_cell (Kb0.out.cell 6)
  have y2 : ∀ W : Ov V0.wd, W.wd.cell? ⟨w.heap.size, 7, none⟩ = some (.int .i64 a1) := ov_cell (Ka0.out.cell 7)
  have x2 : ∀ W : Ov V0.wd, W.wd.cell? ⟨w.heap.size + 1, 7, none⟩ = some (.int .i64 a1) := ov_cell (Kb0.out.cell 7)
  have y3 : ∀ W : Ov V0.wd, W.wd.cell? ⟨w.heap.size, 8, none⟩ = some (.int .i64 t1) := ov_cell (Ka0.out.cell 8)
  have x3 : ∀ W : Ov V0.wd, W.wd.cell? ⟨w.heap.size + 1, 8, none⟩ = some (.int .i64 t1) := ov_cell (Kb0.out.cell 8)
  have y4 : ∀ W : Ov V0.wd, W.wd.cell? ⟨w.heap.size, 9, none⟩ = some ((.slice a_vi1 zi1.length p_vi1)) := ov_cell (Ka0.out.cell 9)
  have x4 : ∀ W : Ov V0.wd, W.wd.cell? ⟨w.heap.size + 1, 9, none⟩ = some ((.slice c_vi1 zi1.length d_vi1)) := ov_cell (Kb0.out.cell 9)
  have ne1 : Nonempty (Ov V0.wd) := ⟨⟨_, Below.refl _ _⟩⟩
  have HC1 : Hid (∀ W : Ov V0.wd, Calls Try.prog 83 #[(.agg (E5 (.slice a_vo1 zo1.length p_vo1) (.slice a_vi1 zi1.length p_vi1) s1 a1 t1)), (.agg (E5 (.slice c_vo1 zo1.length d_vo1) (.slice c_vi1 zi1.length d_vi1) s1 a1 t1))] W.wd fun e w'' => e = .returned (.bool true) ∧ ∃ W' : Ov V0.wd, w'' = W'.wd) := fun W => ov_call (C1.out W.wd (belowCall HBv0.out W.ok HBv0.out.size))
  go_wp2
  refine region_over (by kernel_rfl) (by kernel_rfl) ?_
  repeat (go_big_quiet_step (first | (go_at_call 83; exact HC1.out _)))
  refine wpQuiet_nil ?_
  rintro _ ⟨V1, rfl⟩
  have HBv1 : Hid (Below w.heap.size w V1.wd) := belowCall HBv0.out V1.ok HBv0.out.size
  have Ka1 : Hid (Blk V1.wd w.heap.size #[.slice a_vo0 zo0.length p_vo0, .int .i64 s0, .int .i64 a0, .int .i64 t0, .slice a_vi0 zi0.length p_vi0, .slice a_vo1 zo1.length p_vo1, .int .i64 s1, .int .i64 a1, .int .i64 t1, .slice a_vi1 zi1.length p_vi1] 27) := Ka0.out.below V1.ok Ka0.out.lt
  have Kb1 : Hid (Blk V1.wd (w.heap.size + 1) #[.slice c_vo0 zo0.length d_vo0, .int .i64 s0, .int .i64 a0, .int .i64 t0, .slice c_vi0 zi0.length d_vi0, .slice c_vo1 zo1.length d_vo1, .int .i64 s1, .int .i64 a1, .int .i64 t1, .slice c_vi1 zi1.length d_vi1] 27) := Kb0.out.below V1.ok Kb0.out.lt
  clear HC1 y0 x0 y1 x1 y2 x2 y3 x3 y4 x4 ne1
  go_wp2
  rw [rounds_succ]
  go_wp2
  go_ret
  exact ⟨rfl, HBv1.out⟩
end Go.Proofs.Ytejoopdpelcpeaa

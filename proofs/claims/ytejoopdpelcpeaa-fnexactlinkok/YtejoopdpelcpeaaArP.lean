/- Four rows of units at once: copied, measured, compared; no condition. -/
import Derived.Test.YtejoopdpelcpeaaArS
namespace Go.Proofs.Ytejoopdpelcpeaa
open Go.RowKit Go.ChangeShapes Go.WideShapes Go.ChangeAt
set_option linter.unusedVariables false
set_option linter.unusedSimpArgs false
set_option maxRecDepth 8000
theorem infoA30 : (Try.prog.info? 30).map (·.size) = some 4 := by kernel_rfl
set_option maxHeartbeats 3200000 in
theorem toUnitSA2A2_c (v00 v01 v10 v11 : Value) (l00 l01 l10 l11 : Uns) (w : World) (hv00 : Ru w v00 l00) (hv01 : Ru w v01 l01) (hv10 : Ru w v10 l10) (hv11 : Ru w v11 l11) (nv00 : l00.length ≤ 1048576) (nv01 : l01.length ≤ 1048576) (nv10 : l10.length ≤ 1048576) (nv11 : l11.length ≤ 1048576) :
    Calls Try.prog 49 #[.agg #[v00, v01, v10, v11]] w fun x w' => ∃ yv00 yv01 yv10 yv11 m1 m2 m3, x = .returned (.agg #[yv00, yv01, yv10, yv11]) ∧ OS w.heap.size m1 w' yv00 l00 ∧ OS m1 m2 w' yv01 l01 ∧ OS m2 m3 w' yv10 l10 ∧ OS m3 w'.heap.size w' yv11 l11 ∧ Below w.heap.size w w' := by
  obtain ⟨W0, hW0⟩ : ∃ W0, ((w.alloc (Obj.cells #[v00, v01, v10, v11] 45)).alloc (Obj.cells #[.slice none 0 0, .slice none 0 0, .slice none 0 0, .slice none 0 0] 30)).alloc (Obj.cells #[.slice none 0 0, .slice none 0 0, .slice none 0 0, .slice none 0 0] 30) = W0 := ⟨_, rfl⟩
  have zs : W0.heap.size = w.heap.size + 3 := by rw [← hW0]; simp
  have HB : Hid (Below w.heap.size w W0) := by rw [← hW0]; exact (((Below.refl _ _).alloc (Nat.le_refl _) _).alloc (by simp) _).alloc (by simp; omega) _
  have K0 : Hid (Blk W0 w.heap.size #[v00, v01, v10, v11] 45) := by rw [← hW0]; exact ((Blk.new _ _ _).alloc _).alloc _
  have K1 : Hid (Blk W0 (w.heap.size + 1) #[.slice none 0 0, .slice none 0 0, .slice none 0 0, .slice none 0 0] 30) := by rw [← hW0]; exact (Blk.newAt _ (w.heap.size + 1) _ 30 (by simp)).alloc _
  have K2 : Hid (Blk W0 (w.heap.size + 1 + 1) #[.slice none 0 0, .slice none 0 0, .slice none 0 0, .slice none 0 0] 30) := by rw [← hW0]; exact Blk.newAt _ (w.heap.size + 1 + 1) _ 30 (by simp)
  have Hv00 : Hid (Ru w v00 l00) := hv00
  have Hv01 : Hid (Ru w v01 l01) := hv01
  have Hv10 : Hid (Ru w v10 l10) := hv10
  have Hv11 : Hid (Ru w v11 l11) := hv11
  obtain ⟨a_v00, p_v00, e_v00, -⟩ := hv00
  obtain ⟨a_v01, p_v01, e_v01, -⟩ := hv01
  obtain ⟨a_v10, p_v10, e_v10, -⟩ := hv10
  obtain ⟨a_v11, p_v11, e_v11, -⟩ := hv11
  subst e_v00 e_v01 e_v10 e_v11
  have x0 := K0.out.cell 0
  have x1 := K0.out.cell 1
  simp at x0 x1
  go_enter Try.func49, Try.ntmps49
  go_wp2
  refine wp_loop_rounds 3 ?_
  rw [rounds_succ]
  go_wp2_with (fail)
  clear hW0
  refine (toUnitSA2_c _ _  l00 l01 W0 (Hv00.out.below HB.out) (Hv01.out.below HB.out) nv00 nv01).mono ?_
  rintro e w1 ⟨uv00, uv01, m01, rfl, o_uv00, o_uv01, bw1⟩
  obtain ⟨c_v00, d_v00, e_v00⟩ := o_uv00.form
  obtain ⟨c_v01, d_v01, e_v01⟩ := o_uv01.form
  subst e_v00 e_v01
  have k0 := K0.out.below bw1 K0.out.lt
  have k1 := K1.out.below bw1 K1.out.lt
  have k2 := K2.out.below bw1 K2.out.lt
  have z1 : W0.heap.size ≤ w1.heap.size := bw1.size
  obtain ⟨W2, hW2⟩ : ∃ W, ((w1.setCell ⟨w.heap.size + 1 + 1, 0, none⟩ (.slice c_v00 l00.length d_v00)).setCell ⟨w.heap.size + 1 + 1, 1, none⟩ (.slice c_v01 l01.length d_v01)) = W := ⟨_, rfl⟩
  have z2 : W2.heap.size = w1.heap.size := by rw [← hW2]; simp
  have hf : Fr (fun k => k = w.heap.size + 1 + 1) w1 W2 := by
    rw [← hW2]
    exact Fr.ofGrown (grown_setW [.slice c_v00 l00.length d_v00, .slice c_v01 l01.length d_v01] w1 (w.heap.size + 1 + 1) 0) (fun k e => (Option.some.inj e).symm)
  have P_v00 : Hid (OS W0.heap.size m01 W2 (.slice c_v00 l00.length d_v00) l00) := o_uv00.fr hf (fun k h1 h2 => by omega)
  have L_v00 := o_uv00.le
  have P_v01 : Hid (OS m01 w1.heap.size W2 (.slice c_v01 l01.length d_v01) l01) := o_uv01.fr hf (fun k h1 h2 => by have := o_uv00.le; omega)
  have L_v01 := o_uv01.le
  have Q0 : Hid (Blk W2 w.heap.size #[.slice a_v00 l00.length p_v00, .slice a_v01 l01.length p_v01, .slice a_v10 l10.length p_v10, .slice a_v11 l11.length p_v11] 45) := k0.fr hf (by omega)
  have Q1 : Hid (Blk W2 (w.heap.size + 1) #[.slice none 0 0, .slice none 0 0, .slice none 0 0, .slice none 0 0] 30) := k1.fr hf (by omega)
  have Q2 : Hid (Blk W2 (w.heap.size + 1 + 1) #[.slice c_v00 l00.length d_v00, .slice c_v01 l01.length d_v01, .slice none 0 0, .slice none 0 0] 30) := by
    rw [← hW2]; exact k2.setWs [.slice c_v00 l00.length d_v00, .slice c_v01 l01.length d_v01] 0
  have HB2 : Hid (Below w.heap.size w W2) := (belowCall HB.out bw1 HB.out.size).trans (hf.below (by omega) (fun k e => by omega))
  have x2 := Q0.out.cell 2
  have x3 := Q0.out.cell 3
  have d0 := k2.cell 0
  have df0 := k2.frozen 0
  have d1 := k2.cell 1
  have df1 := k2.frozen 1
  simp at x2 x3 d0 d1
  have lk0 := k0.lt
  have lk2 := k2.lt
  clear k0 k1 k2 bw1 hf HB K0 K1 K2 o_uv00 o_uv01 x0 x1
  go_wp2
  rw [rounds_succ]
  go_wp2_with (fail)
  clear hW2
  refine (toUnitSA2_c _ _  l10 l11 W2 (Hv10.out.below HB2.out) (Hv11.out.below HB2.out) nv10 nv11).mono ?_
  rintro e w3 ⟨uv10, uv11, m11, rfl, o_uv10, o_uv11, bw3⟩
  obtain ⟨c_v10, d_v10, e_v10⟩ := o_uv10.form
  obtain ⟨c_v11, d_v11, e_v11⟩ := o_uv11.form
  subst e_v10 e_v11
  have k1 := Q1.out.below bw3 Q1.out.lt
  have k2 := Q2.out.below bw3 Q2.out.lt
  have z3 : W2.heap.size ≤ w3.heap.size := bw3.size
  have HF : Hid (∀ W, ((((((w3.setCell ⟨w.heap.size + 1 + 1, 2, none⟩ (.slice c_v10 l10.length d_v10)).setCell ⟨w.heap.size + 1 + 1, 3, none⟩ (.slice c_v11 l11.length d_v11)).setCell ⟨w.heap.size + 1, 0, none⟩ (.slice c_v00 l00.length d_v00)).setCell ⟨w.heap.size + 1, 1, none⟩ (.slice c_v01 l01.length d_v01)).setCell ⟨w.heap.size + 1, 2, none⟩ (.slice c_v10 l10.length d_v10)).setCell ⟨w.heap.size + 1, 3, none⟩ (.slice c_v11 l11.length d_v11)) = W →
      Blk W (w.heap.size + 1) #[.slice c_v00 l00.length d_v00, .slice c_v01 l01.length d_v01, .slice c_v10 l10.length d_v10, .slice c_v11 l11.length d_v11] 30 ∧ OS w.heap.size m01 W (.slice c_v00 l00.length d_v00) l00 ∧ OS m01 w1.heap.size W (.slice c_v01 l01.length d_v01) l01 ∧ OS w1.heap.size m11 W (.slice c_v10 l10.length d_v10) l10 ∧ OS m11 W.heap.size W (.slice c_v11 l11.length d_v11) l11 ∧ Below w.heap.size w W) := by
    intro W hW
    have hz : W.heap.size = w3.heap.size := by rw [← hW]; simp
    have hf : Fr (fun k => k = w.heap.size + 1 + 1 ∨ k = w.heap.size + 1) w3 W := by
      rw [← hW]
      exact (Fr.ofGrown (grown_setW [.slice c_v10 l10.length d_v10, .slice c_v11 l11.length d_v11] w3 (w.heap.size + 1 + 1) 2) (fun k e => .inl (Option.some.inj e).symm)).trans (Fr.ofGrown (grown_setW [.slice c_v00 l00.length d_v00, .slice c_v01 l01.length d_v01, .slice c_v10 l10.length d_v10, .slice c_v11 l11.length d_v11] _ (w.heap.size + 1) 0) (fun k e => .inr (Option.some.inj e).symm))
    have L_v10 := o_uv10.le
    have L_v11 := o_uv11.le
    have r_v00 := (P_v00.out.below bw3).fr hf (fun k h1 h2 => by omega)
    have r_v01 := (P_v01.out.below bw3).fr hf (fun k h1 h2 => by omega)
    have r_v10 := o_uv10.fr hf (fun k h1 h2 => by omega)
    have r_v11 := o_uv11.fr hf (fun k h1 h2 => by omega)
    refine ⟨?_, r_v00.mono (by omega) (by omega), r_v01.mono (by omega) (by omega), r_v10.mono (by omega) (by omega), r_v11.mono (by omega) (by omega), (belowCall HB2.out bw3 HB2.out.size).trans (hf.below (by omega) (fun k e => by omega))⟩
    rw [← hW]
    exact (k1.setWo (w.heap.size + 1 + 1) 2 [.slice c_v10 l10.length d_v10, .slice c_v11 l11.length d_v11] (by omega)).setAll [.slice c_v00 l00.length d_v00, .slice c_v01 l01.length d_v01, .slice c_v10 l10.length d_v10, .slice c_v11 l11.length d_v11] rfl
  have y0 := k1.cell 0
  have yf0 := k1.frozen 0
  have g0 := k2.cell 0
  have y1 := k1.cell 1
  have yf1 := k1.frozen 1
  have g1 := k2.cell 1
  have y2 := k1.cell 2
  have yf2 := k1.frozen 2
  have g2 := k2.cell 2
  have y3 := k1.cell 3
  have yf3 := k1.frozen 3
  have g3 := k2.cell 3
  have gf2 := k2.frozen 2
  have gf3 := k2.frozen 3
  simp at y0 g0 y1 g1 y2 g2 y3 g3
  have lk1 := k1.lt
  have lk3 := k2.lt
  clear k1 k2 bw3 HB2 Q0 Q1 Q2 o_uv10 o_uv11 P_v00 P_v01 d0 df0 d1 df1 x2 x3 lk2 lk0
  go_wp2
  rw [rounds_succ]
  go_wp2
  exact bodyPost_ret (v := .agg #[.slice c_v00 l00.length d_v00, .slice c_v01 l01.length d_v01, .slice c_v10 l10.length d_v10, .slice c_v11 l11.length d_v11]) (results_cell_row rfl _ _ _ 30 _ (0, 0) _ rfl (HF.out _ rfl).1 Try.underlying30 rfl infoA30) rfl ⟨_, _, _, _, _, _, _, rfl, (HF.out _ rfl).2⟩
set_option maxHeartbeats 1600000 in
theorem szUnitSA2A2_c (v00 v01 v10 v11 : Value) (l00 l01 l10 l11 : Uns) (L : Int) (w : World) (hL0 : 0 ≤ L) (hL : L ≤ 1048576) (hv00 : Ru w v00 l00) (hv01 : Ru w v01 l01) (hv10 : Ru w v10 l10) (hv11 : Ru w v11 l11) (mv00 : ∀ r ∈ l00, r.dat.size ≤ maxLen) (mv01 : ∀ r ∈ l01, r.dat.size ≤ maxLen) (mv10 : ∀ r ∈ l10, r.dat.size ≤ maxLen) (mv11 : ∀ r ∈ l11, r.dat.size ≤ maxLen) :
    Calls Try.prog 47 #[.agg #[v00, v01, v10, v11], .int .i64 L] w fun e w' => ∃ z : Int, e = .returned (.int .i64 z) ∧ -1 ≤ z ∧ z ≤ L ∧ (0 ≤ z → (l00.length ≤ 1048576 ∧ ∀ r ∈ l00, r.dat.size ≤ 1048576) ∧ (l01.length ≤ 1048576 ∧ ∀ r ∈ l01, r.dat.size ≤ 1048576) ∧ (l10.length ≤ 1048576 ∧ ∀ r ∈ l10, r.dat.size ≤ 1048576) ∧ (l11.length ≤ 1048576 ∧ ∀ r ∈ l11, r.dat.size ≤ 1048576)) ∧ Below w.heap.size w w' := by
  obtain ⟨W0, hW0⟩ : ∃ W0, w.alloc (Obj.cells #[v00, v01, v10, v11] 45) = W0 := ⟨_, rfl⟩
  have HB : Hid (Below w.heap.size w W0) := by rw [← hW0]; exact (Below.refl _ _).alloc (Nat.le_refl _) _
  have K0 : Hid (Blk W0 w.heap.size #[v00, v01, v10, v11] 45) := by rw [← hW0]; exact Blk.new _ _ _
  have Hv00 : Hid (Ru w v00 l00) := hv00
  have Mv00 : Hid (∀ r ∈ l00, r.dat.size ≤ maxLen) := mv00
  have Hv01 : Hid (Ru w v01 l01) := hv01
  have Mv01 : Hid (∀ r ∈ l01, r.dat.size ≤ maxLen) := mv01
  have Hv10 : Hid (Ru w v10 l10) := hv10
  have Mv10 : Hid (∀ r ∈ l10, r.dat.size ≤ maxLen) := mv10
  have Hv11 : Hid (Ru w v11 l11) := hv11
  have Mv11 : Hid (∀ r ∈ l11, r.dat.size ≤ maxLen) := mv11
  obtain ⟨a_v00, p_v00, e_v00, -⟩ := hv00
  obtain ⟨a_v01, p_v01, e_v01, -⟩ := hv01
  obtain ⟨a_v10, p_v10, e_v10, -⟩ := hv10
  obtain ⟨a_v11, p_v11, e_v11, -⟩ := hv11
  subst e_v00 e_v01 e_v10 e_v11
  have x0 := K0.out.cell 0
  have x1 := K0.out.cell 1
  simp at x0 x1
  clear mv00 mv01 mv10 mv11
  go_enter Try.func47, Try.ntmps47
  go_wp2
  refine wp_loop_rounds 3 ?_
  rw [rounds_succ]
  go_wp2_with (fail)
  clear hW0
  refine (szUnitSA2_c _ _  l00 l01 L W0 hL0 hL (Hv00.out.below HB.out) (Hv01.out.below HB.out) Mv00.out Mv01.out).mono ?_
  rintro e w1 ⟨z, rfl, hz0, hz1, hz2, b1⟩
  have HB1 : Hid (Below w.heap.size w w1) := belowCall HB.out b1 HB.out.size
  have Q0 : Hid (Blk w1 w.heap.size #[.slice a_v00 l00.length p_v00, .slice a_v01 l01.length p_v01, .slice a_v10 l10.length p_v10, .slice a_v11 l11.length p_v11] 45) := K0.out.below b1 K0.out.lt
  have HZ : Hid (0 ≤ z → (l00.length ≤ 1048576 ∧ ∀ r ∈ l00, r.dat.size ≤ 1048576) ∧ (l01.length ≤ 1048576 ∧ ∀ r ∈ l01, r.dat.size ≤ 1048576)) := fun h => hz2 h
  have x2 := Q0.out.cell 2
  have x3 := Q0.out.cell 3
  simp at x2 x3
  clear b1 hz2 K0 HB x0 x1
  by_cases hneg : z < 0
  · go_wp2
    go_ret
    exact ⟨-1, rfl, by omega, by omega, fun h => absurd h (by omega), HB1.out⟩
  have HP : Hid ((l00.length ≤ 1048576 ∧ ∀ r ∈ l00, r.dat.size ≤ 1048576) ∧ (l01.length ≤ 1048576 ∧ ∀ r ∈ l01, r.dat.size ≤ 1048576)) := HZ.out (by omega)
  clear HZ
  go_wp2
  rw [rounds_succ]
  go_wp2_with (fail)
  refine (szUnitSA2_c _ _  l10 l11 z w1 (by omega) (by omega) (Hv10.out.below HB1.out) (Hv11.out.below HB1.out) Mv10.out Mv11.out).mono ?_
  rintro e w2 ⟨y, rfl, hy0, hy1, hy2, b2⟩
  have HB2 : Hid (Below w.heap.size w w2) := belowCall HB1.out b2 HB1.out.size
  have HZ : Hid (0 ≤ y → (l10.length ≤ 1048576 ∧ ∀ r ∈ l10, r.dat.size ≤ 1048576) ∧ (l11.length ≤ 1048576 ∧ ∀ r ∈ l11, r.dat.size ≤ 1048576)) := fun h => hy2 h
  clear b2 hy2 HB1 Q0 x2 x3
  by_cases hneg2 : y < 0
  · go_wp2
    go_ret
    exact ⟨-1, rfl, by omega, by omega, fun h => absurd h (by omega), HB2.out⟩
  go_wp2
  rw [rounds_succ]
  go_wp2
  go_ret
  exact ⟨_, rfl, by omega, by omega, fun h => ⟨HP.out.1, HP.out.2, HZ.out h⟩, HB2.out⟩
set_option maxHeartbeats 3200000 in
theorem eqUnitSA2A2_t (v00 v01 v10 v11 v00' v01' v10' v11' : Value) (l00 l01 l10 l11 : Uns) (w : World) (hv00 : Ru w v00 l00) (hv01 : Ru w v01 l01) (hv10 : Ru w v10 l10) (hv11 : Ru w v11 l11) (gv00 : Ru w v00' l00) (gv01 : Ru w v01' l01) (gv10 : Ru w v10' l10) (gv11 : Ru w v11' l11) :
    Calls Try.prog 51 #[.agg #[v00, v01, v10, v11], .agg #[v00', v01', v10', v11']] w fun e w' => e = .returned (.bool true) ∧ Below w.heap.size w w' := by
  obtain ⟨W0, hW0⟩ : ∃ W0, (w.alloc (Obj.cells #[v00, v01, v10, v11] 30)).alloc (Obj.cells #[v00', v01', v10', v11'] 30) = W0 := ⟨_, rfl⟩
  have HB : Hid (Below w.heap.size w W0) := by rw [← hW0]; exact ((Below.refl _ _).alloc (Nat.le_refl _) _).alloc (by simp) _
  have K0 : Hid (Blk W0 w.heap.size #[v00, v01, v10, v11] 30) := by rw [← hW0]; exact (Blk.new _ _ _).alloc _
  have K1 : Hid (Blk W0 (w.heap.size + 1) #[v00', v01', v10', v11'] 30) := by rw [← hW0]; exact Blk.newAt _ (w.heap.size + 1) _ 30 (by simp)
  have C0 : Hid (∀ W, Below w.heap.size w W → Calls Try.prog 84 #[(.agg #[v00, v01]), (.agg #[v00', v01'])] W fun e w' => e = .returned (.bool true) ∧ Below W.heap.size W w') := fun W hW => eqUnitSA2_t _ _ _ _  l00 l01 W (hv00.below hW) (hv01.below hW) (gv00.below hW) (gv01.below hW)
  have C1 : Hid (∀ W, Below w.heap.size w W → Calls Try.prog 84 #[(.agg #[v10, v11]), (.agg #[v10', v11'])] W fun e w' => e = .returned (.bool true) ∧ Below W.heap.size W w') := fun W hW => eqUnitSA2_t _ _ _ _  l10 l11 W (hv10.below hW) (hv11.below hW) (gv10.below hW) (gv11.below hW)
  obtain ⟨a_v00, p_v00, e_v00, -⟩ := hv00
  obtain ⟨c_v00, d_v00, f_v00, -⟩ := gv00
  obtain ⟨a_v01, p_v01, e_v01, -⟩ := hv01
  obtain ⟨c_v01, d_v01, f_v01, -⟩ := gv01
  obtain ⟨a_v10, p_v10, e_v10, -⟩ := hv10
  obtain ⟨c_v10, d_v10, f_v10, -⟩ := gv10
  obtain ⟨a_v11, p_v11, e_v11, -⟩ := hv11
  obtain ⟨c_v11, d_v11, f_v11, -⟩ := gv11
  subst e_v00 f_v00 e_v01 f_v01 e_v10 f_v10 e_v11 f_v11
  go_enter Try.func51, Try.ntmps51
  go_wp2
  clear hW0
  refine wp_loop_rounds 3 ?_
  rw [rounds_succ]
  have y0 : ∀ W : Ov W0, W.wd.cell? ⟨w.heap.size, 0, none⟩ = some ((.slice a_v00 l00.length p_v00)) := ov_cell (K0.out.cell 0)
  have x0 : ∀ W : Ov W0, W.wd.cell? ⟨w.heap.size + 1, 0, none⟩ = some ((.slice c_v00 l00.length d_v00)) := ov_cell (K1.out.cell 0)
  have y1 : ∀ W : Ov W0, W.wd.cell? ⟨w.heap.size, 1, none⟩ = some ((.slice a_v01 l01.length p_v01)) := ov_cell (K0.out.cell 1)
  have x1 : ∀ W : Ov W0, W.wd.cell? ⟨w.heap.size + 1, 1, none⟩ = some ((.slice c_v01 l01.length d_v01)) := ov_cell (K1.out.cell 1)
  have ne0 : Nonempty (Ov W0) := ⟨⟨_, Below.refl _ _⟩⟩
  have HC0 : Hid (∀ W : Ov W0, Calls Try.prog 84 #[(.agg #[(.slice a_v00 l00.length p_v00), (.slice a_v01 l01.length p_v01)]), (.agg #[(.slice c_v00 l00.length d_v00), (.slice c_v01 l01.length d_v01)])] W.wd fun e w'' => e = .returned (.bool true) ∧ ∃ W' : Ov W0, w'' = W'.wd) := fun W => ov_call (C0.out W.wd (belowCall HB.out W.ok HB.out.size))
  go_wp2
  refine region_over (by kernel_rfl) (by kernel_rfl) ?_
  repeat (go_big_quiet_step (first | (go_at_call 84; exact HC0.out _)))
  refine wpQuiet_nil ?_
  rintro _ ⟨V0, rfl⟩
  have HBv0 : Hid (Below w.heap.size w V0.wd) := belowCall HB.out V0.ok HB.out.size
  have Ka0 : Hid (Blk V0.wd w.heap.size #[.slice a_v00 l00.length p_v00, .slice a_v01 l01.length p_v01, .slice a_v10 l10.length p_v10, .slice a_v11 l11.length p_v11] 30) := K0.out.below V0.ok K0.out.lt
  have Kb0 : Hid (Blk V0.wd (w.heap.size + 1) #[.slice c_v00 l00.length d_v00, .slice c_v01 l01.length d_v01, .slice c_v10 l10.length d_v10, .slice c_v11 l11.length d_v11] 30) := K1.out.below V0.ok K1.out.lt
  clear HC0 y0 x0 y1 x1 ne0
  go_wp2
  rw [rounds_succ]
  have y0 : ∀ W : Ov V0.wd, W.wd.cell? ⟨w.heap.size, 2, none⟩ = some ((.slice a_v10 l10.length p_v10)) := ov_cell (Ka0.out.cell 2)
  have x0 : ∀ W : Ov V0.wd, W.wd.cell? ⟨w.heap.size + 1, 2, none⟩ = some ((.slice c_v10 l10.length d_v10)) := ov_cell (Kb0.out.cell 2)
  have y1 : ∀ W : Ov V0.wd, W.wd.cell? ⟨w.heap.size, 3, none⟩ = some ((.slice a_v11 l11.length p_v11)) := ov_cell (Ka0.out.cell 3)
  have x1 : ∀ W : Ov V0.wd, W.wd.cell? ⟨w.heap.size + 1, 3, none⟩ = some ((.slice c_v11 l11.length d_v11)) := ov_cell (Kb0.out.cell 3)
  have ne1 : Nonempty (Ov V0.wd) := ⟨⟨_, Below.refl _ _⟩⟩
  have HC1 : Hid (∀ W : Ov V0.wd, Calls Try.prog 84 #[(.agg #[(.slice a_v10 l10.length p_v10), (.slice a_v11 l11.length p_v11)]), (.agg #[(.slice c_v10 l10.length d_v10), (.slice c_v11 l11.length d_v11)])] W.wd fun e w'' => e = .returned (.bool true) ∧ ∃ W' : Ov V0.wd, w'' = W'.wd) := fun W => ov_call (C1.out W.wd (belowCall HBv0.out W.ok HBv0.out.size))
  go_wp2
  refine region_over (by kernel_rfl) (by kernel_rfl) ?_
  repeat (go_big_quiet_step (first | (go_at_call 84; exact HC1.out _)))
  refine wpQuiet_nil ?_
  rintro _ ⟨V1, rfl⟩
  have HBv1 : Hid (Below w.heap.size w V1.wd) := belowCall HBv0.out V1.ok HBv0.out.size
  have Ka1 : Hid (Blk V1.wd w.heap.size #[.slice a_v00 l00.length p_v00, .slice a_v01 l01.length p_v01, .slice a_v10 l10.length p_v10, .slice a_v11 l11.length p_v11] 30) := Ka0.out.below V1.ok Ka0.out.lt
  have Kb1 : Hid (Blk V1.wd (w.heap.size + 1) #[.slice c_v00 l00.length d_v00, .slice c_v01 l01.length d_v01, .slice c_v10 l10.length d_v10, .slice c_v11 l11.length d_v11] 30) := Kb0.out.below V1.ok Kb0.out.lt
  clear HC1 y0 x0 y1 x1 ne1
  go_wp2
  rw [rounds_succ]
  go_wp2
  go_ret
  exact ⟨rfl, HBv1.out⟩
end Go.Proofs.Ytejoopdpelcpeaa

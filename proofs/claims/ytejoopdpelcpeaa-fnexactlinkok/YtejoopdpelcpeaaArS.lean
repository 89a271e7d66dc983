/- Two rows of units at once: copied, measured, compared; no condition. -/
import Derived.Test.YtejoopdpelcpeaaSw
namespace Go.Proofs.Ytejoopdpelcpeaa
open Go.RowKit Go.ChangeShapes Go.WideShapes Go.ChangeAt
set_option linter.unusedVariables false
set_option linter.unusedSimpArgs false
set_option maxRecDepth 8000
theorem infoA29 : (Try.prog.info? 29).map (·.size) = some 2 := by kernel_rfl
set_option maxHeartbeats 3200000 in
theorem toUnitSA2_c (v0 v1 : Value) (l0 l1 : Uns) (w : World) (hv0 : Ru w v0 l0) (hv1 : Ru w v1 l1) (nv0 : l0.length ≤ 1048576) (nv1 : l1.length ≤ 1048576) :
    Calls Try.prog 82 #[.agg #[v0, v1]] w fun x w' => ∃ yv0 yv1 m1, x = .returned (.agg #[yv0, yv1]) ∧ OS w.heap.size m1 w' yv0 l0 ∧ OS m1 w'.heap.size w' yv1 l1 ∧ Below w.heap.size w w' := by
  obtain ⟨W0, hW0⟩ : ∃ W0, ((w.alloc (Obj.cells #[v0, v1] 44)).alloc (Obj.cells #[.slice none 0 0, .slice none 0 0] 29)).alloc (Obj.cells #[.slice none 0 0, .slice none 0 0] 29) = W0 := ⟨_, rfl⟩
  have zs : W0.heap.size = w.heap.size + 3 := by rw [← hW0]; simp
  have HB : Hid (Below w.heap.size w W0) := by rw [← hW0]; exact (((Below.refl _ _).alloc (Nat.le_refl _) _).alloc (by simp) _).alloc (by simp; omega) _
  have K0 : Hid (Blk W0 w.heap.size #[v0, v1] 44) := by rw [← hW0]; exact ((Blk.new _ _ _).alloc _).alloc _
  have K1 : Hid (Blk W0 (w.heap.size + 1) #[.slice none 0 0, .slice none 0 0] 29) := by rw [← hW0]; exact (Blk.newAt _ (w.heap.size + 1) _ 29 (by simp)).alloc _
  have K2 : Hid (Blk W0 (w.heap.size + 1 + 1) #[.slice none 0 0, .slice none 0 0] 29) := by rw [← hW0]; exact Blk.newAt _ (w.heap.size + 1 + 1) _ 29 (by simp)
  have Hv0 : Hid (Ru w v0 l0) := hv0
  have Hv1 : Hid (Ru w v1 l1) := hv1
  obtain ⟨a_v0, p_v0, e_v0, -⟩ := hv0
  obtain ⟨a_v1, p_v1, e_v1, -⟩ := hv1
  subst e_v0 e_v1
  have x0 := K0.out.cell 0
  simp at x0
  go_enter Try.func82, Try.ntmps82
  go_wp2
  refine wp_loop_rounds 3 ?_
  rw [rounds_succ]
  go_wp2_with (fail)
  clear hW0
  refine (toUnitS_c _ l0 W0 (Hv0.out.below HB.out) nv0).mono ?_
  rintro e w1 ⟨uv0, rfl, o_uv0', bw1⟩
  have o_uv0 := Ou.os o_uv0' bw1.size
  obtain ⟨c_v0, d_v0, e_v0⟩ := o_uv0.form
  subst e_v0
  have k0 := K0.out.below bw1 K0.out.lt
  have k1 := K1.out.below bw1 K1.out.lt
  have k2 := K2.out.below bw1 K2.out.lt
  have z1 : W0.heap.size ≤ w1.heap.size := bw1.size
  obtain ⟨W2, hW2⟩ : ∃ W, (w1.setCell ⟨w.heap.size + 1 + 1, 0, none⟩ (.slice c_v0 l0.length d_v0)) = W := ⟨_, rfl⟩
  have z2 : W2.heap.size = w1.heap.size := by rw [← hW2]; simp
  have hf : Fr (fun k => k = w.heap.size + 1 + 1) w1 W2 := by
    rw [← hW2]
    exact Fr.ofGrown (grown_setW [.slice c_v0 l0.length d_v0] w1 (w.heap.size + 1 + 1) 0) (fun k e => (Option.some.inj e).symm)
  have P_v0 : Hid (OS W0.heap.size w1.heap.size W2 (.slice c_v0 l0.length d_v0) l0) := o_uv0.fr hf (fun k h1 h2 => by omega)
  have L_v0 := o_uv0.le
  have Q0 : Hid (Blk W2 w.heap.size #[.slice a_v0 l0.length p_v0, .slice a_v1 l1.length p_v1] 44) := k0.fr hf (by omega)
  have Q1 : Hid (Blk W2 (w.heap.size + 1) #[.slice none 0 0, .slice none 0 0] 29) := k1.fr hf (by omega)
  have Q2 : Hid (Blk W2 (w.heap.size + 1 + 1) #[.slice c_v0 l0.length d_v0, .slice none 0 0] 29) := by
    rw [← hW2]; exact k2.setWs [.slice c_v0 l0.length d_v0] 0
  have HB2 : Hid (Below w.heap.size w W2) := (belowCall HB.out bw1 HB.out.size).trans (hf.below (by omega) (fun k e => by omega))
  have x1 := Q0.out.cell 1
  have d0 := k2.cell 0
  have df0 := k2.frozen 0
  simp at x1 d0
  have lk0 := k0.lt
  have lk2 := k2.lt
  clear k0 k1 k2 bw1 hf HB K0 K1 K2 o_uv0 x0 o_uv0'
  go_wp2
  rw [rounds_succ]
  go_wp2_with (fail)
  clear hW2
  refine (toUnitS_c _ l1 W2 (Hv1.out.below HB2.out) nv1).mono ?_
  rintro e w3 ⟨uv1, rfl, o_uv1', bw3⟩
  have o_uv1 := Ou.os o_uv1' bw3.size
  obtain ⟨c_v1, d_v1, e_v1⟩ := o_uv1.form
  subst e_v1
  have k1 := Q1.out.below bw3 Q1.out.lt
  have k2 := Q2.out.below bw3 Q2.out.lt
  have z3 : W2.heap.size ≤ w3.heap.size := bw3.size
  have HF : Hid (∀ W, (((w3.setCell ⟨w.heap.size + 1 + 1, 1, none⟩ (.slice c_v1 l1.length d_v1)).setCell ⟨w.heap.size + 1, 0, none⟩ (.slice c_v0 l0.length d_v0)).setCell ⟨w.heap.size + 1, 1, none⟩ (.slice c_v1 l1.length d_v1)) = W →
      Blk W (w.heap.size + 1) #[.slice c_v0 l0.length d_v0, .slice c_v1 l1.length d_v1] 29 ∧ OS w.heap.size w1.heap.size W (.slice c_v0 l0.length d_v0) l0 ∧ OS w1.heap.size W.heap.size W (.slice c_v1 l1.length d_v1) l1 ∧ Below w.heap.size w W) := by
    intro W hW
    have hz : W.heap.size = w3.heap.size := by rw [← hW]; simp
    have hf : Fr (fun k => k = w.heap.size + 1 + 1 ∨ k = w.heap.size + 1) w3 W := by
      rw [← hW]
      exact (Fr.ofGrown (grown_setW [.slice c_v1 l1.length d_v1] w3 (w.heap.size + 1 + 1) 1) (fun k e => .inl (Option.some.inj e).symm)).trans (Fr.ofGrown (grown_setW [.slice c_v0 l0.length d_v0, .slice c_v1 l1.length d_v1] _ (w.heap.size + 1) 0) (fun k e => .inr (Option.some.inj e).symm))
    have L_v1 := o_uv1.le
    have r_v0 := (P_v0.out.below bw3).fr hf (fun k h1 h2 => by omega)
    have r_v1 := o_uv1.fr hf (fun k h1 h2 => by omega)
    refine ⟨?_, r_v0.mono (by omega) (by omega), r_v1.mono (by omega) (by omega), (belowCall HB2.out bw3 HB2.out.size).trans (hf.below (by omega) (fun k e => by omega))⟩
    rw [← hW]
    exact (k1.setWo (w.heap.size + 1 + 1) 1 [.slice c_v1 l1.length d_v1] (by omega)).setAll [.slice c_v0 l0.length d_v0, .slice c_v1 l1.length d_v1] rfl
  have y0 := k1.cell 0
  have yf0 := k1.frozen 0
  have g0 := k2.cell 0
  have y1 := k1.cell 1
  have yf1 := k1.frozen 1
  have g1 := k2.cell 1
  have gf1 := k2.frozen 1
  simp at y0 g0 y1 g1
  have lk1 := k1.lt
  have lk3 := k2.lt
  clear k1 k2 bw3 HB2 Q0 Q1 Q2 o_uv1 P_v0 d0 df0 x1 lk2 lk0 o_uv1'
  go_wp2
  rw [rounds_succ]
  go_wp2
  exact bodyPost_ret (v := .agg #[.slice c_v0 l0.length d_v0, .slice c_v1 l1.length d_v1]) (results_cell_row rfl _ _ _ 29 _ (0, 0) _ rfl (HF.out _ rfl).1 Try.underlying29 rfl infoA29) rfl ⟨_, _, _, rfl, (HF.out _ rfl).2⟩
set_option maxHeartbeats 1600000 in
theorem szUnitSA2_c (v0 v1 : Value) (l0 l1 : Uns) (L : Int) (w : World) (hL0 : 0 ≤ L) (hL : L ≤ 1048576) (hv0 : Ru w v0 l0) (hv1 : Ru w v1 l1) (mv0 : ∀ r ∈ l0, r.dat.size ≤ maxLen) (mv1 : ∀ r ∈ l1, r.dat.size ≤ maxLen) :
    Calls Try.prog 80 #[.agg #[v0, v1], .int .i64 L] w fun e w' => ∃ z : Int, e = .returned (.int .i64 z) ∧ -1 ≤ z ∧ z ≤ L ∧ (0 ≤ z → (l0.length ≤ 1048576 ∧ ∀ r ∈ l0, r.dat.size ≤ 1048576) ∧ (l1.length ≤ 1048576 ∧ ∀ r ∈ l1, r.dat.size ≤ 1048576)) ∧ Below w.heap.size w w' := by
  obtain ⟨W0, hW0⟩ : ∃ W0, w.alloc (Obj.cells #[v0, v1] 44) = W0 := ⟨_, rfl⟩
  have HB : Hid (Below w.heap.size w W0) := by rw [← hW0]; exact (Below.refl _ _).alloc (Nat.le_refl _) _
  have K0 : Hid (Blk W0 w.heap.size #[v0, v1] 44) := by rw [← hW0]; exact Blk.new _ _ _
  have Hv0 : Hid (Ru w v0 l0) := hv0
  have Mv0 : Hid (∀ r ∈ l0, r.dat.size ≤ maxLen) := mv0
  have Hv1 : Hid (Ru w v1 l1) := hv1
  have Mv1 : Hid (∀ r ∈ l1, r.dat.size ≤ maxLen) := mv1
  obtain ⟨a_v0, p_v0, e_v0, -⟩ := hv0
  obtain ⟨a_v1, p_v1, e_v1, -⟩ := hv1
  subst e_v0 e_v1
  have x0 := K0.out.cell 0
  simp at x0
  clear mv0 mv1
  go_enter Try.func80, Try.ntmps80
  go_wp2
  refine wp_loop_rounds 3 ?_
  rw [rounds_succ]
  go_wp2_with (fail)
  clear hW0
  refine (szUnitS_c _  l0 L W0 hL0 hL (Hv0.out.below HB.out) Mv0.out).mono ?_
  rintro e w1 ⟨z, rfl, hz0, hz1, hz2, b1⟩
  have HB1 : Hid (Below w.heap.size w w1) := belowCall HB.out b1 HB.out.size
  have Q0 : Hid (Blk w1 w.heap.size #[.slice a_v0 l0.length p_v0, .slice a_v1 l1.length p_v1] 44) := K0.out.below b1 K0.out.lt
  have HZ : Hid (0 ≤ z → (l0.length ≤ 1048576 ∧ ∀ r ∈ l0, r.dat.size ≤ 1048576)) := fun h => ⟨by have := (hz2 h).1; omega, (hz2 h).2⟩
  have x1 := Q0.out.cell 1
  simp at x1
  clear b1 hz2 K0 HB x0
  by_cases hneg : z < 0
  · go_wp2
    go_ret
    exact ⟨-1, rfl, by omega, by omega, fun h => absurd h (by omega), HB1.out⟩
  have HP : Hid ((l0.length ≤ 1048576 ∧ ∀ r ∈ l0, r.dat.size ≤ 1048576)) := HZ.out (by omega)
  clear HZ
  go_wp2
  rw [rounds_succ]
  go_wp2_with (fail)
  refine (szUnitS_c _  l1 z w1 (by omega) (by omega) (Hv1.out.below HB1.out) Mv1.out).mono ?_
  rintro e w2 ⟨y, rfl, hy0, hy1, hy2, b2⟩
  have HB2 : Hid (Below w.heap.size w w2) := belowCall HB1.out b2 HB1.out.size
  have HZ : Hid (0 ≤ y → (l1.length ≤ 1048576 ∧ ∀ r ∈ l1, r.dat.size ≤ 1048576)) := fun h => ⟨by have := (hy2 h).1; omega, (hy2 h).2⟩
  clear b2 hy2 HB1 Q0 x1
  by_cases hneg2 : y < 0
  · go_wp2
    go_ret
    exact ⟨-1, rfl, by omega, by omega, fun h => absurd h (by omega), HB2.out⟩
  go_wp2
  rw [rounds_succ]
  go_wp2
  go_ret
  exact ⟨_, rfl, by omega, by omega, fun h => ⟨HP.out, HZ.out h⟩, HB2.out⟩
set_option maxHeartbeats 3200000 in
theorem eqUnitSA2_t (v0 v1 v0' v1' : Value) (l0 l1 : Uns) (w : World) (hv0 : Ru w v0 l0) (hv1 : Ru w v1 l1) (gv0 : Ru w v0' l0) (gv1 : Ru w v1' l1) :
    Calls Try.prog 84 #[.agg #[v0, v1], .agg #[v0', v1']] w fun e w' => e = .returned (.bool true) ∧ Below w.heap.size w w' := by
  obtain ⟨W0, hW0⟩ : ∃ W0, (w.alloc (Obj.cells #[v0, v1] 29)).alloc (Obj.cells #[v0', v1'] 29) = W0 := ⟨_, rfl⟩
  have HB : Hid (Below w.heap.size w W0) := by rw [← hW0]; exact ((Below.refl _ _).alloc (Nat.le_refl _) _).alloc (by simp) _
  have K0 : Hid (Blk W0 w.heap.size #[v0, v1] 29) := by rw [← hW0]; exact (Blk.new _ _ _).alloc _
  have K1 : Hid (Blk W0 (w.heap.size + 1) #[v0', v1'] 29) := by rw [← hW0]; exact Blk.newAt _ (w.heap.size + 1) _ 29 (by simp)
  have C0 : Hid (∀ W, Below w.heap.size w W → Calls Try.prog 104 #[v0, v0'] W fun e w' => e = .returned (.bool true) ∧ Below W.heap.size W w') := fun W hW => eqUnitS_t _ _  l0 W (hv0.below hW) (gv0.below hW)
  have C1 : Hid (∀ W, Below w.heap.size w W → Calls Try.prog 104 #[v1, v1'] W fun e w' => e = .returned (.bool true) ∧ Below W.heap.size W w') := fun W hW => eqUnitS_t _ _  l1 W (hv1.below hW) (gv1.below hW)
  obtain ⟨a_v0, p_v0, e_v0, -⟩ := hv0
  obtain ⟨c_v0, d_v0, f_v0, -⟩ := gv0
  obtain ⟨a_v1, p_v1, e_v1, -⟩ := hv1
  obtain ⟨c_v1, d_v1, f_v1, -⟩ := gv1
  subst e_v0 f_v0 e_v1 f_v1
  go_enter Try.func84, Try.ntmps84
  go_wp2
  clear hW0
  refine wp_loop_rounds 3 ?_
  rw [rounds_succ]
  have y0 : ∀ W : Ov W0, W.wd.cell? ⟨w.heap.size, 0, none⟩ = some ((.slice a_v0 l0.length p_v0)) := ov_cell (K0.out.cell 0)
  have x0 : ∀ W : Ov W0, W.wd.cell? ⟨w.heap.size + 1, 0, none⟩ = some ((.slice c_v0 l0.length d_v0)) := ov_cell (K1.out.cell 0)
  have ne0 : Nonempty (Ov W0) := ⟨⟨_, Below.refl _ _⟩⟩
  have HC0 : Hid (∀ W : Ov W0, Calls Try.prog 104 #[(.slice a_v0 l0.length p_v0), (.slice c_v0 l0.length d_v0)] W.wd fun e w'' => e = .returned (.bool true) ∧ ∃ W' : Ov W0, w'' = W'.wd) := fun W => ov_call (C0.out W.wd (belowCall HB.out W.ok HB.out.size))
  go_wp2
  refine region_over (by kernel_rfl) (by kernel_rfl) ?_
  repeat (go_big_quiet_step (first | (go_at_call 104; exact HC0.out _)))
  refine wpQuiet_nil ?_
  rintro _ ⟨V0, rfl⟩
  have HBv0 : Hid (Below w.heap.size w V0.wd) := belowCall HB.out V0.ok HB.out.size
  have Ka0 : Hid (Blk V0.wd w.heap.size #[.slice a_v0 l0.length p_v0, .slice a_v1 l1.length p_v1] 29) := K0.out.below V0.ok K0.out.lt
  have Kb0 : Hid (Blk V0.wd (w.heap.size + 1) #[.slice c_v0 l0.length d_v0, .slice c_v1 l1.length d_v1] 29) := K1.out.below V0.ok K1.out.lt
  clear HC0 y0 x0 ne0
  go_wp2
  rw [rounds_succ]
  have y0 : ∀ W : Ov V0.wd, W.wd.cell? ⟨w.heap.size, 1, none⟩ = some ((.slice a_v1 l1.length p_v1)) := ov_cell (Ka0.out.cell 1)
  have x0 : ∀ W : Ov V0.wd, W.wd.cell? ⟨w.heap.size + 1, 1, none⟩ = some ((.slice c_v1 l1.length d_v1)) := ov_cell (Kb0.out.cell 1)
  have ne1 : Nonempty (Ov V0.wd) := ⟨⟨_, Below.refl _ _⟩⟩
  have HC1 : Hid (∀ W : Ov V0.wd, Calls Try.prog 104 #[(.slice a_v1 l1.length p_v1), (.slice c_v1 l1.length d_v1)] W.wd fun e w'' => e = .returned (.bool true) ∧ ∃ W' : Ov V0.wd, w'' = W'.wd) := fun W => ov_call (C1.out W.wd (belowCall HBv0.out W.ok HBv0.out.size))
  go_wp2
  refine region_over (by kernel_rfl) (by kernel_rfl) ?_
  repeat (go_big_quiet_step (first | (go_at_call 104; exact HC1.out _)))
  refine wpQuiet_nil ?_
  rintro _ ⟨V1, rfl⟩
  have HBv1 : Hid (Below w.heap.size w V1.wd) := belowCall HBv0.out V1.ok HBv0.out.size
  have Ka1 : Hid (Blk V1.wd w.heap.size #[.slice a_v0 l0.length p_v0, .slice a_v1 l1.length p_v1] 29) := Ka0.out.below V1.ok Ka0.out.lt
  have Kb1 : Hid (Blk V1.wd (w.heap.size + 1) #[.slice c_v0 l0.length d_v0, .slice c_v1 l1.length d_v1] 29) := Kb0.out.below V1.ok Kb0.out.lt
  clear HC1 y0 x0 ne1
  go_wp2
  rw [rounds_succ]
  go_wp2
  go_ret
  exact ⟨rfl, HBv1.out⟩
end Go.Proofs.Ytejoopdpelcpeaa

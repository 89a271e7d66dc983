/- Links copied; no condition. -/
import Derived.Test.YtejoopdpelcpeaaLkD
namespace Go.Proofs.Ytejoopdpelcpeaa
open Go.RowKit Go.ChangeShapes Go.WideShapes Go.ChangeAt
set_option linter.unusedVariables false
set_option linter.unusedSimpArgs false
set_option maxRecDepth 8000
set_option maxHeartbeats 6400000 in
theorem toLink_c (vo0 vi0 vo1 vi1 v00 v01 v10 v11 : Value) (s0 a0 t0 s1 a1 t1 u : Int) (zo0 zi0 zo1 zi1 : Txs) (l00 l01 l10 l11 : Uns) (w : World) (h : Rl w vo0 vi0 vo1 vi1 v00 v01 v10 v11 zo0 zi0 zo1 zi1 l00 l01 l10 l11) (hn : Sn15 zo0 zi0 zo1 zi1 l00 l01 l10 l11) :
    Calls Try.prog 15 #[.agg (L15 vo0 vi0 vo1 vi1 v00 v01 v10 v11 s0 a0 t0 s1 a1 t1 u)] w fun x w' => ∃ yvo0 yvi0 yvo1 yvi1 yv00 yv01 yv10 yv11 m, x = .returned (.agg (L15 yvo0 yvi0 yvo1 yvi1 yv00 yv01 yv10 yv11 s0 a0 t0 s1 a1 t1 u)) ∧ Ol w.heap.size w'.heap.size w' yvo0 yvi0 yvo1 yvi1 yv00 yv01 yv10 yv11 zo0 zi0 zo1 zi1 l00 l01 l10 l11 m ∧ Below w.heap.size w w' := by
  obtain ⟨W0, hW0⟩ : ∃ W0, ((w.alloc (Obj.cells (L15 vo0 vi0 vo1 vi1 v00 v01 v10 v11 s0 a0 t0 s1 a1 t1 u) 47)).alloc (Obj.cells #[.slice none 0 0, .int .i64 0, .int .i64 0, .int .i64 0, .slice none 0 0, .slice none 0 0, .int .i64 0, .int .i64 0, .int .i64 0, .slice none 0 0, .slice none 0 0, .slice none 0 0, .slice none 0 0, .slice none 0 0, .int .i64 0] 32)).alloc (Obj.cells #[.slice none 0 0, .int .i64 0, .int .i64 0, .int .i64 0, .slice none 0 0, .slice none 0 0, .int .i64 0, .int .i64 0, .int .i64 0, .slice none 0 0, .slice none 0 0, .slice none 0 0, .slice none 0 0, .slice none 0 0, .int .i64 0] 32) = W0 := ⟨_, rfl⟩
  have zs : W0.heap.size = w.heap.size + 3 := by rw [← hW0]; simp
  have HB : Hid (Below w.heap.size w W0) := by rw [← hW0]; exact (((Below.refl _ _).alloc (Nat.le_refl _) _).alloc (by simp) _).alloc (by simp; omega) _
  have K0 : Hid (Blk W0 w.heap.size (L15 vo0 vi0 vo1 vi1 v00 v01 v10 v11 s0 a0 t0 s1 a1 t1 u) 47) := by rw [← hW0]; exact ((Blk.new _ _ _).alloc _).alloc _
  have K1 : Hid (Blk W0 (w.heap.size + 1) #[.slice none 0 0, .int .i64 0, .int .i64 0, .int .i64 0, .slice none 0 0, .slice none 0 0, .int .i64 0, .int .i64 0, .int .i64 0, .slice none 0 0, .slice none 0 0, .slice none 0 0, .slice none 0 0, .slice none 0 0, .int .i64 0] 32) := by rw [← hW0]; exact (Blk.newAt _ (w.heap.size + 1) _ 32 (by simp)).alloc _
  have K2 : Hid (Blk W0 (w.heap.size + 1 + 1) #[.slice none 0 0, .int .i64 0, .int .i64 0, .int .i64 0, .slice none 0 0, .slice none 0 0, .int .i64 0, .int .i64 0, .int .i64 0, .slice none 0 0, .slice none 0 0, .slice none 0 0, .slice none 0 0, .slice none 0 0, .int .i64 0] 32) := by rw [← hW0]; exact Blk.newAt _ (w.heap.size + 1 + 1) _ 32 (by simp)
  have HR : Hid (Rl w vo0 vi0 vo1 vi1 v00 v01 v10 v11 zo0 zi0 zo1 zi1 l00 l01 l10 l11) := h
  have HN : Hid (Sn15 zo0 zi0 zo1 zi1 l00 l01 l10 l11) := hn
  obtain ⟨a_vo0, p_vo0, e_vo0, -⟩ := h.rvo0
  obtain ⟨a_vi0, p_vi0, e_vi0, -⟩ := h.rvi0
  obtain ⟨a_vo1, p_vo1, e_vo1, -⟩ := h.rvo1
  obtain ⟨a_vi1, p_vi1, e_vi1, -⟩ := h.rvi1
  obtain ⟨a_v00, p_v00, e_v00, -⟩ := h.rv00
  obtain ⟨a_v01, p_v01, e_v01, -⟩ := h.rv01
  obtain ⟨a_v10, p_v10, e_v10, -⟩ := h.rv10
  obtain ⟨a_v11, p_v11, e_v11, -⟩ := h.rv11
  subst e_vo0 e_vi0 e_vo1 e_vi1 e_v00 e_v01 e_v10 e_v11
  have x0 := K0.out.cell 0
  have x1 := K0.out.cell 1
  have x2 := K0.out.cell 2
  have x3 := K0.out.cell 3
  have x4 := K0.out.cell 4
  have x5 := K0.out.cell 5
  have x6 := K0.out.cell 6
  have x7 := K0.out.cell 7
  have x8 := K0.out.cell 8
  have x9 := K0.out.cell 9
  simp at x0 x1 x2 x3 x4 x5 x6 x7 x8 x9
  clear h hn
  go_enter Try.func15, Try.ntmps15
  go_wp2_with (fail)
  clear hW0
  refine (toEndA2_c _ _ _ _ s0 a0 t0 s1 a1 t1 zo0 zi0 zo1 zi1 W0 (HR.out.rvo0.below HB.out) (HR.out.rvi0.below HB.out) (HR.out.rvo1.below HB.out) (HR.out.rvi1.below HB.out) HN.out.nvo0 HN.out.nvi0 HN.out.nvo1 HN.out.nvi1).mono ?_
  rintro e w1 ⟨q0, q1, q2, q3, m1, m2, m3, rfl, o_vo0, o_vi0, o_vo1, o_vi1, bw1⟩
  obtain ⟨c_vo0, d_vo0, e_vo0⟩ := o_vo0.form
  obtain ⟨c_vi0, d_vi0, e_vi0⟩ := o_vi0.form
  obtain ⟨c_vo1, d_vo1, e_vo1⟩ := o_vo1.form
  obtain ⟨c_vi1, d_vi1, e_vi1⟩ := o_vi1.form
  subst e_vo0 e_vi0 e_vo1 e_vi1
  have k0 := K0.out.below bw1 K0.out.lt
  have k1 := K1.out.below bw1 K1.out.lt
  have k2 := K2.out.below bw1 K2.out.lt
  have z1 : W0.heap.size ≤ w1.heap.size := bw1.size
  obtain ⟨W2, hW2⟩ : ∃ W, ((((((((((w1.setCell ⟨w.heap.size + 1 + 1, 0, none⟩ (.slice c_vo0 zo0.length d_vo0)).setCell ⟨w.heap.size + 1 + 1, 1, none⟩ (.int .i64 s0)).setCell ⟨w.heap.size + 1 + 1, 2, none⟩ (.int .i64 a0)).setCell ⟨w.heap.size + 1 + 1, 3, none⟩ (.int .i64 t0)).setCell ⟨w.heap.size + 1 + 1, 4, none⟩ (.slice c_vi0 zi0.length d_vi0)).setCell ⟨w.heap.size + 1 + 1, 5, none⟩ (.slice c_vo1 zo1.length d_vo1)).setCell ⟨w.heap.size + 1 + 1, 6, none⟩ (.int .i64 s1)).setCell ⟨w.heap.size + 1 + 1, 7, none⟩ (.int .i64 a1)).setCell ⟨w.heap.size + 1 + 1, 8, none⟩ (.int .i64 t1)).setCell ⟨w.heap.size + 1 + 1, 9, none⟩ (.slice c_vi1 zi1.length d_vi1)) = W := ⟨_, rfl⟩
  have z2 : W2.heap.size = w1.heap.size := by rw [← hW2]; simp
  have hf : Fr (fun k => k = w.heap.size + 1 + 1) w1 W2 := by
    rw [← hW2]
    exact Fr.ofGrown (grown_setW [.slice c_vo0 zo0.length d_vo0, .int .i64 s0, .int .i64 a0, .int .i64 t0, .slice c_vi0 zi0.length d_vi0, .slice c_vo1 zo1.length d_vo1, .int .i64 s1, .int .i64 a1, .int .i64 t1, .slice c_vi1 zi1.length d_vi1] w1 (w.heap.size + 1 + 1) 0) (fun k e => (Option.some.inj e).symm)
  have L_vo0 := o_vo0.le
  have L_vi0 := o_vi0.le
  have L_vo1 := o_vo1.le
  have L_vi1 := o_vi1.le
  have P_vo0 : Hid (OX W0.heap.size m1 W2 (.slice c_vo0 zo0.length d_vo0) zo0) := o_vo0.fr hf (fun k h1 h2 => by omega)
  have P_vi0 : Hid (OX m1 m2 W2 (.slice c_vi0 zi0.length d_vi0) zi0) := o_vi0.fr hf (fun k h1 h2 => by omega)
  have P_vo1 : Hid (OX m2 m3 W2 (.slice c_vo1 zo1.length d_vo1) zo1) := o_vo1.fr hf (fun k h1 h2 => by omega)
  have P_vi1 : Hid (OX m3 w1.heap.size W2 (.slice c_vi1 zi1.length d_vi1) zi1) := o_vi1.fr hf (fun k h1 h2 => by omega)
  have Q0 : Hid (Blk W2 w.heap.size (L15 (.slice a_vo0 zo0.length p_vo0) (.slice a_vi0 zi0.length p_vi0) (.slice a_vo1 zo1.length p_vo1) (.slice a_vi1 zi1.length p_vi1) (.slice a_v00 l00.length p_v00) (.slice a_v01 l01.length p_v01) (.slice a_v10 l10.length p_v10) (.slice a_v11 l11.length p_v11) s0 a0 t0 s1 a1 t1 u) 47) := k0.fr hf (by omega)
  have Q1 : Hid (Blk W2 (w.heap.size + 1) #[.slice none 0 0, .int .i64 0, .int .i64 0, .int .i64 0, .slice none 0 0, .slice none 0 0, .int .i64 0, .int .i64 0, .int .i64 0, .slice none 0 0, .slice none 0 0, .slice none 0 0, .slice none 0 0, .slice none 0 0, .int .i64 0] 32) := k1.fr hf (by omega)
  have Q2 : Hid (Blk W2 (w.heap.size + 1 + 1) #[.slice c_vo0 zo0.length d_vo0, .int .i64 s0, .int .i64 a0, .int .i64 t0, .slice c_vi0 zi0.length d_vi0, .slice c_vo1 zo1.length d_vo1, .int .i64 s1, .int .i64 a1, .int .i64 t1, .slice c_vi1 zi1.length d_vi1, .slice none 0 0, .slice none 0 0, .slice none 0 0, .slice none 0 0, .int .i64 0] 32) := by
    rw [← hW2]; exact k2.setWs [.slice c_vo0 zo0.length d_vo0, .int .i64 s0, .int .i64 a0, .int .i64 t0, .slice c_vi0 zi0.length d_vi0, .slice c_vo1 zo1.length d_vo1, .int .i64 s1, .int .i64 a1, .int .i64 t1, .slice c_vi1 zi1.length d_vi1] 0
  have HB2 : Hid (Below w.heap.size w W2) := (belowCall HB.out bw1 HB.out.size).trans (hf.below (by omega) (fun k e => by omega))
  have x10 := Q0.out.cell 10
  have x11 := Q0.out.cell 11
  have x12 := Q0.out.cell 12
  have x13 := Q0.out.cell 13
  have g0 := k2.cell 0
  have gf0 := k2.frozen 0
  have g1 := k2.cell 1
  have gf1 := k2.frozen 1
  have g2 := k2.cell 2
  have gf2 := k2.frozen 2
  have g3 := k2.cell 3
  have gf3 := k2.frozen 3
  have g4 := k2.cell 4
  have gf4 := k2.frozen 4
  have g5 := k2.cell 5
  have gf5 := k2.frozen 5
  have g6 := k2.cell 6
  have gf6 := k2.frozen 6
  have g7 := k2.cell 7
  have gf7 := k2.frozen 7
  have g8 := k2.cell 8
  have gf8 := k2.frozen 8
  have g9 := k2.cell 9
  have gf9 := k2.frozen 9
  simp at x10 x11 x12 x13 g0 g1 g2 g3 g4 g5 g6 g7 g8 g9
  have lk0 := k0.lt
  have lk2 := k2.lt
  clear k0 k1 k2 bw1 hf HB K0 K1 K2 o_vo0 o_vi0 o_vo1 o_vi1 x0 x1 x2 x3 x4 x5 x6 x7 x8 x9
  go_wp2_with (fail)
  clear hW2
  refine (toUnitSA2A2_c _ _ _ _ l00 l01 l10 l11 W2 (HR.out.rv00.below HB2.out) (HR.out.rv01.below HB2.out) (HR.out.rv10.below HB2.out) (HR.out.rv11.below HB2.out) HN.out.nv00 HN.out.nv01 HN.out.nv10 HN.out.nv11).mono ?_
  rintro e w3 ⟨q4, q5, q6, q7, m5, m6, m7, rfl, o_v00, o_v01, o_v10, o_v11, bw3⟩
  obtain ⟨c_v00, d_v00, e_v00⟩ := o_v00.form
  obtain ⟨c_v01, d_v01, e_v01⟩ := o_v01.form
  obtain ⟨c_v10, d_v10, e_v10⟩ := o_v10.form
  obtain ⟨c_v11, d_v11, e_v11⟩ := o_v11.form
  subst e_v00 e_v01 e_v10 e_v11
  have k0 := Q0.out.below bw3 Q0.out.lt
  have k1 := Q1.out.below bw3 Q1.out.lt
  have k2 := Q2.out.below bw3 Q2.out.lt
  have z3 : W2.heap.size ≤ w3.heap.size := bw3.size
  have HF : Hid (∀ W, ((((((((((((((((((((w3.setCell ⟨w.heap.size + 1 + 1, 10, none⟩ (.slice c_v00 l00.length d_v00)).setCell ⟨w.heap.size + 1 + 1, 11, none⟩ (.slice c_v01 l01.length d_v01)).setCell ⟨w.heap.size + 1 + 1, 12, none⟩ (.slice c_v10 l10.length d_v10)).setCell ⟨w.heap.size + 1 + 1, 13, none⟩ (.slice c_v11 l11.length d_v11)).setCell ⟨w.heap.size + 1 + 1, 14, none⟩ (.int .i64 u)).setCell ⟨w.heap.size + 1, 0, none⟩ (.slice c_vo0 zo0.length d_vo0)).setCell ⟨w.heap.size + 1, 1, none⟩ (.int .i64 s0)).setCell ⟨w.heap.size + 1, 2, none⟩ (.int .i64 a0)).setCell ⟨w.heap.size + 1, 3, none⟩ (.int .i64 t0)).setCell ⟨w.heap.size + 1, 4, none⟩ (.slice c_vi0 zi0.length d_vi0)).setCell ⟨w.heap.size + 1, 5, none⟩ (.slice c_vo1 zo1.length d_vo1)).setCell ⟨w.heap.size + 1, 6, none⟩ (.int .i64 s1)).setCell ⟨w.heap.size + 1, 7, none⟩ (.int .i64 a1)).setCell ⟨w.heap.size + 1, 8, none⟩ (.int .i64 t1)).setCell ⟨w.heap.size + 1, 9, none⟩ (.slice c_vi1 zi1.length d_vi1)).setCell ⟨w.heap.size + 1, 10, none⟩ (.slice c_v00 l00.length d_v00)).setCell ⟨w.heap.size + 1, 11, none⟩ (.slice c_v01 l01.length d_v01)).setCell ⟨w.heap.size + 1, 12, none⟩ (.slice c_v10 l10.length d_v10)).setCell ⟨w.heap.size + 1, 13, none⟩ (.slice c_v11 l11.length d_v11)).setCell ⟨w.heap.size + 1, 14, none⟩ (.int .i64 u)) = W →
      Blk W (w.heap.size + 1) (L15 (.slice c_vo0 zo0.length d_vo0) (.slice c_vi0 zi0.length d_vi0) (.slice c_vo1 zo1.length d_vo1) (.slice c_vi1 zi1.length d_vi1) (.slice c_v00 l00.length d_v00) (.slice c_v01 l01.length d_v01) (.slice c_v10 l10.length d_v10) (.slice c_v11 l11.length d_v11) s0 a0 t0 s1 a1 t1 u) 32 ∧ (∃ m, Ol w.heap.size W.heap.size W (.slice c_vo0 zo0.length d_vo0) (.slice c_vi0 zi0.length d_vi0) (.slice c_vo1 zo1.length d_vo1) (.slice c_vi1 zi1.length d_vi1) (.slice c_v00 l00.length d_v00) (.slice c_v01 l01.length d_v01) (.slice c_v10 l10.length d_v10) (.slice c_v11 l11.length d_v11) zo0 zi0 zo1 zi1 l00 l01 l10 l11 m) ∧ Below w.heap.size w W) := by
    intro W hW
    have hz : W.heap.size = w3.heap.size := by rw [← hW]; simp
    have hf : Fr (fun k => k = w.heap.size + 1 + 1 ∨ k = w.heap.size + 1) w3 W := by
      rw [← hW]
      exact (Fr.ofGrown (grown_setW [.slice c_v00 l00.length d_v00, .slice c_v01 l01.length d_v01, .slice c_v10 l10.length d_v10, .slice c_v11 l11.length d_v11, .int .i64 u] w3 (w.heap.size + 1 + 1) 10) (fun k e => .inl (Option.some.inj e).symm)).trans (Fr.ofGrown (grown_setW [.slice c_vo0 zo0.length d_vo0, .int .i64 s0, .int .i64 a0, .int .i64 t0, .slice c_vi0 zi0.length d_vi0, .slice c_vo1 zo1.length d_vo1, .int .i64 s1, .int .i64 a1, .int .i64 t1, .slice c_vi1 zi1.length d_vi1, .slice c_v00 l00.length d_v00, .slice c_v01 l01.length d_v01, .slice c_v10 l10.length d_v10, .slice c_v11 l11.length d_v11, .int .i64 u] _ (w.heap.size + 1) 0) (fun k e => .inr (Option.some.inj e).symm))
    have L_v00 := o_v00.le
    have L_v01 := o_v01.le
    have L_v10 := o_v10.le
    have L_v11 := o_v11.le
    have r_vo0 := (P_vo0.out.below bw3).fr hf (fun k h1 h2 => by omega)
    have r_vi0 := (P_vi0.out.below bw3).fr hf (fun k h1 h2 => by omega)
    have r_vo1 := (P_vo1.out.below bw3).fr hf (fun k h1 h2 => by omega)
    have r_vi1 := (P_vi1.out.below bw3).fr hf (fun k h1 h2 => by omega)
    have r_v00 := o_v00.fr hf (fun k h1 h2 => by omega)
    have r_v01 := o_v01.fr hf (fun k h1 h2 => by omega)
    have r_v10 := o_v10.fr hf (fun k h1 h2 => by omega)
    have r_v11 := o_v11.fr hf (fun k h1 h2 => by omega)
    refine ⟨?_, ⟨fun i => match i with | 1 => m1 | 2 => m2 | 3 => m3 | 4 => w1.heap.size | 5 => m5 | 6 => m6 | 7 => m7 | _ => 0, ⟨r_vo0.mono (by first | omega | (simp only; omega)) (by first | omega | (simp only; omega)), r_vi0.mono (by first | omega | (simp only; omega)) (by first | omega | (simp only; omega)), r_vo1.mono (by first | omega | (simp only; omega)) (by first | omega | (simp only; omega)), r_vi1.mono (by first | omega | (simp only; omega)) (by first | omega | (simp only; omega)), r_v00.mono (by first | omega | (simp only; omega)) (by first | omega | (simp only; omega)), r_v01.mono (by first | omega | (simp only; omega)) (by first | omega | (simp only; omega)), r_v10.mono (by first | omega | (simp only; omega)) (by first | omega | (simp only; omega)), r_v11.mono (by first | omega | (simp only; omega)) (by first | omega | (simp only; omega))⟩⟩, (belowCall HB2.out bw3 HB2.out.size).trans (hf.below (by omega) (fun k e => by omega))⟩
    rw [← hW]
    exact (k1.setWo (w.heap.size + 1 + 1) 10 [.slice c_v00 l00.length d_v00, .slice c_v01 l01.length d_v01, .slice c_v10 l10.length d_v10, .slice c_v11 l11.length d_v11, .int .i64 u] (by omega)).setAll [.slice c_vo0 zo0.length d_vo0, .int .i64 s0, .int .i64 a0, .int .i64 t0, .slice c_vi0 zi0.length d_vi0, .slice c_vo1 zo1.length d_vo1, .int .i64 s1, .int .i64 a1, .int .i64 t1, .slice c_vi1 zi1.length d_vi1, .slice c_v00 l00.length d_v00, .slice c_v01 l01.length d_v01, .slice c_v10 l10.length d_v10, .slice c_v11 l11.length d_v11, .int .i64 u] rfl
  have x14 := k0.cell 14
  have y0 := k1.cell 0
  have yf0 := k1.frozen 0
  have h0 := k2.cell 0
  have y1 := k1.cell 1
  have yf1 := k1.frozen 1
  have h1 := k2.cell 1
  have y2 := k1.cell 2
  have yf2 := k1.frozen 2
  have h2 := k2.cell 2
  have y3 := k1.cell 3
  have yf3 := k1.frozen 3
  have h3 := k2.cell 3
  have y4 := k1.cell 4
  have yf4 := k1.frozen 4
  have h4 := k2.cell 4
  have y5 := k1.cell 5
  have yf5 := k1.frozen 5
  have h5 := k2.cell 5
  have y6 := k1.cell 6
  have yf6 := k1.frozen 6
  have h6 := k2.cell 6
  have y7 := k1.cell 7
  have yf7 := k1.frozen 7
  have h7 := k2.cell 7
  have y8 := k1.cell 8
  have yf8 := k1.frozen 8
  have h8 := k2.cell 8
  have y9 := k1.cell 9
  have yf9 := k1.frozen 9
  have h9 := k2.cell 9
  have y10 := k1.cell 10
  have yf10 := k1.frozen 10
  have h10 := k2.cell 10
  have y11 := k1.cell 11
  have yf11 := k1.frozen 11
  have h11 := k2.cell 11
  have y12 := k1.cell 12
  have yf12 := k1.frozen 12
  have h12 := k2.cell 12
  have y13 := k1.cell 13
  have yf13 := k1.frozen 13
  have h13 := k2.cell 13
  have y14 := k1.cell 14
  have yf14 := k1.frozen 14
  have h14 := k2.cell 14
  have hf10 := k2.frozen 10
  have hf11 := k2.frozen 11
  have hf12 := k2.frozen 12
  have hf13 := k2.frozen 13
  have hf14 := k2.frozen 14
  simp at x14 y0 h0 y1 h1 y2 h2 y3 h3 y4 h4 y5 h5 y6 h6 y7 h7 y8 h8 y9 h9 y10 h10 y11 h11 y12 h12 y13 h13 y14 h14
  have lk1 := k1.lt
  have lk3 := k2.lt
  have lk4 := k0.lt
  clear k0 k1 k2 bw3 HB2 Q0 Q1 Q2 o_v00 o_v01 o_v10 o_v11 P_vo0 P_vi0 P_vo1 P_vi1 g0 gf0 g1 gf1 g2 gf2 g3 gf3 g4 gf4 g5 gf5 g6 gf6 g7 gf7 g8 gf8 g9 gf9 x10 x11 x12 x13 lk2 lk0
  go_wp2
  obtain ⟨hb, ⟨m, hm⟩, hbl⟩ := HF.out _ rfl
  exact bodyPost_ret (v := .agg (L15 (.slice c_vo0 zo0.length d_vo0) (.slice c_vi0 zi0.length d_vi0) (.slice c_vo1 zo1.length d_vo1) (.slice c_vi1 zi1.length d_vi1) (.slice c_v00 l00.length d_v00) (.slice c_v01 l01.length d_v01) (.slice c_v10 l10.length d_v10) (.slice c_v11 l11.length d_v11) s0 a0 t0 s1 a1 t1 u)) (results_cell_row rfl _ _ _ 32 _ (0, 0) _ rfl hb Try.underlying32 rfl infoLink) rfl ⟨_, _, _, _, _, _, _, _, m, rfl, hm, hbl⟩
end Go.Proofs.Ytejoopdpelcpeaa

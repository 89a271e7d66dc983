/- The model's Leave at a side that is none; no condition. -/
import Derived.Test.YtkehcalijamhjaaLvM
namespace Go.Proofs.Ytkehcalijamhjaa
open Go.RowKit Go.ChangeShapes Go.WideShapes Go.ChangeAt
set_option linter.unusedVariables false
set_option linter.unusedSimpArgs false
set_option maxRecDepth 8000
set_option maxHeartbeats 12800000 in
theorem leaveMx_c (c0 c1 w0 w1 : Value) (l0 l1 : Int) (z0 z1 : List Int) (n0 n1 : Mvs) (sd c : Int) (hsd : ¬ (0 ≤ sd ∧ sd ≤ 1)) (w : World) (h : Rk w c0 c1 w0 w1 z0 z1 n0 n1) (hl : (z0.length : Int) + z1.length + (n0.length + n1.length) ≤ 1048576) :
    Calls Try.prog 17 #[.agg (T6 c0 c1 l0 l1 w0 w1), .int .i64 sd, .int .i64 c] w (TwS l0 l1 z0 z1 n0 n1 (.bool false) w) := by
  have HSD : Hid (¬ (0 ≤ sd ∧ sd ≤ 1)) := hsd
  clear hsd
  obtain ⟨W0, hW0⟩ : ∃ W0, (w.alloc (Obj.cells (T6 c0 c1 l0 l1 w0 w1) 33)).alloc (Obj.cells (T6 (.slice none 0 0) (.slice none 0 0) 0 0 (.slice none 0 0) (.slice none 0 0)) 33) = W0 := ⟨_, rfl⟩
  have HS : Hid (W0.heap.size = w.heap.size + 2) := by rw [← hW0]; simp [Hid]
  have HB0 : Hid (Below w.heap.size w W0) := by rw [← hW0]; exact ((Below.refl _ _).alloc (Nat.le_refl _) _).alloc (by simp) _
  have KP0 : Hid (Blk W0 w.heap.size (T6 c0 c1 l0 l1 w0 w1) 33) := by rw [← hW0]; exact (Blk.new _ _ _).alloc _
  have KR0 : Hid (Blk W0 (w.heap.size + 1) (T6 (.slice none 0 0) (.slice none 0 0) 0 0 (.slice none 0 0) (.slice none 0 0)) 33) := by rw [← hW0]; exact Blk.newAt _ (w.heap.size + 1) _ 33 (by simp)
  have HR : Hid (Rk w c0 c1 w0 w1 z0 z1 n0 n1) := h
  have HL : Hid ((z0.length : Int) + z1.length + (n0.length + n1.length) ≤ 1048576) := hl
  obtain ⟨a0, p0, hv0, -⟩ := h.r0
  obtain ⟨a1, p1, hv1, -⟩ := h.r1
  obtain ⟨a2, p2, hv2, -⟩ := h.r2
  obtain ⟨a3, p3, hv3, -⟩ := h.r3
  obtain ⟨m0, hm0⟩ : ∃ m, z0.length = m := ⟨_, rfl⟩
  obtain ⟨m1, hm1⟩ : ∃ m, z1.length = m := ⟨_, rfl⟩
  obtain ⟨m2, hm2⟩ : ∃ m, n0.length = m := ⟨_, rfl⟩
  obtain ⟨m3, hm3⟩ : ∃ m, n1.length = m := ⟨_, rfl⟩
  have HM : Hid (z0.length = m0 ∧ z1.length = m1 ∧ n0.length = m2 ∧ n1.length = m3) := ⟨hm0, hm1, hm2, hm3⟩
  rw [hm0] at hv0
  rw [hm1] at hv1
  rw [hm2] at hv2
  rw [hm3] at hv3
  subst hv0 hv1 hv2 hv3
  clear h hm0 hm1 hm2 hm3 hl
  have x0 := KP0.out.cell 0
  have xf0 := KP0.out.frozen 0
  have x1 := KP0.out.cell 1
  have xf1 := KP0.out.frozen 1
  have x2 := KP0.out.cell 2
  have xf2 := KP0.out.frozen 2
  have x3 := KP0.out.cell 3
  have xf3 := KP0.out.frozen 3
  have x4 := KP0.out.cell 4
  have xf4 := KP0.out.frozen 4
  have x5 := KP0.out.cell 5
  have xf5 := KP0.out.frozen 5
  have xl := KP0.out.lt
  simp at x0 x1 x2 x3 x4 x5
  go_enter Try.func17, Try.ntmps17
  go_wp2_with (fail)
  clear hW0
  refine (copyM_c _ _ _ _ l0 l1 z0 z1 n0 n1 W0 (HR.out.below HB0.out) HL.out).mono ?_
  rintro e u0 ⟨v0, v1, v2, v3, rfl, oo, bb⟩
  obtain ⟨e0, f0, hf0, -⟩ := own_form oo.o0
  obtain ⟨e1, f1, hf1, -⟩ := own_form oo.o1
  obtain ⟨e2, f2, hf2, -⟩ := own_form oo.o2
  obtain ⟨e3, f3, hf3, -⟩ := own_form oo.o3
  rw [HM.out.1] at hf0
  rw [HM.out.2.1] at hf1
  rw [HM.out.2.2.1] at hf2
  rw [HM.out.2.2.2] at hf3
  subst hf0 hf1 hf2 hf3
  have hs0 := HS.out
  have kp := KP0.out.below bb KP0.out.lt
  have kr := KR0.out.below bb KR0.out.lt
  have hfr := fr_put6 u0 w.heap.size (.slice e0 m0 f0) (.slice e1 m1 f1) l0 l1 (.slice e2 m2 f2) (.slice e3 m3 f3)
  have szb : W0.heap.size ≤ u0.heap.size := bb.size
  have KP : Hid (Blk (st6 u0 w.heap.size (.slice e0 m0 f0) (.slice e1 m1 f1) l0 l1 (.slice e2 m2 f2) (.slice e3 m3 f3)) w.heap.size (T6 (.slice e0 m0 f0) (.slice e1 m1 f1) l0 l1 (.slice e2 m2 f2) (.slice e3 m3 f3)) 33) := put6 kp _ _ _ _ _ _
  have KR : Hid (Blk (st6 u0 w.heap.size (.slice e0 m0 f0) (.slice e1 m1 f1) l0 l1 (.slice e2 m2 f2) (.slice e3 m3 f3)) (w.heap.size + 1) (T6 (.slice none 0 0) (.slice none 0 0) 0 0 (.slice none 0 0) (.slice none 0 0)) 33) := kr.fr hfr (fun e => by omega)
  have HO : Hid (Ok6 W0.heap.size u0.heap.size (st6 u0 w.heap.size (.slice e0 m0 f0) (.slice e1 m1 f1) l0 l1 (.slice e2 m2 f2) (.slice e3 m3 f3)) (.slice e0 m0 f0) (.slice e1 m1 f1) (.slice e2 m2 f2) (.slice e3 m3 f3) z0 z1 n0 n1) := oo.fr hfr (fun k hk e => by have := oo.ge k hk; omega)
  have bw := belowCall HB0.out bb HB0.out.size
  have HB1 : Hid (Below w.heap.size w (st6 u0 w.heap.size (.slice e0 m0 f0) (.slice e1 m1 f1) l0 l1 (.slice e2 m2 f2) (.slice e3 m3 f3))) := bw.trans (hfr.below (by omega) (fun j e => by omega))
  have HU : Hid (u0.heap.size ≤ (st6 u0 w.heap.size (.slice e0 m0 f0) (.slice e1 m1 f1) l0 l1 (.slice e2 m2 f2) (.slice e3 m3 f3)).heap.size ∧ w.heap.size + 2 ≤ u0.heap.size) := ⟨hfr.size, by omega⟩
  clear x0 xf0 x1 xf1 x2 xf2 x3 xf3 x4 xf4 x5 xf5 xl
  have x0 := kp.cell 0
  have xf0 := kp.frozen 0
  have x1 := kp.cell 1
  have xf1 := kp.frozen 1
  have x2 := kp.cell 2
  have xf2 := kp.frozen 2
  have x3 := kp.cell 3
  have xf3 := kp.frozen 3
  have x4 := kp.cell 4
  have xf4 := kp.frozen 4
  have x5 := kp.cell 5
  have xf5 := kp.frozen 5
  have xl := kp.lt
  simp at x0 x1 x2 x3 x4 x5
  obtain ⟨W1, hW1⟩ : ∃ W, st6 u0 w.heap.size (.slice e0 m0 f0) (.slice e1 m1 f1) l0 l1 (.slice e2 m2 f2) (.slice e3 m3 f3) = W := ⟨_, rfl⟩
  rw [hW1] at KP KR HO HB1 HU
  unfold st6 at hW1
  clear oo bb kp kr hfr szb bw KP0 KR0 HB0 hs0
  have y0 := KP.out.cell 0
  have yf0 := KP.out.frozen 0
  have y1 := KP.out.cell 1
  have yf1 := KP.out.frozen 1
  have y2 := KP.out.cell 2
  have yf2 := KP.out.frozen 2
  have y3 := KP.out.cell 3
  have yf3 := KP.out.frozen 3
  have y4 := KP.out.cell 4
  have yf4 := KP.out.frozen 4
  have y5 := KP.out.cell 5
  have yf5 := KP.out.frozen 5
  have yl := KP.out.lt
  simp at y0 y1 y2 y3 y4 y5
  go_wp2_with (fail)
  clear hW1 x0 xf0 x1 xf1 x2 xf2 x3 xf3 x4 xf4 x5 xf5 xl
  refine (okM_c _ _ _ _ l0 l1 z0 z1 n0 n1 W1 HO.out.rd).mono ?_
  rintro e u1 ⟨r, rfl, hr, b1⟩
  have KP1 : Hid (Blk u1 w.heap.size (T6 (.slice e0 m0 f0) (.slice e1 m1 f1) l0 l1 (.slice e2 m2 f2) (.slice e3 m3 f3)) 33) := KP.out.below b1 KP.out.lt
  have KR1 : Hid (Blk u1 (w.heap.size + 1) (T6 (.slice none 0 0) (.slice none 0 0) 0 0 (.slice none 0 0) (.slice none 0 0)) 33) := KR.out.below b1 KR.out.lt
  have HO1 : Hid (Ok6 W0.heap.size u0.heap.size u1 (.slice e0 m0 f0) (.slice e1 m1 f1) (.slice e2 m2 f2) (.slice e3 m3 f3) z0 z1 n0 n1) := HO.out.below b1
  have HB2 : Hid (Below w.heap.size w u1) := belowCall HB1.out b1 HB1.out.size
  have HU1 : Hid (u0.heap.size ≤ u1.heap.size ∧ w.heap.size + 2 ≤ u0.heap.size) := ⟨Nat.le_trans HU.out.1 b1.size, HU.out.2⟩
  have HF : Hid (∀ W, (((((u1.setCell ⟨w.heap.size + 1, 0, none⟩ (.slice e0 m0 f0)).setCell ⟨w.heap.size + 1, 1, none⟩ (.slice e1 m1 f1)).setCell ⟨w.heap.size + 1, 2, none⟩ (.int .i64 l0)).setCell ⟨w.heap.size + 1, 3, none⟩ (.int .i64 l1)).setCell ⟨w.heap.size + 1, 4, none⟩ (.slice e2 m2 f2)).setCell ⟨w.heap.size + 1, 5, none⟩ (.slice e3 m3 f3) = W → Blk W (w.heap.size + 1) (T6 (.slice e0 m0 f0) (.slice e1 m1 f1) l0 l1 (.slice e2 m2 f2) (.slice e3 m3 f3)) 33 ∧ TwS l0 l1 z0 z1 n0 n1 (.bool false) w (.returned (.tuple #[.agg (T6 (.slice e0 m0 f0) (.slice e1 m1 f1) l0 l1 (.slice e2 m2 f2) (.slice e3 m3 f3)), .bool false])) W) := by
    rintro _ rfl
    have hfr := fr_put6 u1 (w.heap.size + 1) (.slice e0 m0 f0) (.slice e1 m1 f1) l0 l1 (.slice e2 m2 f2) (.slice e3 m3 f3)
    have hs0 := HS.out
    have hu := HU1.out
    have hz := hfr.size
    exact ⟨put6 KR1.out _ _ _ _ _ _, _, _, _, _, rfl, (HO1.out.fr hfr (fun k hk e => by have := HO1.out.ge k hk; omega)).mono (by omega) (Nat.le_trans hu.1 hfr.size), HB2.out.trans (hfr.below (by omega) (fun j e => by omega))⟩
  clear y0 yf0 y1 yf1 y2 yf2 y3 yf3 y4 yf4 y5 yf5 yl b1 KP KR HO HB1 HU
  have x0 := KP1.out.cell 0
  have xf0 := KP1.out.frozen 0
  have x1 := KP1.out.cell 1
  have xf1 := KP1.out.frozen 1
  have x2 := KP1.out.cell 2
  have xf2 := KP1.out.frozen 2
  have x3 := KP1.out.cell 3
  have xf3 := KP1.out.frozen 3
  have x4 := KP1.out.cell 4
  have xf4 := KP1.out.frozen 4
  have x5 := KP1.out.cell 5
  have xf5 := KP1.out.frozen 5
  have xl := KP1.out.lt
  simp at x0 x1 x2 x3 x4 x5
  have y0 := KR1.out.cell 0
  have yf0 := KR1.out.frozen 0
  have y1 := KR1.out.cell 1
  have yf1 := KR1.out.frozen 1
  have y2 := KR1.out.cell 2
  have yf2 := KR1.out.frozen 2
  have y3 := KR1.out.cell 3
  have yf3 := KR1.out.frozen 3
  have y4 := KR1.out.cell 4
  have yf4 := KR1.out.frozen 4
  have y5 := KR1.out.cell 5
  have yf5 := KR1.out.frozen 5
  have yl := KR1.out.lt
  simp at y0 y1 y2 y3 y4 y5
  by_cases g : TOk z0 z1 l0 l1 n0 n1
  case neg =>
    obtain rfl : r = false := by cases r; rfl; exact absurd (hr.1 rfl) g
    clear hr g
    go_wp2
    exact bodyPost_ret (v := .tuple #[.agg (T6 (.slice e0 m0 f0) (.slice e1 m1 f1) l0 l1 (.slice e2 m2 f2) (.slice e3 m3 f3)), .bool false]) (results_T rfl _ _ _ _ _ _ _ _ _ _ rfl rfl (HF.out _ rfl).1) rfl (HF.out _ rfl).2
  obtain rfl : r = true := hr.2 g
  have G : Hid (TOk z0 z1 l0 l1 n0 n1) := g
  have hm24 : 1 ≤ m0 ∧ m0 ≤ 24 := by have := g.1; have := HM.out; omega
  obtain ⟨hm1', hm24⟩ := hm24
  have HE : Hid (m1 = m0) := by have := g.2.1; have := HM.out; show _ = _; omega
  have hk60 : m2 ≤ 60 := by have := g.2.2.1.2.2.1; have := HM.out; omega
  have hk61 : m3 ≤ 60 := by have := g.2.2.2.2.2.1; have := HM.out; omega
  clear hr g
  go_wp2_with (fail)
  refine (in_c sd 0 1 u1).mono ?_
  rintro e wq ⟨rfl, hwq⟩
  rw [hwq, decide_eq_false HSD.out]
  clear hwq wq
  go_wp2
  exact bodyPost_ret (v := .tuple #[.agg (T6 (.slice e0 m0 f0) (.slice e1 m1 f1) l0 l1 (.slice e2 m2 f2) (.slice e3 m3 f3)), .bool false]) (results_T rfl _ _ _ _ _ _ _ _ _ _ rfl rfl (HF.out _ rfl).1) rfl (HF.out _ rfl).2
end Go.Proofs.Ytkehcalijamhjaa

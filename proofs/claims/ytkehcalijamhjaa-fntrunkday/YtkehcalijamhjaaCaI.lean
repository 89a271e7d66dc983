/- The program's CarryAll; no condition. -/
import Derived.Test.YtkehcalijamhjaaCaD
import Derived.Test.YtkehcalijamhjaaFsb
import Derived.Test.YtkehcalijamhjaaCyI
import Derived.Deep.LoopGhost
namespace Go.Proofs.Ytkehcalijamhjaa
open Go.RowKit Go.ChangeShapes Go.WideShapes Go.ChangeAt
set_option linter.unusedVariables false
set_option linter.unusedSimpArgs false
set_option maxRecDepth 8000
/-- what CarryAll tells of a trunk -/
def CalR (l0 l1 : Int) (z0 z1 : List Int) (n0 n1 : Mvs) (w : World) (e : Ending) (w' : World) : Prop :=
  (TOk z0 z1 l0 l1 n0 n1 → TcR (Ts.mk l0 l1 z0 z1 n0 n1).all.l0 (Ts.mk l0 l1 z0 z1 n0 n1).all.l1 (Ts.mk l0 l1 z0 z1 n0 n1).all.z0 (Ts.mk l0 l1 z0 z1 n0 n1).all.z1 (Ts.mk l0 l1 z0 z1 n0 n1).all.n0 (Ts.mk l0 l1 z0 z1 n0 n1).all.n1 w e w') ∧ (¬ TOk z0 z1 l0 l1 n0 n1 → TcR l0 l1 z0 z1 n0 n1 w e w')
set_option maxHeartbeats 12800000 in
theorem carryAllI_c (c0 c1 w0 w1 : Value) (l0 l1 : Int) (z0 z1 : List Int) (n0 n1 : Mvs) (w : World) (h : Rk w c0 c1 w0 w1 z0 z1 n0 n1) (hl : (z0.length : Int) + z1.length + (n0.length + n1.length) ≤ 1048576) :
    Calls Try.prog 21 #[.agg (T6 c0 c1 l0 l1 w0 w1)] w (CalR l0 l1 z0 z1 n0 n1 w) := by
  obtain ⟨W0, hW0⟩ : ∃ W0, (w.alloc (Obj.cells (T6 c0 c1 l0 l1 w0 w1) 33)).alloc (Obj.cells (T6 (.slice none 0 0) (.slice none 0 0) 0 0 (.slice none 0 0) (.slice none 0 0)) 33) = W0 := ⟨_, rfl⟩
  have HB0 : Hid (Below w.heap.size w W0) := by rw [← hW0]; exact ((Below.refl _ _).alloc (Nat.le_refl _) _).alloc (by simp) _
  have KP0 : Hid (Blk W0 w.heap.size (T6 c0 c1 l0 l1 w0 w1) 33) := by rw [← hW0]; exact (Blk.new _ _ _).alloc _
  have KR0 : Hid (Blk W0 (w.heap.size + 1) (T6 (.slice none 0 0) (.slice none 0 0) 0 0 (.slice none 0 0) (.slice none 0 0)) 33) := by rw [← hW0]; exact Blk.newAt _ (w.heap.size + 1) _ 33 (by simp)
  have HR : Hid (Rk w c0 c1 w0 w1 z0 z1 n0 n1) := h
  have HL : Hid ((z0.length : Int) + z1.length + (n0.length + n1.length) ≤ 1048576) := hl
  obtain ⟨a0, p0, hv0, -⟩ := h.r0
  obtain ⟨a1, p1, hv1, -⟩ := h.r1
  obtain ⟨a2, p2, hv2, -⟩ := h.r2
  obtain ⟨a3, p3, hv3, -⟩ := h.r3
  subst hv0 hv1 hv2 hv3
  clear h hl
  have x0 := KP0.out.cell 0
  have x1 := KP0.out.cell 1
  have x2 := KP0.out.cell 2
  have x3 := KP0.out.cell 3
  have x4 := KP0.out.cell 4
  have x5 := KP0.out.cell 5
  have xl := KP0.out.lt
  simp at x0 x1 x2 x3 x4 x5
  go_enter Try.func21, Try.ntmps21
  go_wp2_with (fail)
  clear hW0
  refine (okI_c _ _ _ _ l0 l1 z0 z1 n0 n1 W0 (HR.out.below HB0.out)).mono ?_
  rintro e w1 ⟨q, rfl, hq, b1⟩
  have HB1 : Hid (Below w.heap.size w w1) := belowCall HB0.out b1 HB0.out.size
  have KP1 : Hid (Blk w1 w.heap.size (T6 (.slice a0 z0.length p0) (.slice a1 z1.length p1) l0 l1 (.slice a2 n0.length p2) (.slice a3 n1.length p3)) 33) := KP0.out.below b1 KP0.out.lt
  have KR1 : Hid (Blk w1 (w.heap.size + 1) (T6 (.slice none 0 0) (.slice none 0 0) 0 0 (.slice none 0 0) (.slice none 0 0)) 33) := KR0.out.below b1 KR0.out.lt
  clear b1 HB0 KP0 KR0 x0 x1 x2 x3 x4 x5 xl
  by_cases hT : TOk z0 z1 l0 l1 n0 n1
  case neg =>
    obtain rfl : q = false := by cases q with | false => rfl | true => exact absurd (hq.1 rfl) hT
    have HT : Hid (¬ TOk z0 z1 l0 l1 n0 n1) := hT
    clear hq hT
    have x0 := KP1.out.cell 0
    have x1 := KP1.out.cell 1
    have x2 := KP1.out.cell 2
    have x3 := KP1.out.cell 3
    have x4 := KP1.out.cell 4
    have x5 := KP1.out.cell 5
    have xl := KP1.out.lt
    simp at x0 x1 x2 x3 x4 x5
    go_wp2_with (fail)
    refine (copyI_c _ _ _ _ l0 l1 z0 z1 n0 n1 w1 (HR.out.below HB1.out) HL.out).mono ?_
    rintro e u0 ⟨v0, v1, v2, v3, rfl, oo, bb⟩
    clear x0 x1 x2 x3 x4 x5 xl
    obtain ⟨e0, f0, hf0, -⟩ := own_form oo.o0
    obtain ⟨e1, f1, hf1, -⟩ := own_form oo.o1
    obtain ⟨e2, f2, hf2, -⟩ := own_form oo.o2
    obtain ⟨e3, f3, hf3, -⟩ := own_form oo.o3
    subst hf0 hf1 hf2 hf3
    have kr := KR1.out.below bb KR1.out.lt
    have hcs := HB1.out.size
    have hkl := KR1.out.lt
    have HF : Hid (∀ W', st6 u0 (w.heap.size + 1) (.slice e0 z0.length f0) (.slice e1 z1.length f1) l0 l1 (.slice e2 n0.length f2) (.slice e3 n1.length f3) = W' → Blk W' (w.heap.size + 1) (T6 (.slice e0 z0.length f0) (.slice e1 z1.length f1) l0 l1 (.slice e2 n0.length f2) (.slice e3 n1.length f3)) 33 ∧ Ok6 w.heap.size W'.heap.size W' (.slice e0 z0.length f0) (.slice e1 z1.length f1) (.slice e2 n0.length f2) (.slice e3 n1.length f3) z0 z1 n0 n1 ∧ Below w.heap.size w W') := by
      intro W' hW'
      have hfr := fr_put6 u0 (w.heap.size + 1) (.slice e0 z0.length f0) (.slice e1 z1.length f1) l0 l1 (.slice e2 n0.length f2) (.slice e3 n1.length f3)
      rw [hW'] at hfr
      exact ⟨by rw [← hW']; exact put6 kr _ _ _ _ _ _, (oo.fr hfr (fun k hk e => by have := oo.ge k hk; omega)).mono (by omega) hfr.size, (belowCall HB1.out bb hcs).trans (hfr.below (by have := bb.size; omega) (fun k e => by omega))⟩
    have y0 := kr.cell 0
    have yf0 := kr.frozen 0
    have y1 := kr.cell 1
    have yf1 := kr.frozen 1
    have y2 := kr.cell 2
    have yf2 := kr.frozen 2
    have y3 := kr.cell 3
    have yf3 := kr.frozen 3
    have y4 := kr.cell 4
    have yf4 := kr.frozen 4
    have y5 := kr.cell 5
    have yf5 := kr.frozen 5
    have yl := kr.lt
    simp at y0 y1 y2 y3 y4 y5
    clear kr oo bb hcs hkl
    go_wp2
    exact bodyPost_ret (v := .agg (T6 (.slice e0 z0.length f0) (.slice e1 z1.length f1) l0 l1 (.slice e2 n0.length f2) (.slice e3 n1.length f3))) (results_cell_row rfl _ _ _ 33 _ (0, 0) _ rfl (HF.out _ rfl).1 Try.underlying33 rfl size33) rfl ((fun a => ⟨fun h => absurd h HT.out, fun _ => a⟩) ⟨_, _, _, _, rfl, (HF.out _ rfl).2⟩)
  obtain rfl : q = true := hq.2 hT
  have HT : Hid (TOk z0 z1 l0 l1 n0 n1) := hT
  clear hq hT
  have x0 := KP1.out.cell 0
  have x1 := KP1.out.cell 1
  have x2 := KP1.out.cell 2
  have x3 := KP1.out.cell 3
  have x4 := KP1.out.cell 4
  have x5 := KP1.out.cell 5
  have xl := KP1.out.lt
  simp at x0 x1 x2 x3 x4 x5
  go_wp2_with (fail)
  refine (open_c _ _ _ _ l0 l1 z0 z1 n0 n1 w1 (HR.out.below HB1.out) (by have := HT.out.1; omega) (by have := HT.out.1; have := HT.out.2.1; omega) HT.out.2.2.1.2.2.1 HT.out.2.2.2.2.2.1).mono ?_
  rintro e w2 ⟨g, cc0, cc1, k0, k1, rfl, lv, b2⟩
  have HLV : Hid (Lv w1.heap.size w2 g cc0 cc1 l0 l1 k0 k1 z0 z1 n0 n1) := lv
  have HB2 : Hid (Below w.heap.size w w2) := belowCall HB1.out b2 HB1.out.size
  have KP2 : Hid (Blk w2 w.heap.size (T6 (.slice a0 z0.length p0) (.slice a1 z1.length p1) l0 l1 (.slice a2 n0.length p2) (.slice a3 n1.length p3)) 33) := KP1.out.below b2 KP1.out.lt
  have KR2 : Hid (Blk w2 (w.heap.size + 1) (T6 (.slice none 0 0) (.slice none 0 0) 0 0 (.slice none 0 0) (.slice none 0 0)) 33) := KR1.out.below b2 KR1.out.lt
  have HZ1 : Hid (w.heap.size + 1 < w1.heap.size) := KR1.out.lt
  have HZ2 : Hid (w1.heap.size ≤ w2.heap.size) := b2.size
  clear b2 KP1 KR1 HB1 x0 x1 x2 x3 x4 x5 xl lv
  obtain ⟨R, hR⟩ : ∃ R, (Ts.mk l0 l1 z0 z1 n0 n1).end = R := ⟨_, rfl⟩
  have HEND : Hid ((Ts.mk l0 l1 z0 z1 n0 n1).end = R) := hR
  clear hR
  go_wp2
  go_loopg [] (Ts.mk l0 l1 z0 z1 n0 n1).wt (fun k wr => ∃ s : Ts, Hid (Lv w1.heap.size wr g cc0 cc1 s.l0 s.l1 k0 k1 s.z0 s.z1 s.n0 s.n1) ∧ Hid (s.ok ∧ s.end = R ∧ s.wt = k) ∧ Hid (Blk wr w.heap.size (T6 (.slice a0 z0.length p0) (.slice a1 z1.length p1) l0 l1 (.slice a2 n0.length p2) (.slice a3 n1.length p3)) 33) ∧ Hid (Blk wr (w.heap.size + 1) (T6 (.slice none 0 0) (.slice none 0 0) 0 0 (.slice none 0 0) (.slice none 0 0)) 33) ∧ Hid (Below w.heap.size w wr) ∧ Hid (w1.heap.size ≤ wr.heap.size))
  case atStart => exact ⟨(Ts.mk l0 l1 z0 z1 n0 n1), HLV.out, ⟨HT.out, HEND.out, rfl⟩, KP2.out, KR2.out, HB2.out, HZ2.out⟩
  case round =>
    obtain ⟨⟨sl0, sl1, sz0, sz1, sn0, sn1⟩, LV3, HS, KP3, KR3, HB3, HZ3⟩ := hrel
    simp only at LV3
    clear HLV KP2 KR2 HB2 HZ2
    have gc4 := LV3.out.blk.cell 4
    have gc5 := LV3.out.blk.cell 5
    have gl := LV3.out.blk.lt
    simp at gc4 gc5
    have hok := HS.out.1
    have HSO : Hid (TOk sz0 sz1 sl0 sl1 sn0 sn1) := hok
    clear hok
    go_wp2_with (fail)
    clear gc4 gc5 gl
    cases hn0 : sn0 with
    | nil =>
      cases hn1 : sn1 with
      | nil =>
        have HSE : Hid (R = some ⟨sl0, sl1, sz0, sz1, [], []⟩) := by
          have h1 := HS.out.2.1
          rw [hn0, hn1, Ts.end_still _ rfl] at h1
          exact h1.symm
        have HALL : Hid ((Ts.mk l0 l1 z0 z1 n0 n1).all = ⟨sl0, sl1, sz0, sz1, [], []⟩) := by show _ = _; unfold Ts.all; rw [HEND.out, HSE.out]; rfl
        have LV3' : Hid (Lv w1.heap.size wr g cc0 cc1 sl0 sl1 k0 k1 sz0 sz1 [] []) := by have := LV3.out; rw [hn0, hn1] at this; exact this
        clear hn0 hn1 LV3 HS HSO HSE
        refine (firstB2_c k0 k1 wr LV3'.out.ch0 LV3'.out.ch1).mono ?_
        rintro e w4 ⟨rfl, b4⟩
        have HB4 : Hid (Below w.heap.size w w4) := belowCall HB3.out b4 HB3.out.size
        have KR4 : Hid (Blk w4 (w.heap.size + 1) (T6 (.slice none 0 0) (.slice none 0 0) 0 0 (.slice none 0 0) (.slice none 0 0)) 33) := KR3.out.below b4 KR3.out.lt
        have LV4 : Hid (Lv w1.heap.size w4 g cc0 cc1 sl0 sl1 k0 k1 sz0 sz1 [] []) := LV3'.out.below b4
        have HZ4 : Hid (w1.heap.size ≤ w4.heap.size) := Nat.le_trans HZ3.out b4.size
        clear b4 LV3' KP3 KR3 HB3 HZ3
        obtain ⟨w5, hw5⟩ : ∃ W, w4.alloc (Obj.cells #[Value.int .i64 0, Value.int .i64 0] 68) = W := ⟨_, rfl⟩
        have BB5 : Hid (Below w4.heap.size w4 w5) := by rw [← hw5]; exact (Below.refl _ _).alloc (Nat.le_refl _) _
        have HB5 : Hid (Below w.heap.size w w5) := belowCall HB4.out BB5.out HB4.out.size
        have KR5 : Hid (Blk w5 (w.heap.size + 1) (T6 (.slice none 0 0) (.slice none 0 0) 0 0 (.slice none 0 0) (.slice none 0 0)) 33) := KR4.out.below BB5.out KR4.out.lt
        have LV5 : Hid (Lv w1.heap.size w5 g cc0 cc1 sl0 sl1 k0 k1 sz0 sz1 [] []) := LV4.out.below BB5.out
        have HZ5 : Hid (w1.heap.size ≤ w5.heap.size) := Nat.le_trans HZ4.out BB5.out.size
        have HW5 : Hid (w4.alloc (Obj.cells #[Value.int .i64 0, Value.int .i64 0] 68) = w5) := hw5
        clear hw5
        go_wp2_with (fail)
        rw [HW5.out]
        refine (as_c w1.heap.size g _ _ sl0 sl1 k0 k1 sz0 sz1 [] [] w5 LV5.out HZ5.out (by simp) (by simp)).mono ?_
        rintro e u0 ⟨v0, v1, v2, v3, rfl, oo, bb⟩
        obtain ⟨e0, f0, hf0, -⟩ := own_form oo.o0
        obtain ⟨e1, f1, hf1, -⟩ := own_form oo.o1
        obtain ⟨e2, f2, hf2, -⟩ := own_form oo.o2
        obtain ⟨e3, f3, hf3, -⟩ := own_form oo.o3
        obtain ⟨q0, hq0⟩ : ∃ q, sz0.length = q := ⟨_, rfl⟩
        obtain ⟨q1, hq1⟩ : ∃ q, sz1.length = q := ⟨_, rfl⟩
        rw [hq0] at hf0
        rw [hq1] at hf1
        have hl0 : ([] : Mvs).length = 0 := rfl
        rw [hl0] at hf2 hf3
        subst hf0 hf1 hf2 hf3
        have hcs := HB5.out.size
        have hkl := KR5.out.lt
        have hz1 := HZ1.out
        have hz5 := HZ5.out
        have kr := KR5.out.below bb (by omega)
        have HF : Hid (∀ W', st6 u0 (w.heap.size + 1) (.slice e0 q0 f0) (.slice e1 q1 f1) sl0 sl1 (.slice e2 0 f2) (.slice e3 0 f3) = W' → Blk W' (w.heap.size + 1) (T6 (.slice e0 q0 f0) (.slice e1 q1 f1) sl0 sl1 (.slice e2 0 f2) (.slice e3 0 f3)) 33 ∧ Ok6 w.heap.size W'.heap.size W' (.slice e0 q0 f0) (.slice e1 q1 f1) (.slice e2 0 f2) (.slice e3 0 f3) sz0 sz1 [] [] ∧ Below w.heap.size w W') := by
          intro W' hW'
          have hfr := fr_put6 u0 (w.heap.size + 1) (.slice e0 q0 f0) (.slice e1 q1 f1) sl0 sl1 (.slice e2 0 f2) (.slice e3 0 f3)
          rw [hW'] at hfr
          exact ⟨by rw [← hW']; exact put6 kr _ _ _ _ _ _, (oo.fr hfr (fun k hk e => by have := oo.ge k hk; omega)).mono (by omega) hfr.size, (HB5.out.trans (bb.mono (by omega))).trans (hfr.below (by have := bb.size; omega) (fun k e => by omega))⟩
        clear hq0 hq1 hl0
        have y0 := kr.cell 0
        have yf0 := kr.frozen 0
        have y1 := kr.cell 1
        have yf1 := kr.frozen 1
        have y2 := kr.cell 2
        have yf2 := kr.frozen 2
        have y3 := kr.cell 3
        have yf3 := kr.frozen 3
        have y4 := kr.cell 4
        have yf4 := kr.frozen 4
        have y5 := kr.cell 5
        have yf5 := kr.frozen 5
        have yl := kr.lt
        simp at y0 y1 y2 y3 y4 y5
        clear kr oo bb hcs hkl hz1 hz5
        go_wp2
        exact bodyPost_ret (v := .agg (T6 (.slice e0 q0 f0) (.slice e1 q1 f1) sl0 sl1 (.slice e2 0 f2) (.slice e3 0 f3))) (results_cell_row rfl _ _ _ 33 _ (0, 0) _ rfl (HF.out _ rfl).1 Try.underlying33 rfl size33) rfl ⟨fun _ => by rw [HALL.out]; exact ⟨_, _, _, _, rfl, (HF.out _ rfl).2⟩, fun h => absurd HT.out h⟩
      | cons x ns =>
        obtain ⟨kd, m, rfl, hkd, hm⟩ : ∃ (kd : Int) (m : Nat), x = (kd, (m : Int)) ∧ (1 ≤ kd ∧ kd ≤ 5) ∧ m < sz0.length := (Ts.head ⟨sl0, sl1, sz0, sz1, sn0, sn1⟩ HSO.out).2 x ns hn1
        subst hn0 hn1
        have HKD : Hid (1 ≤ kd ∧ kd ≤ 5) := hkd
        have HM : Hid (m < sz1.length ∧ m ≤ 24) := by have h1 := HSO.out.1; have h2 := HSO.out.2.1; show _ ∧ _; omega
        have HNL : Hid (ns.length ≤ 60) := by have := HSO.out.2.2.2.2.2.1; simp only [List.length_cons] at this; show _ ≤ _; omega
        clear hkd hm
        refine (firstB1_c k0 k1 (kd, (m : Int)) ns wr LV3.out.ch0 LV3.out.ch1).mono ?_
        rintro e w4 ⟨rfl, c4, f4⟩
        have LV4 : Hid (Lv w1.heap.size w4 g cc0 cc1 sl0 sl1 k0 k1 sz0 sz1 [] ns) := LV3.out.way1 c4 f4
        have hbk := LV3.out.bk1
        have hz1 := HZ1.out
        have hz3 := HZ3.out
        have HB4 : Hid (Below w.heap.size w w4) := HB3.out.trans (f4.below HB3.out.size (fun k e => by omega))
        have KP4 : Hid (Blk w4 w.heap.size (T6 (.slice a0 z0.length p0) (.slice a1 z1.length p1) l0 l1 (.slice a2 n0.length p2) (.slice a3 n1.length p3)) 33) := KP3.out.fr f4 (by omega)
        have KR4 : Hid (Blk w4 (w.heap.size + 1) (T6 (.slice none 0 0) (.slice none 0 0) 0 0 (.slice none 0 0) (.slice none 0 0)) 33) := KR3.out.fr f4 (by omega)
        have HZ4 : Hid (w1.heap.size ≤ w4.heap.size) := Nat.le_trans hz3 f4.size
        clear c4 f4 hbk hz1 hz3 LV3 KP3 KR3 HB3 HZ3
        obtain ⟨w5, hw5⟩ : ∃ W, w4.alloc (Obj.cells #[Value.int .i64 kd, Value.int .i64 (m : Int)] 68) = W := ⟨_, rfl⟩
        have KN5 : Hid (Blk w5 w4.heap.size (H2 kd (m : Int)) 68) := by rw [← hw5]; exact Blk.new _ _ _
        have BB5 : Hid (Below w4.heap.size w4 w5) := by rw [← hw5]; exact (Below.refl _ _).alloc (Nat.le_refl _) _
        have HB5 : Hid (Below w.heap.size w w5) := belowCall HB4.out BB5.out HB4.out.size
        have KP5 : Hid (Blk w5 w.heap.size (T6 (.slice a0 z0.length p0) (.slice a1 z1.length p1) l0 l1 (.slice a2 n0.length p2) (.slice a3 n1.length p3)) 33) := KP4.out.below BB5.out KP4.out.lt
        have KR5 : Hid (Blk w5 (w.heap.size + 1) (T6 (.slice none 0 0) (.slice none 0 0) 0 0 (.slice none 0 0) (.slice none 0 0)) 33) := KR4.out.below BB5.out KR4.out.lt
        have LV5 : Hid (Lv w1.heap.size w5 g cc0 cc1 sl0 sl1 k0 k1 sz0 sz1 [] ns) := LV4.out.below BB5.out
        have HZ5 : Hid (w1.heap.size ≤ w5.heap.size) := Nat.le_trans HZ4.out BB5.out.size
        have kn0 := KN5.out.cell 0
        have kn1 := KN5.out.cell 1
        simp at kn0 kn1
        clear LV4 KP4 KR4 HB4 HZ4
        go_wp2_with (fail)
        clear hw5 kn0 kn1
        refine (arrive1_c w1.heap.size g _ _ sl0 sl1 k0 k1 sz0 sz1 [] ns kd m w5 LV5.out HZ5.out HKD.out HM.out.1 (HSO.out.2.2.2.1 m HM.out.1) HM.out.2 HSO.out.2.2.2.2.1 HSO.out.2.2.1.2.2.1).mono ?_
        rintro e w6 ⟨hA, hBd⟩
        have HMAY : Hid ((Ts.mk sl0 sl1 sz0 sz1 [] ((kd, (m : Int)) :: ns)).still = false ∧ ((Ts.mk sl0 sl1 sz0 sz1 [] ((kd, (m : Int)) :: ns)).may = true ↔ ArOk1 sl0 sl1 sz0 sz1 [] ns kd m)) := ⟨rfl, Ts.a1_iff (Ts.mk sl0 sl1 sz0 sz1 [] ((kd, (m : Int)) :: ns)) kd m ns rfl⟩
        by_cases hok : ArOk1 sl0 sl1 sz0 sz1 [] ns kd m
        case neg =>
          obtain ⟨rfl, b6⟩ := hBd hok
          have hz1 := HZ1.out
          have hz5 := HZ5.out
          have HRN : Hid (R = none) := by
            have h1 := HS.out.2.1
            rw [Ts.end_no (Ts.mk sl0 sl1 sz0 sz1 [] ((kd, (m : Int)) :: ns)) HMAY.out.1 (by cases hq : (Ts.mk sl0 sl1 sz0 sz1 [] ((kd, (m : Int)) :: ns)).may with | false => rfl | true => exact absurd (HMAY.out.2.1 hq) hok)] at h1
            exact h1.symm
          have HALL : Hid ((Ts.mk l0 l1 z0 z1 n0 n1).all = (Ts.mk l0 l1 z0 z1 n0 n1)) := by show _ = _; unfold Ts.all; rw [HEND.out, HRN.out]; rfl
          have HB6 : Hid (Below w.heap.size w w6) := HB5.out.trans (b6.mono (by omega))
          have KP6 : Hid (Blk w6 w.heap.size (T6 (.slice a0 z0.length p0) (.slice a1 z1.length p1) l0 l1 (.slice a2 n0.length p2) (.slice a3 n1.length p3)) 33) := KP5.out.below b6 (by omega)
          have KR6 : Hid (Blk w6 (w.heap.size + 1) (T6 (.slice none 0 0) (.slice none 0 0) 0 0 (.slice none 0 0) (.slice none 0 0)) 33) := KR5.out.below b6 (by omega)
          clear hA hBd b6 hok hz1 hz5
          have x0 := KP6.out.cell 0
          have x1 := KP6.out.cell 1
          have x2 := KP6.out.cell 2
          have x3 := KP6.out.cell 3
          have x4 := KP6.out.cell 4
          have x5 := KP6.out.cell 5
          have xl := KP6.out.lt
          simp at x0 x1 x2 x3 x4 x5
          go_wp2_with (fail)
          refine (copyI_c _ _ _ _ l0 l1 z0 z1 n0 n1 w6 (HR.out.below HB6.out) HL.out).mono ?_
          rintro e u0 ⟨v0, v1, v2, v3, rfl, oo, bb⟩
          clear x0 x1 x2 x3 x4 x5 xl
          obtain ⟨e0, f0, hf0, -⟩ := own_form oo.o0
          obtain ⟨e1, f1, hf1, -⟩ := own_form oo.o1
          obtain ⟨e2, f2, hf2, -⟩ := own_form oo.o2
          obtain ⟨e3, f3, hf3, -⟩ := own_form oo.o3
          subst hf0 hf1 hf2 hf3
          have kr := KR6.out.below bb KR6.out.lt
          have hcs := HB6.out.size
          have hkl := KR6.out.lt
          have HF : Hid (∀ W', st6 u0 (w.heap.size + 1) (.slice e0 z0.length f0) (.slice e1 z1.length f1) l0 l1 (.slice e2 n0.length f2) (.slice e3 n1.length f3) = W' → Blk W' (w.heap.size + 1) (T6 (.slice e0 z0.length f0) (.slice e1 z1.length f1) l0 l1 (.slice e2 n0.length f2) (.slice e3 n1.length f3)) 33 ∧ Ok6 w.heap.size W'.heap.size W' (.slice e0 z0.length f0) (.slice e1 z1.length f1) (.slice e2 n0.length f2) (.slice e3 n1.length f3) z0 z1 n0 n1 ∧ Below w.heap.size w W') := by
            intro W' hW'
            have hfr := fr_put6 u0 (w.heap.size + 1) (.slice e0 z0.length f0) (.slice e1 z1.length f1) l0 l1 (.slice e2 n0.length f2) (.slice e3 n1.length f3)
            rw [hW'] at hfr
            exact ⟨by rw [← hW']; exact put6 kr _ _ _ _ _ _, (oo.fr hfr (fun k hk e => by have := oo.ge k hk; omega)).mono (by omega) hfr.size, (belowCall HB6.out bb hcs).trans (hfr.below (by have := bb.size; omega) (fun k e => by omega))⟩
          have y0 := kr.cell 0
          have yf0 := kr.frozen 0
          have y1 := kr.cell 1
          have yf1 := kr.frozen 1
          have y2 := kr.cell 2
          have yf2 := kr.frozen 2
          have y3 := kr.cell 3
          have yf3 := kr.frozen 3
          have y4 := kr.cell 4
          have yf4 := kr.frozen 4
          have y5 := kr.cell 5
          have yf5 := kr.frozen 5
          have yl := kr.lt
          simp at y0 y1 y2 y3 y4 y5
          clear kr oo bb hcs hkl
          go_wp2
          exact bodyPost_ret (v := .agg (T6 (.slice e0 z0.length f0) (.slice e1 z1.length f1) l0 l1 (.slice e2 n0.length f2) (.slice e3 n1.length f3))) (results_cell_row rfl _ _ _ 33 _ (0, 0) _ rfl (HF.out _ rfl).1 Try.underlying33 rfl size33) rfl ((fun (a : TcR l0 l1 z0 z1 n0 n1 w _ _) => ⟨fun _ => by rw [HALL.out]; exact a, fun h => absurd HT.out h⟩) ⟨_, _, _, _, rfl, (HF.out _ rfl).2⟩)
        obtain ⟨rfl, lv6, b6⟩ := hA hok
        have hz1 := HZ1.out
        have hz5 := HZ5.out
        have HNX : Hid ((Ts.mk sl0 sl1 sz0 sz1 [] ((kd, (m : Int)) :: ns)).next = (Ts.mk sl0 sl1 sz0 sz1 [] ((kd, (m : Int)) :: ns)).c1) := rfl
        have HMY : Hid ((Ts.mk sl0 sl1 sz0 sz1 [] ((kd, (m : Int)) :: ns)).may = true) := HMAY.out.2.2 hok
        have HNE := (Ts.mk sl0 sl1 sz0 sz1 [] ((kd, (m : Int)) :: ns)).next_ok HSO.out HMAY.out.1 HMY.out
        have HEN : Hid ((Ts.mk sl0 sl1 sz0 sz1 [] ((kd, (m : Int)) :: ns)).next.end = R) := by show _ = _; rw [← Ts.end_next (Ts.mk sl0 sl1 sz0 sz1 [] ((kd, (m : Int)) :: ns)) HSO.out HMAY.out.1 HMY.out]; exact HS.out.2.1
        have hce := Ts.c1_eq (Ts.mk sl0 sl1 sz0 sz1 [] ((kd, (m : Int)) :: ns)) kd m ns rfl
        have LV6 : Hid (Lv w1.heap.size w6 g cc0 cc1 (Ts.mk sl0 sl1 sz0 sz1 [] ((kd, (m : Int)) :: ns)).next.l0 (Ts.mk sl0 sl1 sz0 sz1 [] ((kd, (m : Int)) :: ns)).next.l1 k0 k1 (Ts.mk sl0 sl1 sz0 sz1 [] ((kd, (m : Int)) :: ns)).next.z0 (Ts.mk sl0 sl1 sz0 sz1 [] ((kd, (m : Int)) :: ns)).next.z1 (Ts.mk sl0 sl1 sz0 sz1 [] ((kd, (m : Int)) :: ns)).next.n0 (Ts.mk sl0 sl1 sz0 sz1 [] ((kd, (m : Int)) :: ns)).next.n1) := by
          show Lv _ _ _ _ _ _ _ _ _ _ _ _ _
          rw [HNX.out, hce]
          exact lv6
        have HB6 : Hid (Below w.heap.size w w6) := HB5.out.trans (b6.mono (by omega))
        have KP6 : Hid (Blk w6 w.heap.size (T6 (.slice a0 z0.length p0) (.slice a1 z1.length p1) l0 l1 (.slice a2 n0.length p2) (.slice a3 n1.length p3)) 33) := KP5.out.below b6 (by omega)
        have KR6 : Hid (Blk w6 (w.heap.size + 1) (T6 (.slice none 0 0) (.slice none 0 0) 0 0 (.slice none 0 0) (.slice none 0 0)) 33) := KR5.out.below b6 (by omega)
        have HZ6 : Hid (w1.heap.size ≤ w6.heap.size) := Nat.le_trans hz5 b6.size
        have HNK : Hid ((Ts.mk sl0 sl1 sz0 sz1 [] ((kd, (m : Int)) :: ns)).next.ok ∧ (Ts.mk sl0 sl1 sz0 sz1 [] ((kd, (m : Int)) :: ns)).next.wt < gk) := ⟨HNE.1, by rw [← HS.out.2.2]; exact HNE.2⟩
        clear hA hBd b6 hok hz1 hz5 lv6 hce HNE HNX
        go_wp2
        go_roundg ((Ts.mk sl0 sl1 sz0 sz1 [] ((kd, (m : Int)) :: ns)).next.wt)
        case measure => exact HNK.out.2
        case rel => exact ⟨(Ts.mk sl0 sl1 sz0 sz1 [] ((kd, (m : Int)) :: ns)).next, LV6.out, ⟨HNK.out.1, HEN.out, rfl⟩, KP6.out, KR6.out, HB6.out, HZ6.out⟩
    | cons x ns =>
      obtain ⟨kd, m, rfl, hkd, hm⟩ : ∃ (kd : Int) (m : Nat), x = (kd, (m : Int)) ∧ (1 ≤ kd ∧ kd ≤ 5) ∧ m < sz0.length := (Ts.head ⟨sl0, sl1, sz0, sz1, sn0, sn1⟩ HSO.out).1 x ns hn0
      subst hn0
      have HKD : Hid (1 ≤ kd ∧ kd ≤ 5) := hkd
      have HM : Hid (m < sz0.length ∧ m ≤ 24) := by have h1 := HSO.out.1; have h2 := HSO.out.2.1; show _ ∧ _; omega
      have HNL : Hid (ns.length ≤ 60) := by have := HSO.out.2.2.1.2.2.1; simp only [List.length_cons] at this; show _ ≤ _; omega
      clear hkd hm
      refine (firstB0_c k0 k1 (kd, (m : Int)) ns wr LV3.out.ch0).mono ?_
      rintro e w4 ⟨rfl, c4, f4⟩
      have LV4 : Hid (Lv w1.heap.size w4 g cc0 cc1 sl0 sl1 k0 k1 sz0 sz1 ns sn1) := LV3.out.way0 c4 f4
      have hbk := LV3.out.bk0
      have hz1 := HZ1.out
      have hz3 := HZ3.out
      have HB4 : Hid (Below w.heap.size w w4) := HB3.out.trans (f4.below HB3.out.size (fun k e => by omega))
      have KP4 : Hid (Blk w4 w.heap.size (T6 (.slice a0 z0.length p0) (.slice a1 z1.length p1) l0 l1 (.slice a2 n0.length p2) (.slice a3 n1.length p3)) 33) := KP3.out.fr f4 (by omega)
      have KR4 : Hid (Blk w4 (w.heap.size + 1) (T6 (.slice none 0 0) (.slice none 0 0) 0 0 (.slice none 0 0) (.slice none 0 0)) 33) := KR3.out.fr f4 (by omega)
      have HZ4 : Hid (w1.heap.size ≤ w4.heap.size) := Nat.le_trans hz3 f4.size
      clear c4 f4 hbk hz1 hz3 LV3 KP3 KR3 HB3 HZ3
      obtain ⟨w5, hw5⟩ : ∃ W, w4.alloc (Obj.cells #[Value.int .i64 kd, Value.int .i64 (m : Int)] 68) = W := ⟨_, rfl⟩
      have KN5 : Hid (Blk w5 w4.heap.size (H2 kd (m : Int)) 68) := by rw [← hw5]; exact Blk.new _ _ _
      have BB5 : Hid (Below w4.heap.size w4 w5) := by rw [← hw5]; exact (Below.refl _ _).alloc (Nat.le_refl _) _
      have HB5 : Hid (Below w.heap.size w w5) := belowCall HB4.out BB5.out HB4.out.size
      have KP5 : Hid (Blk w5 w.heap.size (T6 (.slice a0 z0.length p0) (.slice a1 z1.length p1) l0 l1 (.slice a2 n0.length p2) (.slice a3 n1.length p3)) 33) := KP4.out.below BB5.out KP4.out.lt
      have KR5 : Hid (Blk w5 (w.heap.size + 1) (T6 (.slice none 0 0) (.slice none 0 0) 0 0 (.slice none 0 0) (.slice none 0 0)) 33) := KR4.out.below BB5.out KR4.out.lt
      have LV5 : Hid (Lv w1.heap.size w5 g cc0 cc1 sl0 sl1 k0 k1 sz0 sz1 ns sn1) := LV4.out.below BB5.out
      have HZ5 : Hid (w1.heap.size ≤ w5.heap.size) := Nat.le_trans HZ4.out BB5.out.size
      have kn0 := KN5.out.cell 0
      have kn1 := KN5.out.cell 1
      simp at kn0 kn1
      clear LV4 KP4 KR4 HB4 HZ4
      go_wp2_with (fail)
      clear hw5 kn0 kn1
      refine (arrive0_c w1.heap.size g _ _ sl0 sl1 k0 k1 sz0 sz1 ns sn1 kd m w5 LV5.out HZ5.out HKD.out HM.out.1 (HSO.out.2.2.1.1 m HM.out.1) HM.out.2 HSO.out.2.2.1.2.1 HSO.out.2.2.2.2.2.1).mono ?_
      rintro e w6 ⟨hA, hBd⟩
      have HMAY : Hid ((Ts.mk sl0 sl1 sz0 sz1 ((kd, (m : Int)) :: ns) sn1).still = false ∧ ((Ts.mk sl0 sl1 sz0 sz1 ((kd, (m : Int)) :: ns) sn1).may = true ↔ ArOk0 sl0 sl1 sz0 sz1 ns sn1 kd m)) := ⟨rfl, Ts.a0_iff (Ts.mk sl0 sl1 sz0 sz1 ((kd, (m : Int)) :: ns) sn1) kd m ns rfl⟩
      by_cases hok : ArOk0 sl0 sl1 sz0 sz1 ns sn1 kd m
      case neg =>
        obtain ⟨rfl, b6⟩ := hBd hok
        have hz1 := HZ1.out
        have hz5 := HZ5.out
        have HRN : Hid (R = none) := by
          have h1 := HS.out.2.1
          rw [Ts.end_no (Ts.mk sl0 sl1 sz0 sz1 ((kd, (m : Int)) :: ns) sn1) HMAY.out.1 (by cases hq : (Ts.mk sl0 sl1 sz0 sz1 ((kd, (m : Int)) :: ns) sn1).may with | false => rfl | true => exact absurd (HMAY.out.2.1 hq) hok)] at h1
          exact h1.symm
        have HALL : Hid ((Ts.mk l0 l1 z0 z1 n0 n1).all = (Ts.mk l0 l1 z0 z1 n0 n1)) := by show _ = _; unfold Ts.all; rw [HEND.out, HRN.out]; rfl
        have HB6 : Hid (Below w.heap.size w w6) := HB5.out.trans (b6.mono (by omega))
        have KP6 : Hid (Blk w6 w.heap.size (T6 (.slice a0 z0.length p0) (.slice a1 z1.length p1) l0 l1 (.slice a2 n0.length p2) (.slice a3 n1.length p3)) 33) := KP5.out.below b6 (by omega)
        have KR6 : Hid (Blk w6 (w.heap.size + 1) (T6 (.slice none 0 0) (.slice none 0 0) 0 0 (.slice none 0 0) (.slice none 0 0)) 33) := KR5.out.below b6 (by omega)
        clear hA hBd b6 hok hz1 hz5
        have x0 := KP6.out.cell 0
        have x1 := KP6.out.cell 1
        have x2 := KP6.out.cell 2
        have x3 := KP6.out.cell 3
        have x4 := KP6.out.cell 4
        have x5 := KP6.out.cell 5
        have xl := KP6.out.lt
        simp at x0 x1 x2 x3 x4 x5
        go_wp2_with (fail)
        refine (copyI_c _ _ _ _ l0 l1 z0 z1 n0 n1 w6 (HR.out.below HB6.out) HL.out).mono ?_
        rintro e u0 ⟨v0, v1, v2, v3, rfl, oo, bb⟩
        clear x0 x1 x2 x3 x4 x5 xl
        obtain ⟨e0, f0, hf0, -⟩ := own_form oo.o0
        obtain ⟨e1, f1, hf1, -⟩ := own_form oo.o1
        obtain ⟨e2, f2, hf2, -⟩ := own_form oo.o2
        obtain ⟨e3, f3, hf3, -⟩ := own_form oo.o3
        subst hf0 hf1 hf2 hf3
        have kr := KR6.out.below bb KR6.out.lt
        have hcs := HB6.out.size
        have hkl := KR6.out.lt
        have HF : Hid (∀ W', st6 u0 (w.heap.size + 1) (.slice e0 z0.length f0) (.slice e1 z1.length f1) l0 l1 (.slice e2 n0.length f2) (.slice e3 n1.length f3) = W' → Blk W' (w.heap.size + 1) (T6 (.slice e0 z0.length f0) (.slice e1 z1.length f1) l0 l1 (.slice e2 n0.length f2) (.slice e3 n1.length f3)) 33 ∧ Ok6 w.heap.size W'.heap.size W' (.slice e0 z0.length f0) (.slice e1 z1.length f1) (.slice e2 n0.length f2) (.slice e3 n1.length f3) z0 z1 n0 n1 ∧ Below w.heap.size w W') := by
          intro W' hW'
          have hfr := fr_put6 u0 (w.heap.size + 1) (.slice e0 z0.length f0) (.slice e1 z1.length f1) l0 l1 (.slice e2 n0.length f2) (.slice e3 n1.length f3)
          rw [hW'] at hfr
          exact ⟨by rw [← hW']; exact put6 kr _ _ _ _ _ _, (oo.fr hfr (fun k hk e => by have := oo.ge k hk; omega)).mono (by omega) hfr.size, (belowCall HB6.out bb hcs).trans (hfr.below (by have := bb.size; omega) (fun k e => by omega))⟩
        have y0 := kr.cell 0
        have yf0 := kr.frozen 0
        have y1 := kr.cell 1
        have yf1 := kr.frozen 1
        have y2 := kr.cell 2
        have yf2 := kr.frozen 2
        have y3 := kr.cell 3
        have yf3 := kr.frozen 3
        have y4 := kr.cell 4
        have yf4 := kr.frozen 4
        have y5 := kr.cell 5
        have yf5 := kr.frozen 5
        have yl := kr.lt
        simp at y0 y1 y2 y3 y4 y5
        clear kr oo bb hcs hkl
        go_wp2
        exact bodyPost_ret (v := .agg (T6 (.slice e0 z0.length f0) (.slice e1 z1.length f1) l0 l1 (.slice e2 n0.length f2) (.slice e3 n1.length f3))) (results_cell_row rfl _ _ _ 33 _ (0, 0) _ rfl (HF.out _ rfl).1 Try.underlying33 rfl size33) rfl ((fun (a : TcR l0 l1 z0 z1 n0 n1 w _ _) => ⟨fun _ => by rw [HALL.out]; exact a, fun h => absurd HT.out h⟩) ⟨_, _, _, _, rfl, (HF.out _ rfl).2⟩)
      obtain ⟨rfl, lv6, b6⟩ := hA hok
      have hz1 := HZ1.out
      have hz5 := HZ5.out
      have HNX : Hid ((Ts.mk sl0 sl1 sz0 sz1 ((kd, (m : Int)) :: ns) sn1).next = (Ts.mk sl0 sl1 sz0 sz1 ((kd, (m : Int)) :: ns) sn1).c0) := rfl
      have HMY : Hid ((Ts.mk sl0 sl1 sz0 sz1 ((kd, (m : Int)) :: ns) sn1).may = true) := HMAY.out.2.2 hok
      have HNE := (Ts.mk sl0 sl1 sz0 sz1 ((kd, (m : Int)) :: ns) sn1).next_ok HSO.out HMAY.out.1 HMY.out
      have HEN : Hid ((Ts.mk sl0 sl1 sz0 sz1 ((kd, (m : Int)) :: ns) sn1).next.end = R) := by show _ = _; rw [← Ts.end_next (Ts.mk sl0 sl1 sz0 sz1 ((kd, (m : Int)) :: ns) sn1) HSO.out HMAY.out.1 HMY.out]; exact HS.out.2.1
      have hce := Ts.c0_eq (Ts.mk sl0 sl1 sz0 sz1 ((kd, (m : Int)) :: ns) sn1) kd m ns rfl
      have LV6 : Hid (Lv w1.heap.size w6 g cc0 cc1 (Ts.mk sl0 sl1 sz0 sz1 ((kd, (m : Int)) :: ns) sn1).next.l0 (Ts.mk sl0 sl1 sz0 sz1 ((kd, (m : Int)) :: ns) sn1).next.l1 k0 k1 (Ts.mk sl0 sl1 sz0 sz1 ((kd, (m : Int)) :: ns) sn1).next.z0 (Ts.mk sl0 sl1 sz0 sz1 ((kd, (m : Int)) :: ns) sn1).next.z1 (Ts.mk sl0 sl1 sz0 sz1 ((kd, (m : Int)) :: ns) sn1).next.n0 (Ts.mk sl0 sl1 sz0 sz1 ((kd, (m : Int)) :: ns) sn1).next.n1) := by
        show Lv _ _ _ _ _ _ _ _ _ _ _ _ _
        rw [HNX.out, hce]
        exact lv6
      have HB6 : Hid (Below w.heap.size w w6) := HB5.out.trans (b6.mono (by omega))
      have KP6 : Hid (Blk w6 w.heap.size (T6 (.slice a0 z0.length p0) (.slice a1 z1.length p1) l0 l1 (.slice a2 n0.length p2) (.slice a3 n1.length p3)) 33) := KP5.out.below b6 (by omega)
      have KR6 : Hid (Blk w6 (w.heap.size + 1) (T6 (.slice none 0 0) (.slice none 0 0) 0 0 (.slice none 0 0) (.slice none 0 0)) 33) := KR5.out.below b6 (by omega)
      have HZ6 : Hid (w1.heap.size ≤ w6.heap.size) := Nat.le_trans hz5 b6.size
      have HNK : Hid ((Ts.mk sl0 sl1 sz0 sz1 ((kd, (m : Int)) :: ns) sn1).next.ok ∧ (Ts.mk sl0 sl1 sz0 sz1 ((kd, (m : Int)) :: ns) sn1).next.wt < gk) := ⟨HNE.1, by rw [← HS.out.2.2]; exact HNE.2⟩
      clear hA hBd b6 hok hz1 hz5 lv6 hce HNE HNX
      go_wp2
      go_roundg ((Ts.mk sl0 sl1 sz0 sz1 ((kd, (m : Int)) :: ns) sn1).next.wt)
      case measure => exact HNK.out.2
      case rel => exact ⟨(Ts.mk sl0 sl1 sz0 sz1 ((kd, (m : Int)) :: ns) sn1).next, LV6.out, ⟨HNK.out.1, HEN.out, rfl⟩, KP6.out, KR6.out, HB6.out, HZ6.out⟩
end Go.Proofs.Ytkehcalijamhjaa

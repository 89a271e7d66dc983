/- The program's Carry; no condition. -/
import Derived.Test.YtkehcalijamhjaaArr
import Derived.Test.YtkehcalijamhjaaAst
import Derived.Test.YtkehcalijamhjaaHea
import Derived.Test.YtkehcalijamhjaaLvX
import Derived.Test.YtkehcalijamhjaaTkI
import Derived.Test.YtkehcalijamhjaaFst
namespace Go.Proofs.Ytkehcalijamhjaa
open Go.RowKit Go.ChangeShapes Go.WideShapes Go.ChangeAt
set_option linter.unusedVariables false
set_option linter.unusedSimpArgs false
set_option maxRecDepth 8000
/-- the first note to side 0 is carried: whether it may be, and what is told -/
def CaOk0 (z0 z1 : List Int) (l0 l1 : Int) (n0 n1 : Mvs) : Prop := TOk z0 z1 l0 l1 n0 n1 ∧ 0 < n0.length ∧ ArOk0 l0 l1 z0 z1 n0.tail n1 ((n0.headD (0, 0)).1) ((n0.headD (0, 0)).2.toNat)
def CaR0 (z0 z1 : List Int) (l0 l1 : Int) (n0 n1 : Mvs) (w : World) (e : Ending) (w' : World) : Prop :=
  (CaOk0 z0 z1 l0 l1 n0 n1 → TwS (l0 + (hearF ((n0.headD (0, 0)).1) (z0.getD ((n0.headD (0, 0)).2.toNat) 0) ((((n0.headD (0, 0)).2.toNat) : Int) % 2 == 0)).2.2) l1 (z0.set ((n0.headD (0, 0)).2.toNat) (hearF ((n0.headD (0, 0)).1) (z0.getD ((n0.headD (0, 0)).2.toNat) 0) ((((n0.headD (0, 0)).2.toNat) : Int) % 2 == 0)).1) z1 n0.tail (n1 ++ bkN0 z0 ((n0.headD (0, 0)).1) ((n0.headD (0, 0)).2.toNat)) (.bool true) w e w') ∧ (¬ CaOk0 z0 z1 l0 l1 n0 n1 → TwS l0 l1 z0 z1 n0 n1 (.bool false) w e w')
/-- the first note to side 1 is carried: whether it may be, and what is told -/
def CaOk1 (z0 z1 : List Int) (l0 l1 : Int) (n0 n1 : Mvs) : Prop := TOk z0 z1 l0 l1 n0 n1 ∧ 0 < n1.length ∧ ArOk1 l0 l1 z0 z1 n0 n1.tail ((n1.headD (0, 0)).1) ((n1.headD (0, 0)).2.toNat)
def CaR1 (z0 z1 : List Int) (l0 l1 : Int) (n0 n1 : Mvs) (w : World) (e : Ending) (w' : World) : Prop :=
  (CaOk1 z0 z1 l0 l1 n0 n1 → TwS l0 (l1 + (hearF ((n1.headD (0, 0)).1) (z1.getD ((n1.headD (0, 0)).2.toNat) 0) ((((n1.headD (0, 0)).2.toNat) : Int) % 2 == 1)).2.2) z0 (z1.set ((n1.headD (0, 0)).2.toNat) (hearF ((n1.headD (0, 0)).1) (z1.getD ((n1.headD (0, 0)).2.toNat) 0) ((((n1.headD (0, 0)).2.toNat) : Int) % 2 == 1)).1) (n0 ++ bkN1 z1 ((n1.headD (0, 0)).1) ((n1.headD (0, 0)).2.toNat)) n1.tail (.bool true) w e w') ∧ (¬ CaOk1 z0 z1 l0 l1 n0 n1 → TwS l0 l1 z0 z1 n0 n1 (.bool false) w e w')
set_option maxHeartbeats 12800000 in
theorem carryI0_c (c0 c1 w0 w1 : Value) (l0 l1 : Int) (z0 z1 : List Int) (n0 n1 : Mvs) (w : World) (h : Rk w c0 c1 w0 w1 z0 z1 n0 n1) (hl : (z0.length : Int) + z1.length + (n0.length + n1.length) ≤ 1048576) :
    Calls Try.prog 18 #[.agg (T6 c0 c1 l0 l1 w0 w1), .int .i64 0] w (CaR0 z0 z1 l0 l1 n0 n1 w) := by
  obtain ⟨W0, hW0⟩ : ∃ W0, (w.alloc (Obj.cells (T6 c0 c1 l0 l1 w0 w1) 33)).alloc (Obj.cells (T6 (.slice none 0 0) (.slice none 0 0) 0 0 (.slice none 0 0) (.slice none 0 0)) 33) = W0 := ⟨_, rfl⟩
  have HB0 : Hid (Below w.heap.size w W0) := by rw [← hW0]; exact ((Below.refl _ _).alloc (Nat.le_refl _) _).alloc (by simp) _
  have KP0 : Hid (Blk W0 w.heap.size (T6 c0 c1 l0 l1 w0 w1) 33) := by rw [← hW0]; exact (Blk.new _ _ _).alloc _
  have KR0 : Hid (Blk W0 (w.heap.size + 1) (T6 (.slice none 0 0) (.slice none 0 0) 0 0 (.slice none 0 0) (.slice none 0 0)) 33) := by rw [← hW0]; exact Blk.newAt _ (w.heap.size + 1) _ 33 (by simp)
  have HR : Hid (Rk w c0 c1 w0 w1 z0 z1 n0 n1) := h
  have HL : Hid ((z0.length : Int) + z1.length + (n0.length + n1.length) ≤ 1048576) := hl
  obtain ⟨a0, p0, hv0, -⟩ := h.r0
  obtain ⟨a1, p1, hv1, -⟩ := h.r1
  obtain ⟨a2, p2, hv2, -⟩ := h.r2
  obtain ⟨a3, p3, hv3, -⟩ := h.r3
  subst hv0 hv1 hv2 hv3
  clear h hl
  have x0 := KP0.out.cell 0
  have x1 := KP0.out.cell 1
  have x2 := KP0.out.cell 2
  have x3 := KP0.out.cell 3
  have x4 := KP0.out.cell 4
  have x5 := KP0.out.cell 5
  have xl := KP0.out.lt
  simp at x0 x1 x2 x3 x4 x5
  go_enter Try.func18, Try.ntmps18
  go_wp2_with (fail)
  clear hW0
  refine (okI_c _ _ _ _ l0 l1 z0 z1 n0 n1 W0 (HR.out.below HB0.out)).mono ?_
  rintro e w1 ⟨q, rfl, hq, b1⟩
  have HB1 : Hid (Below w.heap.size w w1) := belowCall HB0.out b1 HB0.out.size
  have KP1 : Hid (Blk w1 w.heap.size (T6 (.slice a0 z0.length p0) (.slice a1 z1.length p1) l0 l1 (.slice a2 n0.length p2) (.slice a3 n1.length p3)) 33) := KP0.out.below b1 KP0.out.lt
  have KR1 : Hid (Blk w1 (w.heap.size + 1) (T6 (.slice none 0 0) (.slice none 0 0) 0 0 (.slice none 0 0) (.slice none 0 0)) 33) := KR0.out.below b1 KR0.out.lt
  clear b1 HB0 KP0 KR0 x0 x1 x2 x3 x4 x5 xl
  have x0 := KP1.out.cell 0
  have x1 := KP1.out.cell 1
  have x2 := KP1.out.cell 2
  have x3 := KP1.out.cell 3
  have x4 := KP1.out.cell 4
  have x5 := KP1.out.cell 5
  have xl := KP1.out.lt
  simp at x0 x1 x2 x3 x4 x5
  by_cases hT : TOk z0 z1 l0 l1 n0 n1
  case neg =>
    obtain rfl : q = false := by cases q with | false => rfl | true => exact absurd (hq.1 rfl) hT
    have HT : Hid (¬ TOk z0 z1 l0 l1 n0 n1) := hT
    clear hq hT
    go_wp2_with (fail)
    refine (copyI_c _ _ _ _ l0 l1 z0 z1 n0 n1 w1 (HR.out.below HB1.out) HL.out).mono ?_
    rintro e u0 ⟨v0, v1, v2, v3, rfl, oo, bb⟩
    obtain ⟨e0, f0, hf0, -⟩ := own_form oo.o0
    obtain ⟨e1, f1, hf1, -⟩ := own_form oo.o1
    obtain ⟨e2, f2, hf2, -⟩ := own_form oo.o2
    obtain ⟨e3, f3, hf3, -⟩ := own_form oo.o3
    subst hf0 hf1 hf2 hf3
    have kr := KR1.out.below bb KR1.out.lt
    have hcs := HB1.out.size
    have hkl := KR1.out.lt
    have HF : Hid (∀ W', st6 u0 (w.heap.size + 1) (.slice e0 z0.length f0) (.slice e1 z1.length f1) l0 l1 (.slice e2 n0.length f2) (.slice e3 n1.length f3) = W' →
        Blk W' (w.heap.size + 1) (T6 (.slice e0 z0.length f0) (.slice e1 z1.length f1) l0 l1 (.slice e2 n0.length f2) (.slice e3 n1.length f3)) 33 ∧ Ok6 w.heap.size W'.heap.size W' (.slice e0 z0.length f0) (.slice e1 z1.length f1) (.slice e2 n0.length f2) (.slice e3 n1.length f3) z0 z1 n0 n1 ∧ Below w.heap.size w W') := by
      intro W' hW'
      have hfr := fr_put6 u0 (w.heap.size + 1) (.slice e0 z0.length f0) (.slice e1 z1.length f1) l0 l1 (.slice e2 n0.length f2) (.slice e3 n1.length f3)
      rw [hW'] at hfr
      refine ⟨by rw [← hW']; exact put6 kr _ _ _ _ _ _, (oo.fr hfr (fun k hk e => by have := oo.ge k hk; omega)).mono (by omega) hfr.size, (belowCall HB1.out bb hcs).trans (hfr.below (by have := bb.size; omega) (fun k e => by omega))⟩
    have y0 := kr.cell 0
    have yf0 := kr.frozen 0
    have y1 := kr.cell 1
    have yf1 := kr.frozen 1
    have y2 := kr.cell 2
    have yf2 := kr.frozen 2
    have y3 := kr.cell 3
    have yf3 := kr.frozen 3
    have y4 := kr.cell 4
    have yf4 := kr.frozen 4
    have y5 := kr.cell 5
    have yf5 := kr.frozen 5
    have yl := kr.lt
    simp at y0 y1 y2 y3 y4 y5
    clear kr oo bb hcs hkl
    go_wp2
    exact bodyPost_ret (v := .tuple #[.agg (T6 (.slice e0 z0.length f0) (.slice e1 z1.length f1) l0 l1 (.slice e2 n0.length f2) (.slice e3 n1.length f3)), .bool false]) (results_T rfl _ _ _ _ _ _ _ _ _ _ rfl rfl (HF.out _ rfl).1) rfl ((fun a => ⟨fun h => absurd h (fun h => HT.out h.1), fun _ => a⟩) ⟨_, _, _, _, rfl, (HF.out _ rfl).2⟩)
  obtain rfl : q = true := hq.2 hT
  have HT : Hid (TOk z0 z1 l0 l1 n0 n1) := hT
  clear hq hT
  go_wp2_with (fail)
  refine (side_c 0 w1).mono ?_
  rintro e wq ⟨rfl, hwq⟩
  rw [hwq, decide_eq_true (by simp)]
  clear hwq wq
  go_wp2_with (fail)
  refine (open_c _ _ _ _ l0 l1 z0 z1 n0 n1 w1 (HR.out.below HB1.out) (by have := HT.out.1; omega) (by have := HT.out.1; have := HT.out.2.1; omega) HT.out.2.2.1.2.2.1 HT.out.2.2.2.2.2.1).mono ?_
  rintro e w2 ⟨g, cc0, cc1, k0, k1, rfl, lv, b2⟩
  have HLV : Hid (Lv w1.heap.size w2 g cc0 cc1 l0 l1 k0 k1 z0 z1 n0 n1) := lv
  have HB2 : Hid (Below w.heap.size w w2) := belowCall HB1.out b2 HB1.out.size
  have KP2 : Hid (Blk w2 w.heap.size (T6 (.slice a0 z0.length p0) (.slice a1 z1.length p1) l0 l1 (.slice a2 n0.length p2) (.slice a3 n1.length p3)) 33) := KP1.out.below b2 KP1.out.lt
  have KR2 : Hid (Blk w2 (w.heap.size + 1) (T6 (.slice none 0 0) (.slice none 0 0) 0 0 (.slice none 0 0) (.slice none 0 0)) 33) := KR1.out.below b2 KR1.out.lt
  have HZ1 : Hid (w.heap.size + 1 < w1.heap.size ∧ w1.heap.size ≤ w2.heap.size) := ⟨KR1.out.lt, b2.size⟩
  have gc := lv.blk.cell 4
  have gl := lv.blk.lt
  simp at gc
  clear b2 KP1 KR1 HB1 x0 x1 x2 x3 x4 x5 xl lv
  obtain ⟨w3, hw3⟩ : ∃ W, (w2.alloc (Obj.cells #[.chan none, .chan none] 63)).setCell ⟨w2.heap.size, 0, none⟩ (.chan (some k0)) = W := ⟨_, rfl⟩
  have KW3 : Hid (Blk w3 w2.heap.size #[.chan (some k0), .chan none] 63) := by rw [← hw3]; exact (Blk.new _ _ _).set 0 _
  have BB3 : Hid (Below w2.heap.size w2 w3) := by rw [← hw3]; exact ((Below.refl _ _).alloc (Nat.le_refl _) _).setCell (p := ⟨_, _, _⟩) (Nat.le_refl _) _
  have HB3 : Hid (Below w.heap.size w w3) := belowCall HB2.out BB3.out HB2.out.size
  have KP3 : Hid (Blk w3 w.heap.size (T6 (.slice a0 z0.length p0) (.slice a1 z1.length p1) l0 l1 (.slice a2 n0.length p2) (.slice a3 n1.length p3)) 33) := KP2.out.below BB3.out KP2.out.lt
  have KR3 : Hid (Blk w3 (w.heap.size + 1) (T6 (.slice none 0 0) (.slice none 0 0) 0 0 (.slice none 0 0) (.slice none 0 0)) 33) := KR2.out.below BB3.out KR2.out.lt
  have LV3 : Hid (Lv w1.heap.size w3 g cc0 cc1 l0 l1 k0 k1 z0 z1 n0 n1) := HLV.out.below BB3.out
  have HZ3 : Hid (w1.heap.size ≤ w3.heap.size) := Nat.le_trans HZ1.out.2 BB3.out.size
  have kw0 := KW3.out.cell 0
  have kw1 := KW3.out.cell 1
  simp at kw0 kw1
  go_wp2_with (fail)
  clear hw3 gc gl kw0 kw1
  by_cases hn : n0 = []
  case pos =>
    have HN : Hid (n0 = []) := hn
    refine (first0e_c k0 w3 (by have := LV3.out.ch0; rw [HN.out] at this; exact this)).mono ?_
    rintro e w4 ⟨rfl, b4⟩
    have HB4 : Hid (Below w.heap.size w w4) := belowCall HB3.out b4 HB3.out.size
    have KP4 : Hid (Blk w4 w.heap.size (T6 (.slice a0 z0.length p0) (.slice a1 z1.length p1) l0 l1 (.slice a2 n0.length p2) (.slice a3 n1.length p3)) 33) := KP3.out.below b4 KP3.out.lt
    have KR4 : Hid (Blk w4 (w.heap.size + 1) (T6 (.slice none 0 0) (.slice none 0 0) 0 0 (.slice none 0 0) (.slice none 0 0)) 33) := KR3.out.below b4 KR3.out.lt
    clear b4 hn
    obtain ⟨w5, hw5⟩ : ∃ W, w4.alloc (Obj.cells #[Value.int .i64 0, Value.int .i64 0] 68) = W := ⟨_, rfl⟩
    have KN5 : Hid (Blk w5 w4.heap.size (H2 0 0) 68) := by rw [← hw5]; exact Blk.new _ _ _
    have BB5 : Hid (Below w4.heap.size w4 w5) := by rw [← hw5]; exact (Below.refl _ _).alloc (Nat.le_refl _) _
    have HB5 : Hid (Below w.heap.size w w5) := belowCall HB4.out BB5.out HB4.out.size
    have KP5 : Hid (Blk w5 w.heap.size (T6 (.slice a0 z0.length p0) (.slice a1 z1.length p1) l0 l1 (.slice a2 n0.length p2) (.slice a3 n1.length p3)) 33) := KP4.out.below BB5.out KP4.out.lt
    have KR5 : Hid (Blk w5 (w.heap.size + 1) (T6 (.slice none 0 0) (.slice none 0 0) 0 0 (.slice none 0 0) (.slice none 0 0)) 33) := KR4.out.below BB5.out KR4.out.lt
    have HW5 : Hid (w4.alloc (Obj.cells #[Value.int .i64 0, Value.int .i64 0] 68) = w5) := hw5
    clear hw5
    have x0 := KP4.out.cell 0
    have x1 := KP4.out.cell 1
    have x2 := KP4.out.cell 2
    have x3 := KP4.out.cell 3
    have x4 := KP4.out.cell 4
    have x5 := KP4.out.cell 5
    have xl := KP4.out.lt
    simp at x0 x1 x2 x3 x4 x5
    go_wp2_with (fail)
    rw [HW5.out]
    clear x0 x1 x2 x3 x4 x5 xl
    refine (copyI_c _ _ _ _ l0 l1 z0 z1 n0 n1 w5 (HR.out.below HB5.out) HL.out).mono ?_
    rintro e u0 ⟨v0, v1, v2, v3, rfl, oo, bb⟩
    obtain ⟨e0, f0, hf0, -⟩ := own_form oo.o0
    obtain ⟨e1, f1, hf1, -⟩ := own_form oo.o1
    obtain ⟨e2, f2, hf2, -⟩ := own_form oo.o2
    obtain ⟨e3, f3, hf3, -⟩ := own_form oo.o3
    subst hf0 hf1 hf2 hf3
    have kr := KR5.out.below bb KR5.out.lt
    have hcs := HB5.out.size
    have hkl := KR5.out.lt
    have HF : Hid (∀ W', st6 u0 (w.heap.size + 1) (.slice e0 z0.length f0) (.slice e1 z1.length f1) l0 l1 (.slice e2 n0.length f2) (.slice e3 n1.length f3) = W' →
        Blk W' (w.heap.size + 1) (T6 (.slice e0 z0.length f0) (.slice e1 z1.length f1) l0 l1 (.slice e2 n0.length f2) (.slice e3 n1.length f3)) 33 ∧ Ok6 w.heap.size W'.heap.size W' (.slice e0 z0.length f0) (.slice e1 z1.length f1) (.slice e2 n0.length f2) (.slice e3 n1.length f3) z0 z1 n0 n1 ∧ Below w.heap.size w W') := by
      intro W' hW'
      have hfr := fr_put6 u0 (w.heap.size + 1) (.slice e0 z0.length f0) (.slice e1 z1.length f1) l0 l1 (.slice e2 n0.length f2) (.slice e3 n1.length f3)
      rw [hW'] at hfr
      refine ⟨by rw [← hW']; exact put6 kr _ _ _ _ _ _, (oo.fr hfr (fun k hk e => by have := oo.ge k hk; omega)).mono (by omega) hfr.size, (belowCall HB5.out bb hcs).trans (hfr.below (by have := bb.size; omega) (fun k e => by omega))⟩
    have y0 := kr.cell 0
    have yf0 := kr.frozen 0
    have y1 := kr.cell 1
    have yf1 := kr.frozen 1
    have y2 := kr.cell 2
    have yf2 := kr.frozen 2
    have y3 := kr.cell 3
    have yf3 := kr.frozen 3
    have y4 := kr.cell 4
    have yf4 := kr.frozen 4
    have y5 := kr.cell 5
    have yf5 := kr.frozen 5
    have yl := kr.lt
    simp at y0 y1 y2 y3 y4 y5
    clear kr oo bb hcs hkl
    go_wp2
    exact bodyPost_ret (v := .tuple #[.agg (T6 (.slice e0 z0.length f0) (.slice e1 z1.length f1) l0 l1 (.slice e2 n0.length f2) (.slice e3 n1.length f3)), .bool false]) (results_T rfl _ _ _ _ _ _ _ _ _ _ rfl rfl (HF.out _ rfl).1) rfl ((fun a => ⟨fun h => absurd h (fun h => by have := h.2.1; rw [HN.out] at this; exact absurd this (by simp)), fun _ => a⟩) ⟨_, _, _, _, rfl, (HF.out _ rfl).2⟩)
  obtain ⟨⟨kd, ci⟩, ns, hn⟩ : ∃ x ns, n0 = x :: ns := by
    revert hn
    cases n0 with
    | nil => intro hn; exact absurd rfl hn
    | cons x ns => intro _; exact ⟨x, ns, rfl⟩
  have hno := HT.out.2.2.1.2.2.2 0 (by rw [hn]; simp)
  simp only [hn, List.getElem_cons_zero] at hno
  obtain ⟨m, rfl⟩ : ∃ m : Nat, ci = m := ⟨ci.toNat, by have := hno.2.1; simp only at this; omega⟩
  have hno' : 1 ≤ kd ∧ kd ≤ 5 ∧ m < z0.length := by obtain ⟨⟨h1, h2⟩, h3, h4⟩ := hno; simp only at h1 h2 h3 h4; omega
  have HNO : Hid (1 ≤ kd ∧ kd ≤ 5 ∧ m < z0.length) := hno'
  have HN : Hid (n0 = (kd, (m : Int)) :: ns) := hn
  clear hno hno' hn
  refine (first0f_c k0 (kd, (m : Int)) ns w3 (by have := LV3.out.ch0; rw [HN.out] at this; exact this)).mono ?_
  rintro e w4 ⟨rfl, c4, f4⟩
  have LV4 : Hid (Lv w1.heap.size w4 g cc0 cc1 l0 l1 k0 k1 z0 z1 ns n1) := LV3.out.way0 c4 f4
  have hbk := LV3.out.bk0
  have hz1 := HZ1.out
  have hz3 := HZ3.out
  have HB4 : Hid (Below w.heap.size w w4) := HB3.out.trans (f4.below HB3.out.size (fun k e => by omega))
  have KP4 : Hid (Blk w4 w.heap.size (T6 (.slice a0 z0.length p0) (.slice a1 z1.length p1) l0 l1 (.slice a2 n0.length p2) (.slice a3 n1.length p3)) 33) := KP3.out.fr f4 (by omega)
  have KR4 : Hid (Blk w4 (w.heap.size + 1) (T6 (.slice none 0 0) (.slice none 0 0) 0 0 (.slice none 0 0) (.slice none 0 0)) 33) := KR3.out.fr f4 (by omega)
  have HZ4 : Hid (w1.heap.size ≤ w4.heap.size) := Nat.le_trans hz3 f4.size
  clear c4 f4 hbk hz1 hz3
  obtain ⟨w5, hw5⟩ : ∃ W, w4.alloc (Obj.cells #[Value.int .i64 kd, Value.int .i64 (m : Int)] 68) = W := ⟨_, rfl⟩
  have KN5 : Hid (Blk w5 w4.heap.size (H2 kd (m : Int)) 68) := by rw [← hw5]; exact Blk.new _ _ _
  have BB5 : Hid (Below w4.heap.size w4 w5) := by rw [← hw5]; exact (Below.refl _ _).alloc (Nat.le_refl _) _
  have HB5 : Hid (Below w.heap.size w w5) := belowCall HB4.out BB5.out HB4.out.size
  have KP5 : Hid (Blk w5 w.heap.size (T6 (.slice a0 z0.length p0) (.slice a1 z1.length p1) l0 l1 (.slice a2 n0.length p2) (.slice a3 n1.length p3)) 33) := KP4.out.below BB5.out KP4.out.lt
  have KR5 : Hid (Blk w5 (w.heap.size + 1) (T6 (.slice none 0 0) (.slice none 0 0) 0 0 (.slice none 0 0) (.slice none 0 0)) 33) := KR4.out.below BB5.out KR4.out.lt
  have LV5 : Hid (Lv w1.heap.size w5 g cc0 cc1 l0 l1 k0 k1 z0 z1 ns n1) := LV4.out.below BB5.out
  have HZ5 : Hid (w1.heap.size ≤ w5.heap.size) := Nat.le_trans HZ4.out BB5.out.size
  have HM : Hid (m < z0.length ∧ m ≤ 24) := by have := HNO.out; have := HT.out.1; have := HT.out.2.1; show _ ∧ _; omega
  have HNL : Hid (ns.length ≤ 60) := by have := HT.out.2.2.1.2.2.1; rw [HN.out] at this; simp only [List.length_cons] at this; show _ ≤ _; omega
  have kn0 := KN5.out.cell 0
  have kn1 := KN5.out.cell 1
  simp at kn0 kn1
  go_wp2_with (fail)
  clear hw5 kn0 kn1
  refine (arrive0_c w1.heap.size g _ _ l0 l1 k0 k1 z0 z1 ns n1 kd m w5 LV5.out HZ5.out ⟨HNO.out.1, HNO.out.2.1⟩ HM.out.1 (HT.out.2.2.1.1 m HM.out.1) HM.out.2 HT.out.2.2.1.2.1 HT.out.2.2.2.2.2.1).mono ?_
  rintro e w6 ⟨hA, hBd⟩
  by_cases hok : ArOk0 l0 l1 z0 z1 ns n1 kd m
  case neg =>
    obtain ⟨rfl, b6⟩ := hBd hok
    have hz1 := HZ1.out
    have HOK : Hid (¬ ArOk0 l0 l1 z0 z1 ns n1 kd m) := hok
    have HB6 : Hid (Below w.heap.size w w6) := HB5.out.trans (b6.mono (by omega))
    have KP6 : Hid (Blk w6 w.heap.size (T6 (.slice a0 z0.length p0) (.slice a1 z1.length p1) l0 l1 (.slice a2 n0.length p2) (.slice a3 n1.length p3)) 33) := KP5.out.below b6 (by omega)
    have KR6 : Hid (Blk w6 (w.heap.size + 1) (T6 (.slice none 0 0) (.slice none 0 0) 0 0 (.slice none 0 0) (.slice none 0 0)) 33) := KR5.out.below b6 (by omega)
    clear hA hBd b6 hok hz1
    have x0 := KP6.out.cell 0
    have x1 := KP6.out.cell 1
    have x2 := KP6.out.cell 2
    have x3 := KP6.out.cell 3
    have x4 := KP6.out.cell 4
    have x5 := KP6.out.cell 5
    have xl := KP6.out.lt
    simp at x0 x1 x2 x3 x4 x5
    go_wp2_with (fail)
    refine (copyI_c _ _ _ _ l0 l1 z0 z1 n0 n1 w6 (HR.out.below HB6.out) HL.out).mono ?_
    rintro e u0 ⟨v0, v1, v2, v3, rfl, oo, bb⟩
    obtain ⟨e0, f0, hf0, -⟩ := own_form oo.o0
    obtain ⟨e1, f1, hf1, -⟩ := own_form oo.o1
    obtain ⟨e2, f2, hf2, -⟩ := own_form oo.o2
    obtain ⟨e3, f3, hf3, -⟩ := own_form oo.o3
    subst hf0 hf1 hf2 hf3
    have kr := KR6.out.below bb KR6.out.lt
    have hcs := HB6.out.size
    have hkl := KR6.out.lt
    have HF : Hid (∀ W', st6 u0 (w.heap.size + 1) (.slice e0 z0.length f0) (.slice e1 z1.length f1) l0 l1 (.slice e2 n0.length f2) (.slice e3 n1.length f3) = W' →
        Blk W' (w.heap.size + 1) (T6 (.slice e0 z0.length f0) (.slice e1 z1.length f1) l0 l1 (.slice e2 n0.length f2) (.slice e3 n1.length f3)) 33 ∧ Ok6 w.heap.size W'.heap.size W' (.slice e0 z0.length f0) (.slice e1 z1.length f1) (.slice e2 n0.length f2) (.slice e3 n1.length f3) z0 z1 n0 n1 ∧ Below w.heap.size w W') := by
      intro W' hW'
      have hfr := fr_put6 u0 (w.heap.size + 1) (.slice e0 z0.length f0) (.slice e1 z1.length f1) l0 l1 (.slice e2 n0.length f2) (.slice e3 n1.length f3)
      rw [hW'] at hfr
      refine ⟨by rw [← hW']; exact put6 kr _ _ _ _ _ _, (oo.fr hfr (fun k hk e => by have := oo.ge k hk; omega)).mono (by omega) hfr.size, (belowCall HB6.out bb hcs).trans (hfr.below (by have := bb.size; omega) (fun k e => by omega))⟩
    have y0 := kr.cell 0
    have yf0 := kr.frozen 0
    have y1 := kr.cell 1
    have yf1 := kr.frozen 1
    have y2 := kr.cell 2
    have yf2 := kr.frozen 2
    have y3 := kr.cell 3
    have yf3 := kr.frozen 3
    have y4 := kr.cell 4
    have yf4 := kr.frozen 4
    have y5 := kr.cell 5
    have yf5 := kr.frozen 5
    have yl := kr.lt
    simp at y0 y1 y2 y3 y4 y5
    clear kr oo bb hcs hkl
    go_wp2
    exact bodyPost_ret (v := .tuple #[.agg (T6 (.slice e0 z0.length f0) (.slice e1 z1.length f1) l0 l1 (.slice e2 n0.length f2) (.slice e3 n1.length f3)), .bool false]) (results_T rfl _ _ _ _ _ _ _ _ _ _ rfl rfl (HF.out _ rfl).1) rfl ((fun a => ⟨fun h => absurd h (fun h => HOK.out (by have := h.2.2; rw [HN.out] at this; exact this)), fun _ => a⟩) ⟨_, _, _, _, rfl, (HF.out _ rfl).2⟩)
  obtain ⟨rfl, lv6, b6⟩ := hA hok
  have hz1 := HZ1.out
  have HB6 : Hid (Below w.heap.size w w6) := HB5.out.trans (b6.mono (by omega))
  have KR6 : Hid (Blk w6 (w.heap.size + 1) (T6 (.slice none 0 0) (.slice none 0 0) 0 0 (.slice none 0 0) (.slice none 0 0)) 33) := KR5.out.below b6 (by omega)
  have HZ6 : Hid (w1.heap.size ≤ w6.heap.size) := Nat.le_trans HZ5.out b6.size
  have HBK : Hid ((n1 ++ bkN0 z0 kd m).length ≤ 60) := by
    have h1 := HT.out.2.2.2.2.2.1
    rw [List.length_append, bkN0]
    rcases hok.2 with h2 | h2
    · rw [if_pos h2]; exact h1
    · split
      · exact h1
      · show _ + 1 ≤ 60; omega
  have HPOST : Hid (∀ e w', TwS (l0 + (hearF kd (z0.getD m 0) ((m : Int) % 2 == 0)).2.2) l1 (z0.set m (hearF kd (z0.getD m 0) ((m : Int) % 2 == 0)).1) z1 ns (n1 ++ bkN0 z0 kd m) (.bool true) w e w' → CaR0 z0 z1 l0 l1 n0 n1 w e w') := by
    intro e w' h
    have hn := HN.out
    have hT := HT.out
    subst hn
    exact ⟨fun _ => h, fun h' => absurd ⟨hT, by simp, hok⟩ h'⟩
  generalize (l0 + (hearF kd (z0.getD m 0) ((m : Int) % 2 == 0)).2.2) = LL at lv6 HPOST
  generalize (z0.set m (hearF kd (z0.getD m 0) ((m : Int) % 2 == 0)).1) = ZZ at lv6 HPOST
  generalize (n1 ++ bkN0 z0 kd m) = NN at lv6 HPOST HBK
  have LV6 : Hid (Lv w1.heap.size w6 g cc0 cc1 LL l1 k0 k1 ZZ z1 ns NN) := lv6
  clear lv6 hA hBd b6 hok hz1
  go_wp2_with (fail)
  refine (as_c w1.heap.size g _ _ LL l1 k0 k1 ZZ z1 ns NN w6 LV6.out HZ6.out HNL.out HBK.out).mono ?_
  rintro e u0 ⟨v0, v1, v2, v3, rfl, oo, bb⟩
  obtain ⟨e0, f0, hf0, -⟩ := own_form oo.o0
  obtain ⟨e1, f1, hf1, -⟩ := own_form oo.o1
  obtain ⟨e2, f2, hf2, -⟩ := own_form oo.o2
  obtain ⟨e3, f3, hf3, -⟩ := own_form oo.o3
  obtain ⟨q0, hq0⟩ : ∃ q, ZZ.length = q := ⟨_, rfl⟩
  obtain ⟨q1, hq1⟩ : ∃ q, z1.length = q := ⟨_, rfl⟩
  obtain ⟨q2, hq2⟩ : ∃ q, ns.length = q := ⟨_, rfl⟩
  obtain ⟨q3, hq3⟩ : ∃ q, NN.length = q := ⟨_, rfl⟩
  rw [hq0] at hf0
  rw [hq1] at hf1
  rw [hq2] at hf2
  rw [hq3] at hf3
  subst hf0 hf1 hf2 hf3
  have hcs := HB6.out.size
  have hkl := KR6.out.lt
  have hz1 := HZ1.out
  have kr := KR6.out.below bb (by omega)
  have HF : Hid (∀ W', st6 u0 (w.heap.size + 1) (.slice e0 q0 f0) (.slice e1 q1 f1) LL l1 (.slice e2 q2 f2) (.slice e3 q3 f3) = W' →
      Blk W' (w.heap.size + 1) (T6 (.slice e0 q0 f0) (.slice e1 q1 f1) LL l1 (.slice e2 q2 f2) (.slice e3 q3 f3)) 33 ∧ Ok6 w.heap.size W'.heap.size W' (.slice e0 q0 f0) (.slice e1 q1 f1) (.slice e2 q2 f2) (.slice e3 q3 f3) ZZ z1 ns NN ∧ Below w.heap.size w W') := by
    intro W' hW'
    have hfr := fr_put6 u0 (w.heap.size + 1) (.slice e0 q0 f0) (.slice e1 q1 f1) LL l1 (.slice e2 q2 f2) (.slice e3 q3 f3)
    rw [hW'] at hfr
    refine ⟨by rw [← hW']; exact put6 kr _ _ _ _ _ _, (oo.fr hfr (fun k hk e => by have := oo.ge k hk; omega)).mono (by omega) hfr.size, (HB6.out.trans (bb.mono (by omega))).trans (hfr.below (by have := bb.size; omega) (fun k e => by omega))⟩
  clear hq0 hq1 hq2 hq3
  have y0 := kr.cell 0
  have yf0 := kr.frozen 0
  have y1 := kr.cell 1
  have yf1 := kr.frozen 1
  have y2 := kr.cell 2
  have yf2 := kr.frozen 2
  have y3 := kr.cell 3
  have yf3 := kr.frozen 3
  have y4 := kr.cell 4
  have yf4 := kr.frozen 4
  have y5 := kr.cell 5
  have yf5 := kr.frozen 5
  have yl := kr.lt
  simp at y0 y1 y2 y3 y4 y5
  clear kr oo bb hcs hkl hz1
  go_wp2
  exact bodyPost_ret (v := .tuple #[.agg (T6 (.slice e0 q0 f0) (.slice e1 q1 f1) LL l1 (.slice e2 q2 f2) (.slice e3 q3 f3)), .bool true]) (results_T rfl _ _ _ _ _ _ _ _ _ _ rfl rfl (HF.out _ rfl).1) rfl (HPOST.out _ _ ⟨_, _, _, _, rfl, (HF.out _ rfl).2⟩)
set_option maxHeartbeats 12800000 in
theorem carryI1_c (c0 c1 w0 w1 : Value) (l0 l1 : Int) (z0 z1 : List Int) (n0 n1 : Mvs) (w : World) (h : Rk w c0 c1 w0 w1 z0 z1 n0 n1) (hl : (z0.length : Int) + z1.length + (n0.length + n1.length) ≤ 1048576) :
    Calls Try.prog 18 #[.agg (T6 c0 c1 l0 l1 w0 w1), .int .i64 1] w (CaR1 z0 z1 l0 l1 n0 n1 w) := by
  obtain ⟨W0, hW0⟩ : ∃ W0, (w.alloc (Obj.cells (T6 c0 c1 l0 l1 w0 w1) 33)).alloc (Obj.cells (T6 (.slice none 0 0) (.slice none 0 0) 0 0 (.slice none 0 0) (.slice none 0 0)) 33) = W0 := ⟨_, rfl⟩
  have HB0 : Hid (Below w.heap.size w W0) := by rw [← hW0]; exact ((Below.refl _ _).alloc (Nat.le_refl _) _).alloc (by simp) _
  have KP0 : Hid (Blk W0 w.heap.size (T6 c0 c1 l0 l1 w0 w1) 33) := by rw [← hW0]; exact (Blk.new _ _ _).alloc _
  have KR0 : Hid (Blk W0 (w.heap.size + 1) (T6 (.slice none 0 0) (.slice none 0 0) 0 0 (.slice none 0 0) (.slice none 0 0)) 33) := by rw [← hW0]; exact Blk.newAt _ (w.heap.size + 1) _ 33 (by simp)
  have HR : Hid (Rk w c0 c1 w0 w1 z0 z1 n0 n1) := h
  have HL : Hid ((z0.length : Int) + z1.length + (n0.length + n1.length) ≤ 1048576) := hl
  obtain ⟨a0, p0, hv0, -⟩ := h.r0
  obtain ⟨a1, p1, hv1, -⟩ := h.r1
  obtain ⟨a2, p2, hv2, -⟩ := h.r2
  obtain ⟨a3, p3, hv3, -⟩ := h.r3
  subst hv0 hv1 hv2 hv3
  clear h hl
  have x0 := KP0.out.cell 0
  have x1 := KP0.out.cell 1
  have x2 := KP0.out.cell 2
  have x3 := KP0.out.cell 3
  have x4 := KP0.out.cell 4
  have x5 := KP0.out.cell 5
  have xl := KP0.out.lt
  simp at x0 x1 x2 x3 x4 x5
  go_enter Try.func18, Try.ntmps18
  go_wp2_with (fail)
  clear hW0
  refine (okI_c _ _ _ _ l0 l1 z0 z1 n0 n1 W0 (HR.out.below HB0.out)).mono ?_
  rintro e w1 ⟨q, rfl, hq, b1⟩
  have HB1 : Hid (Below w.heap.size w w1) := belowCall HB0.out b1 HB0.out.size
  have KP1 : Hid (Blk w1 w.heap.size (T6 (.slice a0 z0.length p0) (.slice a1 z1.length p1) l0 l1 (.slice a2 n0.length p2) (.slice a3 n1.length p3)) 33) := KP0.out.below b1 KP0.out.lt
  have KR1 : Hid (Blk w1 (w.heap.size + 1) (T6 (.slice none 0 0) (.slice none 0 0) 0 0 (.slice none 0 0) (.slice none 0 0)) 33) := KR0.out.below b1 KR0.out.lt
  clear b1 HB0 KP0 KR0 x0 x1 x2 x3 x4 x5 xl
  have x0 := KP1.out.cell 0
  have x1 := KP1.out.cell 1
  have x2 := KP1.out.cell 2
  have x3 := KP1.out.cell 3
  have x4 := KP1.out.cell 4
  have x5 := KP1.out.cell 5
  have xl := KP1.out.lt
  simp at x0 x1 x2 x3 x4 x5
  by_cases hT : TOk z0 z1 l0 l1 n0 n1
  case neg =>
    obtain rfl : q = false := by cases q with | false => rfl | true => exact absurd (hq.1 rfl) hT
    have HT : Hid (¬ TOk z0 z1 l0 l1 n0 n1) := hT
    clear hq hT
    go_wp2_with (fail)
    refine (copyI_c _ _ _ _ l0 l1 z0 z1 n0 n1 w1 (HR.out.below HB1.out) HL.out).mono ?_
    rintro e u0 ⟨v0, v1, v2, v3, rfl, oo, bb⟩
    obtain ⟨e0, f0, hf0, -⟩ := own_form oo.o0
    obtain ⟨e1, f1, hf1, -⟩ := own_form oo.o1
    obtain ⟨e2, f2, hf2, -⟩ := own_form oo.o2
    obtain ⟨e3, f3, hf3, -⟩ := own_form oo.o3
    subst hf0 hf1 hf2 hf3
    have kr := KR1.out.below bb KR1.out.lt
    have hcs := HB1.out.size
    have hkl := KR1.out.lt
    have HF : Hid (∀ W', st6 u0 (w.heap.size + 1) (.slice e0 z0.length f0) (.slice e1 z1.length f1) l0 l1 (.slice e2 n0.length f2) (.slice e3 n1.length f3) = W' →
        Blk W' (w.heap.size + 1) (T6 (.slice e0 z0.length f0) (.slice e1 z1.length f1) l0 l1 (.slice e2 n0.length f2) (.slice e3 n1.length f3)) 33 ∧ Ok6 w.heap.size W'.heap.size W' (.slice e0 z0.length f0) (.slice e1 z1.length f1) (.slice e2 n0.length f2) (.slice e3 n1.length f3) z0 z1 n0 n1 ∧ Below w.heap.size w W') := by
      intro W' hW'
      have hfr := fr_put6 u0 (w.heap.size + 1) (.slice e0 z0.length f0) (.slice e1 z1.length f1) l0 l1 (.slice e2 n0.length f2) (.slice e3 n1.length f3)
      rw [hW'] at hfr
      refine ⟨by rw [← hW']; exact put6 kr _ _ _ _ _ _, (oo.fr hfr (fun k hk e => by have := oo.ge k hk; omega)).mono (by omega) hfr.size, (belowCall HB1.out bb hcs).trans (hfr.below (by have := bb.size; omega) (fun k e => by omega))⟩
    have y0 := kr.cell 0
    have yf0 := kr.frozen 0
    have y1 := kr.cell 1
    have yf1 := kr.frozen 1
    have y2 := kr.cell 2
    have yf2 := kr.frozen 2
    have y3 := kr.cell 3
    have yf3 := kr.frozen 3
    have y4 := kr.cell 4
    have yf4 := kr.frozen 4
    have y5 := kr.cell 5
    have yf5 := kr.frozen 5
    have yl := kr.lt
    simp at y0 y1 y2 y3 y4 y5
    clear kr oo bb hcs hkl
    go_wp2
    exact bodyPost_ret (v := .tuple #[.agg (T6 (.slice e0 z0.length f0) (.slice e1 z1.length f1) l0 l1 (.slice e2 n0.length f2) (.slice e3 n1.length f3)), .bool false]) (results_T rfl _ _ _ _ _ _ _ _ _ _ rfl rfl (HF.out _ rfl).1) rfl ((fun a => ⟨fun h => absurd h (fun h => HT.out h.1), fun _ => a⟩) ⟨_, _, _, _, rfl, (HF.out _ rfl).2⟩)
  obtain rfl : q = true := hq.2 hT
  have HT : Hid (TOk z0 z1 l0 l1 n0 n1) := hT
  clear hq hT
  go_wp2_with (fail)
  refine (side_c 1 w1).mono ?_
  rintro e wq ⟨rfl, hwq⟩
  rw [hwq, decide_eq_true (by simp)]
  clear hwq wq
  go_wp2_with (fail)
  refine (open_c _ _ _ _ l0 l1 z0 z1 n0 n1 w1 (HR.out.below HB1.out) (by have := HT.out.1; omega) (by have := HT.out.1; have := HT.out.2.1; omega) HT.out.2.2.1.2.2.1 HT.out.2.2.2.2.2.1).mono ?_
  rintro e w2 ⟨g, cc0, cc1, k0, k1, rfl, lv, b2⟩
  have HLV : Hid (Lv w1.heap.size w2 g cc0 cc1 l0 l1 k0 k1 z0 z1 n0 n1) := lv
  have HB2 : Hid (Below w.heap.size w w2) := belowCall HB1.out b2 HB1.out.size
  have KP2 : Hid (Blk w2 w.heap.size (T6 (.slice a0 z0.length p0) (.slice a1 z1.length p1) l0 l1 (.slice a2 n0.length p2) (.slice a3 n1.length p3)) 33) := KP1.out.below b2 KP1.out.lt
  have KR2 : Hid (Blk w2 (w.heap.size + 1) (T6 (.slice none 0 0) (.slice none 0 0) 0 0 (.slice none 0 0) (.slice none 0 0)) 33) := KR1.out.below b2 KR1.out.lt
  have HZ1 : Hid (w.heap.size + 1 < w1.heap.size ∧ w1.heap.size ≤ w2.heap.size) := ⟨KR1.out.lt, b2.size⟩
  have gc := lv.blk.cell 5
  have gl := lv.blk.lt
  simp at gc
  clear b2 KP1 KR1 HB1 x0 x1 x2 x3 x4 x5 xl lv
  obtain ⟨w3, hw3⟩ : ∃ W, (w2.alloc (Obj.cells #[.chan none, .chan none] 63)).setCell ⟨w2.heap.size, 1, none⟩ (.chan (some k1)) = W := ⟨_, rfl⟩
  have KW3 : Hid (Blk w3 w2.heap.size #[.chan none, .chan (some k1)] 63) := by rw [← hw3]; exact (Blk.new _ _ _).set 1 _
  have BB3 : Hid (Below w2.heap.size w2 w3) := by rw [← hw3]; exact ((Below.refl _ _).alloc (Nat.le_refl _) _).setCell (p := ⟨_, _, _⟩) (Nat.le_refl _) _
  have HB3 : Hid (Below w.heap.size w w3) := belowCall HB2.out BB3.out HB2.out.size
  have KP3 : Hid (Blk w3 w.heap.size (T6 (.slice a0 z0.length p0) (.slice a1 z1.length p1) l0 l1 (.slice a2 n0.length p2) (.slice a3 n1.length p3)) 33) := KP2.out.below BB3.out KP2.out.lt
  have KR3 : Hid (Blk w3 (w.heap.size + 1) (T6 (.slice none 0 0) (.slice none 0 0) 0 0 (.slice none 0 0) (.slice none 0 0)) 33) := KR2.out.below BB3.out KR2.out.lt
  have LV3 : Hid (Lv w1.heap.size w3 g cc0 cc1 l0 l1 k0 k1 z0 z1 n0 n1) := HLV.out.below BB3.out
  have HZ3 : Hid (w1.heap.size ≤ w3.heap.size) := Nat.le_trans HZ1.out.2 BB3.out.size
  have kw0 := KW3.out.cell 0
  have kw1 := KW3.out.cell 1
  simp at kw0 kw1
  go_wp2_with (fail)
  clear hw3 gc gl kw0 kw1
  by_cases hn : n1 = []
  case pos =>
    have HN : Hid (n1 = []) := hn
    refine (first1e_c k1 w3 (by have := LV3.out.ch1; rw [HN.out] at this; exact this)).mono ?_
    rintro e w4 ⟨rfl, b4⟩
    have HB4 : Hid (Below w.heap.size w w4) := belowCall HB3.out b4 HB3.out.size
    have KP4 : Hid (Blk w4 w.heap.size (T6 (.slice a0 z0.length p0) (.slice a1 z1.length p1) l0 l1 (.slice a2 n0.length p2) (.slice a3 n1.length p3)) 33) := KP3.out.below b4 KP3.out.lt
    have KR4 : Hid (Blk w4 (w.heap.size + 1) (T6 (.slice none 0 0) (.slice none 0 0) 0 0 (.slice none 0 0) (.slice none 0 0)) 33) := KR3.out.below b4 KR3.out.lt
    clear b4 hn
    obtain ⟨w5, hw5⟩ : ∃ W, w4.alloc (Obj.cells #[Value.int .i64 0, Value.int .i64 0] 68) = W := ⟨_, rfl⟩
    have KN5 : Hid (Blk w5 w4.heap.size (H2 0 0) 68) := by rw [← hw5]; exact Blk.new _ _ _
    have BB5 : Hid (Below w4.heap.size w4 w5) := by rw [← hw5]; exact (Below.refl _ _).alloc (Nat.le_refl _) _
    have HB5 : Hid (Below w.heap.size w w5) := belowCall HB4.out BB5.out HB4.out.size
    have KP5 : Hid (Blk w5 w.heap.size (T6 (.slice a0 z0.length p0) (.slice a1 z1.length p1) l0 l1 (.slice a2 n0.length p2) (.slice a3 n1.length p3)) 33) := KP4.out.below BB5.out KP4.out.lt
    have KR5 : Hid (Blk w5 (w.heap.size + 1) (T6 (.slice none 0 0) (.slice none 0 0) 0 0 (.slice none 0 0) (.slice none 0 0)) 33) := KR4.out.below BB5.out KR4.out.lt
    have HW5 : Hid (w4.alloc (Obj.cells #[Value.int .i64 0, Value.int .i64 0] 68) = w5) := hw5
    clear hw5
    have x0 := KP4.out.cell 0
    have x1 := KP4.out.cell 1
    have x2 := KP4.out.cell 2
    have x3 := KP4.out.cell 3
    have x4 := KP4.out.cell 4
    have x5 := KP4.out.cell 5
    have xl := KP4.out.lt
    simp at x0 x1 x2 x3 x4 x5
    go_wp2_with (fail)
    rw [HW5.out]
    clear x0 x1 x2 x3 x4 x5 xl
    refine (copyI_c _ _ _ _ l0 l1 z0 z1 n0 n1 w5 (HR.out.below HB5.out) HL.out).mono ?_
    rintro e u0 ⟨v0, v1, v2, v3, rfl, oo, bb⟩
    obtain ⟨e0, f0, hf0, -⟩ := own_form oo.o0
    obtain ⟨e1, f1, hf1, -⟩ := own_form oo.o1
    obtain ⟨e2, f2, hf2, -⟩ := own_form oo.o2
    obtain ⟨e3, f3, hf3, -⟩ := own_form oo.o3
    subst hf0 hf1 hf2 hf3
    have kr := KR5.out.below bb KR5.out.lt
    have hcs := HB5.out.size
    have hkl := KR5.out.lt
    have HF : Hid (∀ W', st6 u0 (w.heap.size + 1) (.slice e0 z0.length f0) (.slice e1 z1.length f1) l0 l1 (.slice e2 n0.length f2) (.slice e3 n1.length f3) = W' →
        Blk W' (w.heap.size + 1) (T6 (.slice e0 z0.length f0) (.slice e1 z1.length f1) l0 l1 (.slice e2 n0.length f2) (.slice e3 n1.length f3)) 33 ∧ Ok6 w.heap.size W'.heap.size W' (.slice e0 z0.length f0) (.slice e1 z1.length f1) (.slice e2 n0.length f2) (.slice e3 n1.length f3) z0 z1 n0 n1 ∧ Below w.heap.size w W') := by
      intro W' hW'
      have hfr := fr_put6 u0 (w.heap.size + 1) (.slice e0 z0.length f0) (.slice e1 z1.length f1) l0 l1 (.slice e2 n0.length f2) (.slice e3 n1.length f3)
      rw [hW'] at hfr
      refine ⟨by rw [← hW']; exact put6 kr _ _ _ _ _ _, (oo.fr hfr (fun k hk e => by have := oo.ge k hk; omega)).mono (by omega) hfr.size, (belowCall HB5.out bb hcs).trans (hfr.below (by have := bb.size; omega) (fun k e => by omega))⟩
    have y0 := kr.cell 0
    have yf0 := kr.frozen 0
    have y1 := kr.cell 1
    have yf1 := kr.frozen 1
    have y2 := kr.cell 2
    have yf2 := kr.frozen 2
    have y3 := kr.cell 3
    have yf3 := kr.frozen 3
    have y4 := kr.cell 4
    have yf4 := kr.frozen 4
    have y5 := kr.cell 5
    have yf5 := kr.frozen 5
    have yl := kr.lt
    simp at y0 y1 y2 y3 y4 y5
    clear kr oo bb hcs hkl
    go_wp2
    exact bodyPost_ret (v := .tuple #[.agg (T6 (.slice e0 z0.length f0) (.slice e1 z1.length f1) l0 l1 (.slice e2 n0.length f2) (.slice e3 n1.length f3)), .bool false]) (results_T rfl _ _ _ _ _ _ _ _ _ _ rfl rfl (HF.out _ rfl).1) rfl ((fun a => ⟨fun h => absurd h (fun h => by have := h.2.1; rw [HN.out] at this; exact absurd this (by simp)), fun _ => a⟩) ⟨_, _, _, _, rfl, (HF.out _ rfl).2⟩)
  obtain ⟨⟨kd, ci⟩, ns, hn⟩ : ∃ x ns, n1 = x :: ns := by
    revert hn
    cases n1 with
    | nil => intro hn; exact absurd rfl hn
    | cons x ns => intro _; exact ⟨x, ns, rfl⟩
  have hno := HT.out.2.2.2.2.2.2 0 (by rw [hn]; simp)
  simp only [hn, List.getElem_cons_zero] at hno
  obtain ⟨m, rfl⟩ : ∃ m : Nat, ci = m := ⟨ci.toNat, by have := hno.2.1; simp only at this; omega⟩
  have hno' : 1 ≤ kd ∧ kd ≤ 5 ∧ m < z0.length := by obtain ⟨⟨h1, h2⟩, h3, h4⟩ := hno; simp only at h1 h2 h3 h4; omega
  have HNO : Hid (1 ≤ kd ∧ kd ≤ 5 ∧ m < z0.length) := hno'
  have HN : Hid (n1 = (kd, (m : Int)) :: ns) := hn
  clear hno hno' hn
  refine (first1f_c k1 (kd, (m : Int)) ns w3 (by have := LV3.out.ch1; rw [HN.out] at this; exact this)).mono ?_
  rintro e w4 ⟨rfl, c4, f4⟩
  have LV4 : Hid (Lv w1.heap.size w4 g cc0 cc1 l0 l1 k0 k1 z0 z1 n0 ns) := LV3.out.way1 c4 f4
  have hbk := LV3.out.bk1
  have hz1 := HZ1.out
  have hz3 := HZ3.out
  have HB4 : Hid (Below w.heap.size w w4) := HB3.out.trans (f4.below HB3.out.size (fun k e => by omega))
  have KP4 : Hid (Blk w4 w.heap.size (T6 (.slice a0 z0.length p0) (.slice a1 z1.length p1) l0 l1 (.slice a2 n0.length p2) (.slice a3 n1.length p3)) 33) := KP3.out.fr f4 (by omega)
  have KR4 : Hid (Blk w4 (w.heap.size + 1) (T6 (.slice none 0 0) (.slice none 0 0) 0 0 (.slice none 0 0) (.slice none 0 0)) 33) := KR3.out.fr f4 (by omega)
  have HZ4 : Hid (w1.heap.size ≤ w4.heap.size) := Nat.le_trans hz3 f4.size
  clear c4 f4 hbk hz1 hz3
  obtain ⟨w5, hw5⟩ : ∃ W, w4.alloc (Obj.cells #[Value.int .i64 kd, Value.int .i64 (m : Int)] 68) = W := ⟨_, rfl⟩
  have KN5 : Hid (Blk w5 w4.heap.size (H2 kd (m : Int)) 68) := by rw [← hw5]; exact Blk.new _ _ _
  have BB5 : Hid (Below w4.heap.size w4 w5) := by rw [← hw5]; exact (Below.refl _ _).alloc (Nat.le_refl _) _
  have HB5 : Hid (Below w.heap.size w w5) := belowCall HB4.out BB5.out HB4.out.size
  have KP5 : Hid (Blk w5 w.heap.size (T6 (.slice a0 z0.length p0) (.slice a1 z1.length p1) l0 l1 (.slice a2 n0.length p2) (.slice a3 n1.length p3)) 33) := KP4.out.below BB5.out KP4.out.lt
  have KR5 : Hid (Blk w5 (w.heap.size + 1) (T6 (.slice none 0 0) (.slice none 0 0) 0 0 (.slice none 0 0) (.slice none 0 0)) 33) := KR4.out.below BB5.out KR4.out.lt
  have LV5 : Hid (Lv w1.heap.size w5 g cc0 cc1 l0 l1 k0 k1 z0 z1 n0 ns) := LV4.out.below BB5.out
  have HZ5 : Hid (w1.heap.size ≤ w5.heap.size) := Nat.le_trans HZ4.out BB5.out.size
  have HM : Hid (m < z1.length ∧ m ≤ 24) := by have := HNO.out; have := HT.out.1; have := HT.out.2.1; show _ ∧ _; omega
  have HNL : Hid (ns.length ≤ 60) := by have := HT.out.2.2.2.2.2.1; rw [HN.out] at this; simp only [List.length_cons] at this; show _ ≤ _; omega
  have kn0 := KN5.out.cell 0
  have kn1 := KN5.out.cell 1
  simp at kn0 kn1
  go_wp2_with (fail)
  clear hw5 kn0 kn1
  refine (arrive1_c w1.heap.size g _ _ l0 l1 k0 k1 z0 z1 n0 ns kd m w5 LV5.out HZ5.out ⟨HNO.out.1, HNO.out.2.1⟩ HM.out.1 (HT.out.2.2.2.1 m HM.out.1) HM.out.2 HT.out.2.2.2.2.1 HT.out.2.2.1.2.2.1).mono ?_
  rintro e w6 ⟨hA, hBd⟩
  by_cases hok : ArOk1 l0 l1 z0 z1 n0 ns kd m
  case neg =>
    obtain ⟨rfl, b6⟩ := hBd hok
    have hz1 := HZ1.out
    have HOK : Hid (¬ ArOk1 l0 l1 z0 z1 n0 ns kd m) := hok
    have HB6 : Hid (Below w.heap.size w w6) := HB5.out.trans (b6.mono (by omega))
    have KP6 : Hid (Blk w6 w.heap.size (T6 (.slice a0 z0.length p0) (.slice a1 z1.length p1) l0 l1 (.slice a2 n0.length p2) (.slice a3 n1.length p3)) 33) := KP5.out.below b6 (by omega)
    have KR6 : Hid (Blk w6 (w.heap.size + 1) (T6 (.slice none 0 0) (.slice none 0 0) 0 0 (.slice none 0 0) (.slice none 0 0)) 33) := KR5.out.below b6 (by omega)
    clear hA hBd b6 hok hz1
    have x0 := KP6.out.cell 0
    have x1 := KP6.out.cell 1
    have x2 := KP6.out.cell 2
    have x3 := KP6.out.cell 3
    have x4 := KP6.out.cell 4
    have x5 := KP6.out.cell 5
    have xl := KP6.out.lt
    simp at x0 x1 x2 x3 x4 x5
    go_wp2_with (fail)
    refine (copyI_c _ _ _ _ l0 l1 z0 z1 n0 n1 w6 (HR.out.below HB6.out) HL.out).mono ?_
    rintro e u0 ⟨v0, v1, v2, v3, rfl, oo, bb⟩
    obtain ⟨e0, f0, hf0, -⟩ := own_form oo.o0
    obtain ⟨e1, f1, hf1, -⟩ := own_form oo.o1
    obtain ⟨e2, f2, hf2, -⟩ := own_form oo.o2
    obtain ⟨e3, f3, hf3, -⟩ := own_form oo.o3
    subst hf0 hf1 hf2 hf3
    have kr := KR6.out.below bb KR6.out.lt
    have hcs := HB6.out.size
    have hkl := KR6.out.lt
    have HF : Hid (∀ W', st6 u0 (w.heap.size + 1) (.slice e0 z0.length f0) (.slice e1 z1.length f1) l0 l1 (.slice e2 n0.length f2) (.slice e3 n1.length f3) = W' →
        Blk W' (w.heap.size + 1) (T6 (.slice e0 z0.length f0) (.slice e1 z1.length f1) l0 l1 (.slice e2 n0.length f2) (.slice e3 n1.length f3)) 33 ∧ Ok6 w.heap.size W'.heap.size W' (.slice e0 z0.length f0) (.slice e1 z1.length f1) (.slice e2 n0.length f2) (.slice e3 n1.length f3) z0 z1 n0 n1 ∧ Below w.heap.size w W') := by
      intro W' hW'
      have hfr := fr_put6 u0 (w.heap.size + 1) (.slice e0 z0.length f0) (.slice e1 z1.length f1) l0 l1 (.slice e2 n0.length f2) (.slice e3 n1.length f3)
      rw [hW'] at hfr
      refine ⟨by rw [← hW']; exact put6 kr _ _ _ _ _ _, (oo.fr hfr (fun k hk e => by have := oo.ge k hk; omega)).mono (by omega) hfr.size, (belowCall HB6.out bb hcs).trans (hfr.below (by have := bb.size; omega) (fun k e => by omega))⟩
    have y0 := kr.cell 0
    have yf0 := kr.frozen 0
    have y1 := kr.cell 1
    have yf1 := kr.frozen 1
    have y2 := kr.cell 2
    have yf2 := kr.frozen 2
    have y3 := kr.cell 3
    have yf3 := kr.frozen 3
    have y4 := kr.cell 4
    have yf4 := kr.frozen 4
    have y5 := kr.cell 5
    have yf5 := kr.frozen 5
    have yl := kr.lt
    simp at y0 y1 y2 y3 y4 y5
    clear kr oo bb hcs hkl
    go_wp2
    exact bodyPost_ret (v := .tuple #[.agg (T6 (.slice e0 z0.length f0) (.slice e1 z1.length f1) l0 l1 (.slice e2 n0.length f2) (.slice e3 n1.length f3)), .bool false]) (results_T rfl _ _ _ _ _ _ _ _ _ _ rfl rfl (HF.out _ rfl).1) rfl ((fun a => ⟨fun h => absurd h (fun h => HOK.out (by have := h.2.2; rw [HN.out] at this; exact this)), fun _ => a⟩) ⟨_, _, _, _, rfl, (HF.out _ rfl).2⟩)
  obtain ⟨rfl, lv6, b6⟩ := hA hok
  have hz1 := HZ1.out
  have HB6 : Hid (Below w.heap.size w w6) := HB5.out.trans (b6.mono (by omega))
  have KR6 : Hid (Blk w6 (w.heap.size + 1) (T6 (.slice none 0 0) (.slice none 0 0) 0 0 (.slice none 0 0) (.slice none 0 0)) 33) := KR5.out.below b6 (by omega)
  have HZ6 : Hid (w1.heap.size ≤ w6.heap.size) := Nat.le_trans HZ5.out b6.size
  have HBK : Hid ((n0 ++ bkN1 z1 kd m).length ≤ 60) := by
    have h1 := HT.out.2.2.1.2.2.1
    rw [List.length_append, bkN1]
    rcases hok.2 with h2 | h2
    · rw [if_pos h2]; exact h1
    · split
      · exact h1
      · show _ + 1 ≤ 60; omega
  have HPOST : Hid (∀ e w', TwS l0 (l1 + (hearF kd (z1.getD m 0) ((m : Int) % 2 == 1)).2.2) z0 (z1.set m (hearF kd (z1.getD m 0) ((m : Int) % 2 == 1)).1) (n0 ++ bkN1 z1 kd m) ns (.bool true) w e w' → CaR1 z0 z1 l0 l1 n0 n1 w e w') := by
    intro e w' h
    have hn := HN.out
    have hT := HT.out
    subst hn
    exact ⟨fun _ => h, fun h' => absurd ⟨hT, by simp, hok⟩ h'⟩
  generalize (l1 + (hearF kd (z1.getD m 0) ((m : Int) % 2 == 1)).2.2) = LL at lv6 HPOST
  generalize (z1.set m (hearF kd (z1.getD m 0) ((m : Int) % 2 == 1)).1) = ZZ at lv6 HPOST
  generalize (n0 ++ bkN1 z1 kd m) = NN at lv6 HPOST HBK
  have LV6 : Hid (Lv w1.heap.size w6 g cc0 cc1 l0 LL k0 k1 z0 ZZ NN ns) := lv6
  clear lv6 hA hBd b6 hok hz1
  go_wp2_with (fail)
  refine (as_c w1.heap.size g _ _ l0 LL k0 k1 z0 ZZ NN ns w6 LV6.out HZ6.out HBK.out HNL.out).mono ?_
  rintro e u0 ⟨v0, v1, v2, v3, rfl, oo, bb⟩
  obtain ⟨e0, f0, hf0, -⟩ := own_form oo.o0
  obtain ⟨e1, f1, hf1, -⟩ := own_form oo.o1
  obtain ⟨e2, f2, hf2, -⟩ := own_form oo.o2
  obtain ⟨e3, f3, hf3, -⟩ := own_form oo.o3
  obtain ⟨q0, hq0⟩ : ∃ q, z0.length = q := ⟨_, rfl⟩
  obtain ⟨q1, hq1⟩ : ∃ q, ZZ.length = q := ⟨_, rfl⟩
  obtain ⟨q2, hq2⟩ : ∃ q, NN.length = q := ⟨_, rfl⟩
  obtain ⟨q3, hq3⟩ : ∃ q, ns.length = q := ⟨_, rfl⟩
  rw [hq0] at hf0
  rw [hq1] at hf1
  rw [hq2] at hf2
  rw [hq3] at hf3
  subst hf0 hf1 hf2 hf3
  have hcs := HB6.out.size
  have hkl := KR6.out.lt
  have hz1 := HZ1.out
  have kr := KR6.out.below bb (by omega)
  have HF : Hid (∀ W', st6 u0 (w.heap.size + 1) (.slice e0 q0 f0) (.slice e1 q1 f1) l0 LL (.slice e2 q2 f2) (.slice e3 q3 f3) = W' →
      Blk W' (w.heap.size + 1) (T6 (.slice e0 q0 f0) (.slice e1 q1 f1) l0 LL (.slice e2 q2 f2) (.slice e3 q3 f3)) 33 ∧ Ok6 w.heap.size W'.heap.size W' (.slice e0 q0 f0) (.slice e1 q1 f1) (.slice e2 q2 f2) (.slice e3 q3 f3) z0 ZZ NN ns ∧ Below w.heap.size w W') := by
    intro W' hW'
    have hfr := fr_put6 u0 (w.heap.size + 1) (.slice e0 q0 f0) (.slice e1 q1 f1) l0 LL (.slice e2 q2 f2) (.slice e3 q3 f3)
    rw [hW'] at hfr
    refine ⟨by rw [← hW']; exact put6 kr _ _ _ _ _ _, (oo.fr hfr (fun k hk e => by have := oo.ge k hk; omega)).mono (by omega) hfr.size, (HB6.out.trans (bb.mono (by omega))).trans (hfr.below (by have := bb.size; omega) (fun k e => by omega))⟩
  clear hq0 hq1 hq2 hq3
  have y0 := kr.cell 0
  have yf0 := kr.frozen 0
  have y1 := kr.cell 1
  have yf1 := kr.frozen 1
  have y2 := kr.cell 2
  have yf2 := kr.frozen 2
  have y3 := kr.cell 3
  have yf3 := kr.frozen 3
  have y4 := kr.cell 4
  have yf4 := kr.frozen 4
  have y5 := kr.cell 5
  have yf5 := kr.frozen 5
  have yl := kr.lt
  simp at y0 y1 y2 y3 y4 y5
  clear kr oo bb hcs hkl hz1
  go_wp2
  exact bodyPost_ret (v := .tuple #[.agg (T6 (.slice e0 q0 f0) (.slice e1 q1 f1) l0 LL (.slice e2 q2 f2) (.slice e3 q3 f3)), .bool true]) (results_T rfl _ _ _ _ _ _ _ _ _ _ rfl rfl (HF.out _ rfl).1) rfl (HPOST.out _ _ ⟨_, _, _, _, rfl, (HF.out _ rfl).2⟩)
set_option maxHeartbeats 12800000 in
theorem carryIx_c (c0 c1 w0 w1 : Value) (l0 l1 : Int) (z0 z1 : List Int) (n0 n1 : Mvs) (sd : Int) (hsd : ¬ (0 ≤ sd ∧ sd ≤ 1)) (w : World) (h : Rk w c0 c1 w0 w1 z0 z1 n0 n1) (hl : (z0.length : Int) + z1.length + (n0.length + n1.length) ≤ 1048576) :
    Calls Try.prog 18 #[.agg (T6 c0 c1 l0 l1 w0 w1), .int .i64 sd] w (TwS l0 l1 z0 z1 n0 n1 (.bool false) w) := by
  obtain ⟨W0, hW0⟩ : ∃ W0, (w.alloc (Obj.cells (T6 c0 c1 l0 l1 w0 w1) 33)).alloc (Obj.cells (T6 (.slice none 0 0) (.slice none 0 0) 0 0 (.slice none 0 0) (.slice none 0 0)) 33) = W0 := ⟨_, rfl⟩
  have HB0 : Hid (Below w.heap.size w W0) := by rw [← hW0]; exact ((Below.refl _ _).alloc (Nat.le_refl _) _).alloc (by simp) _
  have KP0 : Hid (Blk W0 w.heap.size (T6 c0 c1 l0 l1 w0 w1) 33) := by rw [← hW0]; exact (Blk.new _ _ _).alloc _
  have KR0 : Hid (Blk W0 (w.heap.size + 1) (T6 (.slice none 0 0) (.slice none 0 0) 0 0 (.slice none 0 0) (.slice none 0 0)) 33) := by rw [← hW0]; exact Blk.newAt _ (w.heap.size + 1) _ 33 (by simp)
  have HR : Hid (Rk w c0 c1 w0 w1 z0 z1 n0 n1) := h
  have HL : Hid ((z0.length : Int) + z1.length + (n0.length + n1.length) ≤ 1048576) := hl
  obtain ⟨a0, p0, hv0, -⟩ := h.r0
  obtain ⟨a1, p1, hv1, -⟩ := h.r1
  obtain ⟨a2, p2, hv2, -⟩ := h.r2
  obtain ⟨a3, p3, hv3, -⟩ := h.r3
  subst hv0 hv1 hv2 hv3
  clear h hl
  have HSD : Hid (¬ (sd = 0 ∨ sd = 1)) := fun e => hsd (by omega)
  clear hsd
  have x0 := KP0.out.cell 0
  have x1 := KP0.out.cell 1
  have x2 := KP0.out.cell 2
  have x3 := KP0.out.cell 3
  have x4 := KP0.out.cell 4
  have x5 := KP0.out.cell 5
  have xl := KP0.out.lt
  simp at x0 x1 x2 x3 x4 x5
  go_enter Try.func18, Try.ntmps18
  go_wp2_with (fail)
  clear hW0
  refine (okI_c _ _ _ _ l0 l1 z0 z1 n0 n1 W0 (HR.out.below HB0.out)).mono ?_
  rintro e w1 ⟨q, rfl, hq, b1⟩
  have HB1 : Hid (Below w.heap.size w w1) := belowCall HB0.out b1 HB0.out.size
  have KP1 : Hid (Blk w1 w.heap.size (T6 (.slice a0 z0.length p0) (.slice a1 z1.length p1) l0 l1 (.slice a2 n0.length p2) (.slice a3 n1.length p3)) 33) := KP0.out.below b1 KP0.out.lt
  have KR1 : Hid (Blk w1 (w.heap.size + 1) (T6 (.slice none 0 0) (.slice none 0 0) 0 0 (.slice none 0 0) (.slice none 0 0)) 33) := KR0.out.below b1 KR0.out.lt
  clear b1 HB0 KP0 KR0 x0 x1 x2 x3 x4 x5 xl
  have x0 := KP1.out.cell 0
  have x1 := KP1.out.cell 1
  have x2 := KP1.out.cell 2
  have x3 := KP1.out.cell 3
  have x4 := KP1.out.cell 4
  have x5 := KP1.out.cell 5
  have xl := KP1.out.lt
  simp at x0 x1 x2 x3 x4 x5
  by_cases hT : TOk z0 z1 l0 l1 n0 n1
  case neg =>
    obtain rfl : q = false := by cases q with | false => rfl | true => exact absurd (hq.1 rfl) hT
    have HT : Hid (¬ TOk z0 z1 l0 l1 n0 n1) := hT
    clear hq hT
    go_wp2_with (fail)
    refine (copyI_c _ _ _ _ l0 l1 z0 z1 n0 n1 w1 (HR.out.below HB1.out) HL.out).mono ?_
    rintro e u0 ⟨v0, v1, v2, v3, rfl, oo, bb⟩
    obtain ⟨e0, f0, hf0, -⟩ := own_form oo.o0
    obtain ⟨e1, f1, hf1, -⟩ := own_form oo.o1
    obtain ⟨e2, f2, hf2, -⟩ := own_form oo.o2
    obtain ⟨e3, f3, hf3, -⟩ := own_form oo.o3
    subst hf0 hf1 hf2 hf3
    have kr := KR1.out.below bb KR1.out.lt
    have hcs := HB1.out.size
    have hkl := KR1.out.lt
    have HF : Hid (∀ W', st6 u0 (w.heap.size + 1) (.slice e0 z0.length f0) (.slice e1 z1.length f1) l0 l1 (.slice e2 n0.length f2) (.slice e3 n1.length f3) = W' →
        Blk W' (w.heap.size + 1) (T6 (.slice e0 z0.length f0) (.slice e1 z1.length f1) l0 l1 (.slice e2 n0.length f2) (.slice e3 n1.length f3)) 33 ∧ Ok6 w.heap.size W'.heap.size W' (.slice e0 z0.length f0) (.slice e1 z1.length f1) (.slice e2 n0.length f2) (.slice e3 n1.length f3) z0 z1 n0 n1 ∧ Below w.heap.size w W') := by
      intro W' hW'
      have hfr := fr_put6 u0 (w.heap.size + 1) (.slice e0 z0.length f0) (.slice e1 z1.length f1) l0 l1 (.slice e2 n0.length f2) (.slice e3 n1.length f3)
      rw [hW'] at hfr
      refine ⟨by rw [← hW']; exact put6 kr _ _ _ _ _ _, (oo.fr hfr (fun k hk e => by have := oo.ge k hk; omega)).mono (by omega) hfr.size, (belowCall HB1.out bb hcs).trans (hfr.below (by have := bb.size; omega) (fun k e => by omega))⟩
    have y0 := kr.cell 0
    have yf0 := kr.frozen 0
    have y1 := kr.cell 1
    have yf1 := kr.frozen 1
    have y2 := kr.cell 2
    have yf2 := kr.frozen 2
    have y3 := kr.cell 3
    have yf3 := kr.frozen 3
    have y4 := kr.cell 4
    have yf4 := kr.frozen 4
    have y5 := kr.cell 5
    have yf5 := kr.frozen 5
    have yl := kr.lt
    simp at y0 y1 y2 y3 y4 y5
    clear kr oo bb hcs hkl
    go_wp2
    exact bodyPost_ret (v := .tuple #[.agg (T6 (.slice e0 z0.length f0) (.slice e1 z1.length f1) l0 l1 (.slice e2 n0.length f2) (.slice e3 n1.length f3)), .bool false]) (results_T rfl _ _ _ _ _ _ _ _ _ _ rfl rfl (HF.out _ rfl).1) rfl ((fun a => a) ⟨_, _, _, _, rfl, (HF.out _ rfl).2⟩)
  obtain rfl : q = true := hq.2 hT
  have HT : Hid (TOk z0 z1 l0 l1 n0 n1) := hT
  clear hq hT
  go_wp2_with (fail)
  refine (side_c sd w1).mono ?_
  rintro e wq ⟨rfl, hwq⟩
  rw [hwq, decide_eq_false HSD.out]
  clear hwq wq
  go_wp2_with (fail)
  refine (copyI_c _ _ _ _ l0 l1 z0 z1 n0 n1 w1 (HR.out.below HB1.out) HL.out).mono ?_
  rintro e u0 ⟨v0, v1, v2, v3, rfl, oo, bb⟩
  obtain ⟨e0, f0, hf0, -⟩ := own_form oo.o0
  obtain ⟨e1, f1, hf1, -⟩ := own_form oo.o1
  obtain ⟨e2, f2, hf2, -⟩ := own_form oo.o2
  obtain ⟨e3, f3, hf3, -⟩ := own_form oo.o3
  subst hf0 hf1 hf2 hf3
  have kr := KR1.out.below bb KR1.out.lt
  have hcs := HB1.out.size
  have hkl := KR1.out.lt
  have HF : Hid (∀ W', st6 u0 (w.heap.size + 1) (.slice e0 z0.length f0) (.slice e1 z1.length f1) l0 l1 (.slice e2 n0.length f2) (.slice e3 n1.length f3) = W' →
      Blk W' (w.heap.size + 1) (T6 (.slice e0 z0.length f0) (.slice e1 z1.length f1) l0 l1 (.slice e2 n0.length f2) (.slice e3 n1.length f3)) 33 ∧ Ok6 w.heap.size W'.heap.size W' (.slice e0 z0.length f0) (.slice e1 z1.length f1) (.slice e2 n0.length f2) (.slice e3 n1.length f3) z0 z1 n0 n1 ∧ Below w.heap.size w W') := by
    intro W' hW'
    have hfr := fr_put6 u0 (w.heap.size + 1) (.slice e0 z0.length f0) (.slice e1 z1.length f1) l0 l1 (.slice e2 n0.length f2) (.slice e3 n1.length f3)
    rw [hW'] at hfr
    refine ⟨by rw [← hW']; exact put6 kr _ _ _ _ _ _, (oo.fr hfr (fun k hk e => by have := oo.ge k hk; omega)).mono (by omega) hfr.size, (belowCall HB1.out bb hcs).trans (hfr.below (by have := bb.size; omega) (fun k e => by omega))⟩
  have y0 := kr.cell 0
  have yf0 := kr.frozen 0
  have y1 := kr.cell 1
  have yf1 := kr.frozen 1
  have y2 := kr.cell 2
  have yf2 := kr.frozen 2
  have y3 := kr.cell 3
  have yf3 := kr.frozen 3
  have y4 := kr.cell 4
  have yf4 := kr.frozen 4
  have y5 := kr.cell 5
  have yf5 := kr.frozen 5
  have yl := kr.lt
  simp at y0 y1 y2 y3 y4 y5
  clear kr oo bb hcs hkl
  go_wp2
  exact bodyPost_ret (v := .tuple #[.agg (T6 (.slice e0 z0.length f0) (.slice e1 z1.length f1) l0 l1 (.slice e2 n0.length f2) (.slice e3 n1.length f3)), .bool false]) (results_T rfl _ _ _ _ _ _ _ _ _ _ rfl rfl (HF.out _ rfl).1) rfl ((fun a => a) ⟨_, _, _, _, rfl, (HF.out _ rfl).2⟩)
end Go.Proofs.Ytkehcalijamhjaa

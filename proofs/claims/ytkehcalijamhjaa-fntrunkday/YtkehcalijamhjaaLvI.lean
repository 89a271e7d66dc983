/- The program's Leave; no condition. -/
import Derived.Test.YtkehcalijamhjaaAst
import Derived.Test.YtkehcalijamhjaaHea
import Derived.Test.YtkehcalijamhjaaLvX
import Derived.Test.YtkehcalijamhjaaTkI
namespace Go.Proofs.Ytkehcalijamhjaa
open Go.RowKit Go.ChangeShapes Go.WideShapes Go.ChangeAt
set_option linter.unusedVariables false
set_option linter.unusedSimpArgs false
set_option maxRecDepth 8000
set_option maxHeartbeats 12800000 in
theorem leaveI0_c (c0 c1 w0 w1 : Value) (l0 l1 : Int) (z0 z1 : List Int) (n0 n1 : Mvs) (c : Int) (w : World) (h : Rk w c0 c1 w0 w1 z0 z1 n0 n1) (hl : (z0.length : Int) + z1.length + (n0.length + n1.length) ≤ 1048576) :
    Calls Try.prog 16 #[.agg (T6 c0 c1 l0 l1 w0 w1), .int .i64 0, .int .i64 c] w (LvR0 c z0 z1 l0 l1 n0 n1 w) := by
  obtain ⟨W0, hW0⟩ : ∃ W0, (w.alloc (Obj.cells (T6 c0 c1 l0 l1 w0 w1) 33)).alloc (Obj.cells (T6 (.slice none 0 0) (.slice none 0 0) 0 0 (.slice none 0 0) (.slice none 0 0)) 33) = W0 := ⟨_, rfl⟩
  have HB0 : Hid (Below w.heap.size w W0) := by rw [← hW0]; exact ((Below.refl _ _).alloc (Nat.le_refl _) _).alloc (by simp) _
  have KP0 : Hid (Blk W0 w.heap.size (T6 c0 c1 l0 l1 w0 w1) 33) := by rw [← hW0]; exact (Blk.new _ _ _).alloc _
  have KR0 : Hid (Blk W0 (w.heap.size + 1) (T6 (.slice none 0 0) (.slice none 0 0) 0 0 (.slice none 0 0) (.slice none 0 0)) 33) := by rw [← hW0]; exact Blk.newAt _ (w.heap.size + 1) _ 33 (by simp)
  have HR : Hid (Rk w c0 c1 w0 w1 z0 z1 n0 n1) := h
  have HL : Hid ((z0.length : Int) + z1.length + (n0.length + n1.length) ≤ 1048576) := hl
  obtain ⟨a0, p0, hv0, -⟩ := h.r0
  obtain ⟨a1, p1, hv1, -⟩ := h.r1
  obtain ⟨a2, p2, hv2, -⟩ := h.r2
  obtain ⟨a3, p3, hv3, -⟩ := h.r3
  subst hv0 hv1 hv2 hv3
  clear h hl
  have x0 := KP0.out.cell 0
  have x1 := KP0.out.cell 1
  have x2 := KP0.out.cell 2
  have x3 := KP0.out.cell 3
  have x4 := KP0.out.cell 4
  have x5 := KP0.out.cell 5
  have xl := KP0.out.lt
  simp at x0 x1 x2 x3 x4 x5
  go_enter Try.func16, Try.ntmps16
  go_wp2_with (fail)
  clear hW0
  refine (okI_c _ _ _ _ l0 l1 z0 z1 n0 n1 W0 (HR.out.below HB0.out)).mono ?_
  rintro e w1 ⟨q, rfl, hq, b1⟩
  have HB1 : Hid (Below w.heap.size w w1) := belowCall HB0.out b1 HB0.out.size
  have KP1 : Hid (Blk w1 w.heap.size (T6 (.slice a0 z0.length p0) (.slice a1 z1.length p1) l0 l1 (.slice a2 n0.length p2) (.slice a3 n1.length p3)) 33) := KP0.out.below b1 KP0.out.lt
  have KR1 : Hid (Blk w1 (w.heap.size + 1) (T6 (.slice none 0 0) (.slice none 0 0) 0 0 (.slice none 0 0) (.slice none 0 0)) 33) := KR0.out.below b1 KR0.out.lt
  clear b1 HB0 KP0 KR0 x0 x1 x2 x3 x4 x5 xl
  have x0 := KP1.out.cell 0
  have x1 := KP1.out.cell 1
  have x2 := KP1.out.cell 2
  have x3 := KP1.out.cell 3
  have x4 := KP1.out.cell 4
  have x5 := KP1.out.cell 5
  have xl := KP1.out.lt
  simp at x0 x1 x2 x3 x4 x5
  by_cases hT : TOk z0 z1 l0 l1 n0 n1
  case neg =>
    obtain rfl : q = false := by cases q with | false => rfl | true => exact absurd (hq.1 rfl) hT
    have HT : Hid (¬ TOk z0 z1 l0 l1 n0 n1) := hT
    clear hq hT
    go_wp2_with (fail)
    refine (copyI_c _ _ _ _ l0 l1 z0 z1 n0 n1 w1 (HR.out.below HB1.out) HL.out).mono ?_
    rintro e u0 ⟨v0, v1, v2, v3, rfl, oo, bb⟩
    obtain ⟨e0, f0, hf0, -⟩ := own_form oo.o0
    obtain ⟨e1, f1, hf1, -⟩ := own_form oo.o1
    obtain ⟨e2, f2, hf2, -⟩ := own_form oo.o2
    obtain ⟨e3, f3, hf3, -⟩ := own_form oo.o3
    subst hf0 hf1 hf2 hf3
    have kr := KR1.out.below bb KR1.out.lt
    have hcs := HB1.out.size
    have hkl := KR1.out.lt
    have HF : Hid (∀ W', st6 u0 (w.heap.size + 1) (.slice e0 z0.length f0) (.slice e1 z1.length f1) l0 l1 (.slice e2 n0.length f2) (.slice e3 n1.length f3) = W' →
        Blk W' (w.heap.size + 1) (T6 (.slice e0 z0.length f0) (.slice e1 z1.length f1) l0 l1 (.slice e2 n0.length f2) (.slice e3 n1.length f3)) 33 ∧ Ok6 w.heap.size W'.heap.size W' (.slice e0 z0.length f0) (.slice e1 z1.length f1) (.slice e2 n0.length f2) (.slice e3 n1.length f3) z0 z1 n0 n1 ∧ Below w.heap.size w W') := by
      intro W' hW'
      have hfr := fr_put6 u0 (w.heap.size + 1) (.slice e0 z0.length f0) (.slice e1 z1.length f1) l0 l1 (.slice e2 n0.length f2) (.slice e3 n1.length f3)
      rw [hW'] at hfr
      refine ⟨by rw [← hW']; exact put6 kr _ _ _ _ _ _, (oo.fr hfr (fun k hk e => by have := oo.ge k hk; omega)).mono (by omega) hfr.size, (belowCall HB1.out bb hcs).trans (hfr.below (by have := bb.size; omega) (fun k e => by omega))⟩
    have y0 := kr.cell 0
    have yf0 := kr.frozen 0
    have y1 := kr.cell 1
    have yf1 := kr.frozen 1
    have y2 := kr.cell 2
    have yf2 := kr.frozen 2
    have y3 := kr.cell 3
    have yf3 := kr.frozen 3
    have y4 := kr.cell 4
    have yf4 := kr.frozen 4
    have y5 := kr.cell 5
    have yf5 := kr.frozen 5
    have yl := kr.lt
    simp at y0 y1 y2 y3 y4 y5
    clear kr oo bb hcs hkl
    go_wp2
    exact bodyPost_ret (v := .tuple #[.agg (T6 (.slice e0 z0.length f0) (.slice e1 z1.length f1) l0 l1 (.slice e2 n0.length f2) (.slice e3 n1.length f3)), .bool false]) (results_T rfl _ _ _ _ _ _ _ _ _ _ rfl rfl (HF.out _ rfl).1) rfl ((fun a => ⟨fun h => absurd h (fun h => HT.out h.1), fun _ => a⟩) ⟨_, _, _, _, rfl, (HF.out _ rfl).2⟩)
  obtain rfl : q = true := hq.2 hT
  have HT : Hid (TOk z0 z1 l0 l1 n0 n1) := hT
  clear hq hT
  go_wp2_with (fail)
  refine (side_c 0 w1).mono ?_
  rintro e wq ⟨rfl, hwq⟩
  rw [hwq, decide_eq_true (by simp)]
  clear hwq wq
  go_wp2_with (fail)
  refine (circ_c c (z0.length : Int) w1).mono ?_
  rintro e wq ⟨rfl, hwq⟩
  rw [hwq]
  clear hwq wq
  have HZL : Hid (z1.length = z0.length) := HT.out.2.1
  by_cases hC : 0 ≤ c ∧ c < (z0.length : Int)
  case neg =>
    rw [decide_eq_false hC]
    have HC : Hid (¬ (0 ≤ c ∧ c < (z0.length : Int))) := fun h => hC (by have := HZL.out; omega)
    clear hC
    go_wp2_with (fail)
    refine (copyI_c _ _ _ _ l0 l1 z0 z1 n0 n1 w1 (HR.out.below HB1.out) HL.out).mono ?_
    rintro e u0 ⟨v0, v1, v2, v3, rfl, oo, bb⟩
    obtain ⟨e0, f0, hf0, -⟩ := own_form oo.o0
    obtain ⟨e1, f1, hf1, -⟩ := own_form oo.o1
    obtain ⟨e2, f2, hf2, -⟩ := own_form oo.o2
    obtain ⟨e3, f3, hf3, -⟩ := own_form oo.o3
    subst hf0 hf1 hf2 hf3
    have kr := KR1.out.below bb KR1.out.lt
    have hcs := HB1.out.size
    have hkl := KR1.out.lt
    have HF : Hid (∀ W', st6 u0 (w.heap.size + 1) (.slice e0 z0.length f0) (.slice e1 z1.length f1) l0 l1 (.slice e2 n0.length f2) (.slice e3 n1.length f3) = W' →
        Blk W' (w.heap.size + 1) (T6 (.slice e0 z0.length f0) (.slice e1 z1.length f1) l0 l1 (.slice e2 n0.length f2) (.slice e3 n1.length f3)) 33 ∧ Ok6 w.heap.size W'.heap.size W' (.slice e0 z0.length f0) (.slice e1 z1.length f1) (.slice e2 n0.length f2) (.slice e3 n1.length f3) z0 z1 n0 n1 ∧ Below w.heap.size w W') := by
      intro W' hW'
      have hfr := fr_put6 u0 (w.heap.size + 1) (.slice e0 z0.length f0) (.slice e1 z1.length f1) l0 l1 (.slice e2 n0.length f2) (.slice e3 n1.length f3)
      rw [hW'] at hfr
      refine ⟨by rw [← hW']; exact put6 kr _ _ _ _ _ _, (oo.fr hfr (fun k hk e => by have := oo.ge k hk; omega)).mono (by omega) hfr.size, (belowCall HB1.out bb hcs).trans (hfr.below (by have := bb.size; omega) (fun k e => by omega))⟩
    have y0 := kr.cell 0
    have yf0 := kr.frozen 0
    have y1 := kr.cell 1
    have yf1 := kr.frozen 1
    have y2 := kr.cell 2
    have yf2 := kr.frozen 2
    have y3 := kr.cell 3
    have yf3 := kr.frozen 3
    have y4 := kr.cell 4
    have yf4 := kr.frozen 4
    have y5 := kr.cell 5
    have yf5 := kr.frozen 5
    have yl := kr.lt
    simp at y0 y1 y2 y3 y4 y5
    clear kr oo bb hcs hkl
    go_wp2
    exact bodyPost_ret (v := .tuple #[.agg (T6 (.slice e0 z0.length f0) (.slice e1 z1.length f1) l0 l1 (.slice e2 n0.length f2) (.slice e3 n1.length f3)), .bool false]) (results_T rfl _ _ _ _ _ _ _ _ _ _ rfl rfl (HF.out _ rfl).1) rfl ((fun a => ⟨fun h => absurd h (fun h => HC.out h.2.1), fun _ => a⟩) ⟨_, _, _, _, rfl, (HF.out _ rfl).2⟩)
  rw [decide_eq_true hC]
  obtain ⟨m, rfl⟩ : ∃ m : Nat, c = m := ⟨c.toNat, by omega⟩
  have hm : m < z0.length := by omega
  have HC : Hid (0 ≤ (m : Int) ∧ (m : Int) < (z0.length : Int)) := by have := HZL.out; show _ ∧ _; omega
  clear hC
  go_wp2_with (fail)
  refine (open_c _ _ _ _ l0 l1 z0 z1 n0 n1 w1 (HR.out.below HB1.out) (by have := HT.out.1; omega) (by have := HT.out.1; have := HT.out.2.1; omega) HT.out.2.2.1.2.2.1 HT.out.2.2.2.2.2.1).mono ?_
  rintro e w2 ⟨g, cc0, cc1, k0, k1, rfl, lv, b2⟩
  have hzp : 0 < z0.length := by have := HT.out.1; have := HT.out.2.1; omega
  obtain ⟨br, cr, hcr, hbr1, hbr2⟩ := Ow.row lv.o0 hzp
  obtain ⟨eo, fo, hco, -⟩ := own_form lv.o1
  subst hcr hco
  have HLV : Hid (Lv w1.heap.size w2 g (.slice (some ⟨br, 0, none⟩) z0.length cr) (.slice eo z1.length fo) l0 l1 k0 k1 z0 z1 n0 n1) := lv
  have HB2 : Hid (Below w.heap.size w w2) := belowCall HB1.out b2 HB1.out.size
  have KP2 : Hid (Blk w2 w.heap.size (T6 (.slice a0 z0.length p0) (.slice a1 z1.length p1) l0 l1 (.slice a2 n0.length p2) (.slice a3 n1.length p3)) 33) := KP1.out.below b2 KP1.out.lt
  have KR2 : Hid (Blk w2 (w.heap.size + 1) (T6 (.slice none 0 0) (.slice none 0 0) 0 0 (.slice none 0 0) (.slice none 0 0)) 33) := KR1.out.below b2 KR1.out.lt
  have HZ1 : Hid (w.heap.size + 1 < w1.heap.size ∧ w1.heap.size ≤ w2.heap.size) := ⟨KR1.out.lt, b2.size⟩
  have gc := lv.blk.cell 0
  simp at gc
  clear b2 KP1 KR1 HB1 x0 x1 x2 x3 x4 x5 xl hzp
  obtain ⟨cz, cf⟩ := Ow.cellFz rfl lv.o0 m hm
  obtain ⟨y, hy⟩ : ∃ y, z0.getD m 0 = y := ⟨_, rfl⟩
  rw [hy] at cz
  have HY : Hid (z0.getD m 0 = y) := hy
  have hmi : (m : Int) < (z0.length : Int) := by omega
  have hm0 : (0 : Int) ≤ (m : Int) := by omega
  clear lv hy
  have x0 := KP2.out.cell 0
  have x1 := KP2.out.cell 1
  have x2 := KP2.out.cell 2
  have x3 := KP2.out.cell 3
  have x4 := KP2.out.cell 4
  have x5 := KP2.out.cell 5
  have xl := KP2.out.lt
  simp at x0 x1 x2 x3 x4 x5
  by_cases h2 : y = 2
  case neg =>
    have h2' : (y != 2) = true := by simpa using h2
    have H2N : Hid (¬ y = 2) := h2
    clear h2
    go_wp2_with (fail)
    refine (copyI_c _ _ _ _ l0 l1 z0 z1 n0 n1 w2 (HR.out.below HB2.out) HL.out).mono ?_
    rintro e u0 ⟨v0, v1, v2, v3, rfl, oo, bb⟩
    obtain ⟨e0, f0, hf0, -⟩ := own_form oo.o0
    obtain ⟨e1, f1, hf1, -⟩ := own_form oo.o1
    obtain ⟨e2, f2, hf2, -⟩ := own_form oo.o2
    obtain ⟨e3, f3, hf3, -⟩ := own_form oo.o3
    subst hf0 hf1 hf2 hf3
    have kr := KR2.out.below bb KR2.out.lt
    have hcs := HB2.out.size
    have hkl := KR2.out.lt
    have HF : Hid (∀ W', st6 u0 (w.heap.size + 1) (.slice e0 z0.length f0) (.slice e1 z1.length f1) l0 l1 (.slice e2 n0.length f2) (.slice e3 n1.length f3) = W' →
        Blk W' (w.heap.size + 1) (T6 (.slice e0 z0.length f0) (.slice e1 z1.length f1) l0 l1 (.slice e2 n0.length f2) (.slice e3 n1.length f3)) 33 ∧ Ok6 w.heap.size W'.heap.size W' (.slice e0 z0.length f0) (.slice e1 z1.length f1) (.slice e2 n0.length f2) (.slice e3 n1.length f3) z0 z1 n0 n1 ∧ Below w.heap.size w W') := by
      intro W' hW'
      have hfr := fr_put6 u0 (w.heap.size + 1) (.slice e0 z0.length f0) (.slice e1 z1.length f1) l0 l1 (.slice e2 n0.length f2) (.slice e3 n1.length f3)
      rw [hW'] at hfr
      refine ⟨by rw [← hW']; exact put6 kr _ _ _ _ _ _, (oo.fr hfr (fun k hk e => by have := oo.ge k hk; omega)).mono (by omega) hfr.size, (belowCall HB2.out bb hcs).trans (hfr.below (by have := bb.size; omega) (fun k e => by omega))⟩
    have y0 := kr.cell 0
    have yf0 := kr.frozen 0
    have y1 := kr.cell 1
    have yf1 := kr.frozen 1
    have y2 := kr.cell 2
    have yf2 := kr.frozen 2
    have y3 := kr.cell 3
    have yf3 := kr.frozen 3
    have y4 := kr.cell 4
    have yf4 := kr.frozen 4
    have y5 := kr.cell 5
    have yf5 := kr.frozen 5
    have yl := kr.lt
    simp at y0 y1 y2 y3 y4 y5
    clear kr oo bb hcs hkl
    go_wp2
    exact bodyPost_ret (v := .tuple #[.agg (T6 (.slice e0 z0.length f0) (.slice e1 z1.length f1) l0 l1 (.slice e2 n0.length f2) (.slice e3 n1.length f3)), .bool false]) (results_T rfl _ _ _ _ _ _ _ _ _ _ rfl rfl (HF.out _ rfl).1) rfl ((fun a => ⟨fun h => absurd h (fun h => H2N.out (by have := h.2.2.1; rw [Int.toNat_natCast, HY.out] at this; exact this)), fun _ => a⟩) ⟨_, _, _, _, rfl, (HF.out _ rfl).2⟩)
  subst h2
  have h2' : ((2 : Int) != 2) = false := by simp
  have H2 : Hid True := trivial
  go_wp2_with (fail)
  refine (send1_c g _ _ l0 l1 k0 k1 n1 4 (m : Int) w2 HLV.out.blk HLV.out.ch1 HT.out.2.2.2.2.2.1).mono ?_
  rintro e w3 ⟨hA, hBd⟩
  have hsz3 := HZ1.out
  by_cases hroom : n1.length < 60
  case neg =>
    obtain ⟨rfl, b3⟩ := hBd (by have := HT.out.2.2.2.2.2.1; omega)
    have HRM : Hid (¬ n1.length < 60) := hroom
    have HB3 : Hid (Below w.heap.size w w3) := belowCall HB2.out b3 HB2.out.size
    have KP3 : Hid (Blk w3 w.heap.size (T6 (.slice a0 z0.length p0) (.slice a1 z1.length p1) l0 l1 (.slice a2 n0.length p2) (.slice a3 n1.length p3)) 33) := KP2.out.below b3 KP2.out.lt
    have KR3 : Hid (Blk w3 (w.heap.size + 1) (T6 (.slice none 0 0) (.slice none 0 0) 0 0 (.slice none 0 0) (.slice none 0 0)) 33) := KR2.out.below b3 KR2.out.lt
    clear hA hBd b3 hroom x0 x1 x2 x3 x4 x5 xl cz cf gc
    have x0 := KP3.out.cell 0
    have x1 := KP3.out.cell 1
    have x2 := KP3.out.cell 2
    have x3 := KP3.out.cell 3
    have x4 := KP3.out.cell 4
    have x5 := KP3.out.cell 5
    have xl := KP3.out.lt
    simp at x0 x1 x2 x3 x4 x5
    go_wp2_with (fail)
    refine (copyI_c _ _ _ _ l0 l1 z0 z1 n0 n1 w3 (HR.out.below HB3.out) HL.out).mono ?_
    rintro e u0 ⟨v0, v1, v2, v3, rfl, oo, bb⟩
    obtain ⟨e0, f0, hf0, -⟩ := own_form oo.o0
    obtain ⟨e1, f1, hf1, -⟩ := own_form oo.o1
    obtain ⟨e2, f2, hf2, -⟩ := own_form oo.o2
    obtain ⟨e3, f3, hf3, -⟩ := own_form oo.o3
    subst hf0 hf1 hf2 hf3
    have kr := KR3.out.below bb KR3.out.lt
    have hcs := HB3.out.size
    have hkl := KR3.out.lt
    have HF : Hid (∀ W', st6 u0 (w.heap.size + 1) (.slice e0 z0.length f0) (.slice e1 z1.length f1) l0 l1 (.slice e2 n0.length f2) (.slice e3 n1.length f3) = W' →
        Blk W' (w.heap.size + 1) (T6 (.slice e0 z0.length f0) (.slice e1 z1.length f1) l0 l1 (.slice e2 n0.length f2) (.slice e3 n1.length f3)) 33 ∧ Ok6 w.heap.size W'.heap.size W' (.slice e0 z0.length f0) (.slice e1 z1.length f1) (.slice e2 n0.length f2) (.slice e3 n1.length f3) z0 z1 n0 n1 ∧ Below w.heap.size w W') := by
      intro W' hW'
      have hfr := fr_put6 u0 (w.heap.size + 1) (.slice e0 z0.length f0) (.slice e1 z1.length f1) l0 l1 (.slice e2 n0.length f2) (.slice e3 n1.length f3)
      rw [hW'] at hfr
      refine ⟨by rw [← hW']; exact put6 kr _ _ _ _ _ _, (oo.fr hfr (fun k hk e => by have := oo.ge k hk; omega)).mono (by omega) hfr.size, (belowCall HB3.out bb hcs).trans (hfr.below (by have := bb.size; omega) (fun k e => by omega))⟩
    have y0 := kr.cell 0
    have yf0 := kr.frozen 0
    have y1 := kr.cell 1
    have yf1 := kr.frozen 1
    have y2 := kr.cell 2
    have yf2 := kr.frozen 2
    have y3 := kr.cell 3
    have yf3 := kr.frozen 3
    have y4 := kr.cell 4
    have yf4 := kr.frozen 4
    have y5 := kr.cell 5
    have yf5 := kr.frozen 5
    have yl := kr.lt
    simp at y0 y1 y2 y3 y4 y5
    clear kr oo bb hcs hkl
    go_wp2
    exact bodyPost_ret (v := .tuple #[.agg (T6 (.slice e0 z0.length f0) (.slice e1 z1.length f1) l0 l1 (.slice e2 n0.length f2) (.slice e3 n1.length f3)), .bool false]) (results_T rfl _ _ _ _ _ _ _ _ _ _ rfl rfl (HF.out _ rfl).1) rfl ((fun a => ⟨fun h => absurd h (fun h => HRM.out h.2.2.2), fun _ => a⟩) ⟨_, _, _, _, rfl, (HF.out _ rfl).2⟩)
  obtain ⟨rfl, c3, f3⟩ := hA hroom
  have HRM : Hid (n1.length < 60) := hroom
  have hlv := HLV.out
  have hk3 : w1.heap.size ≤ k1 := hlv.bk1
  have kp3 := KP2.out.fr f3 (by omega)
  have kr3 := KR2.out.fr f3 (by omega)
  have kg3 := hlv.blk.fr f3 hlv.gk1
  have oj3 : Ow .i64 3 w1.heap.size w3 (.slice (some ⟨br, 0, none⟩) z0.length cr) z0 := ownsRow_fr hlv.o0 f3 (fun k e h => (hlv.d0 k e).2.2 h)
  have hd := hlv.d0 br rfl
  obtain ⟨w4, hw4⟩ : ∃ W, w3.setCell ⟨br, m, none⟩ (.int .i64 4) = W := ⟨_, rfl⟩
  have f4 : Fr (fun k => k = br) w3 w4 := by rw [← hw4]; exact Fr.ofGrown (grown_set _ _ _ _) (fun k e => (Option.some.inj e).symm)
  have kg4 := kg3.fr f4 (fun h => hd.1 h.symm)
  have KP4 : Hid (Blk w4 w.heap.size (T6 (.slice a0 z0.length p0) (.slice a1 z1.length p1) l0 l1 (.slice a2 n0.length p2) (.slice a3 n1.length p3)) 33) := kp3.fr f4 (by omega)
  have KR4 : Hid (Blk w4 (w.heap.size + 1) (T6 (.slice none 0 0) (.slice none 0 0) 0 0 (.slice none 0 0) (.slice none 0 0)) 33) := kr3.fr f4 (by omega)
  have HB4 : Hid (Below w.heap.size w w4) := (HB2.out.trans (f3.below (by omega) (fun k e => by omega))).trans (f4.below (by have := f3.size; omega) (fun k e => by omega))
  have hap : ∀ k, (Value.slice eo z1.length fo).ownBlock = some k → ¬ k = br := fun k e h => by subst h; exact hlv.ap _ rfl e
  have hbk : ¬ k1 = br := fun h => hd.2.2 h.symm
  have hbk2 : ¬ k0 = br := fun h => hd.2.1 h.symm
  have hkk : ¬ k0 = k1 := hlv.kk
  have LV4 : Hid (Lv w1.heap.size w4 g (.slice (some ⟨br, 0, none⟩) z0.length cr) (.slice eo z1.length fo) l0 l1 k0 k1 (z0.set m 4) z1 n0 (n1 ++ [(4, (m : Int))])) := ⟨kg4, by rw [← hw4]; exact Ow.setAt rfl (ownsRow_fr hlv.o0 f3 (fun k e h => (hlv.d0 k e).2.2 h)) m 4, ownsRow_fr (ownsRow_fr hlv.o1 f3 (fun k e h => (hlv.d1 k e).2.2 h)) f4 (fun k e h => hap k e h), (hlv.ch0.fr f3 (fun h => hkk h)).fr f4 (fun h => hbk2 h), c3.fr f4 (fun h => hbk h), hlv.bg, hlv.bk0, hlv.bk1, hlv.gk0, hlv.gk1, hlv.kk, hlv.d0, hlv.d1, hlv.ap⟩
  have HZ4 : Hid (w1.heap.size ≤ w4.heap.size) := by have := f3.size; have := f4.size; show _ ≤ _; omega
  have gc3 := kg3.cell 0
  simp at gc3
  obtain ⟨cz3, cf3⟩ := Ow.cellFz rfl oj3 m hm
  have ml := f3.size
  clear hA hBd c3 f3 hlv kp3 kr3 kg3 oj3 hd f4 kg4 hap hbk hbk2 hkk hroom gc cz cf x0 x1 x2 x3 x4 x5 xl
  go_wp2_with (fail)
  clear hw4 gc3 cz3 cf3
  refine (as_c w1.heap.size g _ _ l0 l1 k0 k1 (z0.set m 4) z1 n0 (n1 ++ [(4, (m : Int))]) w4 LV4.out HZ4.out (by have h1 := HRM.out; have h2 := HT.out.2.2.1.2.2.1; have h3 := HT.out.2.2.2.2.2.1; first | (simp; omega) | omega) (by have h1 := HRM.out; have h2 := HT.out.2.2.1.2.2.1; have h3 := HT.out.2.2.2.2.2.1; first | (simp; omega) | omega)).mono ?_
  rintro e u0 ⟨v0, v1, v2, v3, rfl, oo, bb⟩
  obtain ⟨e0, f0, hf0, -⟩ := own_form oo.o0
  obtain ⟨e1, f1, hf1, -⟩ := own_form oo.o1
  obtain ⟨e2, f2, hf2, -⟩ := own_form oo.o2
  obtain ⟨e3, f3, hf3, -⟩ := own_form oo.o3
  obtain ⟨q0, hq0⟩ : ∃ q, (z0.set m 4).length = q := ⟨_, rfl⟩
  obtain ⟨q1, hq1⟩ : ∃ q, z1.length = q := ⟨_, rfl⟩
  obtain ⟨q2, hq2⟩ : ∃ q, n0.length = q := ⟨_, rfl⟩
  obtain ⟨q3, hq3⟩ : ∃ q, (n1 ++ [(4, (m : Int))]).length = q := ⟨_, rfl⟩
  rw [hq0] at hf0
  rw [hq1] at hf1
  rw [hq2] at hf2
  rw [hq3] at hf3
  subst hf0 hf1 hf2 hf3
  have hcs := HB4.out.size
  have hkl := KR4.out.lt
  have hz1 := HZ1.out
  have kr := KR4.out.below bb (by omega)
  have HF : Hid (∀ W', st6 u0 (w.heap.size + 1) (.slice e0 q0 f0) (.slice e1 q1 f1) l0 l1 (.slice e2 q2 f2) (.slice e3 q3 f3) = W' →
      Blk W' (w.heap.size + 1) (T6 (.slice e0 q0 f0) (.slice e1 q1 f1) l0 l1 (.slice e2 q2 f2) (.slice e3 q3 f3)) 33 ∧ Ok6 w.heap.size W'.heap.size W' (.slice e0 q0 f0) (.slice e1 q1 f1) (.slice e2 q2 f2) (.slice e3 q3 f3) (z0.set m 4) z1 n0 (n1 ++ [(4, (m : Int))]) ∧ Below w.heap.size w W') := by
    intro W' hW'
    have hfr := fr_put6 u0 (w.heap.size + 1) (.slice e0 q0 f0) (.slice e1 q1 f1) l0 l1 (.slice e2 q2 f2) (.slice e3 q3 f3)
    rw [hW'] at hfr
    refine ⟨by rw [← hW']; exact put6 kr _ _ _ _ _ _, (oo.fr hfr (fun k hk e => by have := oo.ge k hk; omega)).mono (by omega) hfr.size, (HB4.out.trans (bb.mono (by omega))).trans (hfr.below (by have := bb.size; omega) (fun k e => by omega))⟩
  clear hq0 hq1 hq2 hq3
  have y0 := kr.cell 0
  have yf0 := kr.frozen 0
  have y1 := kr.cell 1
  have yf1 := kr.frozen 1
  have y2 := kr.cell 2
  have yf2 := kr.frozen 2
  have y3 := kr.cell 3
  have yf3 := kr.frozen 3
  have y4 := kr.cell 4
  have yf4 := kr.frozen 4
  have y5 := kr.cell 5
  have yf5 := kr.frozen 5
  have yl := kr.lt
  simp at y0 y1 y2 y3 y4 y5
  clear kr oo bb hcs hkl hz1
  go_wp2
  exact bodyPost_ret (v := .tuple #[.agg (T6 (.slice e0 q0 f0) (.slice e1 q1 f1) l0 l1 (.slice e2 q2 f2) (.slice e3 q3 f3)), .bool true]) (results_T rfl _ _ _ _ _ _ _ _ _ _ rfl rfl (HF.out _ rfl).1) rfl ⟨fun _ => ⟨_, _, _, _, rfl, (by rw [Int.toNat_natCast]; exact (HF.out _ rfl).2.1), (HF.out _ rfl).2.2⟩, fun h => absurd ⟨HT.out, HC.out, by rw [Int.toNat_natCast]; exact HY.out, HRM.out⟩ h⟩
set_option maxHeartbeats 12800000 in
theorem leaveI1_c (c0 c1 w0 w1 : Value) (l0 l1 : Int) (z0 z1 : List Int) (n0 n1 : Mvs) (c : Int) (w : World) (h : Rk w c0 c1 w0 w1 z0 z1 n0 n1) (hl : (z0.length : Int) + z1.length + (n0.length + n1.length) ≤ 1048576) :
    Calls Try.prog 16 #[.agg (T6 c0 c1 l0 l1 w0 w1), .int .i64 1, .int .i64 c] w (LvR1 c z0 z1 l0 l1 n0 n1 w) := by
  obtain ⟨W0, hW0⟩ : ∃ W0, (w.alloc (Obj.cells (T6 c0 c1 l0 l1 w0 w1) 33)).alloc (Obj.cells (T6 (.slice none 0 0) (.slice none 0 0) 0 0 (.slice none 0 0) (.slice none 0 0)) 33) = W0 := ⟨_, rfl⟩
  have HB0 : Hid (Below w.heap.size w W0) := by rw [← hW0]; exact ((Below.refl _ _).alloc (Nat.le_refl _) _).alloc (by simp) _
  have KP0 : Hid (Blk W0 w.heap.size (T6 c0 c1 l0 l1 w0 w1) 33) := by rw [← hW0]; exact (Blk.new _ _ _).alloc _
  have KR0 : Hid (Blk W0 (w.heap.size + 1) (T6 (.slice none 0 0) (.slice none 0 0) 0 0 (.slice none 0 0) (.slice none 0 0)) 33) := by rw [← hW0]; exact Blk.newAt _ (w.heap.size + 1) _ 33 (by simp)
  have HR : Hid (Rk w c0 c1 w0 w1 z0 z1 n0 n1) := h
  have HL : Hid ((z0.length : Int) + z1.length + (n0.length + n1.length) ≤ 1048576) := hl
  obtain ⟨a0, p0, hv0, -⟩ := h.r0
  obtain ⟨a1, p1, hv1, -⟩ := h.r1
  obtain ⟨a2, p2, hv2, -⟩ := h.r2
  obtain ⟨a3, p3, hv3, -⟩ := h.r3
  subst hv0 hv1 hv2 hv3
  clear h hl
  have x0 := KP0.out.cell 0
  have x1 := KP0.out.cell 1
  have x2 := KP0.out.cell 2
  have x3 := KP0.out.cell 3
  have x4 := KP0.out.cell 4
  have x5 := KP0.out.cell 5
  have xl := KP0.out.lt
  simp at x0 x1 x2 x3 x4 x5
  go_enter Try.func16, Try.ntmps16
  go_wp2_with (fail)
  clear hW0
  refine (okI_c _ _ _ _ l0 l1 z0 z1 n0 n1 W0 (HR.out.below HB0.out)).mono ?_
  rintro e w1 ⟨q, rfl, hq, b1⟩
  have HB1 : Hid (Below w.heap.size w w1) := belowCall HB0.out b1 HB0.out.size
  have KP1 : Hid (Blk w1 w.heap.size (T6 (.slice a0 z0.length p0) (.slice a1 z1.length p1) l0 l1 (.slice a2 n0.length p2) (.slice a3 n1.length p3)) 33) := KP0.out.below b1 KP0.out.lt
  have KR1 : Hid (Blk w1 (w.heap.size + 1) (T6 (.slice none 0 0) (.slice none 0 0) 0 0 (.slice none 0 0) (.slice none 0 0)) 33) := KR0.out.below b1 KR0.out.lt
  clear b1 HB0 KP0 KR0 x0 x1 x2 x3 x4 x5 xl
  have x0 := KP1.out.cell 0
  have x1 := KP1.out.cell 1
  have x2 := KP1.out.cell 2
  have x3 := KP1.out.cell 3
  have x4 := KP1.out.cell 4
  have x5 := KP1.out.cell 5
  have xl := KP1.out.lt
  simp at x0 x1 x2 x3 x4 x5
  by_cases hT : TOk z0 z1 l0 l1 n0 n1
  case neg =>
    obtain rfl : q = false := by cases q with | false => rfl | true => exact absurd (hq.1 rfl) hT
    have HT : Hid (¬ TOk z0 z1 l0 l1 n0 n1) := hT
    clear hq hT
    go_wp2_with (fail)
    refine (copyI_c _ _ _ _ l0 l1 z0 z1 n0 n1 w1 (HR.out.below HB1.out) HL.out).mono ?_
    rintro e u0 ⟨v0, v1, v2, v3, rfl, oo, bb⟩
    obtain ⟨e0, f0, hf0, -⟩ := own_form oo.o0
    obtain ⟨e1, f1, hf1, -⟩ := own_form oo.o1
    obtain ⟨e2, f2, hf2, -⟩ := own_form oo.o2
    obtain ⟨e3, f3, hf3, -⟩ := own_form oo.o3
    subst hf0 hf1 hf2 hf3
    have kr := KR1.out.below bb KR1.out.lt
    have hcs := HB1.out.size
    have hkl := KR1.out.lt
    have HF : Hid (∀ W', st6 u0 (w.heap.size + 1) (.slice e0 z0.length f0) (.slice e1 z1.length f1) l0 l1 (.slice e2 n0.length f2) (.slice e3 n1.length f3) = W' →
        Blk W' (w.heap.size + 1) (T6 (.slice e0 z0.length f0) (.slice e1 z1.length f1) l0 l1 (.slice e2 n0.length f2) (.slice e3 n1.length f3)) 33 ∧ Ok6 w.heap.size W'.heap.size W' (.slice e0 z0.length f0) (.slice e1 z1.length f1) (.slice e2 n0.length f2) (.slice e3 n1.length f3) z0 z1 n0 n1 ∧ Below w.heap.size w W') := by
      intro W' hW'
      have hfr := fr_put6 u0 (w.heap.size + 1) (.slice e0 z0.length f0) (.slice e1 z1.length f1) l0 l1 (.slice e2 n0.length f2) (.slice e3 n1.length f3)
      rw [hW'] at hfr
      refine ⟨by rw [← hW']; exact put6 kr _ _ _ _ _ _, (oo.fr hfr (fun k hk e => by have := oo.ge k hk; omega)).mono (by omega) hfr.size, (belowCall HB1.out bb hcs).trans (hfr.below (by have := bb.size; omega) (fun k e => by omega))⟩
    have y0 := kr.cell 0
    have yf0 := kr.frozen 0
    have y1 := kr.cell 1
    have yf1 := kr.frozen 1
    have y2 := kr.cell 2
    have yf2 := kr.frozen 2
    have y3 := kr.cell 3
    have yf3 := kr.frozen 3
    have y4 := kr.cell 4
    have yf4 := kr.frozen 4
    have y5 := kr.cell 5
    have yf5 := kr.frozen 5
    have yl := kr.lt
    simp at y0 y1 y2 y3 y4 y5
    clear kr oo bb hcs hkl
    go_wp2
    exact bodyPost_ret (v := .tuple #[.agg (T6 (.slice e0 z0.length f0) (.slice e1 z1.length f1) l0 l1 (.slice e2 n0.length f2) (.slice e3 n1.length f3)), .bool false]) (results_T rfl _ _ _ _ _ _ _ _ _ _ rfl rfl (HF.out _ rfl).1) rfl ((fun a => ⟨fun h => absurd h (fun h => HT.out h.1), fun _ => a⟩) ⟨_, _, _, _, rfl, (HF.out _ rfl).2⟩)
  obtain rfl : q = true := hq.2 hT
  have HT : Hid (TOk z0 z1 l0 l1 n0 n1) := hT
  clear hq hT
  go_wp2_with (fail)
  refine (side_c 1 w1).mono ?_
  rintro e wq ⟨rfl, hwq⟩
  rw [hwq, decide_eq_true (by simp)]
  clear hwq wq
  go_wp2_with (fail)
  refine (circ_c c (z1.length : Int) w1).mono ?_
  rintro e wq ⟨rfl, hwq⟩
  rw [hwq]
  clear hwq wq
  have HZL : Hid (z1.length = z0.length) := HT.out.2.1
  by_cases hC : 0 ≤ c ∧ c < (z1.length : Int)
  case neg =>
    rw [decide_eq_false hC]
    have HC : Hid (¬ (0 ≤ c ∧ c < (z0.length : Int))) := fun h => hC (by have := HZL.out; omega)
    clear hC
    go_wp2_with (fail)
    refine (copyI_c _ _ _ _ l0 l1 z0 z1 n0 n1 w1 (HR.out.below HB1.out) HL.out).mono ?_
    rintro e u0 ⟨v0, v1, v2, v3, rfl, oo, bb⟩
    obtain ⟨e0, f0, hf0, -⟩ := own_form oo.o0
    obtain ⟨e1, f1, hf1, -⟩ := own_form oo.o1
    obtain ⟨e2, f2, hf2, -⟩ := own_form oo.o2
    obtain ⟨e3, f3, hf3, -⟩ := own_form oo.o3
    subst hf0 hf1 hf2 hf3
    have kr := KR1.out.below bb KR1.out.lt
    have hcs := HB1.out.size
    have hkl := KR1.out.lt
    have HF : Hid (∀ W', st6 u0 (w.heap.size + 1) (.slice e0 z0.length f0) (.slice e1 z1.length f1) l0 l1 (.slice e2 n0.length f2) (.slice e3 n1.length f3) = W' →
        Blk W' (w.heap.size + 1) (T6 (.slice e0 z0.length f0) (.slice e1 z1.length f1) l0 l1 (.slice e2 n0.length f2) (.slice e3 n1.length f3)) 33 ∧ Ok6 w.heap.size W'.heap.size W' (.slice e0 z0.length f0) (.slice e1 z1.length f1) (.slice e2 n0.length f2) (.slice e3 n1.length f3) z0 z1 n0 n1 ∧ Below w.heap.size w W') := by
      intro W' hW'
      have hfr := fr_put6 u0 (w.heap.size + 1) (.slice e0 z0.length f0) (.slice e1 z1.length f1) l0 l1 (.slice e2 n0.length f2) (.slice e3 n1.length f3)
      rw [hW'] at hfr
      refine ⟨by rw [← hW']; exact put6 kr _ _ _ _ _ _, (oo.fr hfr (fun k hk e => by have := oo.ge k hk; omega)).mono (by omega) hfr.size, (belowCall HB1.out bb hcs).trans (hfr.below (by have := bb.size; omega) (fun k e => by omega))⟩
    have y0 := kr.cell 0
    have yf0 := kr.frozen 0
    have y1 := kr.cell 1
    have yf1 := kr.frozen 1
    have y2 := kr.cell 2
    have yf2 := kr.frozen 2
    have y3 := kr.cell 3
    have yf3 := kr.frozen 3
    have y4 := kr.cell 4
    have yf4 := kr.frozen 4
    have y5 := kr.cell 5
    have yf5 := kr.frozen 5
    have yl := kr.lt
    simp at y0 y1 y2 y3 y4 y5
    clear kr oo bb hcs hkl
    go_wp2
    exact bodyPost_ret (v := .tuple #[.agg (T6 (.slice e0 z0.length f0) (.slice e1 z1.length f1) l0 l1 (.slice e2 n0.length f2) (.slice e3 n1.length f3)), .bool false]) (results_T rfl _ _ _ _ _ _ _ _ _ _ rfl rfl (HF.out _ rfl).1) rfl ((fun a => ⟨fun h => absurd h (fun h => HC.out h.2.1), fun _ => a⟩) ⟨_, _, _, _, rfl, (HF.out _ rfl).2⟩)
  rw [decide_eq_true hC]
  obtain ⟨m, rfl⟩ : ∃ m : Nat, c = m := ⟨c.toNat, by omega⟩
  have hm : m < z1.length := by omega
  have HC : Hid (0 ≤ (m : Int) ∧ (m : Int) < (z0.length : Int)) := by have := HZL.out; show _ ∧ _; omega
  clear hC
  go_wp2_with (fail)
  refine (open_c _ _ _ _ l0 l1 z0 z1 n0 n1 w1 (HR.out.below HB1.out) (by have := HT.out.1; omega) (by have := HT.out.1; have := HT.out.2.1; omega) HT.out.2.2.1.2.2.1 HT.out.2.2.2.2.2.1).mono ?_
  rintro e w2 ⟨g, cc0, cc1, k0, k1, rfl, lv, b2⟩
  have hzp : 0 < z1.length := by have := HT.out.1; have := HT.out.2.1; omega
  obtain ⟨br, cr, hcr, hbr1, hbr2⟩ := Ow.row lv.o1 hzp
  obtain ⟨eo, fo, hco, -⟩ := own_form lv.o0
  subst hcr hco
  have HLV : Hid (Lv w1.heap.size w2 g (.slice eo z0.length fo) (.slice (some ⟨br, 0, none⟩) z1.length cr) l0 l1 k0 k1 z0 z1 n0 n1) := lv
  have HB2 : Hid (Below w.heap.size w w2) := belowCall HB1.out b2 HB1.out.size
  have KP2 : Hid (Blk w2 w.heap.size (T6 (.slice a0 z0.length p0) (.slice a1 z1.length p1) l0 l1 (.slice a2 n0.length p2) (.slice a3 n1.length p3)) 33) := KP1.out.below b2 KP1.out.lt
  have KR2 : Hid (Blk w2 (w.heap.size + 1) (T6 (.slice none 0 0) (.slice none 0 0) 0 0 (.slice none 0 0) (.slice none 0 0)) 33) := KR1.out.below b2 KR1.out.lt
  have HZ1 : Hid (w.heap.size + 1 < w1.heap.size ∧ w1.heap.size ≤ w2.heap.size) := ⟨KR1.out.lt, b2.size⟩
  have gc := lv.blk.cell 1
  simp at gc
  clear b2 KP1 KR1 HB1 x0 x1 x2 x3 x4 x5 xl hzp
  obtain ⟨cz, cf⟩ := Ow.cellFz rfl lv.o1 m hm
  obtain ⟨y, hy⟩ : ∃ y, z1.getD m 0 = y := ⟨_, rfl⟩
  rw [hy] at cz
  have HY : Hid (z1.getD m 0 = y) := hy
  have hmi : (m : Int) < (z1.length : Int) := by omega
  have hm0 : (0 : Int) ≤ (m : Int) := by omega
  clear lv hy
  have x0 := KP2.out.cell 0
  have x1 := KP2.out.cell 1
  have x2 := KP2.out.cell 2
  have x3 := KP2.out.cell 3
  have x4 := KP2.out.cell 4
  have x5 := KP2.out.cell 5
  have xl := KP2.out.lt
  simp at x0 x1 x2 x3 x4 x5
  by_cases h2 : y = 2
  case neg =>
    have h2' : (y != 2) = true := by simpa using h2
    have H2N : Hid (¬ y = 2) := h2
    clear h2
    go_wp2_with (fail)
    refine (copyI_c _ _ _ _ l0 l1 z0 z1 n0 n1 w2 (HR.out.below HB2.out) HL.out).mono ?_
    rintro e u0 ⟨v0, v1, v2, v3, rfl, oo, bb⟩
    obtain ⟨e0, f0, hf0, -⟩ := own_form oo.o0
    obtain ⟨e1, f1, hf1, -⟩ := own_form oo.o1
    obtain ⟨e2, f2, hf2, -⟩ := own_form oo.o2
    obtain ⟨e3, f3, hf3, -⟩ := own_form oo.o3
    subst hf0 hf1 hf2 hf3
    have kr := KR2.out.below bb KR2.out.lt
    have hcs := HB2.out.size
    have hkl := KR2.out.lt
    have HF : Hid (∀ W', st6 u0 (w.heap.size + 1) (.slice e0 z0.length f0) (.slice e1 z1.length f1) l0 l1 (.slice e2 n0.length f2) (.slice e3 n1.length f3) = W' →
        Blk W' (w.heap.size + 1) (T6 (.slice e0 z0.length f0) (.slice e1 z1.length f1) l0 l1 (.slice e2 n0.length f2) (.slice e3 n1.length f3)) 33 ∧ Ok6 w.heap.size W'.heap.size W' (.slice e0 z0.length f0) (.slice e1 z1.length f1) (.slice e2 n0.length f2) (.slice e3 n1.length f3) z0 z1 n0 n1 ∧ Below w.heap.size w W') := by
      intro W' hW'
      have hfr := fr_put6 u0 (w.heap.size + 1) (.slice e0 z0.length f0) (.slice e1 z1.length f1) l0 l1 (.slice e2 n0.length f2) (.slice e3 n1.length f3)
      rw [hW'] at hfr
      refine ⟨by rw [← hW']; exact put6 kr _ _ _ _ _ _, (oo.fr hfr (fun k hk e => by have := oo.ge k hk; omega)).mono (by omega) hfr.size, (belowCall HB2.out bb hcs).trans (hfr.below (by have := bb.size; omega) (fun k e => by omega))⟩
    have y0 := kr.cell 0
    have yf0 := kr.frozen 0
    have y1 := kr.cell 1
    have yf1 := kr.frozen 1
    have y2 := kr.cell 2
    have yf2 := kr.frozen 2
    have y3 := kr.cell 3
    have yf3 := kr.frozen 3
    have y4 := kr.cell 4
    have yf4 := kr.frozen 4
    have y5 := kr.cell 5
    have yf5 := kr.frozen 5
    have yl := kr.lt
    simp at y0 y1 y2 y3 y4 y5
    clear kr oo bb hcs hkl
    go_wp2
    exact bodyPost_ret (v := .tuple #[.agg (T6 (.slice e0 z0.length f0) (.slice e1 z1.length f1) l0 l1 (.slice e2 n0.length f2) (.slice e3 n1.length f3)), .bool false]) (results_T rfl _ _ _ _ _ _ _ _ _ _ rfl rfl (HF.out _ rfl).1) rfl ((fun a => ⟨fun h => absurd h (fun h => H2N.out (by have := h.2.2.1; rw [Int.toNat_natCast, HY.out] at this; exact this)), fun _ => a⟩) ⟨_, _, _, _, rfl, (HF.out _ rfl).2⟩)
  subst h2
  have h2' : ((2 : Int) != 2) = false := by simp
  have H2 : Hid True := trivial
  go_wp2_with (fail)
  refine (send0_c g _ _ l0 l1 k0 k1 n0 4 (m : Int) w2 HLV.out.blk HLV.out.ch0 HT.out.2.2.1.2.2.1).mono ?_
  rintro e w3 ⟨hA, hBd⟩
  have hsz3 := HZ1.out
  by_cases hroom : n0.length < 60
  case neg =>
    obtain ⟨rfl, b3⟩ := hBd (by have := HT.out.2.2.1.2.2.1; omega)
    have HRM : Hid (¬ n0.length < 60) := hroom
    have HB3 : Hid (Below w.heap.size w w3) := belowCall HB2.out b3 HB2.out.size
    have KP3 : Hid (Blk w3 w.heap.size (T6 (.slice a0 z0.length p0) (.slice a1 z1.length p1) l0 l1 (.slice a2 n0.length p2) (.slice a3 n1.length p3)) 33) := KP2.out.below b3 KP2.out.lt
    have KR3 : Hid (Blk w3 (w.heap.size + 1) (T6 (.slice none 0 0) (.slice none 0 0) 0 0 (.slice none 0 0) (.slice none 0 0)) 33) := KR2.out.below b3 KR2.out.lt
    clear hA hBd b3 hroom x0 x1 x2 x3 x4 x5 xl cz cf gc
    have x0 := KP3.out.cell 0
    have x1 := KP3.out.cell 1
    have x2 := KP3.out.cell 2
    have x3 := KP3.out.cell 3
    have x4 := KP3.out.cell 4
    have x5 := KP3.out.cell 5
    have xl := KP3.out.lt
    simp at x0 x1 x2 x3 x4 x5
    go_wp2_with (fail)
    refine (copyI_c _ _ _ _ l0 l1 z0 z1 n0 n1 w3 (HR.out.below HB3.out) HL.out).mono ?_
    rintro e u0 ⟨v0, v1, v2, v3, rfl, oo, bb⟩
    obtain ⟨e0, f0, hf0, -⟩ := own_form oo.o0
    obtain ⟨e1, f1, hf1, -⟩ := own_form oo.o1
    obtain ⟨e2, f2, hf2, -⟩ := own_form oo.o2
    obtain ⟨e3, f3, hf3, -⟩ := own_form oo.o3
    subst hf0 hf1 hf2 hf3
    have kr := KR3.out.below bb KR3.out.lt
    have hcs := HB3.out.size
    have hkl := KR3.out.lt
    have HF : Hid (∀ W', st6 u0 (w.heap.size + 1) (.slice e0 z0.length f0) (.slice e1 z1.length f1) l0 l1 (.slice e2 n0.length f2) (.slice e3 n1.length f3) = W' →
        Blk W' (w.heap.size + 1) (T6 (.slice e0 z0.length f0) (.slice e1 z1.length f1) l0 l1 (.slice e2 n0.length f2) (.slice e3 n1.length f3)) 33 ∧ Ok6 w.heap.size W'.heap.size W' (.slice e0 z0.length f0) (.slice e1 z1.length f1) (.slice e2 n0.length f2) (.slice e3 n1.length f3) z0 z1 n0 n1 ∧ Below w.heap.size w W') := by
      intro W' hW'
      have hfr := fr_put6 u0 (w.heap.size + 1) (.slice e0 z0.length f0) (.slice e1 z1.length f1) l0 l1 (.slice e2 n0.length f2) (.slice e3 n1.length f3)
      rw [hW'] at hfr
      refine ⟨by rw [← hW']; exact put6 kr _ _ _ _ _ _, (oo.fr hfr (fun k hk e => by have := oo.ge k hk; omega)).mono (by omega) hfr.size, (belowCall HB3.out bb hcs).trans (hfr.below (by have := bb.size; omega) (fun k e => by omega))⟩
    have y0 := kr.cell 0
    have yf0 := kr.frozen 0
    have y1 := kr.cell 1
    have yf1 := kr.frozen 1
    have y2 := kr.cell 2
    have yf2 := kr.frozen 2
    have y3 := kr.cell 3
    have yf3 := kr.frozen 3
    have y4 := kr.cell 4
    have yf4 := kr.frozen 4
    have y5 := kr.cell 5
    have yf5 := kr.frozen 5
    have yl := kr.lt
    simp at y0 y1 y2 y3 y4 y5
    clear kr oo bb hcs hkl
    go_wp2
    exact bodyPost_ret (v := .tuple #[.agg (T6 (.slice e0 z0.length f0) (.slice e1 z1.length f1) l0 l1 (.slice e2 n0.length f2) (.slice e3 n1.length f3)), .bool false]) (results_T rfl _ _ _ _ _ _ _ _ _ _ rfl rfl (HF.out _ rfl).1) rfl ((fun a => ⟨fun h => absurd h (fun h => HRM.out h.2.2.2), fun _ => a⟩) ⟨_, _, _, _, rfl, (HF.out _ rfl).2⟩)
  obtain ⟨rfl, c3, f3⟩ := hA hroom
  have HRM : Hid (n0.length < 60) := hroom
  have hlv := HLV.out
  have hk3 : w1.heap.size ≤ k0 := hlv.bk0
  have kp3 := KP2.out.fr f3 (by omega)
  have kr3 := KR2.out.fr f3 (by omega)
  have kg3 := hlv.blk.fr f3 hlv.gk0
  have oj3 : Ow .i64 3 w1.heap.size w3 (.slice (some ⟨br, 0, none⟩) z1.length cr) z1 := ownsRow_fr hlv.o1 f3 (fun k e h => (hlv.d1 k e).2.1 h)
  have hd := hlv.d1 br rfl
  obtain ⟨w4, hw4⟩ : ∃ W, w3.setCell ⟨br, m, none⟩ (.int .i64 4) = W := ⟨_, rfl⟩
  have f4 : Fr (fun k => k = br) w3 w4 := by rw [← hw4]; exact Fr.ofGrown (grown_set _ _ _ _) (fun k e => (Option.some.inj e).symm)
  have kg4 := kg3.fr f4 (fun h => hd.1 h.symm)
  have KP4 : Hid (Blk w4 w.heap.size (T6 (.slice a0 z0.length p0) (.slice a1 z1.length p1) l0 l1 (.slice a2 n0.length p2) (.slice a3 n1.length p3)) 33) := kp3.fr f4 (by omega)
  have KR4 : Hid (Blk w4 (w.heap.size + 1) (T6 (.slice none 0 0) (.slice none 0 0) 0 0 (.slice none 0 0) (.slice none 0 0)) 33) := kr3.fr f4 (by omega)
  have HB4 : Hid (Below w.heap.size w w4) := (HB2.out.trans (f3.below (by omega) (fun k e => by omega))).trans (f4.below (by have := f3.size; omega) (fun k e => by omega))
  have hap : ∀ k, (Value.slice eo z0.length fo).ownBlock = some k → ¬ k = br := fun k e h => by subst h; exact hlv.ap _ e rfl
  have hbk : ¬ k0 = br := fun h => hd.2.1 h.symm
  have hbk2 : ¬ k1 = br := fun h => hd.2.2 h.symm
  have hkk : ¬ k1 = k0 := fun h => hlv.kk h.symm
  have LV4 : Hid (Lv w1.heap.size w4 g (.slice eo z0.length fo) (.slice (some ⟨br, 0, none⟩) z1.length cr) l0 l1 k0 k1 z0 (z1.set m 4) (n0 ++ [(4, (m : Int))]) n1) := ⟨kg4, ownsRow_fr (ownsRow_fr hlv.o0 f3 (fun k e h => (hlv.d0 k e).2.1 h)) f4 (fun k e h => hap k e h), by rw [← hw4]; exact Ow.setAt rfl (ownsRow_fr hlv.o1 f3 (fun k e h => (hlv.d1 k e).2.1 h)) m 4, c3.fr f4 (fun h => hbk h), (hlv.ch1.fr f3 (fun h => hkk h)).fr f4 (fun h => hbk2 h), hlv.bg, hlv.bk0, hlv.bk1, hlv.gk0, hlv.gk1, hlv.kk, hlv.d0, hlv.d1, hlv.ap⟩
  have HZ4 : Hid (w1.heap.size ≤ w4.heap.size) := by have := f3.size; have := f4.size; show _ ≤ _; omega
  have gc3 := kg3.cell 1
  simp at gc3
  obtain ⟨cz3, cf3⟩ := Ow.cellFz rfl oj3 m hm
  have ml := f3.size
  clear hA hBd c3 f3 hlv kp3 kr3 kg3 oj3 hd f4 kg4 hap hbk hbk2 hkk hroom gc cz cf x0 x1 x2 x3 x4 x5 xl
  go_wp2_with (fail)
  clear hw4 gc3 cz3 cf3
  refine (as_c w1.heap.size g _ _ l0 l1 k0 k1 z0 (z1.set m 4) (n0 ++ [(4, (m : Int))]) n1 w4 LV4.out HZ4.out (by have h1 := HRM.out; have h2 := HT.out.2.2.1.2.2.1; have h3 := HT.out.2.2.2.2.2.1; first | (simp; omega) | omega) (by have h1 := HRM.out; have h2 := HT.out.2.2.1.2.2.1; have h3 := HT.out.2.2.2.2.2.1; first | (simp; omega) | omega)).mono ?_
  rintro e u0 ⟨v0, v1, v2, v3, rfl, oo, bb⟩
  obtain ⟨e0, f0, hf0, -⟩ := own_form oo.o0
  obtain ⟨e1, f1, hf1, -⟩ := own_form oo.o1
  obtain ⟨e2, f2, hf2, -⟩ := own_form oo.o2
  obtain ⟨e3, f3, hf3, -⟩ := own_form oo.o3
  obtain ⟨q0, hq0⟩ : ∃ q, z0.length = q := ⟨_, rfl⟩
  obtain ⟨q1, hq1⟩ : ∃ q, (z1.set m 4).length = q := ⟨_, rfl⟩
  obtain ⟨q2, hq2⟩ : ∃ q, (n0 ++ [(4, (m : Int))]).length = q := ⟨_, rfl⟩
  obtain ⟨q3, hq3⟩ : ∃ q, n1.length = q := ⟨_, rfl⟩
  rw [hq0] at hf0
  rw [hq1] at hf1
  rw [hq2] at hf2
  rw [hq3] at hf3
  subst hf0 hf1 hf2 hf3
  have hcs := HB4.out.size
  have hkl := KR4.out.lt
  have hz1 := HZ1.out
  have kr := KR4.out.below bb (by omega)
  have HF : Hid (∀ W', st6 u0 (w.heap.size + 1) (.slice e0 q0 f0) (.slice e1 q1 f1) l0 l1 (.slice e2 q2 f2) (.slice e3 q3 f3) = W' →
      Blk W' (w.heap.size + 1) (T6 (.slice e0 q0 f0) (.slice e1 q1 f1) l0 l1 (.slice e2 q2 f2) (.slice e3 q3 f3)) 33 ∧ Ok6 w.heap.size W'.heap.size W' (.slice e0 q0 f0) (.slice e1 q1 f1) (.slice e2 q2 f2) (.slice e3 q3 f3) z0 (z1.set m 4) (n0 ++ [(4, (m : Int))]) n1 ∧ Below w.heap.size w W') := by
    intro W' hW'
    have hfr := fr_put6 u0 (w.heap.size + 1) (.slice e0 q0 f0) (.slice e1 q1 f1) l0 l1 (.slice e2 q2 f2) (.slice e3 q3 f3)
    rw [hW'] at hfr
    refine ⟨by rw [← hW']; exact put6 kr _ _ _ _ _ _, (oo.fr hfr (fun k hk e => by have := oo.ge k hk; omega)).mono (by omega) hfr.size, (HB4.out.trans (bb.mono (by omega))).trans (hfr.below (by have := bb.size; omega) (fun k e => by omega))⟩
  clear hq0 hq1 hq2 hq3
  have y0 := kr.cell 0
  have yf0 := kr.frozen 0
  have y1 := kr.cell 1
  have yf1 := kr.frozen 1
  have y2 := kr.cell 2
  have yf2 := kr.frozen 2
  have y3 := kr.cell 3
  have yf3 := kr.frozen 3
  have y4 := kr.cell 4
  have yf4 := kr.frozen 4
  have y5 := kr.cell 5
  have yf5 := kr.frozen 5
  have yl := kr.lt
  simp at y0 y1 y2 y3 y4 y5
  clear kr oo bb hcs hkl hz1
  go_wp2
  exact bodyPost_ret (v := .tuple #[.agg (T6 (.slice e0 q0 f0) (.slice e1 q1 f1) l0 l1 (.slice e2 q2 f2) (.slice e3 q3 f3)), .bool true]) (results_T rfl _ _ _ _ _ _ _ _ _ _ rfl rfl (HF.out _ rfl).1) rfl ⟨fun _ => ⟨_, _, _, _, rfl, (by rw [Int.toNat_natCast]; exact (HF.out _ rfl).2.1), (HF.out _ rfl).2.2⟩, fun h => absurd ⟨HT.out, HC.out, by rw [Int.toNat_natCast]; exact HY.out, HRM.out⟩ h⟩
set_option maxHeartbeats 12800000 in
theorem leaveIx_c (c0 c1 w0 w1 : Value) (l0 l1 : Int) (z0 z1 : List Int) (n0 n1 : Mvs) (sd : Int) (c : Int) (hsd : ¬ (0 ≤ sd ∧ sd ≤ 1)) (w : World) (h : Rk w c0 c1 w0 w1 z0 z1 n0 n1) (hl : (z0.length : Int) + z1.length + (n0.length + n1.length) ≤ 1048576) :
    Calls Try.prog 16 #[.agg (T6 c0 c1 l0 l1 w0 w1), .int .i64 sd, .int .i64 c] w (TwS l0 l1 z0 z1 n0 n1 (.bool false) w) := by
  obtain ⟨W0, hW0⟩ : ∃ W0, (w.alloc (Obj.cells (T6 c0 c1 l0 l1 w0 w1) 33)).alloc (Obj.cells (T6 (.slice none 0 0) (.slice none 0 0) 0 0 (.slice none 0 0) (.slice none 0 0)) 33) = W0 := ⟨_, rfl⟩
  have HB0 : Hid (Below w.heap.size w W0) := by rw [← hW0]; exact ((Below.refl _ _).alloc (Nat.le_refl _) _).alloc (by simp) _
  have KP0 : Hid (Blk W0 w.heap.size (T6 c0 c1 l0 l1 w0 w1) 33) := by rw [← hW0]; exact (Blk.new _ _ _).alloc _
  have KR0 : Hid (Blk W0 (w.heap.size + 1) (T6 (.slice none 0 0) (.slice none 0 0) 0 0 (.slice none 0 0) (.slice none 0 0)) 33) := by rw [← hW0]; exact Blk.newAt _ (w.heap.size + 1) _ 33 (by simp)
  have HR : Hid (Rk w c0 c1 w0 w1 z0 z1 n0 n1) := h
  have HL : Hid ((z0.length : Int) + z1.length + (n0.length + n1.length) ≤ 1048576) := hl
  obtain ⟨a0, p0, hv0, -⟩ := h.r0
  obtain ⟨a1, p1, hv1, -⟩ := h.r1
  obtain ⟨a2, p2, hv2, -⟩ := h.r2
  obtain ⟨a3, p3, hv3, -⟩ := h.r3
  subst hv0 hv1 hv2 hv3
  clear h hl
  have HSD : Hid (¬ (sd = 0 ∨ sd = 1)) := fun e => hsd (by omega)
  clear hsd
  have x0 := KP0.out.cell 0
  have x1 := KP0.out.cell 1
  have x2 := KP0.out.cell 2
  have x3 := KP0.out.cell 3
  have x4 := KP0.out.cell 4
  have x5 := KP0.out.cell 5
  have xl := KP0.out.lt
  simp at x0 x1 x2 x3 x4 x5
  go_enter Try.func16, Try.ntmps16
  go_wp2_with (fail)
  clear hW0
  refine (okI_c _ _ _ _ l0 l1 z0 z1 n0 n1 W0 (HR.out.below HB0.out)).mono ?_
  rintro e w1 ⟨q, rfl, hq, b1⟩
  have HB1 : Hid (Below w.heap.size w w1) := belowCall HB0.out b1 HB0.out.size
  have KP1 : Hid (Blk w1 w.heap.size (T6 (.slice a0 z0.length p0) (.slice a1 z1.length p1) l0 l1 (.slice a2 n0.length p2) (.slice a3 n1.length p3)) 33) := KP0.out.below b1 KP0.out.lt
  have KR1 : Hid (Blk w1 (w.heap.size + 1) (T6 (.slice none 0 0) (.slice none 0 0) 0 0 (.slice none 0 0) (.slice none 0 0)) 33) := KR0.out.below b1 KR0.out.lt
  clear b1 HB0 KP0 KR0 x0 x1 x2 x3 x4 x5 xl
  have x0 := KP1.out.cell 0
  have x1 := KP1.out.cell 1
  have x2 := KP1.out.cell 2
  have x3 := KP1.out.cell 3
  have x4 := KP1.out.cell 4
  have x5 := KP1.out.cell 5
  have xl := KP1.out.lt
  simp at x0 x1 x2 x3 x4 x5
  by_cases hT : TOk z0 z1 l0 l1 n0 n1
  case neg =>
    obtain rfl : q = false := by cases q with | false => rfl | true => exact absurd (hq.1 rfl) hT
    have HT : Hid (¬ TOk z0 z1 l0 l1 n0 n1) := hT
    clear hq hT
    go_wp2_with (fail)
    refine (copyI_c _ _ _ _ l0 l1 z0 z1 n0 n1 w1 (HR.out.below HB1.out) HL.out).mono ?_
    rintro e u0 ⟨v0, v1, v2, v3, rfl, oo, bb⟩
    obtain ⟨e0, f0, hf0, -⟩ := own_form oo.o0
    obtain ⟨e1, f1, hf1, -⟩ := own_form oo.o1
    obtain ⟨e2, f2, hf2, -⟩ := own_form oo.o2
    obtain ⟨e3, f3, hf3, -⟩ := own_form oo.o3
    subst hf0 hf1 hf2 hf3
    have kr := KR1.out.below bb KR1.out.lt
    have hcs := HB1.out.size
    have hkl := KR1.out.lt
    have HF : Hid (∀ W', st6 u0 (w.heap.size + 1) (.slice e0 z0.length f0) (.slice e1 z1.length f1) l0 l1 (.slice e2 n0.length f2) (.slice e3 n1.length f3) = W' →
        Blk W' (w.heap.size + 1) (T6 (.slice e0 z0.length f0) (.slice e1 z1.length f1) l0 l1 (.slice e2 n0.length f2) (.slice e3 n1.length f3)) 33 ∧ Ok6 w.heap.size W'.heap.size W' (.slice e0 z0.length f0) (.slice e1 z1.length f1) (.slice e2 n0.length f2) (.slice e3 n1.length f3) z0 z1 n0 n1 ∧ Below w.heap.size w W') := by
      intro W' hW'
      have hfr := fr_put6 u0 (w.heap.size + 1) (.slice e0 z0.length f0) (.slice e1 z1.length f1) l0 l1 (.slice e2 n0.length f2) (.slice e3 n1.length f3)
      rw [hW'] at hfr
      refine ⟨by rw [← hW']; exact put6 kr _ _ _ _ _ _, (oo.fr hfr (fun k hk e => by have := oo.ge k hk; omega)).mono (by omega) hfr.size, (belowCall HB1.out bb hcs).trans (hfr.below (by have := bb.size; omega) (fun k e => by omega))⟩
    have y0 := kr.cell 0
    have yf0 := kr.frozen 0
    have y1 := kr.cell 1
    have yf1 := kr.frozen 1
    have y2 := kr.cell 2
    have yf2 := kr.frozen 2
    have y3 := kr.cell 3
    have yf3 := kr.frozen 3
    have y4 := kr.cell 4
    have yf4 := kr.frozen 4
    have y5 := kr.cell 5
    have yf5 := kr.frozen 5
    have yl := kr.lt
    simp at y0 y1 y2 y3 y4 y5
    clear kr oo bb hcs hkl
    go_wp2
    exact bodyPost_ret (v := .tuple #[.agg (T6 (.slice e0 z0.length f0) (.slice e1 z1.length f1) l0 l1 (.slice e2 n0.length f2) (.slice e3 n1.length f3)), .bool false]) (results_T rfl _ _ _ _ _ _ _ _ _ _ rfl rfl (HF.out _ rfl).1) rfl ((fun a => a) ⟨_, _, _, _, rfl, (HF.out _ rfl).2⟩)
  obtain rfl : q = true := hq.2 hT
  have HT : Hid (TOk z0 z1 l0 l1 n0 n1) := hT
  clear hq hT
  go_wp2_with (fail)
  refine (side_c sd w1).mono ?_
  rintro e wq ⟨rfl, hwq⟩
  rw [hwq, decide_eq_false HSD.out]
  clear hwq wq
  go_wp2_with (fail)
  refine (copyI_c _ _ _ _ l0 l1 z0 z1 n0 n1 w1 (HR.out.below HB1.out) HL.out).mono ?_
  rintro e u0 ⟨v0, v1, v2, v3, rfl, oo, bb⟩
  obtain ⟨e0, f0, hf0, -⟩ := own_form oo.o0
  obtain ⟨e1, f1, hf1, -⟩ := own_form oo.o1
  obtain ⟨e2, f2, hf2, -⟩ := own_form oo.o2
  obtain ⟨e3, f3, hf3, -⟩ := own_form oo.o3
  subst hf0 hf1 hf2 hf3
  have kr := KR1.out.below bb KR1.out.lt
  have hcs := HB1.out.size
  have hkl := KR1.out.lt
  have HF : Hid (∀ W', st6 u0 (w.heap.size + 1) (.slice e0 z0.length f0) (.slice e1 z1.length f1) l0 l1 (.slice e2 n0.length f2) (.slice e3 n1.length f3) = W' →
      Blk W' (w.heap.size + 1) (T6 (.slice e0 z0.length f0) (.slice e1 z1.length f1) l0 l1 (.slice e2 n0.length f2) (.slice e3 n1.length f3)) 33 ∧ Ok6 w.heap.size W'.heap.size W' (.slice e0 z0.length f0) (.slice e1 z1.length f1) (.slice e2 n0.length f2) (.slice e3 n1.length f3) z0 z1 n0 n1 ∧ Below w.heap.size w W') := by
    intro W' hW'
    have hfr := fr_put6 u0 (w.heap.size + 1) (.slice e0 z0.length f0) (.slice e1 z1.length f1) l0 l1 (.slice e2 n0.length f2) (.slice e3 n1.length f3)
    rw [hW'] at hfr
    refine ⟨by rw [← hW']; exact put6 kr _ _ _ _ _ _, (oo.fr hfr (fun k hk e => by have := oo.ge k hk; omega)).mono (by omega) hfr.size, (belowCall HB1.out bb hcs).trans (hfr.below (by have := bb.size; omega) (fun k e => by omega))⟩
  have y0 := kr.cell 0
  have yf0 := kr.frozen 0
  have y1 := kr.cell 1
  have yf1 := kr.frozen 1
  have y2 := kr.cell 2
  have yf2 := kr.frozen 2
  have y3 := kr.cell 3
  have yf3 := kr.frozen 3
  have y4 := kr.cell 4
  have yf4 := kr.frozen 4
  have y5 := kr.cell 5
  have yf5 := kr.frozen 5
  have yl := kr.lt
  simp at y0 y1 y2 y3 y4 y5
  clear kr oo bb hcs hkl
  go_wp2
  exact bodyPost_ret (v := .tuple #[.agg (T6 (.slice e0 z0.length f0) (.slice e1 z1.length f1) l0 l1 (.slice e2 n0.length f2) (.slice e3 n1.length f3)), .bool false]) (results_T rfl _ _ _ _ _ _ _ _ _ _ rfl rfl (HF.out _ rfl).1) rfl ((fun a => a) ⟨_, _, _, _, rfl, (HF.out _ rfl).2⟩)
end Go.Proofs.Ytkehcalijamhjaa

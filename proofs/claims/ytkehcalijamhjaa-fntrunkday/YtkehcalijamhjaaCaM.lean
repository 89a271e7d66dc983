/- The model's CarryAll; no condition. -/
import Derived.Test.YtkehcalijamhjaaCaD
import Derived.Test.YtkehcalijamhjaaCyM
import Derived.Deep.LoopGhost
namespace Go.Proofs.Ytkehcalijamhjaa
open Go.RowKit Go.ChangeShapes Go.WideShapes Go.ChangeAt
set_option linter.unusedVariables false
set_option linter.unusedSimpArgs false
set_option maxRecDepth 8000
def TcQ (l0 l1 : Int) (z0 z1 : List Int) (n0 n1 : Mvs) (w : World) (e : Ending) (w' : World) : Prop := ∃ c0 c1 w0 w1, e = .returned (.agg (T6 c0 c1 l0 l1 w0 w1)) ∧ Rb w.heap.size w'.heap.size w' c0 c1 w0 w1 z0 z1 n0 n1 ∧ Below w.heap.size w w'
theorem Ts.ca0 (t : Ts) (ht : t.ok) (h : t.n0.length ≠ 0) : CaOk0 t.z0 t.z1 t.l0 t.l1 t.n0 t.n1 ↔ t.a0 = true := by
  unfold CaOk0 Ts.a0 ArOk0
  rw [decide_eq_true_eq]
  exact ⟨fun h => h.2.2, fun h' => ⟨ht, by omega, h'⟩⟩
theorem Ts.ca1 (t : Ts) (ht : t.ok) (h : t.n1.length ≠ 0) : CaOk1 t.z0 t.z1 t.l0 t.l1 t.n0 t.n1 ↔ t.a1 = true := by
  unfold CaOk1 Ts.a1 ArOk1
  rw [decide_eq_true_eq]
  exact ⟨fun h => h.2.2, fun h' => ⟨ht, by omega, h'⟩⟩
/-- what the model's CarryAll tells of a trunk -/
def CalP (l0 l1 : Int) (z0 z1 : List Int) (n0 n1 : Mvs) (w : World) (e : Ending) (w' : World) : Prop :=
  (TOk z0 z1 l0 l1 n0 n1 → TcQ (Ts.mk l0 l1 z0 z1 n0 n1).all.l0 (Ts.mk l0 l1 z0 z1 n0 n1).all.l1 (Ts.mk l0 l1 z0 z1 n0 n1).all.z0 (Ts.mk l0 l1 z0 z1 n0 n1).all.z1 (Ts.mk l0 l1 z0 z1 n0 n1).all.n0 (Ts.mk l0 l1 z0 z1 n0 n1).all.n1 w e w') ∧ (¬ TOk z0 z1 l0 l1 n0 n1 → TcQ l0 l1 z0 z1 n0 n1 w e w')
set_option maxHeartbeats 12800000 in
theorem carryAllM_c (c0 c1 w0 w1 : Value) (l0 l1 : Int) (z0 z1 : List Int) (n0 n1 : Mvs) (w : World) (h : Rk w c0 c1 w0 w1 z0 z1 n0 n1) (hl : (z0.length : Int) + z1.length + (n0.length + n1.length) ≤ 1048576) :
    Calls Try.prog 31 #[.agg (T6 c0 c1 l0 l1 w0 w1)] w (CalP l0 l1 z0 z1 n0 n1 w) := by
  obtain ⟨W0, hW0⟩ : ∃ W0, (w.alloc (Obj.cells (T6 c0 c1 l0 l1 w0 w1) 33)).alloc (Obj.cells (T6 (.slice none 0 0) (.slice none 0 0) 0 0 (.slice none 0 0) (.slice none 0 0)) 33) = W0 := ⟨_, rfl⟩
  have HB0 : Hid (Below w.heap.size w W0) := by rw [← hW0]; exact ((Below.refl _ _).alloc (Nat.le_refl _) _).alloc (by simp) _
  have KP0 : Hid (Blk W0 w.heap.size (T6 c0 c1 l0 l1 w0 w1) 33) := by rw [← hW0]; exact (Blk.new _ _ _).alloc _
  have KR0 : Hid (Blk W0 (w.heap.size + 1) (T6 (.slice none 0 0) (.slice none 0 0) 0 0 (.slice none 0 0) (.slice none 0 0)) 33) := by rw [← hW0]; exact Blk.newAt _ (w.heap.size + 1) _ 33 (by simp)
  have HR : Hid (Rk w c0 c1 w0 w1 z0 z1 n0 n1) := h
  have HL : Hid ((z0.length : Int) + z1.length + (n0.length + n1.length) ≤ 1048576) := hl
  obtain ⟨a0, p0, hv0, -⟩ := h.r0
  obtain ⟨a1, p1, hv1, -⟩ := h.r1
  obtain ⟨a2, p2, hv2, -⟩ := h.r2
  obtain ⟨a3, p3, hv3, -⟩ := h.r3
  subst hv0 hv1 hv2 hv3
  clear h hl
  have x0 := KP0.out.cell 0
  have x1 := KP0.out.cell 1
  have x2 := KP0.out.cell 2
  have x3 := KP0.out.cell 3
  have x4 := KP0.out.cell 4
  have x5 := KP0.out.cell 5
  have xl := KP0.out.lt
  simp at x0 x1 x2 x3 x4 x5
  go_enter Try.func31, Try.ntmps31
  go_wp2_with (fail)
  clear hW0
  refine (copyM_c _ _ _ _ l0 l1 z0 z1 n0 n1 W0 (HR.out.below HB0.out) HL.out).mono ?_
  rintro e u1 ⟨v0, v1, v2, v3, rfl, oo, bb⟩
  clear x0 x1 x2 x3 x4 x5 xl
  obtain ⟨Pe0, Pf0, hf0, -⟩ := own_form oo.o0
  obtain ⟨Pe1, Pf1, hf1, -⟩ := own_form oo.o1
  obtain ⟨Pe2, Pf2, hf2, -⟩ := own_form oo.o2
  obtain ⟨Pe3, Pf3, hf3, -⟩ := own_form oo.o3
  obtain ⟨Z0, hZ0⟩ : ∃ q, z0.length = q := ⟨_, rfl⟩
  rw [hZ0] at hf0
  obtain ⟨Z1, hZ1⟩ : ∃ q, z1.length = q := ⟨_, rfl⟩
  rw [hZ1] at hf1
  obtain ⟨Y0, hY0⟩ : ∃ q, n0.length = q := ⟨_, rfl⟩
  rw [hY0] at hf2
  obtain ⟨Y1, hY1⟩ : ∃ q, n1.length = q := ⟨_, rfl⟩
  rw [hY1] at hf3
  subst hf0 hf1 hf2 hf3
  have HQ : Hid (z0.length = Z0 ∧ z1.length = Z1 ∧ n0.length = Y0 ∧ n1.length = Y1) := ⟨hZ0, hZ1, hY0, hY1⟩
  clear hZ0 hZ1 hY0 hY1
  have kp := KP0.out.below bb KP0.out.lt
  have kr := KR0.out.below bb KR0.out.lt
  have hkl := KR0.out.lt
  obtain ⟨W1, hW1⟩ : ∃ W, st6 u1 w.heap.size (.slice Pe0 Z0 Pf0) (.slice Pe1 Z1 Pf1) l0 l1 (.slice Pe2 Y0 Pf2) (.slice Pe3 Y1 Pf3) = W := ⟨_, rfl⟩
  have hfr := fr_put6 u1 w.heap.size (.slice Pe0 Z0 Pf0) (.slice Pe1 Z1 Pf1) l0 l1 (.slice Pe2 Y0 Pf2) (.slice Pe3 Y1 Pf3)
  rw [hW1] at hfr
  have KP1 : Hid (Blk W1 w.heap.size (T6 (.slice Pe0 Z0 Pf0) (.slice Pe1 Z1 Pf1) l0 l1 (.slice Pe2 Y0 Pf2) (.slice Pe3 Y1 Pf3)) 33) := by rw [← hW1]; exact put6 kp _ _ _ _ _ _
  have KR1 : Hid (Blk W1 (w.heap.size + 1) (T6 (.slice none 0 0) (.slice none 0 0) 0 0 (.slice none 0 0) (.slice none 0 0)) 33) := kr.fr hfr (by omega)
  have HRB1 : Hid (Rb (w.heap.size + 2) u1.heap.size W1 (.slice Pe0 Z0 Pf0) (.slice Pe1 Z1 Pf1) (.slice Pe2 Y0 Pf2) (.slice Pe3 Y1 Pf3) z0 z1 n0 n1) := ((oo.fr hfr (fun k hk e => by have := oo.ge k hk; omega)).rb).mono (by have := KR0.out.lt; omega) (Nat.le_refl _)
  have HU1 : Hid (u1.heap.size ≤ W1.heap.size) := hfr.size
  have HB1 : Hid (Below w.heap.size w W1) := (belowCall HB0.out bb HB0.out.size).trans (hfr.below (by have := bb.size; have := HB0.out.size; omega) (fun k e => by omega))
  have x0 := kp.cell 0
  have xf0 := kp.frozen 0
  have x1 := kp.cell 1
  have xf1 := kp.frozen 1
  have x2 := kp.cell 2
  have xf2 := kp.frozen 2
  have x3 := kp.cell 3
  have xf3 := kp.frozen 3
  have x4 := kp.cell 4
  have xf4 := kp.frozen 4
  have x5 := kp.cell 5
  have xf5 := kp.frozen 5
  have xl := kp.lt
  simp at x0 x1 x2 x3 x4 x5
  have r0 := KP1.out.cell 0
  have r1 := KP1.out.cell 1
  have r2 := KP1.out.cell 2
  have r3 := KP1.out.cell 3
  have r4 := KP1.out.cell 4
  have r5 := KP1.out.cell 5
  have rl := KP1.out.lt
  simp at r0 r1 r2 r3 r4 r5
  clear kp kr oo bb hfr hkl
  go_wp2_with (fail)
  try rw [hW1]
  clear hW1 x0 x1 x2 x3 x4 x5 xl r0 r1 r2 r3 r4 r5 rl xf0 xf1 xf2 xf3 xf4 xf5
  refine (okM_c _ _ _ _ l0 l1 z0 z1 n0 n1 W1 HRB1.out.rk).mono ?_
  rintro e w2 ⟨q, rfl, hq, b2⟩
  have HB2 : Hid (Below w.heap.size w w2) := belowCall HB1.out b2 HB1.out.size
  have KP2 : Hid (Blk w2 w.heap.size (T6 (.slice Pe0 Z0 Pf0) (.slice Pe1 Z1 Pf1) l0 l1 (.slice Pe2 Y0 Pf2) (.slice Pe3 Y1 Pf3)) 33) := KP1.out.below b2 KP1.out.lt
  have KR2 : Hid (Blk w2 (w.heap.size + 1) (T6 (.slice none 0 0) (.slice none 0 0) 0 0 (.slice none 0 0) (.slice none 0 0)) 33) := KR1.out.below b2 KR1.out.lt
  have HRB2 : Hid (Rb (w.heap.size + 2) u1.heap.size w2 (.slice Pe0 Z0 Pf0) (.slice Pe1 Z1 Pf1) (.slice Pe2 Y0 Pf2) (.slice Pe3 Y1 Pf3) z0 z1 n0 n1) := HRB1.out.below b2
  have HU2 : Hid (u1.heap.size ≤ w2.heap.size) := Nat.le_trans HU1.out b2.size
  have HQQ : Hid (q = true ↔ TOk z0 z1 l0 l1 n0 n1) := hq
  clear b2 hq HB1 KP1 KR1 HRB1 HU1
  have x0 := KP2.out.cell 0
  have x1 := KP2.out.cell 1
  have x2 := KP2.out.cell 2
  have x3 := KP2.out.cell 3
  have x4 := KP2.out.cell 4
  have x5 := KP2.out.cell 5
  have xl := KP2.out.lt
  simp at x0 x1 x2 x3 x4 x5
  go_wp2_with (fail)
  clear x0 x1 x2 x3 x4 x5 xl
  refine (copyM_c _ _ _ _ l0 l1 z0 z1 n0 n1 w2 HRB2.out.rk HL.out).mono ?_
  rintro e w3 ⟨v0, v1, v2, v3, rfl, oo, bb⟩
  obtain ⟨Ne0, Nf0, hf0, -⟩ := own_form oo.o0
  obtain ⟨Ne1, Nf1, hf1, -⟩ := own_form oo.o1
  obtain ⟨Ne2, Nf2, hf2, -⟩ := own_form oo.o2
  obtain ⟨Ne3, Nf3, hf3, -⟩ := own_form oo.o3
  rw [HQ.out.1] at hf0
  rw [HQ.out.2.1] at hf1
  rw [HQ.out.2.2.1] at hf2
  rw [HQ.out.2.2.2] at hf3
  subst hf0 hf1 hf2 hf3
  obtain ⟨gN, hgN⟩ : ∃ k, w3.heap.size = k := ⟨_, rfl⟩
  obtain ⟨W4, hW4⟩ : ∃ W, w3.alloc (Obj.cells (T6 (.slice Ne0 Z0 Nf0) (.slice Ne1 Z1 Nf1) l0 l1 (.slice Ne2 Y0 Nf2) (.slice Ne3 Y1 Nf3)) 33) = W := ⟨_, rfl⟩
  have al : Below w3.heap.size w3 W4 := by rw [← hW4]; exact (Below.refl _ _).alloc (Nat.le_refl _) _
  have bal : Below w2.heap.size w2 W4 := belowCall bb al bb.size
  have KN4 : Hid (Blk W4 gN (T6 (.slice Ne0 Z0 Nf0) (.slice Ne1 Z1 Nf1) l0 l1 (.slice Ne2 Y0 Nf2) (.slice Ne3 Y1 Nf3)) 33) := by rw [← hW4, ← hgN]; exact Blk.new _ _ _
  have HRN4 : Hid (Rb (w.heap.size + 2) gN W4 (.slice Ne0 Z0 Nf0) (.slice Ne1 Z1 Nf1) (.slice Ne2 Y0 Nf2) (.slice Ne3 Y1 Nf3) z0 z1 n0 n1) := ((oo.below al).rb).mono (by have := KR2.out.lt; omega) (by omega)
  have KP4 : Hid (Blk W4 w.heap.size (T6 (.slice Pe0 Z0 Pf0) (.slice Pe1 Z1 Pf1) l0 l1 (.slice Pe2 Y0 Pf2) (.slice Pe3 Y1 Pf3)) 33) := KP2.out.below bal KP2.out.lt
  have KR4 : Hid (Blk W4 (w.heap.size + 1) (T6 (.slice none 0 0) (.slice none 0 0) 0 0 (.slice none 0 0) (.slice none 0 0)) 33) := KR2.out.below bal KR2.out.lt
  have HRB4 : Hid (Rb (w.heap.size + 2) u1.heap.size W4 (.slice Pe0 Z0 Pf0) (.slice Pe1 Z1 Pf1) (.slice Pe2 Y0 Pf2) (.slice Pe3 Y1 Pf3) z0 z1 n0 n1) := HRB2.out.below bal
  have HU4 : Hid (u1.heap.size ≤ gN) := Nat.le_trans HU2.out (by rw [← hgN]; exact bb.size)
  have HGN : Hid (w.heap.size + 1 < gN) := by have h1 := KR2.out.lt; have h2 := bb.size; show _ < _; omega
  have HB4 : Hid (Below w.heap.size w W4) := belowCall HB2.out bal HB2.out.size
  clear oo bb al bal HB2 KP2 KR2 HRB2 HU2
  obtain ⟨R, hR⟩ : ∃ R, (Ts.mk l0 l1 z0 z1 n0 n1).end = R := ⟨_, rfl⟩
  have HEND : Hid ((Ts.mk l0 l1 z0 z1 n0 n1).end = R) := hR
  clear hR
  go_wp2
  try rw [hW4]
  try rw [hgN]
  clear hW4 hgN
  go_loopg [3] (Ts.mk l0 l1 z0 z1 n0 n1).wt (fun k b wr => ∃ qv : Bool, b = .bool qv ∧ (∃ s : Ts, ∃ x0 x1 x2 x3, Hid (Blk wr gN (T6 x0 x1 s.l0 s.l1 x2 x3) 33 ∧ Rb (w.heap.size + 2) wr.heap.size wr x0 x1 x2 x3 s.z0 s.z1 s.n0 s.n1 ∧ ∀ k, InT x0 x1 x2 x3 k → k ≠ gN) ∧ Hid (TOk z0 z1 l0 l1 n0 n1 → (qv = true → s.ok ∧ s.end = R ∧ s.wt = k) ∧ (qv = false → R = none)) ∧ Hid (qv = true → TOk z0 z1 l0 l1 n0 n1)) ∧ Hid (Blk wr w.heap.size (T6 (.slice Pe0 Z0 Pf0) (.slice Pe1 Z1 Pf1) l0 l1 (.slice Pe2 Y0 Pf2) (.slice Pe3 Y1 Pf3)) 33) ∧ Hid (Blk wr (w.heap.size + 1) (T6 (.slice none 0 0) (.slice none 0 0) 0 0 (.slice none 0 0) (.slice none 0 0)) 33) ∧ Hid (Rb (w.heap.size + 2) u1.heap.size wr (.slice Pe0 Z0 Pf0) (.slice Pe1 Z1 Pf1) (.slice Pe2 Y0 Pf2) (.slice Pe3 Y1 Pf3) z0 z1 n0 n1) ∧ Hid (Below w.heap.size w wr))
  case atStart => exact ⟨q, rfl, ⟨(Ts.mk l0 l1 z0 z1 n0 n1), _, _, _, _, ⟨KN4.out, HRN4.out.mono (Nat.le_refl _) (Nat.le_of_lt KN4.out.lt), fun k hk => by have := HRN4.out.ge k hk; omega⟩, fun ht => ⟨fun _ => ⟨ht, HEND.out, rfl⟩, fun hf => absurd (HQQ.out.2 ht) (by rw [hf]; simp)⟩, fun h => HQQ.out.1 h⟩, KP4.out, KR4.out, HRB4.out, HB4.out⟩
  case round =>
    obtain ⟨qv, rfl, ⟨⟨sl0, sl1, sz0, sz1, sn0, sn1⟩, x0, x1, x2, x3, HNW, HS, HTQ⟩, KP5, KR5, HRB5, HB5⟩ := hrel
    simp only at HNW
    clear KN4 HRN4 KP4 KR4 HRB4 HB4 HQQ
    cases qv
    case false =>
      skip
      have HALL : Hid (TOk z0 z1 l0 l1 n0 n1 → (Ts.mk l0 l1 z0 z1 n0 n1).all = (Ts.mk l0 l1 z0 z1 n0 n1)) := fun ht => by unfold Ts.all; rw [HEND.out, (HS.out ht).2 rfl]; rfl
      have HRX : Hid (Rb (w.heap.size + 2) u1.heap.size wr (.slice Pe0 Z0 Pf0) (.slice Pe1 Z1 Pf1) (.slice Pe2 Y0 Pf2) (.slice Pe3 Y1 Pf3) z0 z1 n0 n1 ∧ w.heap.size + 1 < wr.heap.size ∧ u1.heap.size ≤ wr.heap.size) := ⟨HRB5.out, by have := KR5.out.lt; omega, by have := HNW.out.1.lt; have := HU4.out; omega⟩
      have x0 := KP5.out.cell 0
      have x1 := KP5.out.cell 1
      have x2 := KP5.out.cell 2
      have x3 := KP5.out.cell 3
      have x4 := KP5.out.cell 4
      have x5 := KP5.out.cell 5
      have xl := KP5.out.lt
      simp at x0 x1 x2 x3 x4 x5
      have HF : Hid (∀ W', st6 wr (w.heap.size + 1) (.slice Pe0 Z0 Pf0) (.slice Pe1 Z1 Pf1) l0 l1 (.slice Pe2 Y0 Pf2) (.slice Pe3 Y1 Pf3) = W' → Blk W' (w.heap.size + 1) (T6 (.slice Pe0 Z0 Pf0) (.slice Pe1 Z1 Pf1) l0 l1 (.slice Pe2 Y0 Pf2) (.slice Pe3 Y1 Pf3)) 33 ∧ Rb w.heap.size W'.heap.size W' (.slice Pe0 Z0 Pf0) (.slice Pe1 Z1 Pf1) (.slice Pe2 Y0 Pf2) (.slice Pe3 Y1 Pf3) z0 z1 n0 n1 ∧ Below w.heap.size w W') := by
        intro W' hW'
        have hfr := fr_put6 wr (w.heap.size + 1) (.slice Pe0 Z0 Pf0) (.slice Pe1 Z1 Pf1) l0 l1 (.slice Pe2 Y0 Pf2) (.slice Pe3 Y1 Pf3)
        rw [hW'] at hfr
        have hge := HRX.out.1.ge
        have hsz := HRX.out.2
        exact ⟨by rw [← hW']; exact put6 KR5.out _ _ _ _ _ _, (HRX.out.1.fr hsz.2 hfr (fun k hk e => by have := hge k hk; omega)).mono (by omega) (Nat.le_trans hsz.2 hfr.size), HB5.out.trans (hfr.below (by have := HB5.out.size; omega) (fun k e => by omega))⟩
      have y0 := KR5.out.cell 0
      have yf0 := KR5.out.frozen 0
      have y1 := KR5.out.cell 1
      have yf1 := KR5.out.frozen 1
      have y2 := KR5.out.cell 2
      have yf2 := KR5.out.frozen 2
      have y3 := KR5.out.cell 3
      have yf3 := KR5.out.frozen 3
      have y4 := KR5.out.cell 4
      have yf4 := KR5.out.frozen 4
      have y5 := KR5.out.cell 5
      have yf5 := KR5.out.frozen 5
      have yl := KR5.out.lt
      simp at y0 y1 y2 y3 y4 y5
      go_wp2
      exact bodyPost_ret (v := .agg (T6 (.slice Pe0 Z0 Pf0) (.slice Pe1 Z1 Pf1) l0 l1 (.slice Pe2 Y0 Pf2) (.slice Pe3 Y1 Pf3))) (results_cell_row rfl _ _ _ 33 _ (0, 0) _ rfl (HF.out _ rfl).1 Try.underlying33 rfl size33) rfl ((fun (a : TcQ l0 l1 z0 z1 n0 n1 w _ _) => ⟨fun ht => by rw [HALL.out ht]; exact a, fun _ => a⟩) ⟨_, _, _, _, rfl, (HF.out _ rfl).2⟩)
    case true =>
      obtain ⟨m0a, g0, hx0, -⟩ := HNW.out.2.1.rk.r0
      obtain ⟨m1a, g1, hx1, -⟩ := HNW.out.2.1.rk.r1
      obtain ⟨m2a, g2, hx2, -⟩ := HNW.out.2.1.rk.r2
      obtain ⟨m3a, g3, hx3, -⟩ := HNW.out.2.1.rk.r3
      obtain ⟨b0, hb0⟩ : ∃ q, sz0.length = q := ⟨_, rfl⟩
      obtain ⟨b1, hb1⟩ : ∃ q, sz1.length = q := ⟨_, rfl⟩
      obtain ⟨b2, hb2⟩ : ∃ q, sn0.length = q := ⟨_, rfl⟩
      obtain ⟨b3, hb3⟩ : ∃ q, sn1.length = q := ⟨_, rfl⟩
      rw [hb0] at hx0
      rw [hb1] at hx1
      rw [hb2] at hx2
      rw [hb3] at hx3
      subst hx0 hx1 hx2 hx3
      have HBQ : Hid (sz0.length = b0 ∧ sz1.length = b1 ∧ sn0.length = b2 ∧ sn1.length = b3) := ⟨hb0, hb1, hb2, hb3⟩
      clear hb0 hb1 hb2 hb3
      have HT : Hid (TOk z0 z1 l0 l1 n0 n1) := HTQ.out rfl
      have HSK : Hid ((Ts.mk sl0 sl1 sz0 sz1 sn0 sn1).ok ∧ (Ts.mk sl0 sl1 sz0 sz1 sn0 sn1).end = R ∧ (Ts.mk sl0 sl1 sz0 sz1 sn0 sn1).wt = gk) := (HS.out HT.out).1 rfl
      have HSO : Hid (TOk sz0 sz1 sl0 sl1 sn0 sn1) := HSK.out.1
      have HSL : Hid ((sz0.length : Int) + sz1.length + (sn0.length + sn1.length) ≤ 1048576) := by have h1 := HSO.out.1; have h2 := HSO.out.2.1; have h3 := HSO.out.2.2.1.2.2.1; have h4 := HSO.out.2.2.2.2.2.1; show _ ≤ _; omega
      have HBL : Hid (b2 ≤ 60 ∧ b3 ≤ 60) := by have h3 := HSO.out.2.2.1.2.2.1; have h4 := HSO.out.2.2.2.2.2.1; have h5 := HBQ.out; show _ ∧ _; omega
      clear HS HTQ
      have x0 := HNW.out.1.cell 0
      have xf0 := HNW.out.1.frozen 0
      have x1 := HNW.out.1.cell 1
      have xf1 := HNW.out.1.frozen 1
      have x2 := HNW.out.1.cell 2
      have xf2 := HNW.out.1.frozen 2
      have x3 := HNW.out.1.cell 3
      have xf3 := HNW.out.1.frozen 3
      have x4 := HNW.out.1.cell 4
      have xf4 := HNW.out.1.frozen 4
      have x5 := HNW.out.1.cell 5
      have xf5 := HNW.out.1.frozen 5
      have xl := HNW.out.1.lt
      simp at x0 x1 x2 x3 x4 x5
      obtain ⟨hb2, hb3⟩ := HBL.out
      by_cases h2 : b2 = 0
      · by_cases h3 : b3 = 0
        · have HST : Hid ((Ts.mk sl0 sl1 sz0 sz1 sn0 sn1).still = true) := by
            have e2 : sn0 = [] := List.eq_nil_of_length_eq_zero (by rw [HBQ.out.2.2.1]; exact h2)
            have e3 : sn1 = [] := List.eq_nil_of_length_eq_zero (by rw [HBQ.out.2.2.2]; exact h3)
            show _ = _
            rw [e2, e3]; rfl
          have HALL : Hid ((Ts.mk l0 l1 z0 z1 n0 n1).all = Ts.mk sl0 sl1 sz0 sz1 sn0 sn1) := by show _ = _; unfold Ts.all; rw [HEND.out, ← HSK.out.2.1, Ts.end_still _ HST.out]; rfl
          have HRX : Hid (Rb (w.heap.size + 2) wr.heap.size wr (.slice m0a b0 g0) (.slice m1a b1 g1) (.slice m2a b2 g2) (.slice m3a b3 g3) sz0 sz1 sn0 sn1 ∧ w.heap.size + 1 < wr.heap.size ∧ wr.heap.size ≤ wr.heap.size) := ⟨HNW.out.2.1, by have := KR5.out.lt; omega, Nat.le_refl _⟩
          have hd0 : decide ((0 : Int) < (b2 : Int) + (b3 : Int)) = false := by simp; omega
          clear h2 h3
          have HF : Hid (∀ W', st6 wr (w.heap.size + 1) (.slice m0a b0 g0) (.slice m1a b1 g1) sl0 sl1 (.slice m2a b2 g2) (.slice m3a b3 g3) = W' → Blk W' (w.heap.size + 1) (T6 (.slice m0a b0 g0) (.slice m1a b1 g1) sl0 sl1 (.slice m2a b2 g2) (.slice m3a b3 g3)) 33 ∧ Rb w.heap.size W'.heap.size W' (.slice m0a b0 g0) (.slice m1a b1 g1) (.slice m2a b2 g2) (.slice m3a b3 g3) sz0 sz1 sn0 sn1 ∧ Below w.heap.size w W') := by
            intro W' hW'
            have hfr := fr_put6 wr (w.heap.size + 1) (.slice m0a b0 g0) (.slice m1a b1 g1) sl0 sl1 (.slice m2a b2 g2) (.slice m3a b3 g3)
            rw [hW'] at hfr
            have hge := HRX.out.1.ge
            have hsz := HRX.out.2
            exact ⟨by rw [← hW']; exact put6 KR5.out _ _ _ _ _ _, (HRX.out.1.fr hsz.2 hfr (fun k hk e => by have := hge k hk; omega)).mono (by omega) (Nat.le_trans hsz.2 hfr.size), HB5.out.trans (hfr.below (by have := HB5.out.size; omega) (fun k e => by omega))⟩
          have y0 := KR5.out.cell 0
          have yf0 := KR5.out.frozen 0
          have y1 := KR5.out.cell 1
          have yf1 := KR5.out.frozen 1
          have y2 := KR5.out.cell 2
          have yf2 := KR5.out.frozen 2
          have y3 := KR5.out.cell 3
          have yf3 := KR5.out.frozen 3
          have y4 := KR5.out.cell 4
          have yf4 := KR5.out.frozen 4
          have y5 := KR5.out.cell 5
          have yf5 := KR5.out.frozen 5
          have yl := KR5.out.lt
          simp at y0 y1 y2 y3 y4 y5
          go_wp2
          exact bodyPost_ret (v := .agg (T6 (.slice m0a b0 g0) (.slice m1a b1 g1) sl0 sl1 (.slice m2a b2 g2) (.slice m3a b3 g3))) (results_cell_row rfl _ _ _ 33 _ (0, 0) _ rfl (HF.out _ rfl).1 Try.underlying33 rfl size33) rfl ((fun (a : TcQ sl0 sl1 sz0 sz1 sn0 sn1 w _ _) => ⟨fun _ => by rw [HALL.out]; exact a, fun h => absurd HT.out h⟩) ⟨_, _, _, _, rfl, (HF.out _ rfl).2⟩)
        · have hd0 : decide ((0 : Int) < (b2 : Int) + (b3 : Int)) = true := by simp; omega
          have hd1 : ((b2 : Int) == 0) = true := by simp; omega
          have HNX : Hid ((Ts.mk sl0 sl1 sz0 sz1 sn0 sn1).still = false ∧ (Ts.mk sl0 sl1 sz0 sz1 sn0 sn1).next = (Ts.mk sl0 sl1 sz0 sz1 sn0 sn1).c1 ∧ (Ts.mk sl0 sl1 sz0 sz1 sn0 sn1).may = (Ts.mk sl0 sl1 sz0 sz1 sn0 sn1).a1 ∧ sn1.length ≠ 0) := by
            have hne : sn1.length ≠ 0 := by rw [HBQ.out.2.2.2]; exact h3
            have e0 : sn0.isEmpty = true := by rw [List.isEmpty_iff]; exact List.eq_nil_of_length_eq_zero (by rw [HBQ.out.2.2.1]; exact h2)
            have e : sn1.isEmpty = false := by cases hq : sn1 with | nil => rw [hq] at hne; exact absurd rfl hne | cons _ _ => rfl
            exact ⟨by unfold Ts.still; rw [e0, e]; rfl, by unfold Ts.next; rw [e0]; rfl, by unfold Ts.may; rw [e0]; rfl, hne⟩
          clear h2 h3
          go_wp2_with (fail)
          clear x0 x1 x2 x3 x4 x5 xl xf0 xf1 xf2 xf3 xf4 xf5
          refine (carryM1_c _ _ _ _ sl0 sl1 sz0 sz1 sn0 sn1 wr HNW.out.2.1.rk HSL.out).mono ?_
          rintro e w6 hcp
          have HCA := Ts.ca1 (Ts.mk sl0 sl1 sz0 sz1 sn0 sn1) HSO.out HNX.out.2.2.2
          cases hmay : (Ts.mk sl0 sl1 sz0 sz1 sn0 sn1).a1 with
          | false =>
            have hcp' := hcp.2 (fun h => by have := HCA.1 h; rw [hmay] at this; cases this)
            have hcq : TwP (Ts.mk sl0 sl1 sz0 sz1 sn0 sn1).l0 (Ts.mk sl0 sl1 sz0 sz1 sn0 sn1).l1 (Ts.mk sl0 sl1 sz0 sz1 sn0 sn1).z0 (Ts.mk sl0 sl1 sz0 sz1 sn0 sn1).z1 (Ts.mk sl0 sl1 sz0 sz1 sn0 sn1).n0 (Ts.mk sl0 sl1 sz0 sz1 sn0 sn1).n1 (.bool false) wr e w6 := hcp'
            clear hcp hcp' HCA
            obtain ⟨N, hN⟩ : ∃ N, (Ts.mk sl0 sl1 sz0 sz1 sn0 sn1) = N := ⟨_, rfl⟩
            have HN : Hid ((Ts.mk sl0 sl1 sz0 sz1 sn0 sn1) = N) := hN
            rw [hN] at hcq
            clear hN
            obtain ⟨v0, v1, v2, v3, rfl, rb, b6⟩ := hcq
            obtain ⟨Be0, Bf0, hf0, -⟩ := rb.rk.r0
            obtain ⟨Be1, Bf1, hf1, -⟩ := rb.rk.r1
            obtain ⟨Be2, Bf2, hf2, -⟩ := rb.rk.r2
            obtain ⟨Be3, Bf3, hf3, -⟩ := rb.rk.r3
            obtain ⟨m0, hm0⟩ : ∃ q, N.z0.length = q := ⟨_, rfl⟩
            rw [hm0] at hf0
            clear hm0
            obtain ⟨m1, hm1⟩ : ∃ q, N.z1.length = q := ⟨_, rfl⟩
            rw [hm1] at hf1
            clear hm1
            obtain ⟨m2, hm2⟩ : ∃ q, N.n0.length = q := ⟨_, rfl⟩
            rw [hm2] at hf2
            clear hm2
            obtain ⟨m3, hm3⟩ : ∃ q, N.n1.length = q := ⟨_, rfl⟩
            rw [hm3] at hf3
            clear hm3
            subst hf0 hf1 hf2 hf3
            obtain ⟨nl0, hnl0⟩ : ∃ q, N.l0 = q := ⟨_, rfl⟩
            obtain ⟨nl1, hnl1⟩ : ∃ q, N.l1 = q := ⟨_, rfl⟩
            have HNL : Hid (N.l0 = nl0 ∧ N.l1 = nl1) := ⟨hnl0, hnl1⟩
            rw [hnl0, hnl1]
            clear hnl0 hnl1
            have kn := HNW.out.1.below b6 HNW.out.1.lt
            have HAF : Hid (∀ W', st6 w6 gN (.slice Be0 m0 Bf0) (.slice Be1 m1 Bf1) nl0 nl1 (.slice Be2 m2 Bf2) (.slice Be3 m3 Bf3) = W' → Blk W' gN (T6 (.slice Be0 m0 Bf0) (.slice Be1 m1 Bf1) nl0 nl1 (.slice Be2 m2 Bf2) (.slice Be3 m3 Bf3)) 33 ∧ Rb (w.heap.size + 2) W'.heap.size W' (.slice Be0 m0 Bf0) (.slice Be1 m1 Bf1) (.slice Be2 m2 Bf2) (.slice Be3 m3 Bf3) N.z0 N.z1 N.n0 N.n1 ∧ (∀ k, InT (.slice Be0 m0 Bf0) (.slice Be1 m1 Bf1) (.slice Be2 m2 Bf2) (.slice Be3 m3 Bf3) k → k ≠ gN) ∧ Blk W' w.heap.size (T6 (.slice Pe0 Z0 Pf0) (.slice Pe1 Z1 Pf1) l0 l1 (.slice Pe2 Y0 Pf2) (.slice Pe3 Y1 Pf3)) 33 ∧ Blk W' (w.heap.size + 1) (T6 (.slice none 0 0) (.slice none 0 0) 0 0 (.slice none 0 0) (.slice none 0 0)) 33 ∧ Rb (w.heap.size + 2) u1.heap.size W' (.slice Pe0 Z0 Pf0) (.slice Pe1 Z1 Pf1) (.slice Pe2 Y0 Pf2) (.slice Pe3 Y1 Pf3) z0 z1 n0 n1 ∧ Below w.heap.size w W') := by
              intro W' hW'
              have hfr := fr_put6 w6 gN (.slice Be0 m0 Bf0) (.slice Be1 m1 Bf1) nl0 nl1 (.slice Be2 m2 Bf2) (.slice Be3 m3 Bf3)
              rw [hW'] at hfr
              have hgn := HGN.out
              have hu4 := HU4.out
              have hlt := HNW.out.1.lt
              have hge := rb.ge
              have hkr := KR5.out.lt
              exact ⟨by rw [← hW']; exact put6 kn _ _ _ _ _ _, (rb.fr (Nat.le_refl _) hfr (fun k hk e => by have := hge k hk; omega)).mono (by omega) hfr.size, fun k hk e => by have := hge k hk; omega, (KP5.out.below b6 KP5.out.lt).fr hfr (by omega), (KR5.out.below b6 KR5.out.lt).fr hfr (by omega), (HRB5.out.below b6).fr (by have := b6.size; omega) hfr (fun k hk e => by have := HRB5.out.ge k hk; omega), (belowCall HB5.out b6 HB5.out.size).trans (hfr.below (by have := b6.size; have := HB5.out.size; omega) (fun k e => by omega))⟩
            have x0 := kn.cell 0
            have xf0 := kn.frozen 0
            have x1 := kn.cell 1
            have xf1 := kn.frozen 1
            have x2 := kn.cell 2
            have xf2 := kn.frozen 2
            have x3 := kn.cell 3
            have xf3 := kn.frozen 3
            have x4 := kn.cell 4
            have xf4 := kn.frozen 4
            have x5 := kn.cell 5
            have xf5 := kn.frozen 5
            have xl := kn.lt
            simp at x0 x1 x2 x3 x4 x5
            have HNE : Hid (0 < gk ∧ R = none) := by
              refine ⟨by rw [← HSK.out.2.2]; exact Ts.wt_pos _ HNX.out.1, ?_⟩
              rw [← HSK.out.2.1]; exact Ts.end_no _ HNX.out.1 (by rw [HNX.out.2.2.1]; exact hmay)
            clear rb b6 kn hmay
            go_wp2
            go_roundg 0
            case measure => exact HNE.out.1
            case rel => exact ⟨false, rfl, ⟨N, _, _, _, _, by rw [HNL.out.1, HNL.out.2]; exact ⟨(HAF.out _ rfl).1, (HAF.out _ rfl).2.1, (HAF.out _ rfl).2.2.1⟩, fun _ => ⟨fun h => (by cases h), fun _ => HNE.out.2⟩, fun h => (by cases h)⟩, (HAF.out _ rfl).2.2.2.1, (HAF.out _ rfl).2.2.2.2.1, (HAF.out _ rfl).2.2.2.2.2.1, (HAF.out _ rfl).2.2.2.2.2.2⟩
          | true =>
            have hcp' := hcp.1 (HCA.2 hmay)
            have hcq : TwP (Ts.mk sl0 sl1 sz0 sz1 sn0 sn1).c1.l0 (Ts.mk sl0 sl1 sz0 sz1 sn0 sn1).c1.l1 (Ts.mk sl0 sl1 sz0 sz1 sn0 sn1).c1.z0 (Ts.mk sl0 sl1 sz0 sz1 sn0 sn1).c1.z1 (Ts.mk sl0 sl1 sz0 sz1 sn0 sn1).c1.n0 (Ts.mk sl0 sl1 sz0 sz1 sn0 sn1).c1.n1 (.bool true) wr e w6 := hcp'
            clear hcp hcp' HCA
            obtain ⟨N, hN⟩ : ∃ N, (Ts.mk sl0 sl1 sz0 sz1 sn0 sn1).c1 = N := ⟨_, rfl⟩
            have HN : Hid ((Ts.mk sl0 sl1 sz0 sz1 sn0 sn1).c1 = N) := hN
            rw [hN] at hcq
            clear hN
            obtain ⟨v0, v1, v2, v3, rfl, rb, b6⟩ := hcq
            obtain ⟨Be0, Bf0, hf0, -⟩ := rb.rk.r0
            obtain ⟨Be1, Bf1, hf1, -⟩ := rb.rk.r1
            obtain ⟨Be2, Bf2, hf2, -⟩ := rb.rk.r2
            obtain ⟨Be3, Bf3, hf3, -⟩ := rb.rk.r3
            obtain ⟨m0, hm0⟩ : ∃ q, N.z0.length = q := ⟨_, rfl⟩
            rw [hm0] at hf0
            clear hm0
            obtain ⟨m1, hm1⟩ : ∃ q, N.z1.length = q := ⟨_, rfl⟩
            rw [hm1] at hf1
            clear hm1
            obtain ⟨m2, hm2⟩ : ∃ q, N.n0.length = q := ⟨_, rfl⟩
            rw [hm2] at hf2
            clear hm2
            obtain ⟨m3, hm3⟩ : ∃ q, N.n1.length = q := ⟨_, rfl⟩
            rw [hm3] at hf3
            clear hm3
            subst hf0 hf1 hf2 hf3
            obtain ⟨nl0, hnl0⟩ : ∃ q, N.l0 = q := ⟨_, rfl⟩
            obtain ⟨nl1, hnl1⟩ : ∃ q, N.l1 = q := ⟨_, rfl⟩
            have HNL : Hid (N.l0 = nl0 ∧ N.l1 = nl1) := ⟨hnl0, hnl1⟩
            rw [hnl0, hnl1]
            clear hnl0 hnl1
            have kn := HNW.out.1.below b6 HNW.out.1.lt
            have HAF : Hid (∀ W', st6 w6 gN (.slice Be0 m0 Bf0) (.slice Be1 m1 Bf1) nl0 nl1 (.slice Be2 m2 Bf2) (.slice Be3 m3 Bf3) = W' → Blk W' gN (T6 (.slice Be0 m0 Bf0) (.slice Be1 m1 Bf1) nl0 nl1 (.slice Be2 m2 Bf2) (.slice Be3 m3 Bf3)) 33 ∧ Rb (w.heap.size + 2) W'.heap.size W' (.slice Be0 m0 Bf0) (.slice Be1 m1 Bf1) (.slice Be2 m2 Bf2) (.slice Be3 m3 Bf3) N.z0 N.z1 N.n0 N.n1 ∧ (∀ k, InT (.slice Be0 m0 Bf0) (.slice Be1 m1 Bf1) (.slice Be2 m2 Bf2) (.slice Be3 m3 Bf3) k → k ≠ gN) ∧ Blk W' w.heap.size (T6 (.slice Pe0 Z0 Pf0) (.slice Pe1 Z1 Pf1) l0 l1 (.slice Pe2 Y0 Pf2) (.slice Pe3 Y1 Pf3)) 33 ∧ Blk W' (w.heap.size + 1) (T6 (.slice none 0 0) (.slice none 0 0) 0 0 (.slice none 0 0) (.slice none 0 0)) 33 ∧ Rb (w.heap.size + 2) u1.heap.size W' (.slice Pe0 Z0 Pf0) (.slice Pe1 Z1 Pf1) (.slice Pe2 Y0 Pf2) (.slice Pe3 Y1 Pf3) z0 z1 n0 n1 ∧ Below w.heap.size w W') := by
              intro W' hW'
              have hfr := fr_put6 w6 gN (.slice Be0 m0 Bf0) (.slice Be1 m1 Bf1) nl0 nl1 (.slice Be2 m2 Bf2) (.slice Be3 m3 Bf3)
              rw [hW'] at hfr
              have hgn := HGN.out
              have hu4 := HU4.out
              have hlt := HNW.out.1.lt
              have hge := rb.ge
              have hkr := KR5.out.lt
              exact ⟨by rw [← hW']; exact put6 kn _ _ _ _ _ _, (rb.fr (Nat.le_refl _) hfr (fun k hk e => by have := hge k hk; omega)).mono (by omega) hfr.size, fun k hk e => by have := hge k hk; omega, (KP5.out.below b6 KP5.out.lt).fr hfr (by omega), (KR5.out.below b6 KR5.out.lt).fr hfr (by omega), (HRB5.out.below b6).fr (by have := b6.size; omega) hfr (fun k hk e => by have := HRB5.out.ge k hk; omega), (belowCall HB5.out b6 HB5.out.size).trans (hfr.below (by have := b6.size; have := HB5.out.size; omega) (fun k e => by omega))⟩
            have x0 := kn.cell 0
            have xf0 := kn.frozen 0
            have x1 := kn.cell 1
            have xf1 := kn.frozen 1
            have x2 := kn.cell 2
            have xf2 := kn.frozen 2
            have x3 := kn.cell 3
            have xf3 := kn.frozen 3
            have x4 := kn.cell 4
            have xf4 := kn.frozen 4
            have x5 := kn.cell 5
            have xf5 := kn.frozen 5
            have xl := kn.lt
            simp at x0 x1 x2 x3 x4 x5
            have HNE : Hid (N.ok ∧ N.wt < gk ∧ N.end = R) := by
              have hm : (Ts.mk sl0 sl1 sz0 sz1 sn0 sn1).may = true := by rw [HNX.out.2.2.1]; exact hmay
              have h1 := (Ts.mk sl0 sl1 sz0 sz1 sn0 sn1).next_ok HSO.out HNX.out.1 hm
              have h2 := (Ts.mk sl0 sl1 sz0 sz1 sn0 sn1).end_next HSO.out HNX.out.1 hm
              rw [HNX.out.2.1, HN.out] at h1 h2
              exact ⟨h1.1, by rw [← HSK.out.2.2]; exact h1.2, by rw [← h2]; exact HSK.out.2.1⟩
            clear rb b6 kn hmay
            go_wp2
            go_roundg (N.wt)
            case measure => exact HNE.out.2.1
            case rel => exact ⟨true, rfl, ⟨N, _, _, _, _, by rw [HNL.out.1, HNL.out.2]; exact ⟨(HAF.out _ rfl).1, (HAF.out _ rfl).2.1, (HAF.out _ rfl).2.2.1⟩, fun _ => ⟨fun _ => ⟨HNE.out.1, HNE.out.2.2, rfl⟩, fun h => (by cases h)⟩, fun _ => HT.out⟩, (HAF.out _ rfl).2.2.2.1, (HAF.out _ rfl).2.2.2.2.1, (HAF.out _ rfl).2.2.2.2.2.1, (HAF.out _ rfl).2.2.2.2.2.2⟩
      · have hd0 : decide ((0 : Int) < (b2 : Int) + (b3 : Int)) = true := by simp; omega
        have hd1 : ((b2 : Int) == 0) = false := by simp; omega
        have HNX : Hid ((Ts.mk sl0 sl1 sz0 sz1 sn0 sn1).still = false ∧ (Ts.mk sl0 sl1 sz0 sz1 sn0 sn1).next = (Ts.mk sl0 sl1 sz0 sz1 sn0 sn1).c0 ∧ (Ts.mk sl0 sl1 sz0 sz1 sn0 sn1).may = (Ts.mk sl0 sl1 sz0 sz1 sn0 sn1).a0 ∧ sn0.length ≠ 0) := by
          have hne : sn0.length ≠ 0 := by rw [HBQ.out.2.2.1]; exact h2
          have e : sn0.isEmpty = false := by cases hq : sn0 with | nil => rw [hq] at hne; exact absurd rfl hne | cons _ _ => rfl
          exact ⟨by unfold Ts.still; rw [e]; rfl, by unfold Ts.next; rw [e]; rfl, by unfold Ts.may; rw [e]; rfl, hne⟩
        clear h2
        go_wp2_with (fail)
        clear x0 x1 x2 x3 x4 x5 xl xf0 xf1 xf2 xf3 xf4 xf5
        refine (carryM0_c _ _ _ _ sl0 sl1 sz0 sz1 sn0 sn1 wr HNW.out.2.1.rk HSL.out).mono ?_
        rintro e w6 hcp
        have HCA := Ts.ca0 (Ts.mk sl0 sl1 sz0 sz1 sn0 sn1) HSO.out HNX.out.2.2.2
        cases hmay : (Ts.mk sl0 sl1 sz0 sz1 sn0 sn1).a0 with
        | false =>
          have hcp' := hcp.2 (fun h => by have := HCA.1 h; rw [hmay] at this; cases this)
          have hcq : TwP (Ts.mk sl0 sl1 sz0 sz1 sn0 sn1).l0 (Ts.mk sl0 sl1 sz0 sz1 sn0 sn1).l1 (Ts.mk sl0 sl1 sz0 sz1 sn0 sn1).z0 (Ts.mk sl0 sl1 sz0 sz1 sn0 sn1).z1 (Ts.mk sl0 sl1 sz0 sz1 sn0 sn1).n0 (Ts.mk sl0 sl1 sz0 sz1 sn0 sn1).n1 (.bool false) wr e w6 := hcp'
          clear hcp hcp' HCA
          obtain ⟨N, hN⟩ : ∃ N, (Ts.mk sl0 sl1 sz0 sz1 sn0 sn1) = N := ⟨_, rfl⟩
          have HN : Hid ((Ts.mk sl0 sl1 sz0 sz1 sn0 sn1) = N) := hN
          rw [hN] at hcq
          clear hN
          obtain ⟨v0, v1, v2, v3, rfl, rb, b6⟩ := hcq
          obtain ⟨Be0, Bf0, hf0, -⟩ := rb.rk.r0
          obtain ⟨Be1, Bf1, hf1, -⟩ := rb.rk.r1
          obtain ⟨Be2, Bf2, hf2, -⟩ := rb.rk.r2
          obtain ⟨Be3, Bf3, hf3, -⟩ := rb.rk.r3
          obtain ⟨m0, hm0⟩ : ∃ q, N.z0.length = q := ⟨_, rfl⟩
          rw [hm0] at hf0
          clear hm0
          obtain ⟨m1, hm1⟩ : ∃ q, N.z1.length = q := ⟨_, rfl⟩
          rw [hm1] at hf1
          clear hm1
          obtain ⟨m2, hm2⟩ : ∃ q, N.n0.length = q := ⟨_, rfl⟩
          rw [hm2] at hf2
          clear hm2
          obtain ⟨m3, hm3⟩ : ∃ q, N.n1.length = q := ⟨_, rfl⟩
          rw [hm3] at hf3
          clear hm3
          subst hf0 hf1 hf2 hf3
          obtain ⟨nl0, hnl0⟩ : ∃ q, N.l0 = q := ⟨_, rfl⟩
          obtain ⟨nl1, hnl1⟩ : ∃ q, N.l1 = q := ⟨_, rfl⟩
          have HNL : Hid (N.l0 = nl0 ∧ N.l1 = nl1) := ⟨hnl0, hnl1⟩
          rw [hnl0, hnl1]
          clear hnl0 hnl1
          have kn := HNW.out.1.below b6 HNW.out.1.lt
          have HAF : Hid (∀ W', st6 w6 gN (.slice Be0 m0 Bf0) (.slice Be1 m1 Bf1) nl0 nl1 (.slice Be2 m2 Bf2) (.slice Be3 m3 Bf3) = W' → Blk W' gN (T6 (.slice Be0 m0 Bf0) (.slice Be1 m1 Bf1) nl0 nl1 (.slice Be2 m2 Bf2) (.slice Be3 m3 Bf3)) 33 ∧ Rb (w.heap.size + 2) W'.heap.size W' (.slice Be0 m0 Bf0) (.slice Be1 m1 Bf1) (.slice Be2 m2 Bf2) (.slice Be3 m3 Bf3) N.z0 N.z1 N.n0 N.n1 ∧ (∀ k, InT (.slice Be0 m0 Bf0) (.slice Be1 m1 Bf1) (.slice Be2 m2 Bf2) (.slice Be3 m3 Bf3) k → k ≠ gN) ∧ Blk W' w.heap.size (T6 (.slice Pe0 Z0 Pf0) (.slice Pe1 Z1 Pf1) l0 l1 (.slice Pe2 Y0 Pf2) (.slice Pe3 Y1 Pf3)) 33 ∧ Blk W' (w.heap.size + 1) (T6 (.slice none 0 0) (.slice none 0 0) 0 0 (.slice none 0 0) (.slice none 0 0)) 33 ∧ Rb (w.heap.size + 2) u1.heap.size W' (.slice Pe0 Z0 Pf0) (.slice Pe1 Z1 Pf1) (.slice Pe2 Y0 Pf2) (.slice Pe3 Y1 Pf3) z0 z1 n0 n1 ∧ Below w.heap.size w W') := by
            intro W' hW'
            have hfr := fr_put6 w6 gN (.slice Be0 m0 Bf0) (.slice Be1 m1 Bf1) nl0 nl1 (.slice Be2 m2 Bf2) (.slice Be3 m3 Bf3)
            rw [hW'] at hfr
            have hgn := HGN.out
            have hu4 := HU4.out
            have hlt := HNW.out.1.lt
            have hge := rb.ge
            have hkr := KR5.out.lt
            exact ⟨by rw [← hW']; exact put6 kn _ _ _ _ _ _, (rb.fr (Nat.le_refl _) hfr (fun k hk e => by have := hge k hk; omega)).mono (by omega) hfr.size, fun k hk e => by have := hge k hk; omega, (KP5.out.below b6 KP5.out.lt).fr hfr (by omega), (KR5.out.below b6 KR5.out.lt).fr hfr (by omega), (HRB5.out.below b6).fr (by have := b6.size; omega) hfr (fun k hk e => by have := HRB5.out.ge k hk; omega), (belowCall HB5.out b6 HB5.out.size).trans (hfr.below (by have := b6.size; have := HB5.out.size; omega) (fun k e => by omega))⟩
          have x0 := kn.cell 0
          have xf0 := kn.frozen 0
          have x1 := kn.cell 1
          have xf1 := kn.frozen 1
          have x2 := kn.cell 2
          have xf2 := kn.frozen 2
          have x3 := kn.cell 3
          have xf3 := kn.frozen 3
          have x4 := kn.cell 4
          have xf4 := kn.frozen 4
          have x5 := kn.cell 5
          have xf5 := kn.frozen 5
          have xl := kn.lt
          simp at x0 x1 x2 x3 x4 x5
          have HNE : Hid (0 < gk ∧ R = none) := by
            refine ⟨by rw [← HSK.out.2.2]; exact Ts.wt_pos _ HNX.out.1, ?_⟩
            rw [← HSK.out.2.1]; exact Ts.end_no _ HNX.out.1 (by rw [HNX.out.2.2.1]; exact hmay)
          clear rb b6 kn hmay
          go_wp2
          go_roundg 0
          case measure => exact HNE.out.1
          case rel => exact ⟨false, rfl, ⟨N, _, _, _, _, by rw [HNL.out.1, HNL.out.2]; exact ⟨(HAF.out _ rfl).1, (HAF.out _ rfl).2.1, (HAF.out _ rfl).2.2.1⟩, fun _ => ⟨fun h => (by cases h), fun _ => HNE.out.2⟩, fun h => (by cases h)⟩, (HAF.out _ rfl).2.2.2.1, (HAF.out _ rfl).2.2.2.2.1, (HAF.out _ rfl).2.2.2.2.2.1, (HAF.out _ rfl).2.2.2.2.2.2⟩
        | true =>
          have hcp' := hcp.1 (HCA.2 hmay)
          have hcq : TwP (Ts.mk sl0 sl1 sz0 sz1 sn0 sn1).c0.l0 (Ts.mk sl0 sl1 sz0 sz1 sn0 sn1).c0.l1 (Ts.mk sl0 sl1 sz0 sz1 sn0 sn1).c0.z0 (Ts.mk sl0 sl1 sz0 sz1 sn0 sn1).c0.z1 (Ts.mk sl0 sl1 sz0 sz1 sn0 sn1).c0.n0 (Ts.mk sl0 sl1 sz0 sz1 sn0 sn1).c0.n1 (.bool true) wr e w6 := hcp'
          clear hcp hcp' HCA
          obtain ⟨N, hN⟩ : ∃ N, (Ts.mk sl0 sl1 sz0 sz1 sn0 sn1).c0 = N := ⟨_, rfl⟩
          have HN : Hid ((Ts.mk sl0 sl1 sz0 sz1 sn0 sn1).c0 = N) := hN
          rw [hN] at hcq
          clear hN
          obtain ⟨v0, v1, v2, v3, rfl, rb, b6⟩ := hcq
          obtain ⟨Be0, Bf0, hf0, -⟩ := rb.rk.r0
          obtain ⟨Be1, Bf1, hf1, -⟩ := rb.rk.r1
          obtain ⟨Be2, Bf2, hf2, -⟩ := rb.rk.r2
          obtain ⟨Be3, Bf3, hf3, -⟩ := rb.rk.r3
          obtain ⟨m0, hm0⟩ : ∃ q, N.z0.length = q := ⟨_, rfl⟩
          rw [hm0] at hf0
          clear hm0
          obtain ⟨m1, hm1⟩ : ∃ q, N.z1.length = q := ⟨_, rfl⟩
          rw [hm1] at hf1
          clear hm1
          obtain ⟨m2, hm2⟩ : ∃ q, N.n0.length = q := ⟨_, rfl⟩
          rw [hm2] at hf2
          clear hm2
          obtain ⟨m3, hm3⟩ : ∃ q, N.n1.length = q := ⟨_, rfl⟩
          rw [hm3] at hf3
          clear hm3
          subst hf0 hf1 hf2 hf3
          obtain ⟨nl0, hnl0⟩ : ∃ q, N.l0 = q := ⟨_, rfl⟩
          obtain ⟨nl1, hnl1⟩ : ∃ q, N.l1 = q := ⟨_, rfl⟩
          have HNL : Hid (N.l0 = nl0 ∧ N.l1 = nl1) := ⟨hnl0, hnl1⟩
          rw [hnl0, hnl1]
          clear hnl0 hnl1
          have kn := HNW.out.1.below b6 HNW.out.1.lt
          have HAF : Hid (∀ W', st6 w6 gN (.slice Be0 m0 Bf0) (.slice Be1 m1 Bf1) nl0 nl1 (.slice Be2 m2 Bf2) (.slice Be3 m3 Bf3) = W' → Blk W' gN (T6 (.slice Be0 m0 Bf0) (.slice Be1 m1 Bf1) nl0 nl1 (.slice Be2 m2 Bf2) (.slice Be3 m3 Bf3)) 33 ∧ Rb (w.heap.size + 2) W'.heap.size W' (.slice Be0 m0 Bf0) (.slice Be1 m1 Bf1) (.slice Be2 m2 Bf2) (.slice Be3 m3 Bf3) N.z0 N.z1 N.n0 N.n1 ∧ (∀ k, InT (.slice Be0 m0 Bf0) (.slice Be1 m1 Bf1) (.slice Be2 m2 Bf2) (.slice Be3 m3 Bf3) k → k ≠ gN) ∧ Blk W' w.heap.size (T6 (.slice Pe0 Z0 Pf0) (.slice Pe1 Z1 Pf1) l0 l1 (.slice Pe2 Y0 Pf2) (.slice Pe3 Y1 Pf3)) 33 ∧ Blk W' (w.heap.size + 1) (T6 (.slice none 0 0) (.slice none 0 0) 0 0 (.slice none 0 0) (.slice none 0 0)) 33 ∧ Rb (w.heap.size + 2) u1.heap.size W' (.slice Pe0 Z0 Pf0) (.slice Pe1 Z1 Pf1) (.slice Pe2 Y0 Pf2) (.slice Pe3 Y1 Pf3) z0 z1 n0 n1 ∧ Below w.heap.size w W') := by
            intro W' hW'
            have hfr := fr_put6 w6 gN (.slice Be0 m0 Bf0) (.slice Be1 m1 Bf1) nl0 nl1 (.slice Be2 m2 Bf2) (.slice Be3 m3 Bf3)
            rw [hW'] at hfr
            have hgn := HGN.out
            have hu4 := HU4.out
            have hlt := HNW.out.1.lt
            have hge := rb.ge
            have hkr := KR5.out.lt
            exact ⟨by rw [← hW']; exact put6 kn _ _ _ _ _ _, (rb.fr (Nat.le_refl _) hfr (fun k hk e => by have := hge k hk; omega)).mono (by omega) hfr.size, fun k hk e => by have := hge k hk; omega, (KP5.out.below b6 KP5.out.lt).fr hfr (by omega), (KR5.out.below b6 KR5.out.lt).fr hfr (by omega), (HRB5.out.below b6).fr (by have := b6.size; omega) hfr (fun k hk e => by have := HRB5.out.ge k hk; omega), (belowCall HB5.out b6 HB5.out.size).trans (hfr.below (by have := b6.size; have := HB5.out.size; omega) (fun k e => by omega))⟩
          have x0 := kn.cell 0
          have xf0 := kn.frozen 0
          have x1 := kn.cell 1
          have xf1 := kn.frozen 1
          have x2 := kn.cell 2
          have xf2 := kn.frozen 2
          have x3 := kn.cell 3
          have xf3 := kn.frozen 3
          have x4 := kn.cell 4
          have xf4 := kn.frozen 4
          have x5 := kn.cell 5
          have xf5 := kn.frozen 5
          have xl := kn.lt
          simp at x0 x1 x2 x3 x4 x5
          have HNE : Hid (N.ok ∧ N.wt < gk ∧ N.end = R) := by
            have hm : (Ts.mk sl0 sl1 sz0 sz1 sn0 sn1).may = true := by rw [HNX.out.2.2.1]; exact hmay
            have h1 := (Ts.mk sl0 sl1 sz0 sz1 sn0 sn1).next_ok HSO.out HNX.out.1 hm
            have h2 := (Ts.mk sl0 sl1 sz0 sz1 sn0 sn1).end_next HSO.out HNX.out.1 hm
            rw [HNX.out.2.1, HN.out] at h1 h2
            exact ⟨h1.1, by rw [← HSK.out.2.2]; exact h1.2, by rw [← h2]; exact HSK.out.2.1⟩
          clear rb b6 kn hmay
          go_wp2
          go_roundg (N.wt)
          case measure => exact HNE.out.2.1
          case rel => exact ⟨true, rfl, ⟨N, _, _, _, _, by rw [HNL.out.1, HNL.out.2]; exact ⟨(HAF.out _ rfl).1, (HAF.out _ rfl).2.1, (HAF.out _ rfl).2.2.1⟩, fun _ => ⟨fun _ => ⟨HNE.out.1, HNE.out.2.2, rfl⟩, fun h => (by cases h)⟩, fun _ => HT.out⟩, (HAF.out _ rfl).2.2.2.1, (HAF.out _ rfl).2.2.2.2.1, (HAF.out _ rfl).2.2.2.2.2.1, (HAF.out _ rfl).2.2.2.2.2.2⟩
end Go.Proofs.Ytkehcalijamhjaa

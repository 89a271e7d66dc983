/- FnExactCarryAll where both answer alike; no condition. -/
import Derived.Test.YtkehcalijamhjaaLvM
import Derived.Test.YtkehcalijamhjaaPtR
import Derived.Test.YtkehcalijamhjaaCaM
import Derived.Test.YtkehcalijamhjaaCaI
namespace Go.Proofs.Ytkehcalijamhjaa
open Go.RowKit Go.ChangeShapes Go.WideShapes Go.ChangeAt
set_option linter.unusedVariables false
set_option linter.unusedSimpArgs false
set_option maxRecDepth 8000
set_option maxHeartbeats 12800000 in
theorem carryAllLawG (c0 c1 w0 w1 : Value) (l0 l1 : Int) (z0 z1 : List Int) (n0 n1 : Mvs) (L0 L1 : Int) (Z0 Z1 : List Int) (N0 N1 : Mvs) (w : World) (h : Rk w c0 c1 w0 w1 z0 z1 n0 n1)
    (hM : ∀ (W : World) (c0 c1 w0 w1 : Value), Rk W c0 c1 w0 w1 z0 z1 n0 n1 → (z0.length : Int) + z1.length + (n0.length + n1.length) ≤ 1048576 → Calls Try.prog 31 #[.agg (T6 c0 c1 l0 l1 w0 w1)] W (TcQ L0 L1 Z0 Z1 N0 N1 W)) (hI : ∀ (W : World) (c0 c1 w0 w1 : Value), Rk W c0 c1 w0 w1 z0 z1 n0 n1 → (z0.length : Int) + z1.length + (n0.length + n1.length) ≤ 1048576 → Calls Try.prog 21 #[.agg (T6 c0 c1 l0 l1 w0 w1)] W (TcR L0 L1 Z0 Z1 N0 N1 W))
    (hZ : (z0.length : Int) + z1.length + (n0.length + n1.length) ≤ 1048576 → Z0.length ≤ 1048577 ∧ Z1.length ≤ 1048577 ∧ N0.length ≤ 1048577 ∧ N1.length ≤ 1048577) :
    Calls Try.prog 9 #[.agg (T6 c0 c1 l0 l1 w0 w1)] w fun e w' => e = .returned (.bool true) ∧ Below w.heap.size w w' := by
  obtain ⟨W0, hW0⟩ : ∃ W0, w.alloc (Obj.cells (T6 c0 c1 l0 l1 w0 w1) 45) = W0 := ⟨_, rfl⟩
  have hb0 : Below w.heap.size w W0 := by rw [← hW0]; exact (Below.refl _ _).alloc (Nat.le_refl _) _
  have P_W0 : Hid (Blk W0 w.heap.size (T6 c0 c1 l0 l1 w0 w1) 45) := by rw [← hW0]; exact Blk.new _ _ _
  have HR : Hid (Rk w c0 c1 w0 w1 z0 z1 n0 n1) := h
  have HM : Hid (∀ (W : World) (c0 c1 w0 w1 : Value), Rk W c0 c1 w0 w1 z0 z1 n0 n1 → (z0.length : Int) + z1.length + (n0.length + n1.length) ≤ 1048576 → Calls Try.prog 31 #[.agg (T6 c0 c1 l0 l1 w0 w1)] W (TcQ L0 L1 Z0 Z1 N0 N1 W)) := hM
  have HI : Hid (∀ (W : World) (c0 c1 w0 w1 : Value), Rk W c0 c1 w0 w1 z0 z1 n0 n1 → (z0.length : Int) + z1.length + (n0.length + n1.length) ≤ 1048576 → Calls Try.prog 21 #[.agg (T6 c0 c1 l0 l1 w0 w1)] W (TcR L0 L1 Z0 Z1 N0 N1 W)) := hI
  have HZZ : Hid ((z0.length : Int) + z1.length + (n0.length + n1.length) ≤ 1048576 → Z0.length ≤ 1048577 ∧ Z1.length ≤ 1048577 ∧ N0.length ≤ 1048577 ∧ N1.length ≤ 1048577) := hZ
  obtain ⟨a0, p0, hv0, -⟩ := h.r0
  obtain ⟨a1, p1, hv1, -⟩ := h.r1
  obtain ⟨a2, p2, hv2, -⟩ := h.r2
  obtain ⟨a3, p3, hv3, -⟩ := h.r3
  subst hv0 hv1 hv2 hv3
  have B_W0 : Hid (Below w.heap.size w W0) := hb0
  clear h hM hI hZ hb0
  have x0 := P_W0.out.cell 0
  have x1 := P_W0.out.cell 1
  have x2 := P_W0.out.cell 2
  have x3 := P_W0.out.cell 3
  have x4 := P_W0.out.cell 4
  have x5 := P_W0.out.cell 5
  have xl := P_W0.out.lt
  simp at x0 x1 x2 x3 x4 x5
  go_enter Try.func9, Try.ntmps9
  go_wp2_with (fail)
  clear hW0
  refine (szTrunk_c _ _ _ _ l0 l1 z0 z1 n0 n1 W0 (HR.out.below B_W0.out)).mono ?_
  rintro e w1 ⟨z, rfl, hz, b1⟩
  have HZ : Hid (0 ≤ z → (z0.length : Int) + z1.length + (n0.length + n1.length) ≤ 1048576) := hz
  clear hz x0 x1 x2 x3 x4 x5 xl
  have P_w1 : Hid (Blk w1 w.heap.size (T6 (.slice a0 z0.length p0) (.slice a1 z1.length p1) l0 l1 (.slice a2 n0.length p2) (.slice a3 n1.length p3)) 45) := P_W0.out.below b1 P_W0.out.lt
  have B_w1 : Hid (Below w.heap.size w w1) := belowCall B_W0.out b1 B_W0.out.size
  clear P_W0 B_W0
  clear b1
  by_cases hneg : z < 0
  · go_wp2
    go_ret
    exact ⟨rfl, B_w1.out⟩
  have HL : Hid ((z0.length : Int) + z1.length + (n0.length + n1.length) ≤ 1048576) := HZ.out (by omega)
  have HQ : Hid (Z0.length ≤ 1048577 ∧ Z1.length ≤ 1048577 ∧ N0.length ≤ 1048577 ∧ N1.length ≤ 1048577) := HZZ.out HL.out
  clear HZ HZZ
  obtain ⟨Q0, hQ0⟩ : ∃ q, Z0.length = q := ⟨_, rfl⟩
  have HQ0 : Hid (Z0.length = Q0) := hQ0
  clear hQ0
  obtain ⟨Q1, hQ1⟩ : ∃ q, Z1.length = q := ⟨_, rfl⟩
  have HQ1 : Hid (Z1.length = Q1) := hQ1
  clear hQ1
  obtain ⟨Q2, hQ2⟩ : ∃ q, N0.length = q := ⟨_, rfl⟩
  have HQ2 : Hid (N0.length = Q2) := hQ2
  clear hQ2
  obtain ⟨Q3, hQ3⟩ : ∃ q, N1.length = q := ⟨_, rfl⟩
  have HQ3 : Hid (N1.length = Q3) := hQ3
  clear hQ3
  have x0 := P_w1.out.cell 0
  have x1 := P_w1.out.cell 1
  have x2 := P_w1.out.cell 2
  have x3 := P_w1.out.cell 3
  have x4 := P_w1.out.cell 4
  have x5 := P_w1.out.cell 5
  have xl := P_w1.out.lt
  simp at x0 x1 x2 x3 x4 x5
  go_wp2_with (fail)
  refine (toTrunk_c _ _ _ _ l0 l1 z0 z1 n0 n1 w1 (HR.out.below B_w1.out) HL.out).mono ?_
  rintro e w2 ⟨u0, u1, u2, u3, rfl, oo, bb⟩
  clear x0 x1 x2 x3 x4 x5 xl
  have oo_w2 : Hid (Rk w2 u0 u1 u2 u3 z0 z1 n0 n1) := oo.rd
  clear oo
  have P_w2 : Hid (Blk w2 w.heap.size (T6 (.slice a0 z0.length p0) (.slice a1 z1.length p1) l0 l1 (.slice a2 n0.length p2) (.slice a3 n1.length p3)) 45) := P_w1.out.below bb P_w1.out.lt
  have B_w2 : Hid (Below w.heap.size w w2) := belowCall B_w1.out bb B_w1.out.size
  clear P_w1 B_w1
  clear bb
  go_wp2_with (fail)
  refine (HM.out w2 _ _ _ _ oo_w2.out HL.out).mono ?_
  rintro e w3 ⟨v0, v1, v2, v3, rfl, oo, bb⟩
  clear oo_w2
  obtain ⟨Ae0, Af0, hf, -⟩ := oo.rk.r0
  rw [HQ0.out] at hf
  subst hf
  obtain ⟨Ae1, Af1, hf, -⟩ := oo.rk.r1
  rw [HQ1.out] at hf
  subst hf
  obtain ⟨Ae2, Af2, hf, -⟩ := oo.rk.r2
  rw [HQ2.out] at hf
  subst hf
  obtain ⟨Ae3, Af3, hf, -⟩ := oo.rk.r3
  rw [HQ3.out] at hf
  subst hf
  obtain ⟨bA, hbA⟩ : ∃ k, w2.heap.size = k := ⟨_, rfl⟩
  obtain ⟨gA, hgA⟩ : ∃ k, w3.heap.size = k := ⟨_, rfl⟩
  obtain ⟨WA, hWA⟩ : ∃ W, w3.alloc (Obj.cells (T6 (.slice Ae0 Q0 Af0) (.slice Ae1 Q1 Af1) L0 L1 (.slice Ae2 Q2 Af2) (.slice Ae3 Q3 Af3)) 33) = W := ⟨_, rfl⟩
  have al : Below w3.heap.size w3 WA := by rw [← hWA]; exact (Below.refl _ _).alloc (Nat.le_refl _) _
  have bal : Below w2.heap.size w2 WA := belowCall bb al bb.size
  have A_WA : Hid (Rb bA gA WA (.slice Ae0 Q0 Af0) (.slice Ae1 Q1 Af1) (.slice Ae2 Q2 Af2) (.slice Ae3 Q3 Af3) Z0 Z1 N0 N1) := by rw [← hgA, ← hbA]; exact oo.below al
  have gA_WA : Hid (Blk WA gA (T6 (.slice Ae0 Q0 Af0) (.slice Ae1 Q1 Af1) L0 L1 (.slice Ae2 Q2 Af2) (.slice Ae3 Q3 Af3)) 33) := by rw [← hWA, ← hgA]; exact Blk.new _ _ _
  have NA : Hid (w.heap.size < bA ∧ bA ≤ gA ∧ gA < WA.heap.size) := ⟨by rw [← hbA]; exact P_w2.out.lt, by rw [← hbA, ← hgA]; exact bb.size, gA_WA.out.lt⟩
  clear oo bb al
  have P_WA : Hid (Blk WA w.heap.size (T6 (.slice a0 z0.length p0) (.slice a1 z1.length p1) l0 l1 (.slice a2 n0.length p2) (.slice a3 n1.length p3)) 45) := P_w2.out.below bal P_w2.out.lt
  have B_WA : Hid (Below w.heap.size w WA) := belowCall B_w2.out bal B_w2.out.size
  clear P_w2 B_w2
  clear bal
  have x0 := P_WA.out.cell 0
  have x1 := P_WA.out.cell 1
  have x2 := P_WA.out.cell 2
  have x3 := P_WA.out.cell 3
  have x4 := P_WA.out.cell 4
  have x5 := P_WA.out.cell 5
  have xl := P_WA.out.lt
  simp at x0 x1 x2 x3 x4 x5
  go_wp2_with (fail)
  try rw [hgA]
  clear hgA hWA hbA
  refine (toTrunk_c _ _ _ _ l0 l1 z0 z1 n0 n1 WA (HR.out.below B_WA.out) HL.out).mono ?_
  rintro e w4 ⟨s0, s1, s2, s3, rfl, oo, bb⟩
  clear x0 x1 x2 x3 x4 x5 xl
  obtain ⟨Xe0, Xf0, hf, -⟩ := own_form oo.o0
  subst hf
  obtain ⟨Xe1, Xf1, hf, -⟩ := own_form oo.o1
  subst hf
  obtain ⟨Xe2, Xf2, hf, -⟩ := own_form oo.o2
  subst hf
  obtain ⟨Xe3, Xf3, hf, -⟩ := own_form oo.o3
  subst hf
  obtain ⟨bX, hbX⟩ : ∃ k, WA.heap.size = k := ⟨_, rfl⟩
  obtain ⟨gX, hgX⟩ : ∃ k, w4.heap.size = k := ⟨_, rfl⟩
  obtain ⟨WX, hWX⟩ : ∃ W, w4.alloc (Obj.cells (T6 (.slice Xe0 z0.length Xf0) (.slice Xe1 z1.length Xf1) l0 l1 (.slice Xe2 n0.length Xf2) (.slice Xe3 n1.length Xf3)) 33) = W := ⟨_, rfl⟩
  have al : Below w4.heap.size w4 WX := by rw [← hWX]; exact (Below.refl _ _).alloc (Nat.le_refl _) _
  have bal : Below WA.heap.size WA WX := belowCall bb al bb.size
  have X_WX : Hid (Ok6 bX gX WX (.slice Xe0 z0.length Xf0) (.slice Xe1 z1.length Xf1) (.slice Xe2 n0.length Xf2) (.slice Xe3 n1.length Xf3) z0 z1 n0 n1) := by rw [← hgX, ← hbX]; exact oo.below al
  have gX_WX : Hid (Blk WX gX (T6 (.slice Xe0 z0.length Xf0) (.slice Xe1 z1.length Xf1) l0 l1 (.slice Xe2 n0.length Xf2) (.slice Xe3 n1.length Xf3)) 33) := by rw [← hWX, ← hgX]; exact Blk.new _ _ _
  have NX : Hid (gA < bX ∧ bX ≤ gX ∧ gX < WX.heap.size) := ⟨by rw [← hbX]; exact gA_WA.out.lt, by rw [← hbX, ← hgX]; exact bb.size, gX_WX.out.lt⟩
  clear oo bb al
  have P_WX : Hid (Blk WX w.heap.size (T6 (.slice a0 z0.length p0) (.slice a1 z1.length p1) l0 l1 (.slice a2 n0.length p2) (.slice a3 n1.length p3)) 45) := P_WA.out.below bal P_WA.out.lt
  have B_WX : Hid (Below w.heap.size w WX) := belowCall B_WA.out bal B_WA.out.size
  have A_WX : Hid (Rb bA gA WX (.slice Ae0 Q0 Af0) (.slice Ae1 Q1 Af1) (.slice Ae2 Q2 Af2) (.slice Ae3 Q3 Af3) Z0 Z1 N0 N1) := A_WA.out.below bal
  have gA_WX : Hid (Blk WX gA (T6 (.slice Ae0 Q0 Af0) (.slice Ae1 Q1 Af1) L0 L1 (.slice Ae2 Q2 Af2) (.slice Ae3 Q3 Af3)) 33) := gA_WA.out.below bal gA_WA.out.lt
  clear P_WA B_WA A_WA gA_WA
  clear bal
  have y0 := gX_WX.out.cell 0
  have y1 := gX_WX.out.cell 1
  have y2 := gX_WX.out.cell 2
  have y3 := gX_WX.out.cell 3
  have y4 := gX_WX.out.cell 4
  have y5 := gX_WX.out.cell 5
  have yl := gX_WX.out.lt
  simp at y0 y1 y2 y3 y4 y5
  go_wp2_with (fail)
  try rw [hgX]
  clear hgX hWX hbX
  refine (HI.out WX _ _ _ _ X_WX.out.rd HL.out).mono ?_
  rintro e w5 ⟨v0, v1, v2, v3, rfl, oo, bb⟩
  clear y0 y1 y2 y3 y4 y5 yl
  obtain ⟨Be0, Bf0, hf, -⟩ := own_form oo.o0
  rw [HQ0.out] at hf
  subst hf
  obtain ⟨Be1, Bf1, hf, -⟩ := own_form oo.o1
  rw [HQ1.out] at hf
  subst hf
  obtain ⟨Be2, Bf2, hf, -⟩ := own_form oo.o2
  rw [HQ2.out] at hf
  subst hf
  obtain ⟨Be3, Bf3, hf, -⟩ := own_form oo.o3
  rw [HQ3.out] at hf
  subst hf
  obtain ⟨bB2, hbB2⟩ : ∃ k, WX.heap.size = k := ⟨_, rfl⟩
  obtain ⟨gB, hgB⟩ : ∃ k, w5.heap.size = k := ⟨_, rfl⟩
  obtain ⟨WB, hWB⟩ : ∃ W, w5.alloc (Obj.cells (T6 (.slice Be0 Q0 Bf0) (.slice Be1 Q1 Bf1) L0 L1 (.slice Be2 Q2 Bf2) (.slice Be3 Q3 Bf3)) 33) = W := ⟨_, rfl⟩
  have al : Below w5.heap.size w5 WB := by rw [← hWB]; exact (Below.refl _ _).alloc (Nat.le_refl _) _
  have bal : Below WX.heap.size WX WB := belowCall bb al bb.size
  have B2_WB : Hid (Ok6 bB2 gB WB (.slice Be0 Q0 Bf0) (.slice Be1 Q1 Bf1) (.slice Be2 Q2 Bf2) (.slice Be3 Q3 Bf3) Z0 Z1 N0 N1) := by rw [← hgB, ← hbB2]; exact oo.below al
  have gB2_WB : Hid (Blk WB gB (T6 (.slice Be0 Q0 Bf0) (.slice Be1 Q1 Bf1) L0 L1 (.slice Be2 Q2 Bf2) (.slice Be3 Q3 Bf3)) 33) := by rw [← hWB, ← hgB]; exact Blk.new _ _ _
  have NB2 : Hid (gX < bB2 ∧ bB2 ≤ gB ∧ gB < WB.heap.size) := ⟨by rw [← hbB2]; exact gX_WX.out.lt, by rw [← hbB2, ← hgB]; exact bb.size, gB2_WB.out.lt⟩
  clear oo bb al
  have P_WB : Hid (Blk WB w.heap.size (T6 (.slice a0 z0.length p0) (.slice a1 z1.length p1) l0 l1 (.slice a2 n0.length p2) (.slice a3 n1.length p3)) 45) := P_WX.out.below bal P_WX.out.lt
  have B_WB : Hid (Below w.heap.size w WB) := belowCall B_WX.out bal B_WX.out.size
  have A_WB : Hid (Rb bA gA WB (.slice Ae0 Q0 Af0) (.slice Ae1 Q1 Af1) (.slice Ae2 Q2 Af2) (.slice Ae3 Q3 Af3) Z0 Z1 N0 N1) := A_WX.out.below bal
  have gA_WB : Hid (Blk WB gA (T6 (.slice Ae0 Q0 Af0) (.slice Ae1 Q1 Af1) L0 L1 (.slice Ae2 Q2 Af2) (.slice Ae3 Q3 Af3)) 33) := gA_WX.out.below bal gA_WX.out.lt
  have X_WB : Hid (Ok6 bX gX WB (.slice Xe0 z0.length Xf0) (.slice Xe1 z1.length Xf1) (.slice Xe2 n0.length Xf2) (.slice Xe3 n1.length Xf3) z0 z1 n0 n1) := X_WX.out.below bal
  have gX_WB : Hid (Blk WB gX (T6 (.slice Xe0 z0.length Xf0) (.slice Xe1 z1.length Xf1) l0 l1 (.slice Xe2 n0.length Xf2) (.slice Xe3 n1.length Xf3)) 33) := gX_WX.out.below bal gX_WX.out.lt
  clear P_WX B_WX A_WX gA_WX X_WX gX_WX
  clear bal
  have x0 := gB2_WB.out.cell 0
  have x1 := gB2_WB.out.cell 1
  have x2 := gB2_WB.out.cell 2
  have x3 := gB2_WB.out.cell 3
  have x4 := gB2_WB.out.cell 4
  have x5 := gB2_WB.out.cell 5
  have xl := gB2_WB.out.lt
  simp at x0 x1 x2 x3 x4 x5
  have y0 := gA_WB.out.cell 0
  have y1 := gA_WB.out.cell 1
  have y2 := gA_WB.out.cell 2
  have y3 := gA_WB.out.cell 3
  have y4 := gA_WB.out.cell 4
  have y5 := gA_WB.out.cell 5
  have yl := gA_WB.out.lt
  simp at y0 y1 y2 y3 y4 y5
  go_wp2_with (fail)
  clear hgB hWB hbB2
  refine (eqTrunk_t _ _ _ _ _ _ _ _ L0 L1 Z0 Z1 N0 N1 WB B2_WB.out.rd A_WB.out.rk).mono ?_
  rintro e w6 ⟨rfl, bb⟩
  clear x0 x1 x2 x3 x4 x5 xl y0 y1 y2 y3 y4 y5 yl
  have P_w6 : Hid (Blk w6 w.heap.size (T6 (.slice a0 z0.length p0) (.slice a1 z1.length p1) l0 l1 (.slice a2 n0.length p2) (.slice a3 n1.length p3)) 45) := P_WB.out.below bb P_WB.out.lt
  have B_w6 : Hid (Below w.heap.size w w6) := belowCall B_WB.out bb B_WB.out.size
  have A_w6 : Hid (Rb bA gA w6 (.slice Ae0 Q0 Af0) (.slice Ae1 Q1 Af1) (.slice Ae2 Q2 Af2) (.slice Ae3 Q3 Af3) Z0 Z1 N0 N1) := A_WB.out.below bb
  have gA_w6 : Hid (Blk w6 gA (T6 (.slice Ae0 Q0 Af0) (.slice Ae1 Q1 Af1) L0 L1 (.slice Ae2 Q2 Af2) (.slice Ae3 Q3 Af3)) 33) := gA_WB.out.below bb gA_WB.out.lt
  have X_w6 : Hid (Ok6 bX gX w6 (.slice Xe0 z0.length Xf0) (.slice Xe1 z1.length Xf1) (.slice Xe2 n0.length Xf2) (.slice Xe3 n1.length Xf3) z0 z1 n0 n1) := X_WB.out.below bb
  have gX_w6 : Hid (Blk w6 gX (T6 (.slice Xe0 z0.length Xf0) (.slice Xe1 z1.length Xf1) l0 l1 (.slice Xe2 n0.length Xf2) (.slice Xe3 n1.length Xf3)) 33) := gX_WB.out.below bb gX_WB.out.lt
  have B2_w6 : Hid (Ok6 bB2 gB w6 (.slice Be0 Q0 Bf0) (.slice Be1 Q1 Bf1) (.slice Be2 Q2 Bf2) (.slice Be3 Q3 Bf3) Z0 Z1 N0 N1) := B2_WB.out.below bb
  have gB2_w6 : Hid (Blk w6 gB (T6 (.slice Be0 Q0 Bf0) (.slice Be1 Q1 Bf1) L0 L1 (.slice Be2 Q2 Bf2) (.slice Be3 Q3 Bf3)) 33) := gB2_WB.out.below bb gB2_WB.out.lt
  clear P_WB B_WB A_WB gA_WB X_WB gX_WB B2_WB gB2_WB
  clear bb
  obtain ⟨S, hS⟩ : ∃ S : World → Prop, ∀ W, S W ↔ Below w6.heap.size w6 W := ⟨_, fun _ => Iff.rfl⟩
  have zc0 : ∀ W : At S, W.wd.cell? ⟨w.heap.size, 0, none⟩ = some (.slice a0 z0.length p0) := fun W => by rw [(P_w6.out.below ((hS _).1 W.ok) P_w6.out.lt).cell 0]; rfl
  have zx0 : ∀ W : At S, W.wd.cell? ⟨gX, 0, none⟩ = some (.slice Xe0 z0.length Xf0) := fun W => by rw [(gX_w6.out.below ((hS _).1 W.ok) gX_w6.out.lt).cell 0]; rfl
  have zc1 : ∀ W : At S, W.wd.cell? ⟨w.heap.size, 1, none⟩ = some (.slice a1 z1.length p1) := fun W => by rw [(P_w6.out.below ((hS _).1 W.ok) P_w6.out.lt).cell 1]; rfl
  have zx1 : ∀ W : At S, W.wd.cell? ⟨gX, 1, none⟩ = some (.slice Xe1 z1.length Xf1) := fun W => by rw [(gX_w6.out.below ((hS _).1 W.ok) gX_w6.out.lt).cell 1]; rfl
  have zc2 : ∀ W : At S, W.wd.cell? ⟨w.heap.size, 2, none⟩ = some (.int .i64 l0) := fun W => by rw [(P_w6.out.below ((hS _).1 W.ok) P_w6.out.lt).cell 2]; rfl
  have zx2 : ∀ W : At S, W.wd.cell? ⟨gX, 2, none⟩ = some (.int .i64 l0) := fun W => by rw [(gX_w6.out.below ((hS _).1 W.ok) gX_w6.out.lt).cell 2]; rfl
  have zc3 : ∀ W : At S, W.wd.cell? ⟨w.heap.size, 3, none⟩ = some (.int .i64 l1) := fun W => by rw [(P_w6.out.below ((hS _).1 W.ok) P_w6.out.lt).cell 3]; rfl
  have zx3 : ∀ W : At S, W.wd.cell? ⟨gX, 3, none⟩ = some (.int .i64 l1) := fun W => by rw [(gX_w6.out.below ((hS _).1 W.ok) gX_w6.out.lt).cell 3]; rfl
  have zc4 : ∀ W : At S, W.wd.cell? ⟨w.heap.size, 4, none⟩ = some (.slice a2 n0.length p2) := fun W => by rw [(P_w6.out.below ((hS _).1 W.ok) P_w6.out.lt).cell 4]; rfl
  have zx4 : ∀ W : At S, W.wd.cell? ⟨gX, 4, none⟩ = some (.slice Xe2 n0.length Xf2) := fun W => by rw [(gX_w6.out.below ((hS _).1 W.ok) gX_w6.out.lt).cell 4]; rfl
  have zc5 : ∀ W : At S, W.wd.cell? ⟨w.heap.size, 5, none⟩ = some (.slice a3 n1.length p3) := fun W => by rw [(P_w6.out.below ((hS _).1 W.ok) P_w6.out.lt).cell 5]; rfl
  have zx5 : ∀ W : At S, W.wd.cell? ⟨gX, 5, none⟩ = some (.slice Xe3 n1.length Xf3) := fun W => by rw [(gX_w6.out.below ((hS _).1 W.ok) gX_w6.out.lt).cell 5]; rfl
  have HS : Hid (∀ W, S W ↔ Below w6.heap.size w6 W) := hS
  have ne : Nonempty (At S) := ⟨⟨w6, (hS _).2 (Below.refl _ _)⟩⟩
  clear hS
  go_wp2
  refine region_mixA [true, true, false, false, false] 5 3 S (by kernel_rfl) rfl (by kernel_rfl) (fun _ _ _ _ _ h => h) ((HS.out _).2 (Below.refl _ _).drew) ?_
  simp only [selT, selF]
  repeat (go_big_quiet_step (fail))
  refine wpQuiet_nil ?_
  refine tail_step ?_
  go_wp2_with (fail)
  refine (toTrunk_c _ _ _ _ l0 l1 z0 z1 n0 n1 w6.drew (HR.out.below B_w6.out.drew) HL.out).mono ?_
  rintro e w7 ⟨u0, u1, y0, y1, rfl, o7, b7⟩
  have B7 : Below w6.heap.size w6 w7 := (Below.refl _ _).drew.trans b7
  have HB7 : Hid (Below w6.heap.size w6 w7) := B7
  have HO7 : Hid (Rk w7 u0 u1 y0 y1 z0 z1 n0 n1 ∧ Rk w7 (.slice Xe0 z0.length Xf0) (.slice Xe1 z1.length Xf1) (.slice Xe2 n0.length Xf2) (.slice Xe3 n1.length Xf3) z0 z1 n0 n1) := ⟨o7.rd, X_w6.out.rd.below B7⟩
  clear o7 b7 B7
  go_wp2
  refine ⟨(HS.out _).2 HB7.out, tail_step ?_⟩
  go_wp2_with (fail)
  refine (eqTrunk_t _ _ _ _ _ _ _ _ l0 l1 z0 z1 n0 n1 w7 HO7.out.2 HO7.out.1).mono ?_
  rintro e w8 ⟨rfl, b8⟩
  have HB8 : Hid (Below w6.heap.size w6 w8) := belowCall HB7.out b8 HB7.out.size
  clear b8
  go_wp2
  refine ⟨(HS.out _).2 HB8.out, tail_step ?_⟩
  go_wp2
  refine ⟨(HS.out _).2 HB8.out, tail_end ?_⟩
  have bb := HB8.out
  have P_w8 : Hid (Blk w8 w.heap.size (T6 (.slice a0 z0.length p0) (.slice a1 z1.length p1) l0 l1 (.slice a2 n0.length p2) (.slice a3 n1.length p3)) 45) := P_w6.out.below bb P_w6.out.lt
  have B_w8 : Hid (Below w.heap.size w w8) := belowCall B_w6.out bb B_w6.out.size
  have A_w8 : Hid (Rb bA gA w8 (.slice Ae0 Q0 Af0) (.slice Ae1 Q1 Af1) (.slice Ae2 Q2 Af2) (.slice Ae3 Q3 Af3) Z0 Z1 N0 N1) := A_w6.out.below bb
  have gA_w8 : Hid (Blk w8 gA (T6 (.slice Ae0 Q0 Af0) (.slice Ae1 Q1 Af1) L0 L1 (.slice Ae2 Q2 Af2) (.slice Ae3 Q3 Af3)) 33) := gA_w6.out.below bb gA_w6.out.lt
  have X_w8 : Hid (Ok6 bX gX w8 (.slice Xe0 z0.length Xf0) (.slice Xe1 z1.length Xf1) (.slice Xe2 n0.length Xf2) (.slice Xe3 n1.length Xf3) z0 z1 n0 n1) := X_w6.out.below bb
  have gX_w8 : Hid (Blk w8 gX (T6 (.slice Xe0 z0.length Xf0) (.slice Xe1 z1.length Xf1) l0 l1 (.slice Xe2 n0.length Xf2) (.slice Xe3 n1.length Xf3)) 33) := gX_w6.out.below bb gX_w6.out.lt
  have B2_w8 : Hid (Ok6 bB2 gB w8 (.slice Be0 Q0 Bf0) (.slice Be1 Q1 Bf1) (.slice Be2 Q2 Bf2) (.slice Be3 Q3 Bf3) Z0 Z1 N0 N1) := B2_w6.out.below bb
  have gB2_w8 : Hid (Blk w8 gB (T6 (.slice Be0 Q0 Bf0) (.slice Be1 Q1 Bf1) L0 L1 (.slice Be2 Q2 Bf2) (.slice Be3 Q3 Bf3)) 33) := gB2_w6.out.below bb gB2_w6.out.lt
  clear P_w6 B_w6 A_w6 gA_w6 X_w6 gX_w6 B2_w6 gB2_w6
  clear bb HB8 HB7 HO7 HS ne zc0 zx0 zc1 zx1 zc2 zx2 zc3 zx3 zc4 zx4 zc5 zx5
  have y0 := gX_w8.out.cell 0
  have y1 := gX_w8.out.cell 1
  have y2 := gX_w8.out.cell 2
  have y3 := gX_w8.out.cell 3
  have y4 := gX_w8.out.cell 4
  have y5 := gX_w8.out.cell 5
  have yl := gX_w8.out.lt
  simp at y0 y1 y2 y3 y4 y5
  go_wp2_with (fail)
  refine (markTrunk_c bX gX _ _ _ _ l0 l1 z0 z1 n0 n1 1 w8 X_w8.out (by decide) (by have := HL.out; unfold qe; omega)).mono ?_
  rintro e w9 ⟨rfl, om, fm⟩
  obtain ⟨kq, hkq⟩ : ∃ k, qe 1 z0.length z1.length n0.length n1.length = k := ⟨_, rfl⟩
  have hk0 : (kq < 0) = False := eq_false (by rw [← hkq]; unfold qe; omega)
  rw [hkq]
  clear hkq om y0 y1 y2 y3 y4 y5 yl
  have P_w9 : Hid (Blk w9 w.heap.size (T6 (.slice a0 z0.length p0) (.slice a1 z1.length p1) l0 l1 (.slice a2 n0.length p2) (.slice a3 n1.length p3)) 45) := P_w8.out.fr fm (fun e => by have := NA.out; have := NX.out; omega)
  have B_w9 : Hid (Below w.heap.size w w9) := B_w8.out.trans (fm.below B_w8.out.size (fun k e => by have := NA.out; have := NX.out; omega))
  have A_w9 : Hid (Rb bA gA w9 (.slice Ae0 Q0 Af0) (.slice Ae1 Q1 Af1) (.slice Ae2 Q2 Af2) (.slice Ae3 Q3 Af3) Z0 Z1 N0 N1) := A_w8.out.fr (Nat.le_of_lt gA_w8.out.lt) fm (fun k hk e => by have h1 := A_w8.out.ge k hk; have := NX.out; omega)
  have gA_w9 : Hid (Blk w9 gA (T6 (.slice Ae0 Q0 Af0) (.slice Ae1 Q1 Af1) L0 L1 (.slice Ae2 Q2 Af2) (.slice Ae3 Q3 Af3)) 33) := gA_w8.out.fr fm (fun e => by have := NX.out; omega)
  have B2_w9 : Hid (Ok6 bB2 gB w9 (.slice Be0 Q0 Bf0) (.slice Be1 Q1 Bf1) (.slice Be2 Q2 Bf2) (.slice Be3 Q3 Bf3) Z0 Z1 N0 N1) := B2_w8.out.fr fm (fun k hk e => by have h1 := B2_w8.out.ge k hk; have := NB2.out; omega)
  have gB2_w9 : Hid (Blk w9 gB (T6 (.slice Be0 Q0 Bf0) (.slice Be1 Q1 Bf1) L0 L1 (.slice Be2 Q2 Bf2) (.slice Be3 Q3 Bf3)) 33) := gB2_w8.out.fr fm (fun e => by have := NB2.out; omega)
  clear P_w8 B_w8 A_w8 gA_w8 X_w8 gX_w8 B2_w8 gB2_w8
  clear fm
  have x0 := gB2_w9.out.cell 0
  have x1 := gB2_w9.out.cell 1
  have x2 := gB2_w9.out.cell 2
  have x3 := gB2_w9.out.cell 3
  have x4 := gB2_w9.out.cell 4
  have x5 := gB2_w9.out.cell 5
  have xl := gB2_w9.out.lt
  simp at x0 x1 x2 x3 x4 x5
  have y0 := gA_w9.out.cell 0
  have y1 := gA_w9.out.cell 1
  have y2 := gA_w9.out.cell 2
  have y3 := gA_w9.out.cell 3
  have y4 := gA_w9.out.cell 4
  have y5 := gA_w9.out.cell 5
  have yl := gA_w9.out.lt
  simp at y0 y1 y2 y3 y4 y5
  go_wp2_with (fail)
  refine (eqTrunk_t _ _ _ _ _ _ _ _ L0 L1 Z0 Z1 N0 N1 w9 B2_w9.out.rd A_w9.out.rk).mono ?_
  rintro e w10 ⟨rfl, bb⟩
  clear x0 x1 x2 x3 x4 x5 xl y0 y1 y2 y3 y4 y5 yl
  have P_w10 : Hid (Blk w10 w.heap.size (T6 (.slice a0 z0.length p0) (.slice a1 z1.length p1) l0 l1 (.slice a2 n0.length p2) (.slice a3 n1.length p3)) 45) := P_w9.out.below bb P_w9.out.lt
  have B_w10 : Hid (Below w.heap.size w w10) := belowCall B_w9.out bb B_w9.out.size
  have A_w10 : Hid (Rb bA gA w10 (.slice Ae0 Q0 Af0) (.slice Ae1 Q1 Af1) (.slice Ae2 Q2 Af2) (.slice Ae3 Q3 Af3) Z0 Z1 N0 N1) := A_w9.out.below bb
  have gA_w10 : Hid (Blk w10 gA (T6 (.slice Ae0 Q0 Af0) (.slice Ae1 Q1 Af1) L0 L1 (.slice Ae2 Q2 Af2) (.slice Ae3 Q3 Af3)) 33) := gA_w9.out.below bb gA_w9.out.lt
  have B2_w10 : Hid (Ok6 bB2 gB w10 (.slice Be0 Q0 Bf0) (.slice Be1 Q1 Bf1) (.slice Be2 Q2 Bf2) (.slice Be3 Q3 Bf3) Z0 Z1 N0 N1) := B2_w9.out.below bb
  have gB2_w10 : Hid (Blk w10 gB (T6 (.slice Be0 Q0 Bf0) (.slice Be1 Q1 Bf1) L0 L1 (.slice Be2 Q2 Bf2) (.slice Be3 Q3 Bf3)) 33) := gB2_w9.out.below bb gB2_w9.out.lt
  clear P_w9 B_w9 A_w9 gA_w9 B2_w9 gB2_w9
  clear bb
  have y0 := gB2_w10.out.cell 0
  have y1 := gB2_w10.out.cell 1
  have y2 := gB2_w10.out.cell 2
  have y3 := gB2_w10.out.cell 3
  have y4 := gB2_w10.out.cell 4
  have y5 := gB2_w10.out.cell 5
  have yl := gB2_w10.out.lt
  simp at y0 y1 y2 y3 y4 y5
  have HQB : Hid (qe 1 Q0 Q1 Q2 Q3 ≤ 1048576000 ∧ 0 ≤ qe 1 Q0 Q1 Q2 Q3) := by have h := HQ.out; have h0 := HQ0.out; have h1 := HQ1.out; have h2 := HQ2.out; have h3 := HQ3.out; unfold qe; constructor <;> omega
  obtain ⟨mq, hmq⟩ : ∃ k, qe 1 Q0 Q1 Q2 Q3 = k := ⟨_, rfl⟩
  have HMQ : Hid (qe 1 Q0 Q1 Q2 Q3 = mq) := hmq
  have HMK : Hid (Calls Try.prog 29 #[.agg (T6 (.slice Be0 Q0 Bf0) (.slice Be1 Q1 Bf1) L0 L1 (.slice Be2 Q2 Bf2) (.slice Be3 Q3 Bf3)), .int .i64 1] w10 fun e w' => e = .returned (.int .i64 mq) ∧ Ok6 bB2 gB w' (.slice Be0 Q0 Bf0) (.slice Be1 Q1 Bf1) (.slice Be2 Q2 Bf2) (.slice Be3 Q3 Bf3) (marks .i64 1 Q0) (marks .i64 (1 + Q0) Q1) (mkM (1 + Q0 + Q1) Q2) (mkM (1 + Q0 + Q1 + 2 * Q2) Q3) ∧ Fr (fun k => bB2 ≤ k ∧ k < gB) w10 w') := by
    have := markTrunk_c bB2 gB _ _ _ _ L0 L1 Z0 Z1 N0 N1 1 w10 B2_w10.out (by decide) (by rw [HQ0.out, HQ1.out, HQ2.out, HQ3.out]; exact HQB.out.1)
    rw [HQ0.out, HQ1.out, HQ2.out, HQ3.out, hmq] at this
    exact this
  have HHE : Hid (∀ W, Rk W (.slice Be0 Q0 Bf0) (.slice Be1 Q1 Bf1) (.slice Be2 Q2 Bf2) (.slice Be3 Q3 Bf3) (marks .i64 1 Q0) (marks .i64 (1 + Q0) Q1) (mkM (1 + Q0 + Q1) Q2) (mkM (1 + Q0 + Q1 + 2 * Q2) Q3) → Calls Try.prog 30 #[.agg (T6 (.slice Be0 Q0 Bf0) (.slice Be1 Q1 Bf1) L0 L1 (.slice Be2 Q2 Bf2) (.slice Be3 Q3 Bf3)), .int .i64 1] W fun e w' => e = .returned (.int .i64 mq) ∧ Below W.heap.size W w') := by
    intro W hW
    have := heldTrunk_c _ _ _ _ L0 L1 Q0 Q1 Q2 Q3 1 W hW (by decide) HQB.out.1
    rw [hmq] at this
    exact this
  have hm0 : (mq < 0) = False := eq_false (by have := HQB.out.2; omega)
  have hmm : (mq != mq) = false := by simp
  clear hmq
  go_wp2_with (fail)
  refine HMK.out.mono ?_
  rintro e w11 ⟨rfl, om, fm⟩
  have M_w11 : Hid (Rk w11 (.slice Be0 Q0 Bf0) (.slice Be1 Q1 Bf1) (.slice Be2 Q2 Bf2) (.slice Be3 Q3 Bf3) (marks .i64 1 Q0) (marks .i64 (1 + Q0) Q1) (mkM (1 + Q0 + Q1) Q2) (mkM (1 + Q0 + Q1 + 2 * Q2) Q3)) := om.rd
  clear om HMK y0 y1 y2 y3 y4 y5 yl
  have P_w11 : Hid (Blk w11 w.heap.size (T6 (.slice a0 z0.length p0) (.slice a1 z1.length p1) l0 l1 (.slice a2 n0.length p2) (.slice a3 n1.length p3)) 45) := P_w10.out.fr fm (fun e => by have := NA.out; have := NX.out; have := NB2.out; omega)
  have B_w11 : Hid (Below w.heap.size w w11) := B_w10.out.trans (fm.below B_w10.out.size (fun k e => by have := NA.out; have := NX.out; have := NB2.out; omega))
  have A_w11 : Hid (Rb bA gA w11 (.slice Ae0 Q0 Af0) (.slice Ae1 Q1 Af1) (.slice Ae2 Q2 Af2) (.slice Ae3 Q3 Af3) Z0 Z1 N0 N1) := A_w10.out.fr (Nat.le_of_lt gA_w10.out.lt) fm (fun k hk e => by have h1 := A_w10.out.ge k hk; have := NX.out; have := NB2.out; omega)
  have gA_w11 : Hid (Blk w11 gA (T6 (.slice Ae0 Q0 Af0) (.slice Ae1 Q1 Af1) L0 L1 (.slice Ae2 Q2 Af2) (.slice Ae3 Q3 Af3)) 33) := gA_w10.out.fr fm (fun e => by have := NX.out; have := NB2.out; omega)
  have gB2_w11 : Hid (Blk w11 gB (T6 (.slice Be0 Q0 Bf0) (.slice Be1 Q1 Bf1) L0 L1 (.slice Be2 Q2 Bf2) (.slice Be3 Q3 Bf3)) 33) := gB2_w10.out.fr fm (fun e => by have := NB2.out; omega)
  clear P_w10 B_w10 A_w10 gA_w10 B2_w10 gB2_w10
  clear fm
  have y0 := gB2_w11.out.cell 0
  have y1 := gB2_w11.out.cell 1
  have y2 := gB2_w11.out.cell 2
  have y3 := gB2_w11.out.cell 3
  have y4 := gB2_w11.out.cell 4
  have y5 := gB2_w11.out.cell 5
  have yl := gB2_w11.out.lt
  simp at y0 y1 y2 y3 y4 y5
  go_wp2_with (fail)
  refine (HHE.out w11 M_w11.out).mono ?_
  rintro e w12 ⟨rfl, bb⟩
  clear y0 y1 y2 y3 y4 y5 yl
  have P_w12 : Hid (Blk w12 w.heap.size (T6 (.slice a0 z0.length p0) (.slice a1 z1.length p1) l0 l1 (.slice a2 n0.length p2) (.slice a3 n1.length p3)) 45) := P_w11.out.below bb P_w11.out.lt
  have B_w12 : Hid (Below w.heap.size w w12) := belowCall B_w11.out bb B_w11.out.size
  have A_w12 : Hid (Rb bA gA w12 (.slice Ae0 Q0 Af0) (.slice Ae1 Q1 Af1) (.slice Ae2 Q2 Af2) (.slice Ae3 Q3 Af3) Z0 Z1 N0 N1) := A_w11.out.below bb
  have gA_w12 : Hid (Blk w12 gA (T6 (.slice Ae0 Q0 Af0) (.slice Ae1 Q1 Af1) L0 L1 (.slice Ae2 Q2 Af2) (.slice Ae3 Q3 Af3)) 33) := gA_w11.out.below bb gA_w11.out.lt
  have gB2_w12 : Hid (Blk w12 gB (T6 (.slice Be0 Q0 Bf0) (.slice Be1 Q1 Bf1) L0 L1 (.slice Be2 Q2 Bf2) (.slice Be3 Q3 Bf3)) 33) := gB2_w11.out.below bb gB2_w11.out.lt
  have M_w12 : Hid (Rk w12 (.slice Be0 Q0 Bf0) (.slice Be1 Q1 Bf1) (.slice Be2 Q2 Bf2) (.slice Be3 Q3 Bf3) (marks .i64 1 Q0) (marks .i64 (1 + Q0) Q1) (mkM (1 + Q0 + Q1) Q2) (mkM (1 + Q0 + Q1 + 2 * Q2) Q3)) := M_w11.out.below bb
  clear P_w11 B_w11 A_w11 gA_w11 gB2_w11 M_w11
  clear bb
  have x0 := P_w12.out.cell 0
  have x1 := P_w12.out.cell 1
  have x2 := P_w12.out.cell 2
  have x3 := P_w12.out.cell 3
  have x4 := P_w12.out.cell 4
  have x5 := P_w12.out.cell 5
  have xl := P_w12.out.lt
  simp at x0 x1 x2 x3 x4 x5
  go_wp2_with (fail)
  refine (toTrunk_c _ _ _ _ l0 l1 z0 z1 n0 n1 w12 (HR.out.below B_w12.out) HL.out).mono ?_
  rintro e w13 ⟨u0, u1, u2, u3, rfl, oo, bb⟩
  clear x0 x1 x2 x3 x4 x5 xl
  have oo_w13 : Hid (Rk w13 u0 u1 u2 u3 z0 z1 n0 n1) := oo.rd
  clear oo
  have P_w13 : Hid (Blk w13 w.heap.size (T6 (.slice a0 z0.length p0) (.slice a1 z1.length p1) l0 l1 (.slice a2 n0.length p2) (.slice a3 n1.length p3)) 45) := P_w12.out.below bb P_w12.out.lt
  have B_w13 : Hid (Below w.heap.size w w13) := belowCall B_w12.out bb B_w12.out.size
  have A_w13 : Hid (Rb bA gA w13 (.slice Ae0 Q0 Af0) (.slice Ae1 Q1 Af1) (.slice Ae2 Q2 Af2) (.slice Ae3 Q3 Af3) Z0 Z1 N0 N1) := A_w12.out.below bb
  have gA_w13 : Hid (Blk w13 gA (T6 (.slice Ae0 Q0 Af0) (.slice Ae1 Q1 Af1) L0 L1 (.slice Ae2 Q2 Af2) (.slice Ae3 Q3 Af3)) 33) := gA_w12.out.below bb gA_w12.out.lt
  have gB2_w13 : Hid (Blk w13 gB (T6 (.slice Be0 Q0 Bf0) (.slice Be1 Q1 Bf1) L0 L1 (.slice Be2 Q2 Bf2) (.slice Be3 Q3 Bf3)) 33) := gB2_w12.out.below bb gB2_w12.out.lt
  have M_w13 : Hid (Rk w13 (.slice Be0 Q0 Bf0) (.slice Be1 Q1 Bf1) (.slice Be2 Q2 Bf2) (.slice Be3 Q3 Bf3) (marks .i64 1 Q0) (marks .i64 (1 + Q0) Q1) (mkM (1 + Q0 + Q1) Q2) (mkM (1 + Q0 + Q1 + 2 * Q2) Q3)) := M_w12.out.below bb
  clear P_w12 B_w12 A_w12 gA_w12 gB2_w12 M_w12
  clear bb
  go_wp2_with (fail)
  refine (HI.out w13 _ _ _ _ oo_w13.out HL.out).mono ?_
  rintro e w14 ⟨v0, v1, v2, v3, rfl, oo, bb⟩
  clear oo_w13
  obtain ⟨Ce0, Cf0, hf, -⟩ := own_form oo.o0
  rw [HQ0.out] at hf
  subst hf
  obtain ⟨Ce1, Cf1, hf, -⟩ := own_form oo.o1
  rw [HQ1.out] at hf
  subst hf
  obtain ⟨Ce2, Cf2, hf, -⟩ := own_form oo.o2
  rw [HQ2.out] at hf
  subst hf
  obtain ⟨Ce3, Cf3, hf, -⟩ := own_form oo.o3
  rw [HQ3.out] at hf
  subst hf
  obtain ⟨gC, hgC⟩ : ∃ k, w14.heap.size = k := ⟨_, rfl⟩
  obtain ⟨WC, hWC⟩ : ∃ W, w14.alloc (Obj.cells (T6 (.slice Ce0 Q0 Cf0) (.slice Ce1 Q1 Cf1) L0 L1 (.slice Ce2 Q2 Cf2) (.slice Ce3 Q3 Cf3)) 33) = W := ⟨_, rfl⟩
  have al : Below w14.heap.size w14 WC := by rw [← hWC]; exact (Below.refl _ _).alloc (Nat.le_refl _) _
  have bal : Below w13.heap.size w13 WC := belowCall bb al bb.size
  have C_WC : Hid (Ok6 w13.heap.size gC WC (.slice Ce0 Q0 Cf0) (.slice Ce1 Q1 Cf1) (.slice Ce2 Q2 Cf2) (.slice Ce3 Q3 Cf3) Z0 Z1 N0 N1) := by rw [← hgC]; exact oo.below al
  have gC_WC : Hid (Blk WC gC (T6 (.slice Ce0 Q0 Cf0) (.slice Ce1 Q1 Cf1) L0 L1 (.slice Ce2 Q2 Cf2) (.slice Ce3 Q3 Cf3)) 33) := by rw [← hWC, ← hgC]; exact Blk.new _ _ _
  clear oo bb al
  have P_WC : Hid (Blk WC w.heap.size (T6 (.slice a0 z0.length p0) (.slice a1 z1.length p1) l0 l1 (.slice a2 n0.length p2) (.slice a3 n1.length p3)) 45) := P_w13.out.below bal P_w13.out.lt
  have B_WC : Hid (Below w.heap.size w WC) := belowCall B_w13.out bal B_w13.out.size
  have A_WC : Hid (Rb bA gA WC (.slice Ae0 Q0 Af0) (.slice Ae1 Q1 Af1) (.slice Ae2 Q2 Af2) (.slice Ae3 Q3 Af3) Z0 Z1 N0 N1) := A_w13.out.below bal
  have gA_WC : Hid (Blk WC gA (T6 (.slice Ae0 Q0 Af0) (.slice Ae1 Q1 Af1) L0 L1 (.slice Ae2 Q2 Af2) (.slice Ae3 Q3 Af3)) 33) := gA_w13.out.below bal gA_w13.out.lt
  have gB2_WC : Hid (Blk WC gB (T6 (.slice Be0 Q0 Bf0) (.slice Be1 Q1 Bf1) L0 L1 (.slice Be2 Q2 Bf2) (.slice Be3 Q3 Bf3)) 33) := gB2_w13.out.below bal gB2_w13.out.lt
  have M_WC : Hid (Rk WC (.slice Be0 Q0 Bf0) (.slice Be1 Q1 Bf1) (.slice Be2 Q2 Bf2) (.slice Be3 Q3 Bf3) (marks .i64 1 Q0) (marks .i64 (1 + Q0) Q1) (mkM (1 + Q0 + Q1) Q2) (mkM (1 + Q0 + Q1 + 2 * Q2) Q3)) := M_w13.out.below bal
  clear P_w13 B_w13 A_w13 gA_w13 gB2_w13 M_w13
  clear bal
  have x0 := gC_WC.out.cell 0
  have x1 := gC_WC.out.cell 1
  have x2 := gC_WC.out.cell 2
  have x3 := gC_WC.out.cell 3
  have x4 := gC_WC.out.cell 4
  have x5 := gC_WC.out.cell 5
  have xl := gC_WC.out.lt
  simp at x0 x1 x2 x3 x4 x5
  have y0 := gA_WC.out.cell 0
  have y1 := gA_WC.out.cell 1
  have y2 := gA_WC.out.cell 2
  have y3 := gA_WC.out.cell 3
  have y4 := gA_WC.out.cell 4
  have y5 := gA_WC.out.cell 5
  have yl := gA_WC.out.lt
  simp at y0 y1 y2 y3 y4 y5
  go_wp2_with (fail)
  clear hgC hWC
  refine (eqTrunk_t _ _ _ _ _ _ _ _ L0 L1 Z0 Z1 N0 N1 WC C_WC.out.rd A_WC.out.rk).mono ?_
  rintro e w15 ⟨rfl, bb⟩
  clear x0 x1 x2 x3 x4 x5 xl y0 y1 y2 y3 y4 y5 yl
  have P_w15 : Hid (Blk w15 w.heap.size (T6 (.slice a0 z0.length p0) (.slice a1 z1.length p1) l0 l1 (.slice a2 n0.length p2) (.slice a3 n1.length p3)) 45) := P_WC.out.below bb P_WC.out.lt
  have B_w15 : Hid (Below w.heap.size w w15) := belowCall B_WC.out bb B_WC.out.size
  have A_w15 : Hid (Rb bA gA w15 (.slice Ae0 Q0 Af0) (.slice Ae1 Q1 Af1) (.slice Ae2 Q2 Af2) (.slice Ae3 Q3 Af3) Z0 Z1 N0 N1) := A_WC.out.below bb
  have gA_w15 : Hid (Blk w15 gA (T6 (.slice Ae0 Q0 Af0) (.slice Ae1 Q1 Af1) L0 L1 (.slice Ae2 Q2 Af2) (.slice Ae3 Q3 Af3)) 33) := gA_WC.out.below bb gA_WC.out.lt
  have gB2_w15 : Hid (Blk w15 gB (T6 (.slice Be0 Q0 Bf0) (.slice Be1 Q1 Bf1) L0 L1 (.slice Be2 Q2 Bf2) (.slice Be3 Q3 Bf3)) 33) := gB2_WC.out.below bb gB2_WC.out.lt
  have M_w15 : Hid (Rk w15 (.slice Be0 Q0 Bf0) (.slice Be1 Q1 Bf1) (.slice Be2 Q2 Bf2) (.slice Be3 Q3 Bf3) (marks .i64 1 Q0) (marks .i64 (1 + Q0) Q1) (mkM (1 + Q0 + Q1) Q2) (mkM (1 + Q0 + Q1 + 2 * Q2) Q3)) := M_WC.out.below bb
  have C_w15 : Hid (Ok6 w13.heap.size gC w15 (.slice Ce0 Q0 Cf0) (.slice Ce1 Q1 Cf1) (.slice Ce2 Q2 Cf2) (.slice Ce3 Q3 Cf3) Z0 Z1 N0 N1) := C_WC.out.below bb
  have gC_w15 : Hid (Blk w15 gC (T6 (.slice Ce0 Q0 Cf0) (.slice Ce1 Q1 Cf1) L0 L1 (.slice Ce2 Q2 Cf2) (.slice Ce3 Q3 Cf3)) 33) := gC_WC.out.below bb gC_WC.out.lt
  clear P_WC B_WC A_WC gA_WC gB2_WC M_WC C_WC gC_WC
  clear bb
  have y0 := gB2_w15.out.cell 0
  have y1 := gB2_w15.out.cell 1
  have y2 := gB2_w15.out.cell 2
  have y3 := gB2_w15.out.cell 3
  have y4 := gB2_w15.out.cell 4
  have y5 := gB2_w15.out.cell 5
  have yl := gB2_w15.out.lt
  simp at y0 y1 y2 y3 y4 y5
  go_wp2_with (fail)
  refine (HHE.out w15 M_w15.out).mono ?_
  rintro e w16 ⟨rfl, bb⟩
  clear y0 y1 y2 y3 y4 y5 yl
  have P_w16 : Hid (Blk w16 w.heap.size (T6 (.slice a0 z0.length p0) (.slice a1 z1.length p1) l0 l1 (.slice a2 n0.length p2) (.slice a3 n1.length p3)) 45) := P_w15.out.below bb P_w15.out.lt
  have B_w16 : Hid (Below w.heap.size w w16) := belowCall B_w15.out bb B_w15.out.size
  have A_w16 : Hid (Rb bA gA w16 (.slice Ae0 Q0 Af0) (.slice Ae1 Q1 Af1) (.slice Ae2 Q2 Af2) (.slice Ae3 Q3 Af3) Z0 Z1 N0 N1) := A_w15.out.below bb
  have gA_w16 : Hid (Blk w16 gA (T6 (.slice Ae0 Q0 Af0) (.slice Ae1 Q1 Af1) L0 L1 (.slice Ae2 Q2 Af2) (.slice Ae3 Q3 Af3)) 33) := gA_w15.out.below bb gA_w15.out.lt
  have gB2_w16 : Hid (Blk w16 gB (T6 (.slice Be0 Q0 Bf0) (.slice Be1 Q1 Bf1) L0 L1 (.slice Be2 Q2 Bf2) (.slice Be3 Q3 Bf3)) 33) := gB2_w15.out.below bb gB2_w15.out.lt
  have M_w16 : Hid (Rk w16 (.slice Be0 Q0 Bf0) (.slice Be1 Q1 Bf1) (.slice Be2 Q2 Bf2) (.slice Be3 Q3 Bf3) (marks .i64 1 Q0) (marks .i64 (1 + Q0) Q1) (mkM (1 + Q0 + Q1) Q2) (mkM (1 + Q0 + Q1 + 2 * Q2) Q3)) := M_w15.out.below bb
  have C_w16 : Hid (Ok6 w13.heap.size gC w16 (.slice Ce0 Q0 Cf0) (.slice Ce1 Q1 Cf1) (.slice Ce2 Q2 Cf2) (.slice Ce3 Q3 Cf3) Z0 Z1 N0 N1) := C_w15.out.below bb
  have gC_w16 : Hid (Blk w16 gC (T6 (.slice Ce0 Q0 Cf0) (.slice Ce1 Q1 Cf1) L0 L1 (.slice Ce2 Q2 Cf2) (.slice Ce3 Q3 Cf3)) 33) := gC_w15.out.below bb gC_w15.out.lt
  clear P_w15 B_w15 A_w15 gA_w15 gB2_w15 M_w15 C_w15 gC_w15
  clear bb
  go_wp2
  go_ret
  exact ⟨rfl, B_w16.out⟩
end Go.Proofs.Ytkehcalijamhjaa

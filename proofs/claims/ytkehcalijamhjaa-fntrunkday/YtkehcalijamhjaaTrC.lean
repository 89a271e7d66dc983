/- Trunks counted, compared, marked, held; no condition. -/
import Derived.Test.YtkehcalijamhjaaTrB
namespace Go.Proofs.Ytkehcalijamhjaa
open Go.RowKit Go.ChangeShapes Go.WideShapes Go.ChangeAt
set_option linter.unusedVariables false
set_option linter.unusedSimpArgs false
set_option maxRecDepth 8000
set_option maxHeartbeats 1600000 in
theorem szTrunk_c (c0 c1 w0 w1 : Value) (l0 l1 : Int) (z0 z1 : List Int) (n0 n1 : Mvs) (w : World) (h : Rk w c0 c1 w0 w1 z0 z1 n0 n1) :
    Calls Try.prog 24 #[.agg (T6 c0 c1 l0 l1 w0 w1), .int .i64 1048576] w fun e w' => ∃ z : Int, e = .returned (.int .i64 z) ∧ (0 ≤ z → (z0.length : Int) + z1.length + (n0.length + n1.length) ≤ 1048576) ∧ Below w.heap.size w w' := by
  obtain ⟨W0, hW0⟩ : ∃ W0, w.alloc (Obj.cells (T6 c0 c1 l0 l1 w0 w1) 45) = W0 := ⟨_, rfl⟩
  have HB : Hid (Below w.heap.size w W0) := by rw [← hW0]; exact (Below.refl _ _).alloc (Nat.le_refl _) _
  have K0 : Hid (Blk W0 w.heap.size (T6 c0 c1 l0 l1 w0 w1) 45) := by rw [← hW0]; exact Blk.new _ _ _
  have HR : Hid (Rk w c0 c1 w0 w1 z0 z1 n0 n1) := h
  obtain ⟨a0, p0, hv0, -⟩ := h.r0
  obtain ⟨a1, p1, hv1, -⟩ := h.r1
  obtain ⟨a2, p2, hv2, -⟩ := h.r2
  obtain ⟨a3, p3, hv3, -⟩ := h.r3
  subst hv0 hv1 hv2 hv3
  have x0 := K0.out.cell 0
  have x1 := K0.out.cell 1
  simp at x0 x1
  clear h
  go_enter Try.func24, Try.ntmps24
  go_wp2_with (fail)
  clear hW0
  refine (szIntSA2_c _ _ z0 z1 1048576 W0 (HR.out.r0.below HB.out) (HR.out.r1.below HB.out) (by decide) (by decide)).mono ?_
  rintro e w1 ⟨z, rfl, hz1, hz2, b1⟩
  have HB1 : Hid (Below w.heap.size w w1) := belowCall HB.out b1 HB.out.size
  have k := K0.out.below b1 K0.out.lt
  have x4 := k.cell 4
  have x5 := k.cell 5
  simp at x4 x5
  have HZ : Hid (0 ≤ z → (z0.length : Int) + z1.length + z = 1048576) := hz2
  clear k b1 hz2 HB K0 x0 x1
  by_cases hneg : z < 0
  · go_wp2
    go_ret
    exact ⟨-1, rfl, fun h => absurd h (by omega), HB1.out⟩
  go_wp2_with (fail)
  refine (szNoteSA2_c _ _ n0 n1 z w1 (HR.out.r2.below HB1.out) (HR.out.r3.below HB1.out) (by omega) (by omega)).mono ?_
  rintro e w2 ⟨y, rfl, hy1, hy2, b2⟩
  have HF : Hid ((0 ≤ y → (z0.length : Int) + z1.length + (n0.length + n1.length) ≤ 1048576) ∧ Below w.heap.size w w2) := ⟨fun h0 => by have := HZ.out (by omega); have := hy2 h0; omega, belowCall HB1.out b2 HB1.out.size⟩
  clear hy2 b2 x4 x5 HB1 HZ
  by_cases hn2 : y < 0
  · go_wp2
    go_ret
    exact ⟨-1, rfl, fun h => absurd h (by omega), HF.out.2⟩
  go_wp2
  go_ret
  exact ⟨_, rfl, HF.out⟩
set_option maxHeartbeats 1600000 in
theorem eqTrunk_t (c0 c1 w0 w1 c0' c1' w0' w1' : Value) (l0 l1 : Int) (z0 z1 : List Int) (n0 n1 : Mvs) (w : World) (h : Rk w c0 c1 w0 w1 z0 z1 n0 n1) (h' : Rk w c0' c1' w0' w1' z0 z1 n0 n1) :
    Calls Try.prog 27 #[.agg (T6 c0 c1 l0 l1 w0 w1), .agg (T6 c0' c1' l0 l1 w0' w1')] w fun e w' => e = .returned (.bool true) ∧ Below w.heap.size w w' := by
  obtain ⟨W0, hW0⟩ : ∃ W0, (w.alloc (Obj.cells (T6 c0 c1 l0 l1 w0 w1) 33)).alloc (Obj.cells (T6 c0' c1' l0 l1 w0' w1') 33) = W0 := ⟨_, rfl⟩
  have HB : Hid (Below w.heap.size w W0) := by rw [← hW0]; exact ((Below.refl _ _).alloc (Nat.le_refl _) _).alloc (by simp) _
  have K0 : Hid (Blk W0 w.heap.size (T6 c0 c1 l0 l1 w0 w1) 33) := by rw [← hW0]; exact (Blk.new _ _ _).alloc _
  have K1 : Hid (Blk W0 (w.heap.size + 1) (T6 c0' c1' l0 l1 w0' w1') 33) := by rw [← hW0]; exact Blk.newAt _ (w.heap.size + 1) _ 33 (by simp)
  have HR : Hid (Rk w c0 c1 w0 w1 z0 z1 n0 n1) := h
  have HR' : Hid (Rk w c0' c1' w0' w1' z0 z1 n0 n1) := h'
  obtain ⟨a0, p0, hv0, -⟩ := h.r0
  obtain ⟨a1, p1, hv1, -⟩ := h.r1
  obtain ⟨a2, p2, hv2, -⟩ := h.r2
  obtain ⟨a3, p3, hv3, -⟩ := h.r3
  obtain ⟨bb0, q0, hu0, -⟩ := h'.r0
  obtain ⟨bb1, q1, hu1, -⟩ := h'.r1
  obtain ⟨bb2, q2, hu2, -⟩ := h'.r2
  obtain ⟨bb3, q3, hu3, -⟩ := h'.r3
  subst hv0 hv1 hv2 hv3 hu0 hu1 hu2 hu3
  have x0 := K0.out.cell 0
  have x1 := K0.out.cell 1
  have y0 := K1.out.cell 0
  have y1 := K1.out.cell 1
  simp at x0 x1 y0 y1
  clear h h'
  go_enter Try.func27, Try.ntmps27
  go_wp2_with (fail)
  clear hW0
  refine (eqIntSA2_t _ _ _ _ z0 z1 W0 (HR.out.r0.below HB.out) (HR.out.r1.below HB.out) (HR'.out.r0.below HB.out) (HR'.out.r1.below HB.out)).mono ?_
  rintro e w1 ⟨rfl, b1⟩
  have HB1 : Hid (Below w.heap.size w w1) := belowCall HB.out b1 HB.out.size
  have K0' : Hid (Blk w1 w.heap.size (T6 (.slice a0 z0.length p0) (.slice a1 z1.length p1) l0 l1 (.slice a2 n0.length p2) (.slice a3 n1.length p3)) 33) := K0.out.below b1 K0.out.lt
  have K1' : Hid (Blk w1 (w.heap.size + 1) (T6 (.slice bb0 z0.length q0) (.slice bb1 z1.length q1) l0 l1 (.slice bb2 n0.length q2) (.slice bb3 n1.length q3)) 33) := K1.out.below b1 K1.out.lt
  clear b1 K0 K1 HB x0 x1 y0 y1
  have x2 := K0'.out.cell 2
  have x3 := K0'.out.cell 3
  have y2 := K1'.out.cell 2
  have y3 := K1'.out.cell 3
  simp at x2 x3 y2 y3
  go_wp2_with (fail)
  refine (eqIntA2_t l0 l1 w1).mono ?_
  rintro e w2 ⟨rfl, b2⟩
  have HB2 : Hid (Below w.heap.size w w2) := belowCall HB1.out b2 HB1.out.size
  have k0 := K0'.out.below b2 K0'.out.lt
  have k1 := K1'.out.below b2 K1'.out.lt
  have x4 := k0.cell 4
  have x5 := k0.cell 5
  have y4 := k1.cell 4
  have y5 := k1.cell 5
  simp at x4 x5 y4 y5
  clear k0 k1 b2 x2 x3 y2 y3 HB1 K0' K1'
  go_wp2_with (fail)
  refine (eqNoteSA2_t _ _ _ _ n0 n1 w2 (HR.out.r2.below HB2.out) (HR.out.r3.below HB2.out) (HR'.out.r2.below HB2.out) (HR'.out.r3.below HB2.out)).mono ?_
  rintro e w3 ⟨rfl, b3⟩
  have HB3 : Hid (Below w.heap.size w w3) := belowCall HB2.out b3 HB2.out.size
  clear b3 x4 x5 y4 y5 HB2
  go_wp2
  go_ret
  exact ⟨rfl, HB3.out⟩
/-- what a marked trunk's slices read as -/
abbrev qe (q : Int) (a b c d : Nat) : Int := q + a + b + 2 * c + 2 * d
set_option maxHeartbeats 1600000 in
theorem markTrunk_c (b h : Nat) (c0 c1 w0 w1 : Value) (l0 l1 : Int) (z0 z1 : List Int) (n0 n1 : Mvs) (q : Int) (w : World) (o : Ok6 b h w c0 c1 w0 w1 z0 z1 n0 n1) (hq0 : 0 ≤ q) (hq : qe q z0.length z1.length n0.length n1.length ≤ 1048576000) :
    Calls Try.prog 29 #[.agg (T6 c0 c1 l0 l1 w0 w1), .int .i64 q] w fun e w' => e = .returned (.int .i64 (qe q z0.length z1.length n0.length n1.length)) ∧ Ok6 b h w' c0 c1 w0 w1 (marks .i64 q z0.length) (marks .i64 (q + z0.length) z1.length) (mkM (q + z0.length + z1.length) n0.length) (mkM (q + z0.length + z1.length + 2 * n0.length) n1.length) ∧ Fr (fun k => b ≤ k ∧ k < h) w w' := by
  obtain ⟨W0, hW0⟩ : ∃ W0, w.alloc (Obj.cells (T6 c0 c1 l0 l1 w0 w1) 33) = W0 := ⟨_, rfl⟩
  have hb0 : Below w.heap.size w W0 := by rw [← hW0]; exact (Below.refl _ _).alloc (Nat.le_refl _) _
  have K0 : Hid (Blk W0 w.heap.size (T6 c0 c1 l0 l1 w0 w1) 33) := by rw [← hW0]; exact Blk.new _ _ _
  have HO : Hid (Ok6 b h W0 c0 c1 w0 w1 z0 z1 n0 n1) := o.below hb0
  have HF0 : Hid (Fr (fun k => b ≤ k ∧ k < h) w W0) := Fr.ofBelow hb0
  have HS : Hid (∀ k, InT c0 c1 w0 w1 k → k < w.heap.size) := by
    intro k hk
    rcases hk with (e | e) | (e | e)
    · exact (World.ownsRow.lt o.o0 k e).2
    · exact (World.ownsRow.lt o.o1 k e).2
    · exact (World.ownsRow.lt o.o2 k e).2
    · exact (World.ownsRow.lt o.o3 k e).2
  obtain ⟨a0, p0, hv0, -⟩ := own_form o.o0
  obtain ⟨a1, p1, hv1, -⟩ := own_form o.o1
  obtain ⟨a2, p2, hv2, -⟩ := own_form o.o2
  obtain ⟨a3, p3, hv3, -⟩ := own_form o.o3
  subst hv0 hv1 hv2 hv3
  have x0 := K0.out.cell 0
  have x1 := K0.out.cell 1
  simp at x0 x1
  unfold qe at hq ⊢
  clear o hb0
  go_enter Try.func29, Try.ntmps29
  go_wp2_with (fail)
  clear hW0
  refine (markIntSA2_c _ _ z0 z1 q b W0 HO.out.o0 HO.out.o1 HO.out.a01 hq0 (by omega)).mono ?_
  rintro e w1 ⟨rfl, m0, m1, f1⟩
  have HM0 : Hid (Ow .i64 3 b w1 (.slice a0 z0.length p0) (marks .i64 q z0.length) ∧ Ow .i64 3 b w1 (.slice a1 z1.length p1) (marks .i64 (q + z0.length) z1.length)) := ⟨m0, m1⟩
  have HN0 : Hid (Op mf mg 68 b w1 (.slice a2 n0.length p2) n0 ∧ Op mf mg 68 b w1 (.slice a3 n1.length p3) n1) := ⟨ownsRow_fr HO.out.o2 f1 (fun k e h => HO.out.ax k h (.inl e)), ownsRow_fr HO.out.o3 f1 (fun k e h => HO.out.ax k h (.inr e))⟩
  have HF1 : Hid (Fr (fun k => b ≤ k ∧ k < h) w w1) := HF0.out.trans (f1.mono (fun k _ e => HO.out.ge k (.inl e)))
  have k := K0.out.fr f1 (fun e => by have := HS.out _ (.inl e); omega)
  have x4 := k.cell 4
  have x5 := k.cell 5
  simp at x4 x5
  clear k m0 m1 f1 x0 x1 HF0 K0
  go_wp2_with (fail)
  refine (markNoteSA2_c _ _ n0 n1 (q + z0.length + z1.length) b w1 HN0.out.1 HN0.out.2 HO.out.a23 (by omega) (by omega)).mono ?_
  rintro e w2 ⟨rfl, m2, m3, f2⟩
  have HE : Hid (Ok6 b h w2 (.slice a0 z0.length p0) (.slice a1 z1.length p1) (.slice a2 n0.length p2) (.slice a3 n1.length p3) (marks .i64 q z0.length) (marks .i64 (q + z0.length) z1.length) (mkM (q + z0.length + z1.length) n0.length) (mkM (q + z0.length + z1.length + 2 * n0.length) n1.length) ∧ Fr (fun k => b ≤ k ∧ k < h) w w2) :=
    ⟨⟨ownsRow_fr HM0.out.1 f2 (fun k e h => HO.out.ax k (.inl e) h), ownsRow_fr HM0.out.2 f2 (fun k e h => HO.out.ax k (.inr e) h), m2, m3, HO.out.lt, HO.out.a01, HO.out.a23, HO.out.ax⟩, HF1.out.trans (f2.mono (fun k _ e => HO.out.ge k (.inr e)))⟩
  clear m2 m3 f2 HM0 HN0 HF1 HO HS x4 x5
  go_wp2
  go_ret
  exact ⟨rfl, HE.out⟩
set_option maxHeartbeats 1600000 in
theorem heldTrunk_c (c0 c1 w0 w1 : Value) (l0 l1 : Int) (m0 m1 k0 k1 : Nat) (q : Int) (w : World) (h : Rk w c0 c1 w0 w1 (marks .i64 q m0) (marks .i64 (q + m0) m1) (mkM (q + m0 + m1) k0) (mkM (q + m0 + m1 + 2 * k0) k1)) (hq0 : 0 ≤ q) (hq : qe q m0 m1 k0 k1 ≤ 1048576000) :
    Calls Try.prog 30 #[.agg (T6 c0 c1 l0 l1 w0 w1), .int .i64 q] w fun e w' => e = .returned (.int .i64 (qe q m0 m1 k0 k1)) ∧ Below w.heap.size w w' := by
  obtain ⟨W0, hW0⟩ : ∃ W0, w.alloc (Obj.cells (T6 c0 c1 l0 l1 w0 w1) 33) = W0 := ⟨_, rfl⟩
  have HB : Hid (Below w.heap.size w W0) := by rw [← hW0]; exact (Below.refl _ _).alloc (Nat.le_refl _) _
  have K0 : Hid (Blk W0 w.heap.size (T6 c0 c1 l0 l1 w0 w1) 33) := by rw [← hW0]; exact Blk.new _ _ _
  have HR : Hid (Rk w c0 c1 w0 w1 (marks .i64 q m0) (marks .i64 (q + m0) m1) (mkM (q + m0 + m1) k0) (mkM (q + m0 + m1 + 2 * k0) k1)) := h
  obtain ⟨a0, p0, hv0, -⟩ := h.r0
  obtain ⟨a1, p1, hv1, -⟩ := h.r1
  obtain ⟨a2, p2, hv2, -⟩ := h.r2
  obtain ⟨a3, p3, hv3, -⟩ := h.r3
  rw [marks_len] at hv0 hv1
  rw [mkM_len] at hv2 hv3
  subst hv0 hv1 hv2 hv3
  have x0 := K0.out.cell 0
  have x1 := K0.out.cell 1
  simp at x0 x1
  unfold qe at hq ⊢
  have g1 : (q + (m0 : Int) + (m1 : Int) < 0) = False := eq_false (by omega)
  have g2 : (q + (m0 : Int) + (m1 : Int) + 2 * (k0 : Int) + 2 * (k1 : Int) < 0) = False := eq_false (by omega)
  clear h
  go_enter Try.func30, Try.ntmps30
  go_wp2_with (fail)
  clear hW0
  refine (heldIntSA2_c _ _ m0 m1 q W0 (HR.out.r0.below HB.out) (HR.out.r1.below HB.out) hq0 (by omega)).mono ?_
  rintro e w1 ⟨rfl, b1⟩
  have HB1 : Hid (Below w.heap.size w w1) := belowCall HB.out b1 HB.out.size
  have k := K0.out.below b1 K0.out.lt
  have x4 := k.cell 4
  have x5 := k.cell 5
  simp at x4 x5
  clear k b1 HB K0 x0 x1
  go_wp2_with (fail)
  refine (heldNoteSA2_c _ _ k0 k1 (q + m0 + m1) w1 (HR.out.r2.below HB1.out) (HR.out.r3.below HB1.out) (by omega) (by omega)).mono ?_
  rintro e w2 ⟨rfl, b2⟩
  have HB2 : Hid (Below w.heap.size w w2) := belowCall HB1.out b2 HB1.out.size
  clear b2 x4 x5 HB1
  go_wp2
  go_ret
  exact ⟨rfl, HB2.out⟩
end Go.Proofs.Ytkehcalijamhjaa

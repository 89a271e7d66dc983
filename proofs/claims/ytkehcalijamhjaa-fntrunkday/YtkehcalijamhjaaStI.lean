/- The program's Settled; no condition. -/
import Derived.Test.YtkehcalijamhjaaStl
namespace Go.Proofs.Ytkehcalijamhjaa
open Go.RowKit Go.ChangeShapes Go.WideShapes Go.ChangeAt
set_option linter.unusedVariables false
set_option linter.unusedSimpArgs false
set_option maxRecDepth 8000

set_option maxHeartbeats 6400000 in
theorem setI_c (c0 c1 w0 w1 : Value) (l0 l1 : Int) (z0 z1 : List Int) (n0 n1 : Mvs) (w : World) (h : Rk w c0 c1 w0 w1 z0 z1 n0 n1) :
    Calls Try.prog 22 #[.agg (T6 c0 c1 l0 l1 w0 w1)] w (BoR (StP z0 z1 l0 l1 n0 n1) w) := by
  obtain ⟨W0, hW0⟩ : ∃ W0, w.alloc (Obj.cells (T6 c0 c1 l0 l1 w0 w1) 33) = W0 := ⟨_, rfl⟩
  have hb0 : Below w.heap.size w W0 := by rw [← hW0]; exact (Below.refl _ _).alloc (Nat.le_refl _) _
  have HB : Hid (Below w.heap.size w W0) := hb0
  have K0 : Hid (Blk W0 w.heap.size (T6 c0 c1 l0 l1 w0 w1) 33) := by rw [← hW0]; exact Blk.new _ _ _
  have HR : Hid (Rk w c0 c1 w0 w1 z0 z1 n0 n1) := h
  obtain ⟨a0, p0, hv0, s0, t0, -⟩ := h.r0
  obtain ⟨a1, p1, hv1, s1, t1, -⟩ := h.r1
  obtain ⟨a2, p2, hv2, s2, t2, -⟩ := h.r2
  obtain ⟨a3, p3, hv3, s3, t3, -⟩ := h.r3
  obtain ⟨m0, hm0⟩ : ∃ m, z0.length = m := ⟨_, rfl⟩
  obtain ⟨m1, hm1⟩ : ∃ m, z1.length = m := ⟨_, rfl⟩
  obtain ⟨k0, hk0⟩ : ∃ m, n0.length = m := ⟨_, rfl⟩
  obtain ⟨k1, hk1⟩ : ∃ m, n1.length = m := ⟨_, rfl⟩
  have HM : Hid (z0.length = m0 ∧ z1.length = m1 ∧ n0.length = k0 ∧ n1.length = k1) := ⟨hm0, hm1, hk0, hk1⟩
  rw [hm0] at hv0 s0
  rw [hm1] at hv1 s1
  rw [hk0] at hv2 s2
  rw [hk1] at hv3 s3
  subst hv0 hv1 hv2 hv3
  unfold maxLen at t0 t1 t2 t3
  have x0 := K0.out.cell 0
  have x1 := K0.out.cell 1
  have x2 := K0.out.cell 2
  have x3 := K0.out.cell 3
  have x4 := K0.out.cell 4
  have x5 := K0.out.cell 5
  simp at x0 x1 x2 x3 x4 x5
  clear h hb0 hm0 hm1 hk0 hk1
  go_enter Try.func22, Try.ntmps22
  go_wp2_with (fail)
  clear hW0
  refine (okI_c _ _ _ _ l0 l1 z0 z1 n0 n1 W0 (HR.out.below HB.out)).mono ?_
  rintro e w2 ⟨r, rfl, hr, b2⟩
  have HB2 : Hid (Below w.heap.size w w2) := belowCall HB.out b2 HB.out.size
  have K2 : Hid (Blk w2 w.heap.size (T6 (.slice a0 m0 p0) (.slice a1 m1 p1) l0 l1 (.slice a2 k0 p2) (.slice a3 k1 p3)) 33) := K0.out.below b2 K0.out.lt
  clear b2 K0 HB x0 x1 x2 x3 x4 x5
  by_cases g : TOk z0 z1 l0 l1 n0 n1
  case neg =>
    obtain rfl : r = false := by cases r; rfl; exact absurd (hr.1 rfl) g
    have GN : Hid (¬ TOk z0 z1 l0 l1 n0 n1) := g
    clear hr g
    go_wp2
    go_ret
    exact ⟨_, rfl, ⟨fun h => (by cases h), fun h => absurd h.1 GN.out⟩, HB2.out⟩
  obtain rfl : r = true := hr.2 g
  have G : Hid (TOk z0 z1 l0 l1 n0 n1) := g
  have hm24 : m0 ≤ 24 := by have := g.1.2; have := HM.out.1; omega
  have he : m1 = m0 := by have := g.2.1; have := HM.out; omega
  have hk60 : k0 ≤ 60 := by have := g.2.2.1.2.2.1; have := HM.out; omega
  have hk61 : k1 ≤ 60 := by have := g.2.2.2.2.2.1; have := HM.out; omega
  subst he
  have he0 : ((m1 : Int) < (m1 : Int)) = False := eq_false (by omega)
  clear hr g
  have x0 := K2.out.cell 0
  have x1 := K2.out.cell 1
  have x4 := K2.out.cell 4
  have x5 := K2.out.cell 5
  have xl := K2.out.lt
  simp at x0 x1 x4 x5
  by_cases q0 : 0 < k0
  · have q0' : (0 : Int) < (k0 : Int) := by omega
    go_wp2
    go_ret
    exact ⟨_, rfl, ⟨fun h => (by cases h), fun h => by have h1 := h.2.1; have h2 := h.2.2.1; have := HM.out; omega⟩, HB2.out⟩
  obtain rfl : k0 = 0 := by omega
  by_cases q1 : 0 < k1
  · have q1' : (0 : Int) < (k1 : Int) := by omega
    go_wp2
    go_ret
    exact ⟨_, rfl, ⟨fun h => (by cases h), fun h => by have h1 := h.2.1; have h2 := h.2.2.1; have := HM.out; omega⟩, HB2.out⟩
  obtain rfl : k1 = 0 := by omega
  go_wp2
  go_loopw [25] (fun i wr => ∃ j : Nat, j ≤ m1 ∧ i = .int .i64 j ∧ Hid (Below w2.heap.size w2 wr) ∧ Hid (∀ k, k < j → AlP (z0.getD k 0) (z1.getD k 0))) (fun i _ => m1 - (intOf i).toNat)
  case atStart => exact ⟨0, Nat.zero_le _, rfl, Below.refl _ _, fun k hk => absurd hk (by omega)⟩
  case round =>
    obtain ⟨j, hj, rfl, hbr, hall⟩ := hrel
    clear x0 x1 x4 x5 xl
    by_cases hlt : j < m1
    · have bw : Below w.heap.size w wr := belowCall HB2.out hbr.out HB2.out.size
      have Kr : Hid (Blk wr w.heap.size (T6 (.slice a0 m1 p0) (.slice a1 m1 p1) l0 l1 (.slice a2 0 p2) (.slice a3 0 p3)) 33) := K2.out.below hbr.out K2.out.lt
      obtain ⟨a0', p0', e0, -, -, d0⟩ := HR.out.r0.below bw
      obtain ⟨a1', p1', e1, -, -, d1⟩ := HR.out.r1.below bw
      simp only [Value.slice.injEq] at e0 e1
      obtain ⟨f0, -, -⟩ := e0
      obtain ⟨f1, -, -⟩ := e1
      subst f0 f1
      rcases d0 with d0 | ⟨b, off, rfl, h4⟩
      · have := HM.out.1; rw [d0] at this; simp at this; omega
      rcases d1 with d1 | ⟨b', off', rfl, h4'⟩
      · have := HM.out.2.1; rw [d1] at this; simp at this; omega
      obtain ⟨x, hx⟩ : ∃ x, z0.getD j 0 = x := ⟨_, rfl⟩
      obtain ⟨y, hy⟩ : ∃ x, z1.getD j 0 = x := ⟨_, rfl⟩
      have hc0 := h4 j (by have := HM.out; omega)
      have hc1 := h4' j (by have := HM.out; omega)
      rw [hx] at hc0
      rw [hy] at hc1
      have HX : Hid (z0.getD j 0 = x ∧ z1.getD j 0 = y) := ⟨hx, hy⟩
      have HW : Hid (Below w.heap.size w wr) := bw
      have hjI : (j : Int) < (m1 : Int) := by omega
      clear h4 h4' hx hy bw
      obtain ⟨S, hS⟩ : ∃ S : World → Prop, ∀ W, S W ↔ Below wr.heap.size wr W := ⟨_, fun _ => Iff.rfl⟩
      have HS : Hid (∀ W, S W ↔ Below wr.heap.size wr W) := hS
      have HSD : Hid (S wr.drew) := (hS _).2 (Below.refl _ _).drew
      have ne : Nonempty (At S) := ⟨⟨_, HSD.out⟩⟩
      have y0 : ∀ W : At S, W.wd.cell? ⟨w.heap.size, 0, none⟩ = some (.slice (some ⟨b, off, none⟩) m1 p0) := fun W => by rw [(Kr.out.below ((hS _).1 W.ok) Kr.out.lt).cell 0]; rfl
      have y1 : ∀ W : At S, W.wd.cell? ⟨w.heap.size, 1, none⟩ = some (.slice (some ⟨b', off', none⟩) m1 p1) := fun W => by rw [(Kr.out.below ((hS _).1 W.ok) Kr.out.lt).cell 1]; rfl
      have y2 : ∀ W : At S, W.wd.cell? ⟨b, off + j, none⟩ = some (.int .i64 x) := fun W => (((hS _).1 W.ok).cell (block_lt_of_cell hc0)).trans hc0
      have y3 : ∀ W : At S, W.wd.cell? ⟨b', off' + j, none⟩ = some (.int .i64 y) := fun W => (((hS _).1 W.ok).cell (block_lt_of_cell hc1)).trans hc1
      clear hS hc0 hc1
      go_wp2
      refine region_call [true, true, true, true, true, true, true, true, true, true, true, true, true, false, false] [false, false, false, false, false, false, false, false, false, false, false, false, false, false, true] 13 15 S (by kernel_rfl) (by kernel_rfl) rfl (fun _ _ _ _ _ h => h) HSD.out ?_
      simp only [selT]
      repeat (go_big_quiet_step (fail))
      refine wpQuiet_nil ?_
      go_wp2_with (fail)
      refine (alike_c x y wr.drew).mono ?_
      rintro e w3 ⟨r, rfl, hr, b3⟩
      have HB3 : Hid (Below wr.heap.size wr w3) := (Below.refl _ _).drew.trans b3
      have HR3 : Hid (r = true ↔ AlP x y) := hr
      clear hr b3
      go_wp2
      refine ⟨(HS.out _).2 HB3.out, ?_⟩
      first | simp only [selT] | skip
      have ne' : Nonempty (At S) := ⟨⟨_, HSD.out⟩⟩
      repeat (go_big_quiet_step (fail))
      refine wpQuiet_nil ?_
      clear y0 y1 y2 y3 ne ne'
      by_cases ga : AlP x y
      · obtain rfl : r = true := HR3.out.2 ga
        have GA : Hid (AlP x y) := ga
        clear ga
        go_wp2
        go_roundw
        case rel => exact ⟨j + 1, by omega, by go_num, hbr.out.trans (HB3.out.mono hbr.out.size), fun k hk => by
          by_cases e : k = j
          · rw [e, HX.out.1, HX.out.2]; exact GA.out
          · exact hall.out k (by omega)⟩
        case measure => simp [intOf]; omega
      · obtain rfl : r = false := by cases r; rfl; exact absurd (HR3.out.1 rfl) ga
        have GA : Hid (¬ AlP x y) := ga
        have HJL : Hid (j < m1) := hlt
        have HFB : Hid (Below w.heap.size w w3) := belowCall HW.out HB3.out HW.out.size
        clear ga
        go_wp2
        go_ret
        exact ⟨_, rfl, ⟨fun h => (by cases h), fun h => absurd (by have := h.2.2.2 j (by have := HM.out.1; have := HJL.out; omega); rw [HX.out.1, HX.out.2] at this; exact this) GA.out⟩, HFB.out⟩
    · obtain rfl : m1 = j := by omega
      have HFB : Hid (Below w.heap.size w wr) := belowCall HB2.out hbr.out HB2.out.size
      go_wp2
      go_ret
      exact ⟨_, rfl, ⟨fun _ => ⟨G.out, HM.out.2.2.1, HM.out.2.2.2, fun k hk => hall.out k (by have := HM.out.1; omega)⟩, fun _ => rfl⟩, HFB.out⟩
end Go.Proofs.Ytkehcalijamhjaa
namespace Go.Proofs.Ytkehcalijamhjaa
open Go.RowKit Go.ChangeShapes Go.WideShapes Go.ChangeAt
set_option linter.unusedVariables false
set_option linter.unusedSimpArgs false
set_option maxRecDepth 8000

set_option maxHeartbeats 6400000 in
theorem setM_c (c0 c1 w0 w1 : Value) (l0 l1 : Int) (z0 z1 : List Int) (n0 n1 : Mvs) (w : World) (h : Rk w c0 c1 w0 w1 z0 z1 n0 n1) :
    Calls Try.prog 23 #[.agg (T6 c0 c1 l0 l1 w0 w1)] w (BoR (StP z0 z1 l0 l1 n0 n1) w) := by
  obtain ⟨W0, hW0⟩ : ∃ W0, w.alloc (Obj.cells (T6 c0 c1 l0 l1 w0 w1) 33) = W0 := ⟨_, rfl⟩
  have hb0 : Below w.heap.size w W0 := by rw [← hW0]; exact (Below.refl _ _).alloc (Nat.le_refl _) _
  have HB : Hid (Below w.heap.size w W0) := hb0
  have K0 : Hid (Blk W0 w.heap.size (T6 c0 c1 l0 l1 w0 w1) 33) := by rw [← hW0]; exact Blk.new _ _ _
  have HR : Hid (Rk w c0 c1 w0 w1 z0 z1 n0 n1) := h
  obtain ⟨a0, p0, hv0, s0, t0, -⟩ := h.r0
  obtain ⟨a1, p1, hv1, s1, t1, -⟩ := h.r1
  obtain ⟨a2, p2, hv2, s2, t2, -⟩ := h.r2
  obtain ⟨a3, p3, hv3, s3, t3, -⟩ := h.r3
  obtain ⟨m0, hm0⟩ : ∃ m, z0.length = m := ⟨_, rfl⟩
  obtain ⟨m1, hm1⟩ : ∃ m, z1.length = m := ⟨_, rfl⟩
  obtain ⟨k0, hk0⟩ : ∃ m, n0.length = m := ⟨_, rfl⟩
  obtain ⟨k1, hk1⟩ : ∃ m, n1.length = m := ⟨_, rfl⟩
  have HM : Hid (z0.length = m0 ∧ z1.length = m1 ∧ n0.length = k0 ∧ n1.length = k1) := ⟨hm0, hm1, hk0, hk1⟩
  rw [hm0] at hv0 s0
  rw [hm1] at hv1 s1
  rw [hk0] at hv2 s2
  rw [hk1] at hv3 s3
  subst hv0 hv1 hv2 hv3
  unfold maxLen at t0 t1 t2 t3
  have x0 := K0.out.cell 0
  have x1 := K0.out.cell 1
  have x2 := K0.out.cell 2
  have x3 := K0.out.cell 3
  have x4 := K0.out.cell 4
  have x5 := K0.out.cell 5
  simp at x0 x1 x2 x3 x4 x5
  clear h hb0 hm0 hm1 hk0 hk1
  go_enter Try.func23, Try.ntmps23
  go_wp2_with (fail)
  clear hW0
  refine (okM_c _ _ _ _ l0 l1 z0 z1 n0 n1 W0 (HR.out.below HB.out)).mono ?_
  rintro e w2 ⟨r, rfl, hr, b2⟩
  have HB2 : Hid (Below w.heap.size w w2) := belowCall HB.out b2 HB.out.size
  have K2 : Hid (Blk w2 w.heap.size (T6 (.slice a0 m0 p0) (.slice a1 m1 p1) l0 l1 (.slice a2 k0 p2) (.slice a3 k1 p3)) 33) := K0.out.below b2 K0.out.lt
  clear b2 K0 HB x0 x1 x2 x3 x4 x5
  by_cases g : TOk z0 z1 l0 l1 n0 n1
  case neg =>
    obtain rfl : r = false := by cases r; rfl; exact absurd (hr.1 rfl) g
    have GN : Hid (¬ TOk z0 z1 l0 l1 n0 n1) := g
    clear hr g
    go_wp2
    go_ret
    exact ⟨_, rfl, ⟨fun h => (by cases h), fun h => absurd h.1 GN.out⟩, HB2.out⟩
  obtain rfl : r = true := hr.2 g
  have G : Hid (TOk z0 z1 l0 l1 n0 n1) := g
  have hm24 : m0 ≤ 24 := by have := g.1.2; have := HM.out.1; omega
  have he : m1 = m0 := by have := g.2.1; have := HM.out; omega
  have hk60 : k0 ≤ 60 := by have := g.2.2.1.2.2.1; have := HM.out; omega
  have hk61 : k1 ≤ 60 := by have := g.2.2.2.2.2.1; have := HM.out; omega
  subst he
  have he0 : ((m1 : Int) < (m1 : Int)) = False := eq_false (by omega)
  clear hr g
  have x0 := K2.out.cell 0
  have x1 := K2.out.cell 1
  have x4 := K2.out.cell 4
  have x5 := K2.out.cell 5
  have xl := K2.out.lt
  simp at x0 x1 x4 x5
  by_cases q0 : 0 < k0 + k1
  · have q0' : (0 : Int) < (k0 : Int) + (k1 : Int) := by omega
    go_wp2
    go_ret
    exact ⟨_, rfl, ⟨fun h => (by cases h), fun h => by have h1 := h.2.1; have h2 := h.2.2.1; have := HM.out; omega⟩, HB2.out⟩
  obtain rfl : k0 = 0 := by omega
  obtain rfl : k1 = 0 := by omega
  go_wp2
  go_loopw [3] (fun i wr => ∃ j : Nat, j ≤ m1 ∧ i = .int .i64 j ∧ Hid (Below w2.heap.size w2 wr) ∧ Hid (∀ k, k < j → AlP (z0.getD k 0) (z1.getD k 0))) (fun i _ => m1 - (intOf i).toNat)
  case atStart => exact ⟨0, Nat.zero_le _, rfl, Below.refl _ _, fun k hk => absurd hk (by omega)⟩
  case round =>
    obtain ⟨j, hj, rfl, hbr, hall⟩ := hrel
    clear x0 x1 x4 x5 xl
    have bw : Below w.heap.size w wr := belowCall HB2.out hbr.out HB2.out.size
    have HW : Hid (Below w.heap.size w wr) := bw
    have Kr : Hid (Blk wr w.heap.size (T6 (.slice a0 m1 p0) (.slice a1 m1 p1) l0 l1 (.slice a2 0 p2) (.slice a3 0 p3)) 33) := K2.out.below hbr.out K2.out.lt
    by_cases hlt : j < m1
    · obtain ⟨a0', p0', e0, -, -, d0⟩ := HR.out.r0.below bw
      obtain ⟨a1', p1', e1, -, -, d1⟩ := HR.out.r1.below bw
      simp only [Value.slice.injEq] at e0 e1
      obtain ⟨f0, -, -⟩ := e0
      obtain ⟨f1, -, -⟩ := e1
      subst f0 f1
      rcases d0 with d0 | ⟨b, off, rfl, h4⟩
      · have := HM.out.1; rw [d0] at this; simp at this; omega
      rcases d1 with d1 | ⟨b', off', rfl, h4'⟩
      · have := HM.out.2.1; rw [d1] at this; simp at this; omega
      obtain ⟨x, hx⟩ : ∃ x, z0.getD j 0 = x := ⟨_, rfl⟩
      obtain ⟨y, hy⟩ : ∃ x, z1.getD j 0 = x := ⟨_, rfl⟩
      have hc0 := h4 j (by have := HM.out; omega)
      have hc1 := h4' j (by have := HM.out; omega)
      rw [hx] at hc0
      rw [hy] at hc1
      have HX : Hid (z0.getD j 0 = x ∧ z1.getD j 0 = y) := ⟨hx, hy⟩
      have hjI : (j : Int) < (m1 : Int) := by omega
      have x0 := Kr.out.cell 0
      have x1 := Kr.out.cell 1
      simp at x0 x1
      clear h4 h4' hx hy bw
      go_wp2
      go_quiet (fail)
      have HFB : Hid (∀ n, Below w.heap.size w (wr.drewN n) ∧ Below w2.heap.size w2 (wr.drewN n)) := fun n => ⟨belowDrewN HW.out n, belowDrewN hbr.out n⟩
      have HJL : Hid (j < m1) := hlt
      clear x0 x1 hc0 hc1
      by_cases gx0 : x = 0
      · subst gx0
        by_cases gy0 : y = 0
        · subst gy0
          go_wp2
          go_roundw
          case rel => exact ⟨j + 1, by omega, by go_num, (HFB.out _).2, fun k hk => by
            by_cases e : k = j
            · rw [e, HX.out.1, HX.out.2]; exact Or.inl ⟨rfl, rfl⟩
            · exact hall.out k (by omega)⟩
          case measure => simp [intOf]; omega
        · have gyb : (y == 0) = false := by simpa using gy0
          have GN : Hid (¬ y = 0) := gy0
          go_wp2
          go_ret
          exact ⟨_, rfl, ⟨fun h => (by cases h), fun h => by have := h.2.2.2 j (by have := HM.out.1; have := HJL.out; omega); rw [HX.out.1, HX.out.2] at this; have := GN.out; unfold AlP at *; omega⟩, (HFB.out _).1⟩
      have gxb0 : (x == 0) = false := by simpa using gx0
      by_cases gx2 : x = 2
      · subst gx2
        by_cases gy3 : y = 3
        · subst gy3
          go_wp2
          go_roundw
          case rel => exact ⟨j + 1, by omega, by go_num, (HFB.out _).2, fun k hk => by
            by_cases e : k = j
            · rw [e, HX.out.1, HX.out.2]; exact Or.inr (.inl ⟨rfl, rfl⟩)
            · exact hall.out k (by omega)⟩
          case measure => simp [intOf]; omega
        · have gyb : (y == 3) = false := by simpa using gy3
          have GN : Hid (¬ y = 3) := gy3
          go_wp2
          go_ret
          exact ⟨_, rfl, ⟨fun h => (by cases h), fun h => by have := h.2.2.2 j (by have := HM.out.1; have := HJL.out; omega); rw [HX.out.1, HX.out.2] at this; have := GN.out; unfold AlP at *; omega⟩, (HFB.out _).1⟩
      have gxb2 : (x == 2) = false := by simpa using gx2
      by_cases gx3 : x = 3
      · subst gx3
        by_cases gy2 : y = 2
        · subst gy2
          go_wp2
          go_roundw
          case rel => exact ⟨j + 1, by omega, by go_num, (HFB.out _).2, fun k hk => by
            by_cases e : k = j
            · rw [e, HX.out.1, HX.out.2]; exact Or.inr (.inr ⟨rfl, rfl⟩)
            · exact hall.out k (by omega)⟩
          case measure => simp [intOf]; omega
        · have gyb : (y == 2) = false := by simpa using gy2
          have GN : Hid (¬ y = 2) := gy2
          go_wp2
          go_ret
          exact ⟨_, rfl, ⟨fun h => (by cases h), fun h => by have := h.2.2.2 j (by have := HM.out.1; have := HJL.out; omega); rw [HX.out.1, HX.out.2] at this; have := GN.out; unfold AlP at *; omega⟩, (HFB.out _).1⟩
      have gxb3 : (x == 3) = false := by simpa using gx3
      have GN : Hid (¬ x = 0 ∧ ¬ x = 2 ∧ ¬ x = 3) := ⟨gx0, gx2, gx3⟩
      clear gx0 gx2 gx3
      go_wp2
      go_ret
      exact ⟨_, rfl, ⟨fun h => (by cases h), fun h => by have := h.2.2.2 j (by have := HM.out.1; have := HJL.out; omega); rw [HX.out.1, HX.out.2] at this; have := GN.out; unfold AlP at *; omega⟩, (HFB.out _).1⟩
    · obtain rfl : m1 = j := by omega
      have x0 := Kr.out.cell 0
      simp at x0
      clear bw
      go_wp2
      go_ret
      exact ⟨_, rfl, ⟨fun _ => ⟨G.out, HM.out.2.2.1, HM.out.2.2.2, fun k hk => hall.out k (by have := HM.out.1; omega)⟩, fun _ => rfl⟩, HW.out⟩
end Go.Proofs.Ytkehcalijamhjaa

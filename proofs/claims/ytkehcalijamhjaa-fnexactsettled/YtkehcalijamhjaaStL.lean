/- FnExactSettled; no condition. -/
import Derived.Test.YtkehcalijamhjaaStM
import Derived.Test.YtkehcalijamhjaaStI
import Derived.Test.YtkehcalijamhjaaOpT
namespace Go.Proofs.Ytkehcalijamhjaa
open Go.RowKit Go.ChangeShapes Go.WideShapes Go.ChangeAt
set_option linter.unusedVariables false
set_option linter.unusedSimpArgs false
set_option maxRecDepth 8000
set_option maxHeartbeats 3200000 in
theorem settledLaw (c0 c1 w0 w1 : Value) (l0 l1 : Int) (z0 z1 : List Int) (n0 n1 : Mvs) (w : World) (h : Rk w c0 c1 w0 w1 z0 z1 n0 n1) :
    Calls Try.prog 10 #[.agg (T6 c0 c1 l0 l1 w0 w1)] w fun e w' => e = .returned (.bool true) ∧ Below w.heap.size w w' := by
  obtain ⟨W0, hW0⟩ : ∃ W0, w.alloc (Obj.cells (T6 c0 c1 l0 l1 w0 w1) 45) = W0 := ⟨_, rfl⟩
  have hb0 : Below w.heap.size w W0 := by rw [← hW0]; exact (Below.refl _ _).alloc (Nat.le_refl _) _
  have HB0 : Hid (Below w.heap.size w W0) := hb0
  have HK0 : Hid (Blk W0 w.heap.size (T6 c0 c1 l0 l1 w0 w1) 45) := by rw [← hW0]; exact Blk.new _ _ _
  have HH : Hid (Rk w c0 c1 w0 w1 z0 z1 n0 n1) := h
  obtain ⟨a0, p0, hv0, -⟩ := h.r0
  obtain ⟨a1, p1, hv1, -⟩ := h.r1
  obtain ⟨a2, p2, hv2, -⟩ := h.r2
  obtain ⟨a3, p3, hv3, -⟩ := h.r3
  subst hv0 hv1 hv2 hv3
  have x0 := HK0.out.cell 0
  have x1 := HK0.out.cell 1
  have x2 := HK0.out.cell 2
  have x3 := HK0.out.cell 3
  have x4 := HK0.out.cell 4
  have x5 := HK0.out.cell 5
  simp at x0 x1 x2 x3 x4 x5
  clear h hb0
  go_enter Try.func10, Try.ntmps10
  go_wp2_with (fail)
  clear hW0
  refine (szTrunk_c _ _ _ _ l0 l1 z0 z1 n0 n1 W0 (HH.out.below HB0.out)).mono ?_
  rintro e w1 ⟨z, rfl, hz, b1⟩
  have HB1 : Hid (Below w.heap.size w w1) := belowCall HB0.out b1 HB0.out.size
  have HK1 : Hid (Blk w1 w.heap.size (T6 (.slice a0 z0.length p0) (.slice a1 z1.length p1) l0 l1 (.slice a2 n0.length p2) (.slice a3 n1.length p3)) 45) := HK0.out.below b1 HK0.out.lt
  have HZ : Hid (0 ≤ z → (z0.length : Int) + z1.length + (n0.length + n1.length) ≤ 1048576) := hz
  clear b1 hz HK0 HB0 x0 x1 x2 x3 x4 x5
  by_cases hneg : z < 0
  · go_wp2
    go_ret
    exact ⟨rfl, HB1.out⟩
  have hl := HZ.out (by omega)
  have HL : Hid ((z0.length : Int) + z1.length + (n0.length + n1.length) ≤ 1048576) := hl
  clear hl HZ
  have x0 := HK1.out.cell 0
  have x1 := HK1.out.cell 1
  have x2 := HK1.out.cell 2
  have x3 := HK1.out.cell 3
  have x4 := HK1.out.cell 4
  have x5 := HK1.out.cell 5
  simp at x0 x1 x2 x3 x4 x5
  go_wp2_with (fail)
  refine (toTrunk_c _ _ _ _ l0 l1 z0 z1 n0 n1 w1 (HH.out.below HB1.out) HL.out).mono ?_
  rintro e w2 ⟨u0, u1, y0, y1, rfl, o2, b2⟩
  have HB2 : Hid (Below w.heap.size w w2) := belowCall HB1.out b2 HB1.out.size
  have HK2 : Hid (Blk w2 w.heap.size (T6 (.slice a0 z0.length p0) (.slice a1 z1.length p1) l0 l1 (.slice a2 n0.length p2) (.slice a3 n1.length p3)) 45) := HK1.out.below b2 HK1.out.lt
  have HO2 : Hid (Rk w2 u0 u1 y0 y1 z0 z1 n0 n1) := o2.rd
  clear o2 b2 HK1 HB1 x0 x1 x2 x3 x4 x5
  go_wp2_with (fail)
  refine (setM_c _ _ _ _ l0 l1 z0 z1 n0 n1 w2 HO2.out).mono ?_
  rintro e w3 ⟨r, rfl, hr, b3⟩
  have HR : Hid (r = true ↔ StP z0 z1 l0 l1 n0 n1) := hr
  have HB3 : Hid (Below w.heap.size w w3) := belowCall HB2.out b3 HB2.out.size
  have HK3 : Hid (Blk w3 w.heap.size (T6 (.slice a0 z0.length p0) (.slice a1 z1.length p1) l0 l1 (.slice a2 n0.length p2) (.slice a3 n1.length p3)) 45) := HK2.out.below b3 HK2.out.lt
  clear hr b3 HO2 HK2 HB2
  have x0 := HK3.out.cell 0
  have x1 := HK3.out.cell 1
  have x2 := HK3.out.cell 2
  have x3 := HK3.out.cell 3
  have x4 := HK3.out.cell 4
  have x5 := HK3.out.cell 5
  simp at x0 x1 x2 x3 x4 x5
  go_wp2_with (fail)
  refine (toTrunk_c _ _ _ _ l0 l1 z0 z1 n0 n1 w3 (HH.out.below HB3.out) HL.out).mono ?_
  rintro e w4 ⟨u0, u1, y0, y1, rfl, o4, b4⟩
  obtain ⟨e0, q0, hu0, -⟩ := own_form o4.o0
  obtain ⟨e1, q1, hu1, -⟩ := own_form o4.o1
  obtain ⟨e2, q2, hu2, -⟩ := own_form o4.o2
  obtain ⟨e3, q3, hu3, -⟩ := own_form o4.o3
  subst hu0 hu1 hu2 hu3
  have ba : Below w4.heap.size w4 (w4.alloc (Obj.cells (T6 (.slice e0 z0.length q0) (.slice e1 z1.length q1) l0 l1 (.slice e2 n0.length q2) (.slice e3 n1.length q3)) 33)) := (Below.refl _ _).alloc (Nat.le_refl _) _
  have b5 := belowCall HB3.out b4 HB3.out.size
  have HB5 : Hid (Below w.heap.size w (w4.alloc (Obj.cells (T6 (.slice e0 z0.length q0) (.slice e1 z1.length q1) l0 l1 (.slice e2 n0.length q2) (.slice e3 n1.length q3)) 33))) := belowCall b5 ba b5.size
  have k4 := HK3.out.below b4 HK3.out.lt
  have HK5 : Hid (Blk (w4.alloc (Obj.cells (T6 (.slice e0 z0.length q0) (.slice e1 z1.length q1) l0 l1 (.slice e2 n0.length q2) (.slice e3 n1.length q3)) 33)) w.heap.size (T6 (.slice a0 z0.length p0) (.slice a1 z1.length p1) l0 l1 (.slice a2 n0.length p2) (.slice a3 n1.length p3)) 45) := k4.below ba k4.lt
  have HX5 : Hid (Blk (w4.alloc (Obj.cells (T6 (.slice e0 z0.length q0) (.slice e1 z1.length q1) l0 l1 (.slice e2 n0.length q2) (.slice e3 n1.length q3)) 33)) w4.heap.size (T6 (.slice e0 z0.length q0) (.slice e1 z1.length q1) l0 l1 (.slice e2 n0.length q2) (.slice e3 n1.length q3)) 33) := Blk.new _ _ _
  have HO5 : Hid (Rk (w4.alloc (Obj.cells (T6 (.slice e0 z0.length q0) (.slice e1 z1.length q1) l0 l1 (.slice e2 n0.length q2) (.slice e3 n1.length q3)) 33)) (.slice e0 z0.length q0) (.slice e1 z1.length q1) (.slice e2 n0.length q2) (.slice e3 n1.length q3) z0 z1 n0 n1) := o4.rd.below ba
  obtain ⟨gx, hgx⟩ : ∃ k, w4.heap.size = k := ⟨_, rfl⟩
  obtain ⟨w5, hw5⟩ : ∃ W, w4.alloc (Obj.cells (T6 (.slice e0 z0.length q0) (.slice e1 z1.length q1) l0 l1 (.slice e2 n0.length q2) (.slice e3 n1.length q3)) 33) = W := ⟨_, rfl⟩
  rw [hw5] at HB5 HK5 HX5 HO5
  rw [hgx] at HX5
  have HGX : Hid (w4.heap.size = gx) := hgx
  have HW5 : Hid (w4.alloc (Obj.cells (T6 (.slice e0 z0.length q0) (.slice e1 z1.length q1) l0 l1 (.slice e2 n0.length q2) (.slice e3 n1.length q3)) 33) = w5) := hw5
  clear o4 b4 ba b5 k4 HK3 HB3 x0 x1 x2 x3 x4 x5
  have s0 := HX5.out.cell 0
  have s1 := HX5.out.cell 1
  have s2 := HX5.out.cell 2
  have s3 := HX5.out.cell 3
  have s4 := HX5.out.cell 4
  have s5 := HX5.out.cell 5
  simp at s0 s1 s2 s3 s4 s5
  go_wp2_with (fail)
  clear hw5 hgx
  refine (setI_c _ _ _ _ l0 l1 z0 z1 n0 n1 w5 HO5.out).mono ?_
  rintro e w6 ⟨r', rfl, hr', b6⟩
  have hrr : r' = r := by rw [Bool.eq_iff_iff, hr', HR.out]
  subst hrr
  have HB6 : Hid (Below w.heap.size w w6) := belowCall HB5.out b6 HB5.out.size
  have HK6 : Hid (Blk w6 w.heap.size (T6 (.slice a0 z0.length p0) (.slice a1 z1.length p1) l0 l1 (.slice a2 n0.length p2) (.slice a3 n1.length p3)) 45) := HK5.out.below b6 HK5.out.lt
  have HX6 : Hid (Blk w6 gx (T6 (.slice e0 z0.length q0) (.slice e1 z1.length q1) l0 l1 (.slice e2 n0.length q2) (.slice e3 n1.length q3)) 33) := HX5.out.below b6 HX5.out.lt
  have HO6 : Hid (Rk w6 (.slice e0 z0.length q0) (.slice e1 z1.length q1) (.slice e2 n0.length q2) (.slice e3 n1.length q3) z0 z1 n0 n1) := HO5.out.below b6
  clear b6 hr' HR HK5 HX5 HO5 HB5 s0 s1 s2 s3 s4 s5 HW5
  obtain ⟨S, hS⟩ : ∃ S : World → Prop, ∀ W, S W ↔ Below w6.heap.size w6 W := ⟨_, fun _ => Iff.rfl⟩
  have zc0 : ∀ W : At S, W.wd.cell? ⟨w.heap.size, 0, none⟩ = some (.slice a0 z0.length p0) := fun W => by rw [(HK6.out.below ((hS _).1 W.ok) HK6.out.lt).cell 0]; rfl
  have zx0 : ∀ W : At S, W.wd.cell? ⟨gx, 0, none⟩ = some (.slice e0 z0.length q0) := fun W => by rw [(HX6.out.below ((hS _).1 W.ok) HX6.out.lt).cell 0]; rfl
  have zc1 : ∀ W : At S, W.wd.cell? ⟨w.heap.size, 1, none⟩ = some (.slice a1 z1.length p1) := fun W => by rw [(HK6.out.below ((hS _).1 W.ok) HK6.out.lt).cell 1]; rfl
  have zx1 : ∀ W : At S, W.wd.cell? ⟨gx, 1, none⟩ = some (.slice e1 z1.length q1) := fun W => by rw [(HX6.out.below ((hS _).1 W.ok) HX6.out.lt).cell 1]; rfl
  have zc2 : ∀ W : At S, W.wd.cell? ⟨w.heap.size, 2, none⟩ = some (.int .i64 l0) := fun W => by rw [(HK6.out.below ((hS _).1 W.ok) HK6.out.lt).cell 2]; rfl
  have zx2 : ∀ W : At S, W.wd.cell? ⟨gx, 2, none⟩ = some (.int .i64 l0) := fun W => by rw [(HX6.out.below ((hS _).1 W.ok) HX6.out.lt).cell 2]; rfl
  have zc3 : ∀ W : At S, W.wd.cell? ⟨w.heap.size, 3, none⟩ = some (.int .i64 l1) := fun W => by rw [(HK6.out.below ((hS _).1 W.ok) HK6.out.lt).cell 3]; rfl
  have zx3 : ∀ W : At S, W.wd.cell? ⟨gx, 3, none⟩ = some (.int .i64 l1) := fun W => by rw [(HX6.out.below ((hS _).1 W.ok) HX6.out.lt).cell 3]; rfl
  have zc4 : ∀ W : At S, W.wd.cell? ⟨w.heap.size, 4, none⟩ = some (.slice a2 n0.length p2) := fun W => by rw [(HK6.out.below ((hS _).1 W.ok) HK6.out.lt).cell 4]; rfl
  have zx4 : ∀ W : At S, W.wd.cell? ⟨gx, 4, none⟩ = some (.slice e2 n0.length q2) := fun W => by rw [(HX6.out.below ((hS _).1 W.ok) HX6.out.lt).cell 4]; rfl
  have zc5 : ∀ W : At S, W.wd.cell? ⟨w.heap.size, 5, none⟩ = some (.slice a3 n1.length p3) := fun W => by rw [(HK6.out.below ((hS _).1 W.ok) HK6.out.lt).cell 5]; rfl
  have zx5 : ∀ W : At S, W.wd.cell? ⟨gx, 5, none⟩ = some (.slice e3 n1.length q3) := fun W => by rw [(HX6.out.below ((hS _).1 W.ok) HX6.out.lt).cell 5]; rfl
  have HS : Hid (∀ W, S W ↔ Below w6.heap.size w6 W) := hS
  have ne : Nonempty (At S) := ⟨⟨w6, (hS _).2 (Below.refl _ _)⟩⟩
  clear hS
  have hbb : (r' != r') = false := by simp
  go_wp2
  refine region_mixA [true, true, false, false, false] 5 3 S (by kernel_rfl) rfl (by kernel_rfl) (fun _ _ _ _ _ h => h) ((HS.out _).2 (Below.refl _ _).drew) ?_
  simp only [selT, selF]
  repeat (go_big_quiet_step (fail))
  refine wpQuiet_nil ?_
  refine tail_step ?_
  go_wp2_with (fail)
  refine (toTrunk_c _ _ _ _ l0 l1 z0 z1 n0 n1 w6.drew (HH.out.below HB6.out.drew) HL.out).mono ?_
  rintro e w7 ⟨u0, u1, y0, y1, rfl, o7, b7⟩
  have B7 : Below w6.heap.size w6 w7 := (Below.refl _ _).drew.trans b7
  have HB7 : Hid (Below w6.heap.size w6 w7) := B7
  have HO7 : Hid (Rk w7 u0 u1 y0 y1 z0 z1 n0 n1 ∧ Rk w7 (.slice e0 z0.length q0) (.slice e1 z1.length q1) (.slice e2 n0.length q2) (.slice e3 n1.length q3) z0 z1 n0 n1) := ⟨o7.rd, HO6.out.below B7⟩
  clear o7 b7 B7
  go_wp2
  refine ⟨(HS.out _).2 HB7.out, tail_step ?_⟩
  go_wp2_with (fail)
  refine (eqTrunk_t _ _ _ _ _ _ _ _ l0 l1 z0 z1 n0 n1 w7 HO7.out.2 HO7.out.1).mono ?_
  rintro e w8 ⟨rfl, b8⟩
  have HB8 : Hid (Below w6.heap.size w6 w8) := belowCall HB7.out b8 HB7.out.size
  clear b8
  go_wp2
  refine ⟨(HS.out _).2 HB8.out, tail_step ?_⟩
  go_wp2
  refine ⟨(HS.out _).2 HB8.out, tail_end ?_⟩
  have HB9 : Hid (Below w.heap.size w w8) := belowCall HB6.out HB8.out HB6.out.size
  go_wp2
  go_ret
  exact ⟨rfl, HB9.out⟩

end Go.Proofs.Ytkehcalijamhjaa

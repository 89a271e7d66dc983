/- FnExactServed's body answers true at all desks; no condition. -/
import Derived.Test.YtpmmgbinogokfaaSrM
namespace Go.Proofs.Ytpmmgbinogokfaa
open Go.RowKit Go.ChangeShapes Go.WideShapes Go.ChangeAt
set_option linter.unusedVariables false
set_option linter.unusedSimpArgs false
set_option maxRecDepth 8000
set_option maxHeartbeats 6400000 in
theorem servedLaw (n g : Int) (va vq : Value) (gs : List Ag) (qs : List Wt) (c : Int) (w : World) (ha : Rg 3 agC w va gs) (hq : Rg 4 wtC w vq qs) :
    Calls Try.prog 8 #[.agg (D4 n va vq g), .int .i64 c] w fun e w' => e = .returned (.bool true) ∧ Below w.heap.size w w' := by
  obtain ⟨W0, hW0⟩ : ∃ W0, w.alloc (Obj.cells (D4 n va vq g) 48) = W0 := ⟨_, rfl⟩
  have hb0 : Below w.heap.size w W0 := by rw [← hW0]; exact (Below.refl _ _).alloc (Nat.le_refl _) _
  have HB0 : Hid (Below w.heap.size w W0) := hb0
  have HK0 : Hid (Blk W0 w.heap.size (D4 n va vq g) 48) := by rw [← hW0]; exact Blk.new _ _ _
  have HH : Hid (Rg 3 agC w va gs ∧ Rg 4 wtC w vq qs) := ⟨ha, hq⟩
  obtain ⟨a0, p0, rfl, -⟩ := ha
  obtain ⟨a1, p1, rfl, -⟩ := hq
  have x0 := HK0.out.cell 0
  have x1 := HK0.out.cell 1
  have x2 := HK0.out.cell 2
  have x3 := HK0.out.cell 3
  simp at x0 x1 x2 x3
  have HW0 : Hid (_ = W0) := hW0
  clear hb0 hW0
  go_enter Try.func8, Try.ntmps8
  go_wp2_with (fail)
  rw [HW0.out]
  refine (szDesk_c n g _ _ gs qs W0 (HH.out.1.below HB0.out) (HH.out.2.below HB0.out)).mono ?_
  rintro e w1 ⟨z, rfl, hz, b1⟩
  have HB1 : Hid (Below w.heap.size w w1) := belowCall HB0.out b1 HB0.out.size
  have HK1 : Hid (Blk w1 w.heap.size (D4 n (.slice a0 gs.length p0) (.slice a1 qs.length p1) g) 48) := HK0.out.below b1 HK0.out.lt
  have HZ : Hid (¬ z < 0 → gs.length ≤ 1048576 ∧ qs.length ≤ 1048576) := fun h => by omega
  clear b1 hz HK0 HB0 x0 x1 x2 x3 HW0
  by_cases hneg : z < 0
  · go_wp2
    go_ret
    exact ⟨rfl, HB1.out⟩
  have HL : Hid (gs.length ≤ 1048576 ∧ qs.length ≤ 1048576) := HZ.out hneg
  clear HZ
  have x0 := HK1.out.cell 0
  have x1 := HK1.out.cell 1
  have x2 := HK1.out.cell 2
  have x3 := HK1.out.cell 3
  simp at x0 x1 x2 x3
  go_wp2_with (fail)
  refine (toDesk_c n g _ _ gs qs w1 (HH.out.1.below HB1.out) (HH.out.2.below HB1.out) HL.out.1 HL.out.2).mono ?_
  rintro e w2 ⟨u0, u1, rfl, o2, b2⟩
  have HB2 : Hid (Below w.heap.size w w2) := belowCall HB1.out b2 HB1.out.size
  have HK2 : Hid (Blk w2 w.heap.size (D4 n (.slice a0 gs.length p0) (.slice a1 qs.length p1) g) 48) := HK1.out.below b2 HK1.out.lt
  have HO2 : Hid (Rg 3 agC w2 u0 gs ∧ Rg 4 wtC w2 u1 qs) := ⟨o2.1.rd agC_len, o2.2.1.rd wtC_len⟩
  clear o2 b2 HK1 HB1 x0 x1 x2 x3
  go_wp2_with (fail)
  refine (servedM_c n g _ _ gs qs c w2 HO2.out.1 HO2.out.2).mono ?_
  rintro e w3 ⟨rfl, b3⟩
  obtain ⟨s1, s2, hss⟩ : ∃ s1 s2, servF n g gs qs c = (s1, s2) := ⟨_, _, rfl⟩
  have HSS : Hid (servF n g gs qs c = (s1, s2)) := hss
  rw [hss]
  clear hss
  have HB3 : Hid (Below w.heap.size w w3) := belowCall HB2.out b3 HB2.out.size
  have HK3 : Hid (Blk w3 w.heap.size (D4 n (.slice a0 gs.length p0) (.slice a1 qs.length p1) g) 48) := HK2.out.below b3 HK2.out.lt
  clear b3 HO2 HK2 HB2
  have x0 := HK3.out.cell 0
  have x1 := HK3.out.cell 1
  have x2 := HK3.out.cell 2
  have x3 := HK3.out.cell 3
  simp at x0 x1 x2 x3
  go_wp2_with (fail)
  refine (toDesk_c n g _ _ gs qs w3 (HH.out.1.below HB3.out) (HH.out.2.below HB3.out) HL.out.1 HL.out.2).mono ?_
  rintro e w4 ⟨u0, u1, rfl, o4, b4⟩
  obtain ⟨e0, q0, rfl⟩ := o4.1.form
  obtain ⟨e1, q1, rfl⟩ := o4.2.1.form
  have ba : Below w4.heap.size w4 (w4.alloc (Obj.cells (D4 n (.slice e0 gs.length q0) (.slice e1 qs.length q1) g) 27)) := (Below.refl _ _).alloc (Nat.le_refl _) _
  have b5 := belowCall HB3.out b4 HB3.out.size
  have HB5 : Hid (Below w.heap.size w (w4.alloc (Obj.cells (D4 n (.slice e0 gs.length q0) (.slice e1 qs.length q1) g) 27))) := belowCall b5 ba b5.size
  have k4 := HK3.out.below b4 HK3.out.lt
  have HK5 : Hid (Blk (w4.alloc (Obj.cells (D4 n (.slice e0 gs.length q0) (.slice e1 qs.length q1) g) 27)) w.heap.size (D4 n (.slice a0 gs.length p0) (.slice a1 qs.length p1) g) 48) := k4.below ba k4.lt
  have HX5 : Hid (Blk (w4.alloc (Obj.cells (D4 n (.slice e0 gs.length q0) (.slice e1 qs.length q1) g) 27)) w4.heap.size (D4 n (.slice e0 gs.length q0) (.slice e1 qs.length q1) g) 27) := Blk.new _ _ _
  have HO5 : Hid (Rg 3 agC (w4.alloc (Obj.cells (D4 n (.slice e0 gs.length q0) (.slice e1 qs.length q1) g) 27)) (.slice e0 gs.length q0) gs ∧ Rg 4 wtC (w4.alloc (Obj.cells (D4 n (.slice e0 gs.length q0) (.slice e1 qs.length q1) g) 27)) (.slice e1 qs.length q1) qs) := ⟨(o4.1.rd agC_len).below ba, (o4.2.1.rd wtC_len).below ba⟩
  obtain ⟨gx, hgx⟩ : ∃ k, w4.heap.size = k := ⟨_, rfl⟩
  obtain ⟨w5, hw5⟩ : ∃ W, w4.alloc (Obj.cells (D4 n (.slice e0 gs.length q0) (.slice e1 qs.length q1) g) 27) = W := ⟨_, rfl⟩
  rw [hw5] at HB5 HK5 HX5 HO5
  rw [hgx] at HX5
  have HGX : Hid (w4.heap.size = gx) := hgx
  have HW5 : Hid (w4.alloc (Obj.cells (D4 n (.slice e0 gs.length q0) (.slice e1 qs.length q1) g) 27) = w5) := hw5
  clear o4 b4 ba b5 k4 HK3 HB3 x0 x1 x2 x3
  have t0 := HX5.out.cell 0
  have t1 := HX5.out.cell 1
  have t2 := HX5.out.cell 2
  have t3 := HX5.out.cell 3
  simp at t0 t1 t2 t3
  go_wp2_with (fail)
  clear hw5 hgx
  refine (servedI_c n g _ _ gs qs c w5 HO5.out.1 HO5.out.2).mono ?_
  rintro e w6 ⟨rfl, b6⟩
  rw [HSS.out]
  have HB6 : Hid (Below w.heap.size w w6) := belowCall HB5.out b6 HB5.out.size
  have HK6 : Hid (Blk w6 w.heap.size (D4 n (.slice a0 gs.length p0) (.slice a1 qs.length p1) g) 48) := HK5.out.below b6 HK5.out.lt
  have HX6 : Hid (Blk w6 gx (D4 n (.slice e0 gs.length q0) (.slice e1 qs.length q1) g) 27) := HX5.out.below b6 HX5.out.lt
  have HO6 : Hid (Rg 3 agC w6 (.slice e0 gs.length q0) gs ∧ Rg 4 wtC w6 (.slice e1 qs.length q1) qs) := ⟨HO5.out.1.below b6, HO5.out.2.below b6⟩
  clear b6 HK5 HX5 HO5 HB5 t0 t1 t2 t3 HW5
  obtain ⟨S, hS⟩ : ∃ S : World → Prop, ∀ W, S W ↔ Below w6.heap.size w6 W := ⟨_, fun _ => Iff.rfl⟩
  have zc0 : ∀ W : At S, W.wd.cell? ⟨w.heap.size, 0, none⟩ = some (.int .i64 n) := fun W => by rw [(HK6.out.below ((hS _).1 W.ok) HK6.out.lt).cell 0]; rfl
  have zx0 : ∀ W : At S, W.wd.cell? ⟨gx, 0, none⟩ = some (.int .i64 n) := fun W => by rw [(HX6.out.below ((hS _).1 W.ok) HX6.out.lt).cell 0]; rfl
  have zc1 : ∀ W : At S, W.wd.cell? ⟨w.heap.size, 1, none⟩ = some (.slice a0 gs.length p0) := fun W => by rw [(HK6.out.below ((hS _).1 W.ok) HK6.out.lt).cell 1]; rfl
  have zx1 : ∀ W : At S, W.wd.cell? ⟨gx, 1, none⟩ = some (.slice e0 gs.length q0) := fun W => by rw [(HX6.out.below ((hS _).1 W.ok) HX6.out.lt).cell 1]; rfl
  have zc2 : ∀ W : At S, W.wd.cell? ⟨w.heap.size, 2, none⟩ = some (.slice a1 qs.length p1) := fun W => by rw [(HK6.out.below ((hS _).1 W.ok) HK6.out.lt).cell 2]; rfl
  have zx2 : ∀ W : At S, W.wd.cell? ⟨gx, 2, none⟩ = some (.slice e1 qs.length q1) := fun W => by rw [(HX6.out.below ((hS _).1 W.ok) HX6.out.lt).cell 2]; rfl
  have zc3 : ∀ W : At S, W.wd.cell? ⟨w.heap.size, 3, none⟩ = some (.int .i64 g) := fun W => by rw [(HK6.out.below ((hS _).1 W.ok) HK6.out.lt).cell 3]; rfl
  have zx3 : ∀ W : At S, W.wd.cell? ⟨gx, 3, none⟩ = some (.int .i64 g) := fun W => by rw [(HX6.out.below ((hS _).1 W.ok) HX6.out.lt).cell 3]; rfl
  have HS : Hid (∀ W, S W ↔ Below w6.heap.size w6 W) := hS
  have ne : Nonempty (At S) := ⟨⟨w6, (hS _).2 (Below.refl _ _)⟩⟩
  clear hS
  have hb1 : (s1 != s1) = false := by simp
  have hb2 : (s2 != s2) = false := by simp
  go_wp2
  refine region_mixA [true, true, false, false, false] 5 3 S (by kernel_rfl) rfl (by kernel_rfl) (fun _ _ _ _ _ h => h) ((HS.out _).2 (Below.refl _ _).drew) ?_
  simp only [selT, selF]
  repeat (go_big_quiet_step (fail))
  refine wpQuiet_nil ?_
  refine tail_step ?_
  go_wp2_with (fail)
  refine (toDesk_c n g _ _ gs qs w6.drew (HH.out.1.below HB6.out.drew) (HH.out.2.below HB6.out.drew) HL.out.1 HL.out.2).mono ?_
  rintro e w7 ⟨u0, u1, rfl, o7, b7⟩
  have B7 : Below w6.heap.size w6 w7 := (Below.refl _ _).drew.trans b7
  have HB7 : Hid (Below w6.heap.size w6 w7) := B7
  have HO7 : Hid ((Rg 3 agC w7 u0 gs ∧ Rg 4 wtC w7 u1 qs) ∧ (Rg 3 agC w7 (.slice e0 gs.length q0) gs ∧ Rg 4 wtC w7 (.slice e1 qs.length q1) qs)) := ⟨⟨o7.1.rd agC_len, o7.2.1.rd wtC_len⟩, HO6.out.1.below B7, HO6.out.2.below B7⟩
  clear o7 b7 B7
  go_wp2
  refine ⟨(HS.out _).2 HB7.out, tail_step ?_⟩
  go_wp2_with (fail)
  refine (eqDesk_t n g _ _ _ _ gs qs w7 HO7.out.2.1 HO7.out.2.2 HO7.out.1.1 HO7.out.1.2).mono ?_
  rintro e w8 ⟨rfl, b8⟩
  have HB8 : Hid (Below w6.heap.size w6 w8) := belowCall HB7.out b8 HB7.out.size
  clear b8
  go_wp2
  refine ⟨(HS.out _).2 HB8.out, tail_step ?_⟩
  go_wp2
  refine ⟨(HS.out _).2 HB8.out, tail_end ?_⟩
  have HB9 : Hid (Below w.heap.size w w8) := belowCall HB6.out HB8.out HB6.out.size
  go_wp2
  go_ret
  exact ⟨rfl, HB9.out⟩
end Go.Proofs.Ytpmmgbinogokfaa

/- The walk of a law; no condition. -/
import Derived.Test.YtfbegonnbdakpaaSmp
import Derived.Test.YtfbegonnbdakpaaInv
namespace Go.Proofs.Ytfbegonnbdakpaa
open Go.RowKit Go.ChangeShapes Go.WideShapes Go.ChangeAt
set_option linter.unusedVariables false
set_option linter.unusedSimpArgs false
set_option maxRecDepth 8000
set_option maxHeartbeats 1600000 in
theorem widenLaw (a b : Nat) (w : World) : Calls Try.prog 7 #[.agg #[.float .f32 a, .float .f32 b]] w fun e w' => e = .returned (.bool true) ∧ Below w.heap.size w w' := by
  have hsf := storeF
  obtain ⟨W1, hW1⟩ : ∃ W, (w.alloc (Obj.cells #[.float .f32 a, .float .f32 b] 50)) = W := ⟨_, rfl⟩
  have HW1 : Hid ((w.alloc (Obj.cells #[.float .f32 a, .float .f32 b] 50)) = W1) := hW1
  have HB1 : Hid (Below w.heap.size w W1) := by rw [← hW1]; exact (Below.refl _ _).alloc (Nat.le_refl _) _
  have HK0 : Hid (Blk W1 w.heap.size #[.float .f32 a, .float .f32 b] 50) := by rw [← hW1]; exact Blk.new _ _ _
  clear hW1
  go_enter Try.func7, Try.ntmps7
  go_wp2_with (fail)
  rw [HW1.out]
  refine (toSample_c a b _).mono ?_
  rintro e u0 ⟨rfl, b0⟩
  have HU0 : Hid (Below W1.heap.size W1 u0) := belowCall (Below.refl W1.heap.size W1) b0 ((Below.refl W1.heap.size W1)).size
  clear b0
  go_wp2_with (fail)
  refine (widM_c a b _).mono ?_
  rintro e v0 ⟨x0, y0, rfl, hx0, hy0, b0⟩
  have HV0 : Hid (Below W1.heap.size W1 v0) := belowCall HU0.out b0 HU0.out.size
  have HX0 : Hid (fc .f64 x0 = (fc .f32 a).map wid) := hx0
  have HY0 : Hid (fc .f64 y0 = (fc .f32 b).map wid) := hy0
  clear hx0 hy0
  obtain ⟨W3, hW3⟩ : ∃ W, v0.alloc (Obj.cells #[.float .f64 x0, .float .f64 y0] 30) = W := ⟨_, rfl⟩
  have HW3 : Hid (v0.alloc (Obj.cells #[.float .f64 x0, .float .f64 y0] 30) = W3) := hW3
  have HG0 : Hid (Blk W3 v0.heap.size #[.float .f64 x0, .float .f64 y0] 30) := by rw [← hW3]; exact Blk.new _ _ _
  have HB3 : Hid (Below W1.heap.size W1 W3) := by rw [← hW3]; exact HV0.out.alloc HV0.out.size _
  have x0 : v0.cell? ⟨w.heap.size, 0, none⟩ = some (.float .f32 a) := by rw [(HK0.out.below HV0.out HK0.out.lt).cell]; rfl
  have x1 : v0.cell? ⟨w.heap.size, 1, none⟩ = some (.float .f32 b) := by rw [(HK0.out.below HV0.out HK0.out.lt).cell]; rfl
  have hl : w.heap.size < v0.heap.size := (HK0.out.below HV0.out HK0.out.lt).lt
  clear b0 hW3
  go_wp2_with (fail)
  rw [HW3.out]
  refine (toSample_c a b _).mono ?_
  rintro e u1 ⟨rfl, b1⟩
  have HU3 : Hid (Below W3.heap.size W3 u1) := b1
  have HU1 : Hid (Below W1.heap.size W1 u1) := belowCall HB3.out b1 (HB3.out).size
  clear b1 x0 x1 hl
  go_wp2_with (fail)
  refine (widI_c a b _).mono ?_
  rintro e v1 ⟨x1, y1, rfl, hx1, hy1, b1⟩
  have HV1 : Hid (Below W1.heap.size W1 v1) := belowCall HU1.out b1 HU1.out.size
  have HX1 : Hid (fc .f64 x1 = (fc .f32 a).map wid) := hx1
  have HY1 : Hid (fc .f64 y1 = (fc .f32 b).map wid) := hy1
  clear hx1 hy1
  obtain ⟨W5, hW5⟩ : ∃ W, v1.alloc (Obj.cells #[.float .f64 x1, .float .f64 y1] 30) = W := ⟨_, rfl⟩
  have HW5 : Hid (v1.alloc (Obj.cells #[.float .f64 x1, .float .f64 y1] 30) = W5) := hW5
  have HG1 : Hid (Blk W5 v1.heap.size #[.float .f64 x1, .float .f64 y1] 30) := by rw [← hW5]; exact Blk.new _ _ _
  have HB5 : Hid (Below W1.heap.size W1 W5) := by rw [← hW5]; exact HV1.out.alloc HV1.out.size _
  have HGB : Hid (Blk v1 v0.heap.size #[.float .f64 x0, .float .f64 y0] 30) := HG0.out.below (HU3.out.trans (b1.mono HU3.out.size)) HG0.out.lt
  clear b1 hW5
  have HGB5 : Hid (Blk W5 v0.heap.size #[.float .f64 x0, .float .f64 y0] 30) := by rw [← HW5.out]; exact HGB.out.alloc _
  have y00 := HGB5.out.cell 0
  have y01 := HGB5.out.cell 1
  have y10 := HG1.out.cell 0
  have y11 := HG1.out.cell 1
  simp at y00 y01 y10 y11
  have r0 : ∀ t : Type, True := fun _ => trivial
  clear r0
  have HEQ : Hid (fc .f64 x1 = fc .f64 x0) := HX1.out.trans HX0.out.symm
  have HEY : Hid (fc .f64 y1 = fc .f64 y0) := HY1.out.trans HY0.out.symm
  rw [← HW5.out] at y00 y01 y10 y11
  go_wp2_with (fail)
  rw [HW5.out]
  refine (eqWide_c _ _ _ _ HEQ.out HEY.out _).mono ?_
  rintro e w9 ⟨rfl, b9⟩
  have HB9 : Hid (Below w.heap.size w w9) := belowCall HB1.out (HB5.out.trans (b9.mono HB5.out.size)) HB1.out.size
  clear b9 y00 y01 y10 y11
  go_wp2
  go_ret
  exact ⟨rfl, HB9.out⟩

end Go.Proofs.Ytfbegonnbdakpaa

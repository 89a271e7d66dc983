/- FnExactSettleUp's body answers true; no condition. -/
import Derived.Test.YtiohjphbhemdbaaSu
namespace Go.Proofs.Ytiohjphbhemdbaa
open Go.RowKit Go.ChangeShapes Go.WideShapes Go.ChangeAt
set_option linter.unusedVariables false
set_option linter.unusedSimpArgs false
set_option maxRecDepth 8000
theorem setF_two (l k a c : Int) : ∃ x y : Int, ∃ b : Bool, setF l k a c = .tuple #[.agg (P2 x y), .bool b] := by
  unfold setF
  split
  · exact ⟨_, _, _, rfl⟩
  · exact ⟨_, _, _, rfl⟩
set_option maxHeartbeats 3200000 in
theorem settleLaw (l k a c : Int) (w : World) : Calls Try.prog 3 #[.agg (P2 l k), .int .i64 a, .int .i64 c] w fun e w' => e = .returned (.bool true) ∧ Below w.heap.size w w' := by
  obtain ⟨x, y, b, hF⟩ := setF_two l k a c
  have HF : Hid (setF l k a c = .tuple #[.agg (P2 x y), .bool b]) := hF
  clear hF
  obtain ⟨W0, hW0⟩ : ∃ W0, w.alloc (Obj.cells (P2 l k) 23) = W0 := ⟨_, rfl⟩
  have HW0 : Hid (w.alloc (Obj.cells (P2 l k) 23) = W0) := hW0
  have HB0 : Hid (Below w.heap.size w W0) := hW0 ▸ (Below.refl _ _).alloc (Nat.le_refl _) _
  have HK0 : Hid (Blk W0 w.heap.size (P2 l k) 23) := hW0 ▸ Blk.new _ _ _
  clear hW0
  have x0 := HK0.out.cell 0
  have x1 := HK0.out.cell 1
  simp at x0 x1
  go_enter Try.func3, Try.ntmps3
  go_wp2_with (fail)
  rw [HW0.out]
  refine (toPurse_c l k _).mono ?_
  rintro e w1 ⟨rfl, b1⟩
  have HB1 : Hid (Below w.heap.size w w1) := belowCall HB0.out b1 HB0.out.size
  have HK1 : Hid (Blk w1 w.heap.size (P2 l k) 23) := HK0.out.below b1 HK0.out.lt
  clear HK0 HB0 b1 x0 x1
  have x0 := HK1.out.cell 0
  have x1 := HK1.out.cell 1
  simp at x0 x1
  go_wp2_with (fail)
  refine (setM_c l k a c _).mono ?_
  rintro e w2 ⟨rfl, b2⟩
  rw [HF.out]
  have HB2 : Hid (Below w.heap.size w w2) := belowCall HB1.out b2 HB1.out.size
  have HK2 : Hid (Blk w2 w.heap.size (P2 l k) 23) := HK1.out.below b2 HK1.out.lt
  clear HK1 HB1 b2 x0 x1
  obtain ⟨W3, hW3⟩ : ∃ W3, w2.alloc (Obj.cells (P2 x y) 24) = W3 := ⟨_, rfl⟩
  have HB3 : Hid (Below w.heap.size w W3) := hW3 ▸ HB2.out.alloc HB2.out.size _
  have HK3 : Hid (Blk W3 w.heap.size (P2 l k) 23) := hW3 ▸ HK2.out.alloc _
  have HG3 : Hid (Blk W3 w2.heap.size (P2 x y) 24) := hW3 ▸ Blk.new _ _ _
  have HW3 : Hid (w2.alloc (Obj.cells (P2 x y) 24) = W3) := hW3
  have HNE : Hid (w.heap.size < w2.heap.size) := HK2.out.lt
  have x0 := HK2.out.cell 0
  have x1 := HK2.out.cell 1
  have hlt : w.heap.size < w2.heap.size := HK2.out.lt
  simp at x0 x1
  clear HK2 HB2 hW3
  go_wp2_with (fail)
  rw [HW3.out]
  refine (toPurse_c l k _).mono ?_
  rintro e w4 ⟨rfl, b4⟩
  have HB4 : Hid (Below w.heap.size w w4) := belowCall HB3.out b4 HB3.out.size
  have HK4 : Hid (Blk w4 w.heap.size (P2 l k) 23) := HK3.out.below b4 HK3.out.lt
  have HG4 : Hid (Blk w4 w2.heap.size (P2 x y) 24) := HG3.out.below b4 HG3.out.lt
  clear b4 HB3 HK3 HG3 HW3 x0 x1
  go_wp2_with (fail)
  refine (setI_c l k a c _).mono ?_
  rintro e w5 ⟨rfl, b5⟩
  rw [HF.out]
  have HB5 : Hid (Below w.heap.size w w5) := belowCall HB4.out b5 HB4.out.size
  have HG5 : Hid (Blk w5 w2.heap.size (P2 x y) 24) := HG4.out.below b5 HG4.out.lt
  clear b5 HB4 HK4 HG4
  obtain ⟨W6, hW6⟩ : ∃ W6, w5.alloc (Obj.cells (P2 x y) 24) = W6 := ⟨_, rfl⟩
  have HB6 : Hid (Below w.heap.size w W6) := hW6 ▸ HB5.out.alloc HB5.out.size _
  have HW6 : Hid (w5.alloc (Obj.cells (P2 x y) 24) = W6) := hW6
  have hl5 : w2.heap.size < w5.heap.size := HG5.out.lt
  have y0 := HG5.out.cell 0
  have y1 := HG5.out.cell 1
  simp at y0 y1
  clear HG5 HB5 hW6
  go_wp2_with (fail)
  rw [HW6.out]
  refine (eqPurse_c x y x y _).mono ?_
  rintro e w7 ⟨rfl, b7⟩
  have HB7 : Hid (Below w.heap.size w w7) := belowCall HB6.out b7 HB6.out.size
  have hd : decide ((x, y) = (x, y)) = true := by simp
  rw [hd]
  have hbb : (b != b) = false := by simp
  clear b7 HB6 HW6 y0 y1 hd hlt hl5
  go_wp2
  go_ret
  exact ⟨rfl, HB7.out⟩
end Go.Proofs.Ytiohjphbhemdbaa

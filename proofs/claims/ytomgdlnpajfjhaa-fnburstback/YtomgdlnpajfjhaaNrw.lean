/- Narrowing; no condition. -/
import Derived.Test.YtomgdlnpajfjhaaSmp
import Derived.Test.YtomgdlnpajfjhaaLea
namespace Go.Proofs.Ytomgdlnpajfjhaa
open Go.RowKit Go.ChangeShapes Go.WideShapes Go.ChangeAt
set_option linter.unusedVariables false
set_option linter.unusedSimpArgs false
set_option maxRecDepth 8000

theorem narrow_c (a b : Nat) (w : World) : Calls Try.prog 13 #[.agg #[.float .f64 a, .float .f64 b]] w fun e w' => ∃ x y, e = .returned (.agg #[.float .f32 x, .float .f32 y]) ∧ NA (fc .f64 a) x ∧ NA (fc .f64 b) y ∧ Below w.heap.size w w' := by
  obtain ⟨W0, hW0⟩ : ∃ W, (w.alloc (Obj.cells #[.float .f64 a, .float .f64 b] 38)).alloc (Obj.cells #[.float .f32 0, .float .f32 0] 27) = W := ⟨_, rfl⟩
  have HW0 : Hid ((w.alloc (Obj.cells #[.float .f64 a, .float .f64 b] 38)).alloc (Obj.cells #[.float .f32 0, .float .f32 0] 27) = W0) := hW0
  have HB0 : Hid (Below w.heap.size w W0) := by rw [← hW0]; exact ((Below.refl _ _).alloc (Nat.le_refl _) _).alloc (by simp) _
  have HK1 : Hid (Blk W0 (w.heap.size + 1) #[.float .f32 0, .float .f32 0] 27) := by rw [← hW0]; exact Blk.newAt _ _ _ _ (by simp)
  clear hW0
  go_enter Try.func13, Try.ntmps13
  go_wp2_with (fail)
  rw [HW0.out]
  refine (inDouble_c a b W0).mono ?_
  rintro e w1 ⟨rfl, b1⟩
  have HB1 : Hid (Below W0.heap.size W0 w1) := b1
  clear b1
  obtain ⟨x, y, n, hc, h3, h4⟩ := run_narC (P := Try.prog) 65 55 a b w1 (by kernel_rfl) Try.underlying55
  have H3 : Hid (NA (fc .f64 a) x) := h3
  have H4 : Hid (NA (fc .f64 b) y) := h4
  clear h3 h4
  go_wp2_with (fail)
  refine (sampleOf_c x y (w1.drewN n)).mono ?_
  rintro e w2 ⟨rfl, b2⟩
  have HB2 : Hid (Below w.heap.size w w2) := belowCall (belowCall HB0.out HB1.out HB0.out.size) (below_drewN (Below.refl _ _) _ |>.trans b2) (belowCall HB0.out HB1.out HB0.out.size).size
  have hk : Blk w2 (w.heap.size + 1) #[.float .f32 0, .float .f32 0] 27 := (HK1.out.below HB1.out HK1.out.lt).below (below_drewN (Below.refl _ _) _ |>.trans b2) (HK1.out.below HB1.out HK1.out.lt).lt
  have o0 : w2.heap.size > w.heap.size + 1 := hk.lt
  have c0 : w2.cell? ⟨w.heap.size + 1, 0, none⟩ = some (.float .f32 0) := by rw [hk.cell]; rfl
  have c1 : w2.cell? ⟨w.heap.size + 1, 1, none⟩ = some (.float .f32 0) := by rw [hk.cell]; rfl
  have f0 := hk.frozen 0
  have f1 := hk.frozen 1
  have HK : Hid (Blk w2 (w.heap.size + 1) #[.float .f32 0, .float .f32 0] 27) := hk
  have hsf := storeF
  clear hk b2
  go_wp2
  exact bodyPost_ret (results_cell_row rfl _ _ _ 27 _ (0, 0) _ rfl (Blk.set2 HK.out _ _) Try.underlying27 rfl sz26) rfl ⟨_, _, rfl, H3.out, H4.out, below_set2 HB2.out _ (by omega) _ _⟩

end Go.Proofs.Ytomgdlnpajfjhaa

/- Samples and wide ones; no condition. -/
import Derived.Test.YtomgdlnpajfjhaaSfl
import Derived.Test.YtomgdlnpajfjhaaMixT
import Derived.Test.YtomgdlnpajfjhaaFlt
namespace Go.Proofs.Ytomgdlnpajfjhaa
open Go.RowKit Go.ChangeShapes Go.WideShapes Go.ChangeAt
set_option linter.unusedVariables false
set_option linter.unusedSimpArgs false
set_option maxRecDepth 8000
theorem sz26 : (Try.prog.info? 27).map (·.size) = some 2 := by kernel_rfl
theorem sz30 : (Try.prog.info? 38).map (·.size) = some 2 := by kernel_rfl
/-- an answer whose parts are told -/
def SmR (k : FloatKind) (A B : Option Nat) (w : World) (e : Ending) (w' : World) : Prop := ∃ x y, e = .returned (.agg #[.float k x, .float k y]) ∧ fc k x = A ∧ fc k y = B ∧ Below w.heap.size w w'
theorem sampleOf_c (a b : Nat) (w : World) : Calls Try.prog 41 #[.complex .f32 a b] w fun e w' => e = .returned (.agg #[.float .f32 a, .float .f32 b]) ∧ Below w.heap.size w w' := by
  have hsf := storeF
  go_enter Try.func41, Try.ntmps41
  go_wp2
  have h1 : Blk (w.alloc (Obj.cells #[.float .f32 a, .float .f32 b] 27)) w.heap.size #[.float .f32 a, .float .f32 b] 27 := Blk.new _ _ _
  exact bodyPost_ret (v := .agg #[.float .f32 a, .float .f32 b]) (results_cell_row rfl _ _ _ 27 _ (0, 0) _ rfl h1 Try.underlying27 rfl sz26) rfl ⟨rfl, (Below.refl _ _).alloc (Nat.le_refl _) _⟩
theorem wideOf_c (a b : Nat) (w : World) : Calls Try.prog 53 #[.complex .f64 a b] w fun e w' => e = .returned (.agg #[.float .f64 a, .float .f64 b]) ∧ Below w.heap.size w w' := by
  have hsf := storeF
  go_enter Try.func53, Try.ntmps53
  go_wp2
  have h1 : Blk (w.alloc (Obj.cells #[.float .f64 a, .float .f64 b] 38)) w.heap.size #[.float .f64 a, .float .f64 b] 38 := Blk.new _ _ _
  exact bodyPost_ret (v := .agg #[.float .f64 a, .float .f64 b]) (results_cell_row rfl _ _ _ 38 _ (0, 0) _ rfl h1 Try.underlying38 rfl sz30) rfl ⟨rfl, (Below.refl _ _).alloc (Nat.le_refl _) _⟩
theorem inSingle_c (a b : Nat) (w : World) : Calls Try.prog 32 #[.agg #[.float .f32 a, .float .f32 b]] w fun e w' => e = .returned (.complex .f32 a b) ∧ Below w.heap.size w w' := by
  go_enter Try.func32, Try.ntmps32
  go_wp2
  go_ret
  exact ⟨rfl, (Below.refl _ _).alloc (Nat.le_refl _) _⟩
theorem inDouble_c (a b : Nat) (w : World) : Calls Try.prog 36 #[.agg #[.float .f64 a, .float .f64 b]] w fun e w' => e = .returned (.complex .f64 a b) ∧ Below w.heap.size w w' := by
  go_enter Try.func36, Try.ntmps36
  go_wp2
  go_ret
  exact ⟨rfl, (Below.refl _ _).alloc (Nat.le_refl _) _⟩
theorem wid_fc {a b : Nat} (h : fc .f32 a = fc .f32 b) (w w' : World) : fc .f64 (wv a w) = fc .f64 (wv b w') := by rw [fc_wv, fc_wv, h]
theorem eqSample_c (a b a' b' : Nat) (h : fc .f32 a = fc .f32 a') (h' : fc .f32 b = fc .f32 b') (w : World) : Calls Try.prog 45 #[.agg #[.float .f32 a, .float .f32 b], .agg #[.float .f32 a', .float .f32 b']] w fun e w' => e = .returned (.bool true) ∧ Below w.heap.size w w' := by
  have H : Hid (fc .f32 a = fc .f32 a') := h
  have H' : Hid (fc .f32 b = fc .f32 b') := h'
  clear h h'
  have hcv := fun s d b w hs hd => run_conv_wid (P := Try.prog) s d b w hs hd
  have hcs := fun s d k b w hs hd => run_conv_same (P := Try.prog) s d k b w hs hd
  obtain ⟨W0, hW0⟩ : ∃ W, (w.alloc (Obj.cells #[.float .f32 a, .float .f32 b] 27)).alloc (Obj.cells #[.float .f32 a', .float .f32 b'] 27) = W := ⟨_, rfl⟩
  have HW0 : Hid ((w.alloc (Obj.cells #[.float .f32 a, .float .f32 b] 27)).alloc (Obj.cells #[.float .f32 a', .float .f32 b'] 27) = W0) := hW0
  have HB0 : Hid (Below w.heap.size w W0) := by rw [← hW0]; exact ((Below.refl _ _).alloc (Nat.le_refl _) _).alloc (by simp) _
  have HK0 : Hid (Blk W0 w.heap.size #[.float .f32 a, .float .f32 b] 27) := by rw [← hW0]; exact (Blk.new _ _ _).alloc _
  have HK1 : Hid (Blk W0 (w.heap.size + 1) #[.float .f32 a', .float .f32 b'] 27) := by rw [← hW0]; exact Blk.newAt _ _ _ _ (by simp)
  clear hW0
  go_enter Try.func45, Try.ntmps45
  go_wp2_with (fail)
  rw [HW0.out]
  refine (sameFloat_c _ _ (wid_fc (H.out) _ _) _).mono ?_
  rintro e w1 ⟨rfl, b1⟩
  have HB1 : Hid (Below W0.heap.size W0 w1) := below_drewN (Below.refl _ _) _ |>.trans b1
  clear b1
  have x0 : w1.cell? ⟨w.heap.size, 1, none⟩ = some (.float .f32 b) := by rw [(HK0.out.below HB1.out HK0.out.lt).cell]; rfl
  have x1 : w1.cell? ⟨w.heap.size + 1, 1, none⟩ = some (.float .f32 b') := by rw [(HK1.out.below HB1.out HK1.out.lt).cell]; rfl
  go_wp2_with (fail)
  refine (sameFloat_c _ _ (wid_fc (H'.out) _ _) _).mono ?_
  rintro e w2 ⟨rfl, b2⟩
  have HB2 : Hid (Below w.heap.size w w2) := belowCall (belowCall HB0.out HB1.out HB0.out.size) (below_drewN (Below.refl _ _) _ |>.trans b2) (belowCall HB0.out HB1.out HB0.out.size).size
  clear b2 x0 x1
  go_wp2
  go_ret
  exact ⟨rfl, HB2.out⟩
theorem Blk.set2 {w : World} {g : Nat} {t : TypeId} {u v : Value} (h : Blk w g #[u, v] t) (x y : Value) : Blk ((w.setCell ⟨g, 0, none⟩ x).setCell ⟨g, 1, none⟩ y) g #[x, y] t := (h.set 0 x).set 1 y
theorem below_set2 {B : Nat} {a w : World} (h : Below B a w) (g : Nat) (hg : B ≤ g) (x y : Value) : Below B a ((w.setCell ⟨g, 0, none⟩ x).setCell ⟨g, 1, none⟩ y) := (h.setCell (p := ⟨g, 0, none⟩) hg x).setCell (p := ⟨g, 1, none⟩) hg y
end Go.Proofs.Ytomgdlnpajfjhaa

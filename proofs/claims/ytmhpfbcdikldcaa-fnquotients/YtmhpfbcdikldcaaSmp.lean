/- Samples and wide ones; no condition. -/
import Derived.Test.YtmhpfbcdikldcaaSfl
import Derived.Test.YtmhpfbcdikldcaaMixT
import Derived.Test.YtmhpfbcdikldcaaFlt
namespace Go.Proofs.Ytmhpfbcdikldcaa
open Go.RowKit Go.ChangeShapes Go.WideShapes Go.ChangeAt
set_option linter.unusedVariables false
set_option linter.unusedSimpArgs false
set_option maxRecDepth 8000
theorem sz26 : (Try.prog.info? 26).map (·.size) = some 2 := by kernel_rfl
theorem sz30 : (Try.prog.info? 34).map (·.size) = some 2 := by kernel_rfl
/-- an answer whose parts are told -/
def SmR (k : FloatKind) (A B : Option Nat) (w : World) (e : Ending) (w' : World) : Prop := ∃ x y, e = .returned (.agg #[.float k x, .float k y]) ∧ fc k x = A ∧ fc k y = B ∧ Below w.heap.size w w'
theorem sampleOf_c (a b : Nat) (w : World) : Calls Try.prog 21 #[.complex .f32 a b] w fun e w' => e = .returned (.agg #[.float .f32 a, .float .f32 b]) ∧ Below w.heap.size w w' := by
  have hsf := storeF
  go_enter Try.func21, Try.ntmps21
  go_wp2
  have h1 : Blk (w.alloc (Obj.cells #[.float .f32 a, .float .f32 b] 26)) w.heap.size #[.float .f32 a, .float .f32 b] 26 := Blk.new _ _ _
  exact bodyPost_ret (v := .agg #[.float .f32 a, .float .f32 b]) (results_cell_row rfl _ _ _ 26 _ (0, 0) _ rfl h1 Try.underlying26 rfl sz26) rfl ⟨rfl, (Below.refl _ _).alloc (Nat.le_refl _) _⟩
theorem wideOf_c (a b : Nat) (w : World) : Calls Try.prog 25 #[.complex .f64 a b] w fun e w' => e = .returned (.agg #[.float .f64 a, .float .f64 b]) ∧ Below w.heap.size w w' := by
  have hsf := storeF
  go_enter Try.func25, Try.ntmps25
  go_wp2
  have h1 : Blk (w.alloc (Obj.cells #[.float .f64 a, .float .f64 b] 34)) w.heap.size #[.float .f64 a, .float .f64 b] 34 := Blk.new _ _ _
  exact bodyPost_ret (v := .agg #[.float .f64 a, .float .f64 b]) (results_cell_row rfl _ _ _ 34 _ (0, 0) _ rfl h1 Try.underlying34 rfl sz30) rfl ⟨rfl, (Below.refl _ _).alloc (Nat.le_refl _) _⟩
theorem inSingle_c (a b : Nat) (w : World) : Calls Try.prog 23 #[.agg #[.float .f32 a, .float .f32 b]] w fun e w' => e = .returned (.complex .f32 a b) ∧ Below w.heap.size w w' := by
  go_enter Try.func23, Try.ntmps23
  go_wp2
  go_ret
  exact ⟨rfl, (Below.refl _ _).alloc (Nat.le_refl _) _⟩
theorem inDouble_c (a b : Nat) (w : World) : Calls Try.prog 24 #[.agg #[.float .f64 a, .float .f64 b]] w fun e w' => e = .returned (.complex .f64 a b) ∧ Below w.heap.size w w' := by
  go_enter Try.func24, Try.ntmps24
  go_wp2
  go_ret
  exact ⟨rfl, (Below.refl _ _).alloc (Nat.le_refl _) _⟩
theorem wid_fc {a b : Nat} (h : fc .f32 a = fc .f32 b) (w w' : World) : fc .f64 (wv a w) = fc .f64 (wv b w') := by rw [fc_wv, fc_wv, h]
theorem Blk.set2 {w : World} {g : Nat} {t : TypeId} {u v : Value} (h : Blk w g #[u, v] t) (x y : Value) : Blk ((w.setCell ⟨g, 0, none⟩ x).setCell ⟨g, 1, none⟩ y) g #[x, y] t := (h.set 0 x).set 1 y
theorem below_set2 {B : Nat} {a w : World} (h : Below B a w) (g : Nat) (hg : B ≤ g) (x y : Value) : Below B a ((w.setCell ⟨g, 0, none⟩ x).setCell ⟨g, 1, none⟩ y) := (h.setCell (p := ⟨g, 0, none⟩) hg x).setCell (p := ⟨g, 1, none⟩) hg y
theorem widM_c (a b : Nat) (w : World) : Calls Try.prog 28 #[.agg #[.float .f32 a, .float .f32 b]] w (SmR .f64 ((fc .f32 a).map wid) ((fc .f32 b).map wid) w) := by
  have hsf := storeF
  have hcv := fun s d b w hs hd => run_conv_wid (P := Try.prog) s d b w hs hd
  go_enter Try.func28, Try.ntmps28
  go_wp2
  exact bodyPost_ret (results_cell_row rfl _ _ _ 34 _ (0, 0) _ rfl (Blk.set2 ((Blk.newAt _ _ _ _ (by simp)).drewN _) _ _) Try.underlying34 rfl sz30) rfl ⟨_, _, rfl, fc_wv _ _, fc_wv _ _, below_set2 (below_drewN (((Below.refl _ _).alloc (Nat.le_refl _) _).alloc (by simp) _) _) _ (by omega) _ _⟩
theorem mulM_c (a b c d : Nat) (w : World) : Calls Try.prog 27 #[.agg #[.float .f64 a, .float .f64 b], .agg #[.float .f64 c, .float .f64 d]] w (SmR .f64 (fo .sub .f64 (fo .mul .f64 (fc .f64 a) (fc .f64 c)) (fo .mul .f64 (fc .f64 b) (fc .f64 d))) (fo .add .f64 (fo .mul .f64 (fc .f64 a) (fc .f64 d)) (fo .mul .f64 (fc .f64 b) (fc .f64 c))) w) := by
  have hsf := storeF
  have hop := run_fop (P := Try.prog) .add (by simp)
  have hos := run_fop (P := Try.prog) .sub (by simp)
  have hom := run_fop (P := Try.prog) .mul (by simp)
  go_enter Try.func27, Try.ntmps27
  go_wp2
  refine bodyPost_ret (results_cell_row rfl _ _ _ 34 _ (0, 0) _ rfl (Blk.set2 ((Blk.newAt _ _ _ _ (by simp)).drewN _) _ _) Try.underlying34 rfl sz30) rfl ⟨_, _, rfl, ?_, ?_, below_set2 (below_drewN ((((Below.refl _ _).alloc (Nat.le_refl _) _).alloc (by simp) _).alloc (by simp; omega) _) _) _ (by omega) _ _⟩
  · simp only [fc_fv]
  · simp only [fc_fv]
set_option maxHeartbeats 1600000 in
theorem addI_c (a b c d : Nat) (w : World) : Calls Try.prog 9 #[.agg #[.float .f32 a, .float .f32 b], .agg #[.float .f32 c, .float .f32 d]] w (SmR .f32 (fo .add .f32 (fc .f32 a) (fc .f32 c)) (fo .add .f32 (fc .f32 b) (fc .f32 d)) w) := by
  have hsf := storeF
  obtain ⟨W0, hW0⟩ : ∃ W, ((w.alloc (Obj.cells #[.float .f32 a, .float .f32 b] 26)).alloc (Obj.cells #[.float .f32 c, .float .f32 d] 26)).alloc (Obj.cells #[.float .f32 0, .float .f32 0] 26) = W := ⟨_, rfl⟩
  have HW0 : Hid (((w.alloc (Obj.cells #[.float .f32 a, .float .f32 b] 26)).alloc (Obj.cells #[.float .f32 c, .float .f32 d] 26)).alloc (Obj.cells #[.float .f32 0, .float .f32 0] 26) = W0) := hW0
  have HB0 : Hid (Below w.heap.size w W0) := by rw [← hW0]; exact (((Below.refl _ _).alloc (Nat.le_refl _) _).alloc (by simp) _).alloc (by simp; omega) _
  have HK0 : Hid (Blk W0 w.heap.size #[.float .f32 a, .float .f32 b] 26) := by rw [← hW0]; exact ((Blk.new _ _ _).alloc _).alloc _
  have HK1 : Hid (Blk W0 (w.heap.size + 1) #[.float .f32 c, .float .f32 d] 26) := by rw [← hW0]; exact (Blk.newAt _ _ _ _ (by simp)).alloc _
  have HK2 : Hid (Blk W0 (w.heap.size + 1 + 1) #[.float .f32 0, .float .f32 0] 26) := by rw [← hW0]; exact Blk.newAt _ _ _ _ (by simp)
  obtain ⟨S, hS⟩ : ∃ S : World → Prop, ∀ W, S W ↔ Below W0.heap.size W0 W := ⟨_, fun _ => Iff.rfl⟩
  have HS : Hid (∀ W, S W ↔ Below W0.heap.size W0 W) := hS
  have x0 : ∀ W : At S, W.wd.cell? ⟨w.heap.size, 0, none⟩ = some (.float .f32 a) := fun W => by rw [(HK0.out.below ((hS _).1 W.ok) HK0.out.lt).cell]; rfl
  have x1 : ∀ W : At S, W.wd.cell? ⟨w.heap.size, 1, none⟩ = some (.float .f32 b) := fun W => by rw [(HK0.out.below ((hS _).1 W.ok) HK0.out.lt).cell]; rfl
  have y0 : ∀ W : At S, W.wd.cell? ⟨w.heap.size + 1, 0, none⟩ = some (.float .f32 c) := fun W => by rw [(HK1.out.below ((hS _).1 W.ok) HK1.out.lt).cell]; rfl
  have y1 : ∀ W : At S, W.wd.cell? ⟨w.heap.size + 1, 1, none⟩ = some (.float .f32 d) := fun W => by rw [(HK1.out.below ((hS _).1 W.ok) HK1.out.lt).cell]; rfl
  have ne : Nonempty (At S) := ⟨⟨W0, (hS _).2 (Below.refl _ _)⟩⟩
  clear hS hW0
  go_enter Try.func9, Try.ntmps9
  go_wp2
  rw [HW0.out]
  refine region_mixT [true, false, true, false, false, false, false] 3 1 S (by kernel_rfl) rfl (by kernel_rfl) (fun _ _ _ _ _ h => h) ((HS.out _).2 (Below.refl _ _).drew) ?_
  simp only [selT, selF]
  try simp only [Act.put]
  repeat (go_big_quiet_step (fail))
  refine wpQuiet_nil ?_
  clear x0 x1 y0 y1 ne
  refine tail_step ?_
  go_wp2_with (fail)
  refine (inSingle_c a b _).mono ?_
  rintro e w1 ⟨rfl, b1⟩
  have HB1 : Hid (Below W0.heap.size W0 w1) := (Below.refl _ _).drew.trans b1
  clear b1
  go_wp2
  refine ⟨(HS.out _).2 HB1.out, ?_⟩
  show wpList _ _ _ _ _ _
  go_wp2_with (fail)
  refine (inSingle_c c d _).mono ?_
  rintro e w2 ⟨rfl, b2⟩
  have HB2 : Hid (Below W0.heap.size W0 w2) := belowCall HB1.out b2 HB1.out.size
  clear b2
  have hop := run_cop (P := Try.prog) .add (by simp)
  go_wp2_with (fail)
  refine (sampleOf_c _ _ _).mono ?_
  rintro e w3 ⟨rfl, b3⟩
  have HB3 : Hid (Below W0.heap.size W0 w3) := belowCall HB2.out (below_drewN (Below.refl _ _) _ |>.trans b3) HB2.out.size
  have HK3 := HK2.out.below HB3.out HK2.out.lt
  have HK4 : Hid (Blk w3 (w.heap.size + 1 + 1) #[.float .f32 0, .float .f32 0] 26) := HK3
  have z0 := HK3.cell 0
  have z1 := HK3.cell 1
  have f0 := HK3.frozen 0
  have f1 := HK3.frozen 1
  simp at z0 z1
  clear b3 HK3
  go_wp2
  exact bodyPost_ret (results_cell_row rfl _ _ _ 26 _ (0, 0) _ rfl (Blk.set2 HK4.out _ _) Try.underlying26 rfl sz26) rfl ⟨_, _, rfl, fc_fv .., fc_fv .., below_set2 (belowCall HB0.out HB3.out HB0.out.size) _ (by omega) _ _⟩
set_option maxHeartbeats 1600000 in
theorem subI_c (a b c d : Nat) (w : World) : Calls Try.prog 16 #[.agg #[.float .f32 a, .float .f32 b], .agg #[.float .f32 c, .float .f32 d]] w (SmR .f32 (fo .sub .f32 (fc .f32 a) (fc .f32 c)) (fo .sub .f32 (fc .f32 b) (fc .f32 d)) w) := by
  have hsf := storeF
  obtain ⟨W0, hW0⟩ : ∃ W, ((w.alloc (Obj.cells #[.float .f32 a, .float .f32 b] 26)).alloc (Obj.cells #[.float .f32 c, .float .f32 d] 26)).alloc (Obj.cells #[.float .f32 0, .float .f32 0] 26) = W := ⟨_, rfl⟩
  have HW0 : Hid (((w.alloc (Obj.cells #[.float .f32 a, .float .f32 b] 26)).alloc (Obj.cells #[.float .f32 c, .float .f32 d] 26)).alloc (Obj.cells #[.float .f32 0, .float .f32 0] 26) = W0) := hW0
  have HB0 : Hid (Below w.heap.size w W0) := by rw [← hW0]; exact (((Below.refl _ _).alloc (Nat.le_refl _) _).alloc (by simp) _).alloc (by simp; omega) _
  have HK0 : Hid (Blk W0 w.heap.size #[.float .f32 a, .float .f32 b] 26) := by rw [← hW0]; exact ((Blk.new _ _ _).alloc _).alloc _
  have HK1 : Hid (Blk W0 (w.heap.size + 1) #[.float .f32 c, .float .f32 d] 26) := by rw [← hW0]; exact (Blk.newAt _ _ _ _ (by simp)).alloc _
  have HK2 : Hid (Blk W0 (w.heap.size + 1 + 1) #[.float .f32 0, .float .f32 0] 26) := by rw [← hW0]; exact Blk.newAt _ _ _ _ (by simp)
  obtain ⟨S, hS⟩ : ∃ S : World → Prop, ∀ W, S W ↔ Below W0.heap.size W0 W := ⟨_, fun _ => Iff.rfl⟩
  have HS : Hid (∀ W, S W ↔ Below W0.heap.size W0 W) := hS
  have x0 : ∀ W : At S, W.wd.cell? ⟨w.heap.size, 0, none⟩ = some (.float .f32 a) := fun W => by rw [(HK0.out.below ((hS _).1 W.ok) HK0.out.lt).cell]; rfl
  have x1 : ∀ W : At S, W.wd.cell? ⟨w.heap.size, 1, none⟩ = some (.float .f32 b) := fun W => by rw [(HK0.out.below ((hS _).1 W.ok) HK0.out.lt).cell]; rfl
  have y0 : ∀ W : At S, W.wd.cell? ⟨w.heap.size + 1, 0, none⟩ = some (.float .f32 c) := fun W => by rw [(HK1.out.below ((hS _).1 W.ok) HK1.out.lt).cell]; rfl
  have y1 : ∀ W : At S, W.wd.cell? ⟨w.heap.size + 1, 1, none⟩ = some (.float .f32 d) := fun W => by rw [(HK1.out.below ((hS _).1 W.ok) HK1.out.lt).cell]; rfl
  have ne : Nonempty (At S) := ⟨⟨W0, (hS _).2 (Below.refl _ _)⟩⟩
  clear hS hW0
  go_enter Try.func16, Try.ntmps16
  go_wp2
  rw [HW0.out]
  refine region_mixT [true, false, true, false, false, false, false] 3 1 S (by kernel_rfl) rfl (by kernel_rfl) (fun _ _ _ _ _ h => h) ((HS.out _).2 (Below.refl _ _).drew) ?_
  simp only [selT, selF]
  try simp only [Act.put]
  repeat (go_big_quiet_step (fail))
  refine wpQuiet_nil ?_
  clear x0 x1 y0 y1 ne
  refine tail_step ?_
  go_wp2_with (fail)
  refine (inSingle_c a b _).mono ?_
  rintro e w1 ⟨rfl, b1⟩
  have HB1 : Hid (Below W0.heap.size W0 w1) := (Below.refl _ _).drew.trans b1
  clear b1
  go_wp2
  refine ⟨(HS.out _).2 HB1.out, ?_⟩
  show wpList _ _ _ _ _ _
  go_wp2_with (fail)
  refine (inSingle_c c d _).mono ?_
  rintro e w2 ⟨rfl, b2⟩
  have HB2 : Hid (Below W0.heap.size W0 w2) := belowCall HB1.out b2 HB1.out.size
  clear b2
  have hop := run_cop (P := Try.prog) .sub (by simp)
  go_wp2_with (fail)
  refine (sampleOf_c _ _ _).mono ?_
  rintro e w3 ⟨rfl, b3⟩
  have HB3 : Hid (Below W0.heap.size W0 w3) := belowCall HB2.out (below_drewN (Below.refl _ _) _ |>.trans b3) HB2.out.size
  have HK3 := HK2.out.below HB3.out HK2.out.lt
  have HK4 : Hid (Blk w3 (w.heap.size + 1 + 1) #[.float .f32 0, .float .f32 0] 26) := HK3
  have z0 := HK3.cell 0
  have z1 := HK3.cell 1
  have f0 := HK3.frozen 0
  have f1 := HK3.frozen 1
  simp at z0 z1
  clear b3 HK3
  go_wp2
  exact bodyPost_ret (results_cell_row rfl _ _ _ 26 _ (0, 0) _ rfl (Blk.set2 HK4.out _ _) Try.underlying26 rfl sz26) rfl ⟨_, _, rfl, fc_fv .., fc_fv .., below_set2 (belowCall HB0.out HB3.out HB0.out.size) _ (by omega) _ _⟩
set_option maxHeartbeats 1600000 in
theorem mulI_c (a b c d : Nat) (w : World) : Calls Try.prog 11 #[.agg #[.float .f64 a, .float .f64 b], .agg #[.float .f64 c, .float .f64 d]] w (SmR .f64 (fo .sub .f64 (fo .mul .f64 (fc .f64 a) (fc .f64 c)) (fo .mul .f64 (fc .f64 b) (fc .f64 d))) (fo .add .f64 (fo .mul .f64 (fc .f64 a) (fc .f64 d)) (fo .mul .f64 (fc .f64 b) (fc .f64 c))) w) := by
  have hsf := storeF
  obtain ⟨W0, hW0⟩ : ∃ W, ((w.alloc (Obj.cells #[.float .f64 a, .float .f64 b] 34)).alloc (Obj.cells #[.float .f64 c, .float .f64 d] 34)).alloc (Obj.cells #[.float .f64 0, .float .f64 0] 34) = W := ⟨_, rfl⟩
  have HW0 : Hid (((w.alloc (Obj.cells #[.float .f64 a, .float .f64 b] 34)).alloc (Obj.cells #[.float .f64 c, .float .f64 d] 34)).alloc (Obj.cells #[.float .f64 0, .float .f64 0] 34) = W0) := hW0
  have HB0 : Hid (Below w.heap.size w W0) := by rw [← hW0]; exact (((Below.refl _ _).alloc (Nat.le_refl _) _).alloc (by simp) _).alloc (by simp; omega) _
  have HK0 : Hid (Blk W0 w.heap.size #[.float .f64 a, .float .f64 b] 34) := by rw [← hW0]; exact ((Blk.new _ _ _).alloc _).alloc _
  have HK1 : Hid (Blk W0 (w.heap.size + 1) #[.float .f64 c, .float .f64 d] 34) := by rw [← hW0]; exact (Blk.newAt _ _ _ _ (by simp)).alloc _
  have HK2 : Hid (Blk W0 (w.heap.size + 1 + 1) #[.float .f64 0, .float .f64 0] 34) := by rw [← hW0]; exact Blk.newAt _ _ _ _ (by simp)
  obtain ⟨S, hS⟩ : ∃ S : World → Prop, ∀ W, S W ↔ Below W0.heap.size W0 W := ⟨_, fun _ => Iff.rfl⟩
  have HS : Hid (∀ W, S W ↔ Below W0.heap.size W0 W) := hS
  have x0 : ∀ W : At S, W.wd.cell? ⟨w.heap.size, 0, none⟩ = some (.float .f64 a) := fun W => by rw [(HK0.out.below ((hS _).1 W.ok) HK0.out.lt).cell]; rfl
  have x1 : ∀ W : At S, W.wd.cell? ⟨w.heap.size, 1, none⟩ = some (.float .f64 b) := fun W => by rw [(HK0.out.below ((hS _).1 W.ok) HK0.out.lt).cell]; rfl
  have y0 : ∀ W : At S, W.wd.cell? ⟨w.heap.size + 1, 0, none⟩ = some (.float .f64 c) := fun W => by rw [(HK1.out.below ((hS _).1 W.ok) HK1.out.lt).cell]; rfl
  have y1 : ∀ W : At S, W.wd.cell? ⟨w.heap.size + 1, 1, none⟩ = some (.float .f64 d) := fun W => by rw [(HK1.out.below ((hS _).1 W.ok) HK1.out.lt).cell]; rfl
  have ne : Nonempty (At S) := ⟨⟨W0, (hS _).2 (Below.refl _ _)⟩⟩
  clear hS hW0
  go_enter Try.func11, Try.ntmps11
  go_wp2
  rw [HW0.out]
  refine region_mixT [true, false, true, false, false, false, false] 3 1 S (by kernel_rfl) rfl (by kernel_rfl) (fun _ _ _ _ _ h => h) ((HS.out _).2 (Below.refl _ _).drew) ?_
  simp only [selT, selF]
  try simp only [Act.put]
  repeat (go_big_quiet_step (fail))
  refine wpQuiet_nil ?_
  clear x0 x1 y0 y1 ne
  refine tail_step ?_
  go_wp2_with (fail)
  refine (inDouble_c a b _).mono ?_
  rintro e w1 ⟨rfl, b1⟩
  have HB1 : Hid (Below W0.heap.size W0 w1) := (Below.refl _ _).drew.trans b1
  clear b1
  go_wp2
  refine ⟨(HS.out _).2 HB1.out, ?_⟩
  show wpList _ _ _ _ _ _
  go_wp2_with (fail)
  refine (inDouble_c c d _).mono ?_
  rintro e w2 ⟨rfl, b2⟩
  have HB2 : Hid (Below W0.heap.size W0 w2) := belowCall HB1.out b2 HB1.out.size
  clear b2
  obtain ⟨re, im, n, hop, hre, him⟩ := run_cmul (P := Try.prog) 48 a b c d w2
  have HRE : Hid (fc .f64 re = fo .sub .f64 (fo .mul .f64 (fc .f64 a) (fc .f64 c)) (fo .mul .f64 (fc .f64 b) (fc .f64 d))) := hre
  have HIM : Hid (fc .f64 im = fo .add .f64 (fo .mul .f64 (fc .f64 a) (fc .f64 d)) (fo .mul .f64 (fc .f64 b) (fc .f64 c))) := him
  clear hre him
  go_wp2_with (fail)
  refine (wideOf_c _ _ _).mono ?_
  rintro e w3 ⟨rfl, b3⟩
  have HB3 : Hid (Below W0.heap.size W0 w3) := belowCall HB2.out (below_drewN (Below.refl _ _) _ |>.trans b3) HB2.out.size
  have HK3 := HK2.out.below HB3.out HK2.out.lt
  have HK4 : Hid (Blk w3 (w.heap.size + 1 + 1) #[.float .f64 0, .float .f64 0] 34) := HK3
  have z0 := HK3.cell 0
  have z1 := HK3.cell 1
  have f0 := HK3.frozen 0
  have f1 := HK3.frozen 1
  simp at z0 z1
  clear b3 HK3
  go_wp2
  exact bodyPost_ret (results_cell_row rfl _ _ _ 34 _ (0, 0) _ rfl (Blk.set2 HK4.out _ _) Try.underlying34 rfl sz30) rfl ⟨_, _, rfl, HRE.out, HIM.out, below_set2 (belowCall HB0.out HB3.out HB0.out.size) _ (by omega) _ _⟩
theorem widI_c (a b : Nat) (w : World) : Calls Try.prog 12 #[.agg #[.float .f32 a, .float .f32 b]] w (SmR .f64 ((fc .f32 a).map wid) ((fc .f32 b).map wid) w) := by
  have hsf := storeF
  have hcv := fun s d a b w hs hd => run_conv_cwid (P := Try.prog) s d a b w hs hd
  obtain ⟨W0, hW0⟩ : ∃ W, (w.alloc (Obj.cells #[.float .f32 a, .float .f32 b] 26)).alloc (Obj.cells #[.float .f64 0, .float .f64 0] 34) = W := ⟨_, rfl⟩
  have HW0 : Hid ((w.alloc (Obj.cells #[.float .f32 a, .float .f32 b] 26)).alloc (Obj.cells #[.float .f64 0, .float .f64 0] 34) = W0) := hW0
  have HB0 : Hid (Below w.heap.size w W0) := by rw [← hW0]; exact ((Below.refl _ _).alloc (Nat.le_refl _) _).alloc (by simp) _
  have HK0 : Hid (Blk W0 (w.heap.size + 1) #[.float .f64 0, .float .f64 0] 34) := by rw [← hW0]; exact Blk.newAt _ _ _ _ (by simp)
  clear hW0
  go_enter Try.func12, Try.ntmps12
  go_wp2_with (fail)
  rw [HW0.out]
  refine (inSingle_c a b _).mono ?_
  rintro e w1 ⟨rfl, b1⟩
  have HB1 : Hid (Below W0.heap.size W0 w1) := b1
  clear b1
  go_wp2_with (fail)
  refine (wideOf_c _ _ _).mono ?_
  rintro e w2 ⟨rfl, b2⟩
  have HB2 : Hid (Below W0.heap.size W0 w2) := belowCall HB1.out (below_drewN (Below.refl _ _) _ |>.trans b2) HB1.out.size
  have HK3 := HK0.out.below HB2.out HK0.out.lt
  have HK4 : Hid (Blk w2 (w.heap.size + 1) #[.float .f64 0, .float .f64 0] 34) := HK3
  have z0 := HK3.cell 0
  have z1 := HK3.cell 1
  have f0 := HK3.frozen 0
  have f1 := HK3.frozen 1
  simp at z0 z1
  clear b2 HK3
  go_wp2
  exact bodyPost_ret (results_cell_row rfl _ _ _ 34 _ (0, 0) _ rfl (Blk.set2 HK4.out _ _) Try.underlying34 rfl sz30) rfl ⟨_, _, rfl, fc_wv _ _, fc_wv _ _, below_set2 (belowCall HB0.out HB2.out HB0.out.size) _ (by omega) _ _⟩

end Go.Proofs.Ytmhpfbcdikldcaa

/- SameSample, both sides, and the walk of its law; no condition. -/
import Derived.Test.YtmhpfbcdikldcaaSmp
namespace Go.Proofs.Ytmhpfbcdikldcaa
open Go.RowKit Go.ChangeShapes Go.WideShapes Go.ChangeAt
set_option linter.unusedVariables false
set_option linter.unusedSimpArgs false
set_option maxRecDepth 8000
/-- whether both parts are equal -/
def smB (a b c d : Nat) : Bool := (FloatKind.f32.format.order a c == some .eq) && (FloatKind.f32.format.order b d == some .eq)
theorem sameI_c (a b c d : Nat) (w : World) : Calls Try.prog 15 #[.agg #[.float .f32 a, .float .f32 b], .agg #[.float .f32 c, .float .f32 d]] w fun e w' => e = .returned (.bool (smB a b c d)) ∧ Below w.heap.size w w' := by
  obtain ⟨W0, hW0⟩ : ∃ W, (w.alloc (Obj.cells #[.float .f32 a, .float .f32 b] 26)).alloc (Obj.cells #[.float .f32 c, .float .f32 d] 26) = W := ⟨_, rfl⟩
  have HW0 : Hid ((w.alloc (Obj.cells #[.float .f32 a, .float .f32 b] 26)).alloc (Obj.cells #[.float .f32 c, .float .f32 d] 26) = W0) := hW0
  have HB0 : Hid (Below w.heap.size w W0) := by rw [← hW0]; exact ((Below.refl _ _).alloc (Nat.le_refl _) _).alloc (by simp) _
  have HK0 : Hid (Blk W0 w.heap.size #[.float .f32 a, .float .f32 b] 26) := by rw [← hW0]; exact (Blk.new _ _ _).alloc _
  have HK1 : Hid (Blk W0 (w.heap.size + 1) #[.float .f32 c, .float .f32 d] 26) := by rw [← hW0]; exact Blk.newAt _ _ _ _ (by simp)
  clear hW0
  obtain ⟨S, hS⟩ : ∃ S : World → Prop, ∀ W, S W ↔ Below W0.heap.size W0 W := ⟨_, fun _ => Iff.rfl⟩
  have HS : Hid (∀ W, S W ↔ Below W0.heap.size W0 W) := hS
  clear hS
  go_enter Try.func15, Try.ntmps15
  go_wp2
  rw [HW0.out]
  have x00 : ∀ W : At S, W.wd.cell? ⟨w.heap.size, 0, none⟩ = some (.float .f32 a) := fun W => by rw [(HK0.out.below ((HS.out _).1 W.ok) HK0.out.lt).cell]; rfl
  have x01 : ∀ W : At S, W.wd.cell? ⟨w.heap.size, 1, none⟩ = some (.float .f32 b) := fun W => by rw [(HK0.out.below ((HS.out _).1 W.ok) HK0.out.lt).cell]; rfl
  have x10 : ∀ W : At S, W.wd.cell? ⟨w.heap.size + 1, 0, none⟩ = some (.float .f32 c) := fun W => by rw [(HK1.out.below ((HS.out _).1 W.ok) HK1.out.lt).cell]; rfl
  have x11 : ∀ W : At S, W.wd.cell? ⟨w.heap.size + 1, 1, none⟩ = some (.float .f32 d) := fun W => by rw [(HK1.out.below ((HS.out _).1 W.ok) HK1.out.lt).cell]; rfl
  have ne : Nonempty (At S) := ⟨⟨W0, (HS.out _).2 (Below.refl _ _)⟩⟩
  refine region_mixT [true, false, true, false, false, false] 3 1 S (by kernel_rfl) rfl (by kernel_rfl) (fun _ _ _ _ _ h => h) ((HS.out _).2 (Below.refl W0.heap.size W0).drew) ?_
  simp only [selT, selF]
  try simp only [Act.put]
  repeat (go_big_quiet_step (fail))
  refine wpQuiet_nil ?_
  clear x00 x01 x10 x11 ne
  refine tail_step ?_
  go_wp2_with (fail)
  refine (inSingle_c a b _).mono ?_
  rintro e w1 ⟨rfl, b1⟩
  have HB1 : Hid (Below W0.heap.size W0 w1) := (Below.refl _ _).drew.trans b1
  clear b1
  go_wp2
  refine ⟨(HS.out _).2 HB1.out, ?_⟩
  show wpList _ _ _ _ _ _
  go_wp2_with (fail)
  refine (inSingle_c c d _).mono ?_
  rintro e w2 ⟨rfl, b2⟩
  have HB2 : Hid (Below w.heap.size w w2) := belowCall HB0.out (HB1.out.trans (b2.mono HB1.out.size)) HB0.out.size
  clear b2
  go_wp2
  go_ret
  exact ⟨rfl, HB2.out⟩
end Go.Proofs.Ytmhpfbcdikldcaa

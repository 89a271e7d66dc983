/- SameSample, both sides, and the walk of its law; no condition. -/
import Derived.Test.YtfbegonnbdakpaaSmp
namespace Go.Proofs.Ytfbegonnbdakpaa
open Go.RowKit Go.ChangeShapes Go.WideShapes Go.ChangeAt
set_option linter.unusedVariables false
set_option linter.unusedSimpArgs false
set_option maxRecDepth 8000
/-- whether both parts are equal -/
def smB (a b c d : Nat) : Bool := (FloatKind.f32.format.order a c == some .eq) && (FloatKind.f32.format.order b d == some .eq)
theorem sameM_c (a b c d : Nat) (w : World) : Calls Try.prog 54 #[.agg #[.float .f32 a, .float .f32 b], .agg #[.float .f32 c, .float .f32 d]] w fun e w' => e = .returned (.bool (smB a b c d)) ∧ Below w.heap.size w w' := by
  have HB : Hid (Below w.heap.size w ((w.alloc (Obj.cells #[.float .f32 a, .float .f32 b] 26)).alloc (Obj.cells #[.float .f32 c, .float .f32 d] 26))) := ((Below.refl _ _).alloc (Nat.le_refl _) _).alloc (by simp) _
  have HD : Hid (smB a b c d = ((FloatKind.f32.format.order a c == some .eq) && (FloatKind.f32.format.order b d == some .eq))) := rfl
  go_enter Try.func54, Try.ntmps54
  go_wp2
  all_goals
    go_ret
    refine ⟨?_, HB.out⟩
    rw [HD.out]
    simp_all
theorem sameI_c (a b c d : Nat) (w : World) : Calls Try.prog 29 #[.agg #[.float .f32 a, .float .f32 b], .agg #[.float .f32 c, .float .f32 d]] w fun e w' => e = .returned (.bool (smB a b c d)) ∧ Below w.heap.size w w' := by
  obtain ⟨W0, hW0⟩ : ∃ W, (w.alloc (Obj.cells #[.float .f32 a, .float .f32 b] 26)).alloc (Obj.cells #[.float .f32 c, .float .f32 d] 26) = W := ⟨_, rfl⟩
  have HW0 : Hid ((w.alloc (Obj.cells #[.float .f32 a, .float .f32 b] 26)).alloc (Obj.cells #[.float .f32 c, .float .f32 d] 26) = W0) := hW0
  have HB0 : Hid (Below w.heap.size w W0) := by rw [← hW0]; exact ((Below.refl _ _).alloc (Nat.le_refl _) _).alloc (by simp) _
  have HK0 : Hid (Blk W0 w.heap.size #[.float .f32 a, .float .f32 b] 26) := by rw [← hW0]; exact (Blk.new _ _ _).alloc _
  have HK1 : Hid (Blk W0 (w.heap.size + 1) #[.float .f32 c, .float .f32 d] 26) := by rw [← hW0]; exact Blk.newAt _ _ _ _ (by simp)
  clear hW0
  obtain ⟨S, hS⟩ : ∃ S : World → Prop, ∀ W, S W ↔ Below W0.heap.size W0 W := ⟨_, fun _ => Iff.rfl⟩
  have HS : Hid (∀ W, S W ↔ Below W0.heap.size W0 W) := hS
  clear hS
  go_enter Try.func29, Try.ntmps29
  go_wp2
  rw [HW0.out]
  have x00 : ∀ W : At S, W.wd.cell? ⟨w.heap.size, 0, none⟩ = some (.float .f32 a) := fun W => by rw [(HK0.out.below ((HS.out _).1 W.ok) HK0.out.lt).cell]; rfl
  have x01 : ∀ W : At S, W.wd.cell? ⟨w.heap.size, 1, none⟩ = some (.float .f32 b) := fun W => by rw [(HK0.out.below ((HS.out _).1 W.ok) HK0.out.lt).cell]; rfl
  have x10 : ∀ W : At S, W.wd.cell? ⟨w.heap.size + 1, 0, none⟩ = some (.float .f32 c) := fun W => by rw [(HK1.out.below ((HS.out _).1 W.ok) HK1.out.lt).cell]; rfl
  have x11 : ∀ W : At S, W.wd.cell? ⟨w.heap.size + 1, 1, none⟩ = some (.float .f32 d) := fun W => by rw [(HK1.out.below ((HS.out _).1 W.ok) HK1.out.lt).cell]; rfl
  have ne : Nonempty (At S) := ⟨⟨W0, (HS.out _).2 (Below.refl _ _)⟩⟩
  refine region_mixT [true, false, true, false, false, false] 3 1 S (by kernel_rfl) rfl (by kernel_rfl) (fun _ _ _ _ _ h => h) ((HS.out _).2 (Below.refl W0.heap.size W0).drew) ?_
  simp only [selT, selF]
  try simp only [Act.put]
  repeat (go_big_quiet_step (fail))
  refine wpQuiet_nil ?_
  clear x00 x01 x10 x11 ne
  refine tail_step ?_
  go_wp2_with (fail)
  refine (inSingle_c a b _).mono ?_
  rintro e w1 ⟨rfl, b1⟩
  have HB1 : Hid (Below W0.heap.size W0 w1) := (Below.refl _ _).drew.trans b1
  clear b1
  go_wp2
  refine ⟨(HS.out _).2 HB1.out, ?_⟩
  show wpList _ _ _ _ _ _
  go_wp2_with (fail)
  refine (inSingle_c c d _).mono ?_
  rintro e w2 ⟨rfl, b2⟩
  have HB2 : Hid (Below w.heap.size w w2) := belowCall HB0.out (HB1.out.trans (b2.mono HB1.out.size)) HB0.out.size
  clear b2
  go_wp2
  go_ret
  exact ⟨rfl, HB2.out⟩
set_option maxHeartbeats 1600000 in
theorem sameLaw (a b c d : Nat) (w : World) : Calls Try.prog 15 #[.agg #[.float .f32 a, .float .f32 b], .agg #[.float .f32 c, .float .f32 d]] w fun e w' => e = .returned (.bool true) ∧ Below w.heap.size w w' := by
  obtain ⟨W0, hW0⟩ : ∃ W, (w.alloc (Obj.cells #[.float .f32 a, .float .f32 b] 50)).alloc (Obj.cells #[.float .f32 c, .float .f32 d] 50) = W := ⟨_, rfl⟩
  have HW0 : Hid ((w.alloc (Obj.cells #[.float .f32 a, .float .f32 b] 50)).alloc (Obj.cells #[.float .f32 c, .float .f32 d] 50) = W0) := hW0
  have HB0 : Hid (Below w.heap.size w W0) := by rw [← hW0]; exact ((Below.refl _ _).alloc (Nat.le_refl _) _).alloc (by simp) _
  have HK0 : Hid (Blk W0 w.heap.size #[.float .f32 a, .float .f32 b] 50) := by rw [← hW0]; exact (Blk.new _ _ _).alloc _
  have HK1 : Hid (Blk W0 (w.heap.size + 1) #[.float .f32 c, .float .f32 d] 50) := by rw [← hW0]; exact Blk.newAt _ _ _ _ (by simp)
  clear hW0
  obtain ⟨S, hS⟩ : ∃ S : World → Prop, ∀ W, S W ↔ Below W0.heap.size W0 W := ⟨_, fun _ => Iff.rfl⟩
  have HS : Hid (∀ W, S W ↔ Below W0.heap.size W0 W) := hS
  clear hS
  go_enter Try.func15, Try.ntmps15
  go_wp2
  rw [HW0.out]
  have x00 : ∀ W : At S, W.wd.cell? ⟨w.heap.size, 0, none⟩ = some (.float .f32 a) := fun W => by rw [(HK0.out.below ((HS.out _).1 W.ok) HK0.out.lt).cell]; rfl
  have x01 : ∀ W : At S, W.wd.cell? ⟨w.heap.size, 1, none⟩ = some (.float .f32 b) := fun W => by rw [(HK0.out.below ((HS.out _).1 W.ok) HK0.out.lt).cell]; rfl
  have x10 : ∀ W : At S, W.wd.cell? ⟨w.heap.size + 1, 0, none⟩ = some (.float .f32 c) := fun W => by rw [(HK1.out.below ((HS.out _).1 W.ok) HK1.out.lt).cell]; rfl
  have x11 : ∀ W : At S, W.wd.cell? ⟨w.heap.size + 1, 1, none⟩ = some (.float .f32 d) := fun W => by rw [(HK1.out.below ((HS.out _).1 W.ok) HK1.out.lt).cell]; rfl
  have ne : Nonempty (At S) := ⟨⟨W0, (HS.out _).2 (Below.refl _ _)⟩⟩
  refine region_mixT [true, false, true, false, false, false] 3 1 S (by kernel_rfl) rfl (by kernel_rfl) (fun _ _ _ _ _ h => h) ((HS.out _).2 (Below.refl W0.heap.size W0).drew) ?_
  simp only [selT, selF]
  try simp only [Act.put]
  repeat (go_big_quiet_step (fail))
  refine wpQuiet_nil ?_
  clear x00 x01 x10 x11 ne
  refine tail_step ?_
  go_wp2_with (fail)
  refine (toSample_c a b _).mono ?_
  rintro e p0 ⟨rfl, b1⟩
  have HP0 : Hid (Below W0.heap.size W0 p0) := (Below.refl W0.heap.size W0).drew.trans (b1.mono (Below.refl W0.heap.size W0).drew.size)
  clear b1
  go_wp2
  refine ⟨(HS.out _).2 HP0.out, ?_⟩
  show wpList _ _ _ _ _ _
  go_wp2_with (fail)
  refine (toSample_c c d _).mono ?_
  rintro e q0 ⟨rfl, b1⟩
  have HQ0 : Hid (Below W0.heap.size W0 q0) := HP0.out.trans (b1.mono HP0.out.size)
  clear b1
  go_wp2_with (fail)
  refine (sameM_c a b c d _).mono ?_
  rintro e r0 ⟨rfl, b1⟩
  have HR0 : Hid (Below W0.heap.size W0 r0) := HQ0.out.trans (b1.mono HQ0.out.size)
  clear b1
  go_wp2
  have x00 : ∀ W : At S, W.wd.cell? ⟨w.heap.size, 0, none⟩ = some (.float .f32 a) := fun W => by rw [(HK0.out.below ((HS.out _).1 W.ok) HK0.out.lt).cell]; rfl
  have x01 : ∀ W : At S, W.wd.cell? ⟨w.heap.size, 1, none⟩ = some (.float .f32 b) := fun W => by rw [(HK0.out.below ((HS.out _).1 W.ok) HK0.out.lt).cell]; rfl
  have x10 : ∀ W : At S, W.wd.cell? ⟨w.heap.size + 1, 0, none⟩ = some (.float .f32 c) := fun W => by rw [(HK1.out.below ((HS.out _).1 W.ok) HK1.out.lt).cell]; rfl
  have x11 : ∀ W : At S, W.wd.cell? ⟨w.heap.size + 1, 1, none⟩ = some (.float .f32 d) := fun W => by rw [(HK1.out.below ((HS.out _).1 W.ok) HK1.out.lt).cell]; rfl
  have ne : Nonempty (At S) := ⟨⟨W0, (HS.out _).2 (Below.refl _ _)⟩⟩
  refine region_mixT [true, false, true, false, false, false] 3 1 S (by kernel_rfl) rfl (by kernel_rfl) (fun _ _ _ _ _ h => h) ((HS.out _).2 (HR0.out).drew) ?_
  simp only [selT, selF]
  try simp only [Act.put]
  repeat (go_big_quiet_step (fail))
  refine wpQuiet_nil ?_
  clear x00 x01 x10 x11 ne
  refine tail_step ?_
  go_wp2_with (fail)
  refine (toSample_c a b _).mono ?_
  rintro e p1 ⟨rfl, b1⟩
  have HP1 : Hid (Below W0.heap.size W0 p1) := (HR0.out).drew.trans (b1.mono (HR0.out).drew.size)
  clear b1
  go_wp2
  refine ⟨(HS.out _).2 HP1.out, ?_⟩
  show wpList _ _ _ _ _ _
  go_wp2_with (fail)
  refine (toSample_c c d _).mono ?_
  rintro e q1 ⟨rfl, b1⟩
  have HQ1 : Hid (Below W0.heap.size W0 q1) := HP1.out.trans (b1.mono HP1.out.size)
  clear b1
  go_wp2_with (fail)
  refine (sameI_c a b c d _).mono ?_
  rintro e r1 ⟨rfl, b1⟩
  have HR1 : Hid (Below W0.heap.size W0 r1) := HQ1.out.trans (b1.mono HQ1.out.size)
  clear b1
  have hne : (smB a b c d != smB a b c d) = false := by simp
  go_wp2
  go_ret
  exact ⟨rfl, belowCall HB0.out HR1.out HB0.out.size⟩

end Go.Proofs.Ytfbegonnbdakpaa

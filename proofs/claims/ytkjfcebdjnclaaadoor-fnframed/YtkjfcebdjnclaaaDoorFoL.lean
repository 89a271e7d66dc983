/- The law of FrameOf; the table is as it was laid. -/
import Derived.Test.YtkjfcebdjnclaaaDoorCdh
import Derived.Test.YtkjfcebdjnclaaaDoorFom
namespace Go.Proofs.YtkjfcebdjnclaaaDoor
open Go.RowKit Go.ChangeShapes Go.WideShapes Go.ChangeAt
set_option linter.unusedVariables false
set_option linter.unusedSimpArgs false
set_option maxRecDepth 8000

/-- a frame and a coder put into new boxes -/
def fxW (w : World) (f : Nat → Int) (c : Int × Int) : World := (((w.alloc (Obj.cells #[.int .u8 0, .int .u8 0, .int .u8 0, .int .u8 0, .int .u8 0, .int .u8 0, .int .u8 0, .int .u8 0, .int .u8 0, .int .u8 0, .int .u8 0, .int .u8 0, .int .u8 0, .int .u8 0, .int .u8 0, .int .u8 0] 32)).alloc (Obj.cells (cdA (0, 0)) 25)).setRow w.heap.size (A16 f)).setRow (w.heap.size + 1) (cdA c)
theorem fxW_z1 (w : World) : Blk ((w.alloc (Obj.cells #[.int .u8 0, .int .u8 0, .int .u8 0, .int .u8 0, .int .u8 0, .int .u8 0, .int .u8 0, .int .u8 0, .int .u8 0, .int .u8 0, .int .u8 0, .int .u8 0, .int .u8 0, .int .u8 0, .int .u8 0, .int .u8 0] 32)).alloc (Obj.cells (cdA (0, 0)) 25)) w.heap.size (A16 fun _ => 0) 32 := (Blk.new w #[.int .u8 0, .int .u8 0, .int .u8 0, .int .u8 0, .int .u8 0, .int .u8 0, .int .u8 0, .int .u8 0, .int .u8 0, .int .u8 0, .int .u8 0, .int .u8 0, .int .u8 0, .int .u8 0, .int .u8 0, .int .u8 0] 32).alloc _
theorem fxW_z2 (w : World) (f : Nat → Int) : Blk (((w.alloc (Obj.cells #[.int .u8 0, .int .u8 0, .int .u8 0, .int .u8 0, .int .u8 0, .int .u8 0, .int .u8 0, .int .u8 0, .int .u8 0, .int .u8 0, .int .u8 0, .int .u8 0, .int .u8 0, .int .u8 0, .int .u8 0, .int .u8 0] 32)).alloc (Obj.cells (cdA (0, 0)) 25)).setRow w.heap.size (A16 f)) (w.heap.size + 1) (cdA (0, 0)) 25 := (Blk.newAt _ _ _ _ (by simp)).rowOther _ _ (by omega)
theorem fxW_f (w : World) (f : Nat → Int) (c : Int × Int) : Blk (fxW w f c) w.heap.size (A16 f) 32 := ((fxW_z1 w).row _).rowOther _ _ (by omega)
theorem fxW_c (w : World) (f : Nat → Int) (c : Int × Int) : Blk (fxW w f c) (w.heap.size + 1) (cdA c) 25 := (fxW_z2 w f).row _
theorem fxW_b (w : World) (f : Nat → Int) (c : Int × Int) : Below w.heap.size w (fxW w f c) := belowRow (belowRow (((Below.refl _ _).alloc (Nat.le_refl _) _).alloc (by simp) _) _ (Nat.le_refl _) _) _ (by omega) _
set_option maxHeartbeats 12800000 in
theorem foCore (c : Int × Int) (v : Value) (zs : List Int) (f : Nat → Int) (cc : Int × Int) (ok : Bool) (w : World) (h : Rd .i64 w v zs) (hG : ChG w)
    (hM : ∀ W u, Rd .i64 W u zs → Calls Tryd.prog 22 #[.agg (cdA c), u] W (FoR f cc ok W))
    (hI : ∀ W u, Rd .i64 W u zs → ChG W → Calls Tryd.prog 21 #[.agg (cdA c), u] W (FoR f cc ok W)) :
    Calls Tryd.prog 10 #[.agg (cdA c), v] w fun e w' => e = .returned (.bool true) ∧ Below w.heap.size w w' := by
  have HR0 : Hid (Rd .i64 w v zs) := h
  have HG : Hid (ChG w) := hG
  have HM : Hid (∀ W u, Rd .i64 W u zs → Calls Tryd.prog 22 #[.agg (cdA c), u] W (FoR f cc ok W)) := hM
  have HI : Hid (∀ W u, Rd .i64 W u zs → ChG W → Calls Tryd.prog 21 #[.agg (cdA c), u] W (FoR f cc ok W)) := hI
  obtain ⟨a, cap, rfl, h1, h2, -⟩ := h
  unfold maxLen at h2
  have okk : (ok != ok) = false := by simp
  obtain ⟨W0, hW0⟩ : ∃ W, w.alloc (Obj.cells (cdA c) 52) = W := ⟨_, rfl⟩
  have B_W0 : Hid (Below w.heap.size w W0) := by rw [← hW0]; exact (Below.refl _ _).alloc (Nat.le_refl _) _
  have K_W0 : Hid (Blk W0 w.heap.size (cdA c) 52) := by rw [← hW0]; exact Blk.new _ _ _
  clear hM hI hG
  by_cases hbig : (1048576 : Int) < (zs.length : Int)
  · go_enter Tryd.func10, Tryd.ntmps10
    go_wp2
    go_ret
    exact ⟨rfl, B_W0.out⟩
  have hbd : decide ((1048576 : Int) < (zs.length : Int)) = false := by simp only [decide_eq_false_iff_not]; exact hbig
  have HL : Hid (zs.length ≤ 1048576) := by show _ ≤ _; omega
  clear hbig
  go_enter Tryd.func10, Tryd.ntmps10
  have k0 := K_W0.out.cell 0
  have k1 := K_W0.out.cell 1
  simp at k0 k1
  go_wp2_with (fail)
  refine (toCd_c c W0).mono ?_
  rintro e w1 ⟨rfl, b⟩
  have B_w1 : Hid (Below w.heap.size w w1) := belowCall B_W0.out b B_W0.out.size
  have K_w1 : Hid (Blk w1 w.heap.size (cdA c) 52) := K_W0.out.below b K_W0.out.lt
  clear b B_W0 K_W0 hW0 k0 k1
  go_wp2_with (fail)
  refine (toI _ zs w1 (HR0.out.below B_w1.out) HL.out).mono ?_
  rintro e w2 ⟨u1, rfl, o_u1, b⟩
  have B_w2 : Hid (Below w.heap.size w w2) := belowCall B_w1.out b B_w1.out.size
  have K_w2 : Hid (Blk w2 w.heap.size (cdA c) 52) := K_w1.out.below b K_w1.out.lt
  clear b B_w1 K_w1
  have R1_w2 : Hid (Rd .i64 w2 u1 zs) := o_u1.rd
  clear o_u1
  go_wp2_with (fail)
  refine (HM.out w2 u1 R1_w2.out).mono ?_
  rintro e w3 ⟨rfl, b⟩
  have B_w3 : Hid (Below w.heap.size w w3) := belowCall B_w2.out b B_w2.out.size
  have K_w3 : Hid (Blk w3 w.heap.size (cdA c) 52) := K_w2.out.below b K_w2.out.lt
  have R1_w3 : Hid (Rd .i64 w3 u1 zs) := R1_w2.out.below b
  clear b B_w2 K_w2 R1_w2
  obtain ⟨W4, hW4⟩ : ∃ W, fxW w3 f cc = W := ⟨_, rfl⟩
  obtain ⟨g4, hg4⟩ : ∃ g, w3.heap.size = g := ⟨_, rfl⟩
  have bx : Below w3.heap.size w3 W4 := by rw [← hW4]; exact fxW_b _ _ _
  have HZ1 : Hid (Blk ((w3.alloc (Obj.cells #[.int .u8 0, .int .u8 0, .int .u8 0, .int .u8 0, .int .u8 0, .int .u8 0, .int .u8 0, .int .u8 0, .int .u8 0, .int .u8 0, .int .u8 0, .int .u8 0, .int .u8 0, .int .u8 0, .int .u8 0, .int .u8 0] 32)).alloc (Obj.cells (cdA (0, 0)) 25)) g4 (A16 fun _ => 0) 32) := by rw [← hg4]; exact fxW_z1 _
  have HZ2 : Hid (Blk (((w3.alloc (Obj.cells #[.int .u8 0, .int .u8 0, .int .u8 0, .int .u8 0, .int .u8 0, .int .u8 0, .int .u8 0, .int .u8 0, .int .u8 0, .int .u8 0, .int .u8 0, .int .u8 0, .int .u8 0, .int .u8 0, .int .u8 0, .int .u8 0] 32)).alloc (Obj.cells (cdA (0, 0)) 25)).setRow g4 (A16 f)) (g4 + 1) (cdA (0, 0)) 25) := by rw [← hg4]; exact fxW_z2 _ _
  have HWX : Hid ((((w3.alloc (Obj.cells #[.int .u8 0, .int .u8 0, .int .u8 0, .int .u8 0, .int .u8 0, .int .u8 0, .int .u8 0, .int .u8 0, .int .u8 0, .int .u8 0, .int .u8 0, .int .u8 0, .int .u8 0, .int .u8 0, .int .u8 0, .int .u8 0] 32)).alloc (Obj.cells (cdA (0, 0)) 25)).setRow g4 (A16 f)).setRow (g4 + 1) (cdA cc) = W4) := by rw [← hg4]; exact hW4
  have kf : Blk W4 g4 (A16 f) 32 := by rw [← hW4, ← hg4]; exact fxW_f _ _ _
  have kc : Blk W4 (g4 + 1) (cdA cc) 25 := by rw [← hW4, ← hg4]; exact fxW_c _ _ _
  have B_W4 : Hid (Below w.heap.size w W4) := belowCall B_w3.out bx B_w3.out.size
  have K_W4 : Hid (Blk W4 w.heap.size (cdA c) 52) := K_w3.out.below bx K_w3.out.lt
  have F5_W4 : Hid (Blk W4 g4 (A16 f) 32) := kf
  have C6_W4 : Hid (Blk W4 (g4 + 1) (cdA cc) 25) := kc
  clear bx kf kc hW4 B_w3 K_w3 R1_w3
  go_wp2_with (first | refine stF rfl _ _ rfl g4 rfl f rfl 32 (A16 fun _ => 0) HZ1.out (A16_size _) ?_ | (refine wpList_store_row rfl 25 _ _ rfl (g4 + 1) _ rfl rfl 25 (cdA (0, 0)) HZ2.out sizeCd rfl (by simp [Value.oneCell']) ?_; rw [HWX.out]))
  clear HZ1 HZ2 HWX hg4
  refine (toI _ zs W4 (HR0.out.below B_W4.out) HL.out).mono ?_
  rintro e w5 ⟨x1, rfl, o_x1, b⟩
  have B_w5 : Hid (Below w.heap.size w w5) := belowCall B_W4.out b B_W4.out.size
  have K_w5 : Hid (Blk w5 w.heap.size (cdA c) 52) := K_W4.out.below b K_W4.out.lt
  have F5_w5 : Hid (Blk w5 g4 (A16 f) 32) := F5_W4.out.below b F5_W4.out.lt
  have C6_w5 : Hid (Blk w5 (g4 + 1) (cdA cc) 25) := C6_W4.out.below b C6_W4.out.lt
  clear b B_W4 K_W4 F5_W4 C6_W4
  have X_w5 : Hid (Rd .i64 w5 x1 zs) := o_x1.rd
  clear o_x1
  have k0 := K_w5.out.cell 0
  have k1 := K_w5.out.cell 1
  simp at k0 k1
  go_wp2_with (fail)
  refine (toCd_c c w5).mono ?_
  rintro e w6 ⟨rfl, b⟩
  have B_w6 : Hid (Below w.heap.size w w6) := belowCall B_w5.out b B_w5.out.size
  have K_w6 : Hid (Blk w6 w.heap.size (cdA c) 52) := K_w5.out.below b K_w5.out.lt
  have F5_w6 : Hid (Blk w6 g4 (A16 f) 32) := F5_w5.out.below b F5_w5.out.lt
  have C6_w6 : Hid (Blk w6 (g4 + 1) (cdA cc) 25) := C6_w5.out.below b C6_w5.out.lt
  have X_w6 : Hid (Rd .i64 w6 x1 zs) := X_w5.out.below b
  clear b B_w5 K_w5 F5_w5 C6_w5 X_w5 k0 k1
  go_wp2_with (fail)
  refine (HI.out w6 x1 X_w6.out (HG.out.below B_w6.out HG.out.lt)).mono ?_
  rintro e w7 ⟨rfl, b⟩
  have B_w7 : Hid (Below w.heap.size w w7) := belowCall B_w6.out b B_w6.out.size
  have K_w7 : Hid (Blk w7 w.heap.size (cdA c) 52) := K_w6.out.below b K_w6.out.lt
  have F5_w7 : Hid (Blk w7 g4 (A16 f) 32) := F5_w6.out.below b F5_w6.out.lt
  have C6_w7 : Hid (Blk w7 (g4 + 1) (cdA cc) 25) := C6_w6.out.below b C6_w6.out.lt
  have X_w7 : Hid (Rd .i64 w7 x1 zs) := X_w6.out.below b
  clear b B_w6 K_w6 F5_w6 C6_w6 X_w6
  obtain ⟨W8, hW8⟩ : ∃ W, fxW w7 f cc = W := ⟨_, rfl⟩
  obtain ⟨g8, hg8⟩ : ∃ g, w7.heap.size = g := ⟨_, rfl⟩
  have bx : Below w7.heap.size w7 W8 := by rw [← hW8]; exact fxW_b _ _ _
  have HZ1 : Hid (Blk ((w7.alloc (Obj.cells #[.int .u8 0, .int .u8 0, .int .u8 0, .int .u8 0, .int .u8 0, .int .u8 0, .int .u8 0, .int .u8 0, .int .u8 0, .int .u8 0, .int .u8 0, .int .u8 0, .int .u8 0, .int .u8 0, .int .u8 0, .int .u8 0] 32)).alloc (Obj.cells (cdA (0, 0)) 25)) g8 (A16 fun _ => 0) 32) := by rw [← hg8]; exact fxW_z1 _
  have HZ2 : Hid (Blk (((w7.alloc (Obj.cells #[.int .u8 0, .int .u8 0, .int .u8 0, .int .u8 0, .int .u8 0, .int .u8 0, .int .u8 0, .int .u8 0, .int .u8 0, .int .u8 0, .int .u8 0, .int .u8 0, .int .u8 0, .int .u8 0, .int .u8 0, .int .u8 0] 32)).alloc (Obj.cells (cdA (0, 0)) 25)).setRow g8 (A16 f)) (g8 + 1) (cdA (0, 0)) 25) := by rw [← hg8]; exact fxW_z2 _ _
  have HWX : Hid ((((w7.alloc (Obj.cells #[.int .u8 0, .int .u8 0, .int .u8 0, .int .u8 0, .int .u8 0, .int .u8 0, .int .u8 0, .int .u8 0, .int .u8 0, .int .u8 0, .int .u8 0, .int .u8 0, .int .u8 0, .int .u8 0, .int .u8 0, .int .u8 0] 32)).alloc (Obj.cells (cdA (0, 0)) 25)).setRow g8 (A16 f)).setRow (g8 + 1) (cdA cc) = W8) := by rw [← hg8]; exact hW8
  have kf : Blk W8 g8 (A16 f) 32 := by rw [← hW8, ← hg8]; exact fxW_f _ _ _
  have kc : Blk W8 (g8 + 1) (cdA cc) 25 := by rw [← hW8, ← hg8]; exact fxW_c _ _ _
  have B_W8 : Hid (Below w.heap.size w W8) := belowCall B_w7.out bx B_w7.out.size
  have K_W8 : Hid (Blk W8 w.heap.size (cdA c) 52) := K_w7.out.below bx K_w7.out.lt
  have F5_W8 : Hid (Blk W8 g4 (A16 f) 32) := F5_w7.out.below bx F5_w7.out.lt
  have C6_W8 : Hid (Blk W8 (g4 + 1) (cdA cc) 25) := C6_w7.out.below bx C6_w7.out.lt
  have X_W8 : Hid (Rd .i64 W8 x1 zs) := X_w7.out.below bx
  have F9_W8 : Hid (Blk W8 g8 (A16 f) 32) := kf
  have C10_W8 : Hid (Blk W8 (g8 + 1) (cdA cc) 25) := kc
  clear bx kf kc hW8 B_w7 K_w7 F5_w7 C6_w7 X_w7
  go_wp2_with (first | refine stF rfl _ _ rfl g8 rfl f rfl 32 (A16 fun _ => 0) HZ1.out (A16_size _) ?_ | (refine wpList_store_row rfl 25 _ _ rfl (g8 + 1) _ rfl rfl 25 (cdA (0, 0)) HZ2.out sizeCd rfl (by simp [Value.oneCell']) ?_; rw [HWX.out]) | refine ldF rfl _ rfl g8 rfl 32 f (0, 0) F9_W8.out ?_ | refine ldF rfl _ rfl g4 rfl 32 f (0, 0) F5_W8.out ?_)
  clear HZ1 HZ2 HWX hg8
  refine (eq16_t f W8).mono ?_
  rintro e w9 ⟨rfl, b⟩
  have B_w9 : Hid (Below w.heap.size w w9) := belowCall B_W8.out b B_W8.out.size
  have K_w9 : Hid (Blk w9 w.heap.size (cdA c) 52) := K_W8.out.below b K_W8.out.lt
  have F5_w9 : Hid (Blk w9 g4 (A16 f) 32) := F5_W8.out.below b F5_W8.out.lt
  have C6_w9 : Hid (Blk w9 (g4 + 1) (cdA cc) 25) := C6_W8.out.below b C6_W8.out.lt
  have X_w9 : Hid (Rd .i64 w9 x1 zs) := X_W8.out.below b
  have F9_w9 : Hid (Blk w9 g8 (A16 f) 32) := F9_W8.out.below b F9_W8.out.lt
  have C10_w9 : Hid (Blk w9 (g8 + 1) (cdA cc) 25) := C10_W8.out.below b C10_W8.out.lt
  clear b B_W8 K_W8 F5_W8 C6_W8 X_W8 F9_W8 C10_W8
  have p0 := C10_w9.out.cell 0
  have p1 := C10_w9.out.cell 1
  simp at p0 p1
  have q0 := C6_w9.out.cell 0
  have q1 := C6_w9.out.cell 1
  simp at q0 q1
  go_wp2_with (fail)
  refine (eqCd_t cc w9).mono ?_
  rintro e w10 ⟨rfl, b⟩
  have B_w10 : Hid (Below w.heap.size w w10) := belowCall B_w9.out b B_w9.out.size
  have K_w10 : Hid (Blk w10 w.heap.size (cdA c) 52) := K_w9.out.below b K_w9.out.lt
  have F5_w10 : Hid (Blk w10 g4 (A16 f) 32) := F5_w9.out.below b F5_w9.out.lt
  have C6_w10 : Hid (Blk w10 (g4 + 1) (cdA cc) 25) := C6_w9.out.below b C6_w9.out.lt
  have X_w10 : Hid (Rd .i64 w10 x1 zs) := X_w9.out.below b
  have F9_w10 : Hid (Blk w10 g8 (A16 f) 32) := F9_w9.out.below b F9_w9.out.lt
  have C10_w10 : Hid (Blk w10 (g8 + 1) (cdA cc) 25) := C10_w9.out.below b C10_w9.out.lt
  clear b B_w9 K_w9 F5_w9 C6_w9 X_w9 F9_w9 C10_w9 p0 p1 q0 q1
  go_wp2_with (fail)
  refine (toI _ zs w10 (HR0.out.below B_w10.out) HL.out).mono ?_
  rintro e w11 ⟨u2, rfl, o_u2, b⟩
  have B_w11 : Hid (Below w.heap.size w w11) := belowCall B_w10.out b B_w10.out.size
  have K_w11 : Hid (Blk w11 w.heap.size (cdA c) 52) := K_w10.out.below b K_w10.out.lt
  have F5_w11 : Hid (Blk w11 g4 (A16 f) 32) := F5_w10.out.below b F5_w10.out.lt
  have C6_w11 : Hid (Blk w11 (g4 + 1) (cdA cc) 25) := C6_w10.out.below b C6_w10.out.lt
  have X_w11 : Hid (Rd .i64 w11 x1 zs) := X_w10.out.below b
  have F9_w11 : Hid (Blk w11 g8 (A16 f) 32) := F9_w10.out.below b F9_w10.out.lt
  have C10_w11 : Hid (Blk w11 (g8 + 1) (cdA cc) 25) := C10_w10.out.below b C10_w10.out.lt
  clear b B_w10 K_w10 F5_w10 C6_w10 X_w10 F9_w10 C10_w10
  have R2_w11 : Hid (Rd .i64 w11 u2 zs) := o_u2.rd
  clear o_u2
  go_wp2_with (fail)
  refine (eqIS _ _ zs w11 X_w11.out R2_w11.out).mono ?_
  rintro e w12 ⟨rfl, b⟩
  have B_w12 : Hid (Below w.heap.size w w12) := belowCall B_w11.out b B_w11.out.size
  have K_w12 : Hid (Blk w12 w.heap.size (cdA c) 52) := K_w11.out.below b K_w11.out.lt
  have F5_w12 : Hid (Blk w12 g4 (A16 f) 32) := F5_w11.out.below b F5_w11.out.lt
  have C6_w12 : Hid (Blk w12 (g4 + 1) (cdA cc) 25) := C6_w11.out.below b C6_w11.out.lt
  have X_w12 : Hid (Rd .i64 w12 x1 zs) := X_w11.out.below b
  have F9_w12 : Hid (Blk w12 g8 (A16 f) 32) := F9_w11.out.below b F9_w11.out.lt
  have C10_w12 : Hid (Blk w12 (g8 + 1) (cdA cc) 25) := C10_w11.out.below b C10_w11.out.lt
  have R2_w12 : Hid (Rd .i64 w12 u2 zs) := R2_w11.out.below b
  clear b B_w11 K_w11 F5_w11 C6_w11 X_w11 F9_w11 C10_w11 R2_w11
  go_wp2
  go_ret
  exact ⟨rfl, B_w12.out⟩

theorem frameOfLaw (c : Int × Int) (v : Value) (zs : List Int) (w : World) (h : Rd .i64 w v zs) (hG : ChG w) : Calls Tryd.prog 10 #[.agg (cdA c), v] w fun e w' => e = .returned (.bool true) ∧ Below w.heap.size w w' := by
  by_cases hP : FoP c zs
  · exact foCore c v zs _ _ true w h hG (fun W u hu => (foM_c c u zs W hu).mono fun e w' hh => hh.1 hP) (fun W u hu hg => (foI_c c u zs W hu hg).mono fun e w' hh => hh.1 hP)
  · exact foCore c v zs _ _ false w h hG (fun W u hu => (foM_c c u zs W hu).mono fun e w' hh => hh.2 hP) (fun W u hu hg => (foI_c c u zs W hu hg).mono fun e w' hh => hh.2 hP)

end Go.Proofs.YtkjfcebdjnclaaaDoor

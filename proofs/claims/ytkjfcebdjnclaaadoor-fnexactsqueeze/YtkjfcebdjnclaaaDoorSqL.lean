/- The law of Squeeze; the table is as it was laid. -/
import Derived.Test.YtkjfcebdjnclaaaDoorCdh
import Derived.Test.YtkjfcebdjnclaaaDoorSqm
namespace Go.Proofs.YtkjfcebdjnclaaaDoor
open Go.RowKit Go.ChangeShapes Go.WideShapes Go.ChangeAt
set_option linter.unusedVariables false
set_option linter.unusedSimpArgs false
set_option maxRecDepth 8000
set_option maxHeartbeats 12800000 in
theorem sqzCore (c : Int × Int) (v : Value) (zs out : List Int) (cc : Int × Int) (ok : Bool) (w : World) (h : Rd .i64 w v zs) (hG : ChG w) (hol : out.length ≤ 300)
    (hM : ∀ W u, Rd .i64 W u zs → Calls Tryd.prog 17 #[.agg (cdA c), u] W (CdR out cc ok W))
    (hI : ∀ W u, Rd .i64 W u zs → ChG W → Calls Tryd.prog 16 #[.agg (cdA c), u] W (CdR out cc ok W)) :
    Calls Tryd.prog 8 #[.agg (cdA c), v] w fun e w' => e = .returned (.bool true) ∧ Below w.heap.size w w' := by
  have HR0 : Hid (Rd .i64 w v zs) := h
  have HG : Hid (ChG w) := hG
  have HM : Hid (∀ W u, Rd .i64 W u zs → Calls Tryd.prog 17 #[.agg (cdA c), u] W (CdR out cc ok W)) := hM
  have HI : Hid (∀ W u, Rd .i64 W u zs → ChG W → Calls Tryd.prog 16 #[.agg (cdA c), u] W (CdR out cc ok W)) := hI
  have HOL : Hid (out.length ≤ 300) := hol
  have hol' := hol
  obtain ⟨a, cap, rfl, h1, h2, -⟩ := h
  unfold maxLen at h2
  have okk : (ok != ok) = false := by simp
  obtain ⟨W0, hW0⟩ : ∃ W, w.alloc (Obj.cells (cdA c) 52) = W := ⟨_, rfl⟩
  have B_W0 : Hid (Below w.heap.size w W0) := by rw [← hW0]; exact (Below.refl _ _).alloc (Nat.le_refl _) _
  have K_W0 : Hid (Blk W0 w.heap.size (cdA c) 52) := by rw [← hW0]; exact Blk.new _ _ _
  clear hM hI hG hol
  by_cases hbig : (1048576 : Int) < (zs.length : Int)
  · go_enter Tryd.func8, Tryd.ntmps8
    go_wp2
    go_ret
    exact ⟨rfl, B_W0.out⟩
  have hbd : decide ((1048576 : Int) < (zs.length : Int)) = false := by simp only [decide_eq_false_iff_not]; exact hbig
  have HL : Hid (zs.length ≤ 1048576) := by show _ ≤ _; omega
  have hzl : zs.length ≤ 1048576 := by omega
  clear hbig
  have e0 : ((1 : Int) + (zs.length : Int) < 0) = False := eq_false (by omega)
  have e1 : ((1 : Int) + (out.length : Int) < 0) = False := eq_false (by omega)
  have e2 : ((1 : Int) + (out.length : Int) != 1 + (out.length : Int)) = false := by simp
  have e0' : decide ((1 : Int) + (zs.length : Int) < 0) = false := by simp only [decide_eq_false_iff_not]; omega
  have e1' : decide ((1 : Int) + (out.length : Int) < 0) = false := by simp only [decide_eq_false_iff_not]; omega
  go_enter Tryd.func8, Tryd.ntmps8
  have k0 := K_W0.out.cell 0
  have k1 := K_W0.out.cell 1
  simp at k0 k1
  go_wp2_with (fail)
  refine (toCd_c c W0).mono ?_
  rintro e w1 ⟨rfl, b⟩
  have B_w1 : Hid (Below w.heap.size w w1) := belowCall B_W0.out b B_W0.out.size
  have K_w1 : Hid (Blk w1 w.heap.size (cdA c) 52) := K_W0.out.below b K_W0.out.lt
  clear b B_W0 K_W0 hW0 k0 k1
  go_wp2_with (fail)
  refine (toI _ zs w1 (HR0.out.below B_w1.out) HL.out).mono ?_
  rintro e w2 ⟨u1, rfl, o_u1, b⟩
  have B_w2 : Hid (Below w.heap.size w w2) := belowCall B_w1.out b B_w1.out.size
  have K_w2 : Hid (Blk w2 w.heap.size (cdA c) 52) := K_w1.out.below b K_w1.out.lt
  clear b B_w1 K_w1
  have R1_w2 : Hid (Rd .i64 w2 u1 zs) := o_u1.rd
  clear o_u1
  go_wp2_with (fail)
  refine (HM.out w2 u1 R1_w2.out).mono ?_
  rintro e w3 ⟨v0, rfl, o0, b⟩
  have B_w3 : Hid (Below w.heap.size w w3) := belowCall B_w2.out b B_w2.out.size
  have K_w3 : Hid (Blk w3 w.heap.size (cdA c) 52) := K_w2.out.below b K_w2.out.lt
  have R1_w3 : Hid (Rd .i64 w3 u1 zs) := R1_w2.out.below b
  clear b B_w2 K_w2 R1_w2
  have V0_w3 : Hid (Rd .i64 w3 v0 out) := o0.rd
  have HP0 : Hid (∀ k, v0.ownBlock = some k → k < w3.heap.size) := fun k hk => (World.ownsRow.lt o0 k hk).2
  have Z0_w3 : Hid (w3.heap.size ≤ w3.heap.size) := Nat.le_refl _
  clear o0
  have ba : Below w3.heap.size w3 (w3.alloc (Obj.cells (cdA cc) 25)) := (Below.refl _ _).alloc (Nat.le_refl _) _
  have kb : Blk (w3.alloc (Obj.cells (cdA cc) 25)) w3.heap.size (cdA cc) 25 := Blk.new _ _ _
  obtain ⟨X4, hX4⟩ : ∃ X, w3.heap.size = X := ⟨_, rfl⟩
  obtain ⟨W4, hW4⟩ : ∃ W, w3.alloc (Obj.cells (cdA cc) 25) = W := ⟨_, rfl⟩
  rw [hW4] at ba kb
  rw [hX4] at kb
  have B_W4 : Hid (Below w.heap.size w W4) := belowCall B_w3.out ba B_w3.out.size
  have K_W4 : Hid (Blk W4 w.heap.size (cdA c) 52) := K_w3.out.below ba K_w3.out.lt
  have V0_W4 : Hid (Rd .i64 W4 v0 out) := V0_w3.out.below ba
  have Z0_W4 : Hid (w3.heap.size ≤ W4.heap.size) := Nat.le_trans Z0_w3.out ba.size
  have C6_W4 : Hid (Blk W4 X4 (cdA cc) 25) := kb
  clear ba kb B_w3 K_w3 V0_w3 Z0_w3
  have HSX0 : Hid (w.heap.size ≤ W4.heap.size) := B_W4.out.size
  have HZX : Hid (w3.heap.size ≤ W4.heap.size) := Z0_W4.out
  go_wp2_with (fail)
  refine (toI _ zs W4 (HR0.out.below B_W4.out) HL.out).mono ?_
  rintro e w5 ⟨x1, rfl, o_x1, b⟩
  have B_w5 : Hid (Below w.heap.size w w5) := belowCall B_W4.out b B_W4.out.size
  have K_w5 : Hid (Blk w5 w.heap.size (cdA c) 52) := K_W4.out.below b K_W4.out.lt
  have V0_w5 : Hid (Rd .i64 w5 v0 out) := V0_W4.out.below b
  have Z0_w5 : Hid (w3.heap.size ≤ w5.heap.size) := Nat.le_trans Z0_W4.out b.size
  have C6_w5 : Hid (Blk w5 X4 (cdA cc) 25) := C6_W4.out.below b C6_W4.out.lt
  clear b B_W4 K_W4 V0_W4 Z0_W4 C6_W4 R1_w3 hW4 hX4
  have X_w5 : Hid (Ow .i64 3 W4.heap.size w5 x1 zs) := o_x1
  have HP1 : Hid (v0.ownBlock = none ∨ v0.ownBlock ≠ x1.ownBlock) := by
    cases hv : v0.ownBlock with
    | none => exact .inl rfl
    | some k =>
      refine .inr fun e => ?_
      have h1 := HP0.out k hv
      have h2 := (World.ownsRow.lt o_x1 k e.symm).1
      have h3 := HZX.out
      omega
  clear o_x1
  have k0 := K_w5.out.cell 0
  have k1 := K_w5.out.cell 1
  simp at k0 k1
  go_wp2_with (fail)
  refine (toCd_c c w5).mono ?_
  rintro e w6 ⟨rfl, b⟩
  have B_w6 : Hid (Below w.heap.size w w6) := belowCall B_w5.out b B_w5.out.size
  have K_w6 : Hid (Blk w6 w.heap.size (cdA c) 52) := K_w5.out.below b K_w5.out.lt
  have V0_w6 : Hid (Rd .i64 w6 v0 out) := V0_w5.out.below b
  have Z0_w6 : Hid (w3.heap.size ≤ w6.heap.size) := Nat.le_trans Z0_w5.out b.size
  have C6_w6 : Hid (Blk w6 X4 (cdA cc) 25) := C6_w5.out.below b C6_w5.out.lt
  have X_w6 : Hid (Ow .i64 3 W4.heap.size w6 x1 zs) := X_w5.out.below b
  clear b B_w5 K_w5 V0_w5 Z0_w5 C6_w5 X_w5 k0 k1
  have HSG0 : Hid (w.heap.size ≤ w6.heap.size) := B_w6.out.size
  have HPX : Hid (∀ k, x1.ownBlock = some k → k < w6.heap.size) := fun k hk => (World.ownsRow.lt X_w6.out k hk).2
  have HPV : Hid (∀ k, v0.ownBlock = some k → k < w6.heap.size) := fun k hk => Nat.lt_of_lt_of_le (HP0.out k hk) Z0_w6.out
  go_wp2_with (fail)
  refine (HI.out w6 x1 X_w6.out.rd (HG.out.below B_w6.out HG.out.lt)).mono ?_
  rintro e w7 ⟨vg, rfl, og, b⟩
  have B_w7 : Hid (Below w.heap.size w w7) := belowCall B_w6.out b B_w6.out.size
  have K_w7 : Hid (Blk w7 w.heap.size (cdA c) 52) := K_w6.out.below b K_w6.out.lt
  have V0_w7 : Hid (Rd .i64 w7 v0 out) := V0_w6.out.below b
  have C6_w7 : Hid (Blk w7 X4 (cdA cc) 25) := C6_w6.out.below b C6_w6.out.lt
  have X_w7 : Hid (Ow .i64 3 W4.heap.size w7 x1 zs) := X_w6.out.below b
  clear b B_w6 K_w6 V0_w6 C6_w6 X_w6 Z0_w6
  have G_w7 : Hid (Ow .i64 3 w6.heap.size w7 vg out) := og
  have HP2 : Hid (vg.ownBlock = none ∨ vg.ownBlock ≠ x1.ownBlock) := by
    cases hv : vg.ownBlock with
    | none => exact .inl rfl
    | some k =>
      refine .inr fun e => ?_
      have h1 := HPX.out k e.symm
      have h2 := (World.ownsRow.lt og k hv).1
      omega
  have HP3 : Hid (v0.ownBlock = none ∨ v0.ownBlock ≠ vg.ownBlock) := by
    cases hv : v0.ownBlock with
    | none => exact .inl rfl
    | some k =>
      refine .inr fun e => ?_
      have h1 := HPV.out k hv
      have h2 := (World.ownsRow.lt og k e.symm).1
      omega
  clear og HPX HPV
  have ba : Below w7.heap.size w7 (w7.alloc (Obj.cells (cdA cc) 25)) := (Below.refl _ _).alloc (Nat.le_refl _) _
  have kb : Blk (w7.alloc (Obj.cells (cdA cc) 25)) w7.heap.size (cdA cc) 25 := Blk.new _ _ _
  obtain ⟨X8, hX8⟩ : ∃ X, w7.heap.size = X := ⟨_, rfl⟩
  obtain ⟨W8, hW8⟩ : ∃ W, w7.alloc (Obj.cells (cdA cc) 25) = W := ⟨_, rfl⟩
  rw [hW8] at ba kb
  rw [hX8] at kb
  have B_W8 : Hid (Below w.heap.size w W8) := belowCall B_w7.out ba B_w7.out.size
  have K_W8 : Hid (Blk W8 w.heap.size (cdA c) 52) := K_w7.out.below ba K_w7.out.lt
  have V0_W8 : Hid (Rd .i64 W8 v0 out) := V0_w7.out.below ba
  have C6_W8 : Hid (Blk W8 X4 (cdA cc) 25) := C6_w7.out.below ba C6_w7.out.lt
  have X_W8 : Hid (Ow .i64 3 W4.heap.size W8 x1 zs) := X_w7.out.below ba
  have G_W8 : Hid (Ow .i64 3 w6.heap.size W8 vg out) := G_w7.out.below ba
  have C10_W8 : Hid (Blk W8 X8 (cdA cc) 25) := kb
  clear ba kb B_w7 K_w7 V0_w7 C6_w7 X_w7 G_w7
  go_wp2_with (fail)
  refine (eqIS _ _ out W8 G_W8.out.rd V0_W8.out).mono ?_
  rintro e w9 ⟨rfl, b⟩
  have B_w9 : Hid (Below w.heap.size w w9) := belowCall B_W8.out b B_W8.out.size
  have K_w9 : Hid (Blk w9 w.heap.size (cdA c) 52) := K_W8.out.below b K_W8.out.lt
  have V0_w9 : Hid (Rd .i64 w9 v0 out) := V0_W8.out.below b
  have C6_w9 : Hid (Blk w9 X4 (cdA cc) 25) := C6_W8.out.below b C6_W8.out.lt
  have X_w9 : Hid (Ow .i64 3 W4.heap.size w9 x1 zs) := X_W8.out.below b
  have G_w9 : Hid (Ow .i64 3 w6.heap.size w9 vg out) := G_W8.out.below b
  have C10_w9 : Hid (Blk w9 X8 (cdA cc) 25) := C10_W8.out.below b C10_W8.out.lt
  clear b B_W8 K_W8 V0_W8 C6_W8 X_W8 G_W8 C10_W8 hW8 hX8
  have p0 := C10_w9.out.cell 0
  have p1 := C10_w9.out.cell 1
  simp at p0 p1
  have q0 := C6_w9.out.cell 0
  have q1 := C6_w9.out.cell 1
  simp at q0 q1
  go_wp2_with (fail)
  refine (eqCd_t cc w9).mono ?_
  rintro e w10 ⟨rfl, b⟩
  have B_w10 : Hid (Below w.heap.size w w10) := belowCall B_w9.out b B_w9.out.size
  have K_w10 : Hid (Blk w10 w.heap.size (cdA c) 52) := K_w9.out.below b K_w9.out.lt
  have V0_w10 : Hid (Rd .i64 w10 v0 out) := V0_w9.out.below b
  have C6_w10 : Hid (Blk w10 X4 (cdA cc) 25) := C6_w9.out.below b C6_w9.out.lt
  have X_w10 : Hid (Ow .i64 3 W4.heap.size w10 x1 zs) := X_w9.out.below b
  have G_w10 : Hid (Ow .i64 3 w6.heap.size w10 vg out) := G_w9.out.below b
  have C10_w10 : Hid (Blk w10 X8 (cdA cc) 25) := C10_w9.out.below b C10_w9.out.lt
  clear b B_w9 K_w9 V0_w9 C6_w9 X_w9 G_w9 C10_w9 p0 p1 q0 q1
  go_wp2_with (fail)
  refine (toI _ zs w10 (HR0.out.below B_w10.out) HL.out).mono ?_
  rintro e w11 ⟨u2, rfl, o_u2, b⟩
  have B_w11 : Hid (Below w.heap.size w w11) := belowCall B_w10.out b B_w10.out.size
  have K_w11 : Hid (Blk w11 w.heap.size (cdA c) 52) := K_w10.out.below b K_w10.out.lt
  have V0_w11 : Hid (Rd .i64 w11 v0 out) := V0_w10.out.below b
  have C6_w11 : Hid (Blk w11 X4 (cdA cc) 25) := C6_w10.out.below b C6_w10.out.lt
  have X_w11 : Hid (Ow .i64 3 W4.heap.size w11 x1 zs) := X_w10.out.below b
  have G_w11 : Hid (Ow .i64 3 w6.heap.size w11 vg out) := G_w10.out.below b
  have C10_w11 : Hid (Blk w11 X8 (cdA cc) 25) := C10_w10.out.below b C10_w10.out.lt
  clear b B_w10 K_w10 V0_w10 C6_w10 X_w10 G_w10 C10_w10
  have R2_w11 : Hid (Rd .i64 w11 u2 zs) := o_u2.rd
  clear o_u2
  go_wp2_with (fail)
  refine (eqIS _ _ zs w11 X_w11.out.rd R2_w11.out).mono ?_
  rintro e w12 ⟨rfl, b⟩
  have B_w12 : Hid (Below w.heap.size w w12) := belowCall B_w11.out b B_w11.out.size
  have K_w12 : Hid (Blk w12 w.heap.size (cdA c) 52) := K_w11.out.below b K_w11.out.lt
  have V0_w12 : Hid (Rd .i64 w12 v0 out) := V0_w11.out.below b
  have C6_w12 : Hid (Blk w12 X4 (cdA cc) 25) := C6_w11.out.below b C6_w11.out.lt
  have X_w12 : Hid (Ow .i64 3 W4.heap.size w12 x1 zs) := X_w11.out.below b
  have G_w12 : Hid (Ow .i64 3 w6.heap.size w12 vg out) := G_w11.out.below b
  have C10_w12 : Hid (Blk w12 X8 (cdA cc) 25) := C10_w11.out.below b C10_w11.out.lt
  have R2_w12 : Hid (Rd .i64 w12 u2 zs) := R2_w11.out.below b
  clear b B_w11 K_w11 V0_w11 C6_w11 X_w11 G_w11 C10_w11 R2_w11
  have HSX : Hid (w.heap.size ≤ W4.heap.size) := HSX0.out
  have HSG : Hid (w.heap.size ≤ w6.heap.size) := HSG0.out
  go_wp2_with (fail)
  refine (markI _ zs 1 _ w12 X_w12.out (by omega) (by omega)).mono ?_
  rintro e w13 ⟨rfl, om, gm⟩
  have bm : Below w.heap.size w12 w13 := grown_below gm B_w12.out.size (fun k hk => Nat.le_trans HSX.out (World.ownsRow.lt X_w12.out k hk).1)
  have B_w13 : Hid (Below w.heap.size w w13) := B_w12.out.trans bm
  have K_w13 : Hid (Blk w13 w.heap.size (cdA c) 52) := K_w12.out.grownO gm (own_blk_ne X_w12.out K_w12.out (by decide))
  have V0_w13 : Hid (Rd .i64 w13 v0 out) := V0_w12.out.grown gm HP1.out
  have C6_w13 : Hid (Blk w13 X4 (cdA cc) 25) := C6_w12.out.grownO gm (own_blk_ne X_w12.out C6_w12.out (by decide))
  have G_w13 : Hid (Ow .i64 3 w6.heap.size w13 vg out) := G_w12.out.grownO gm HP2.out
  have C10_w13 : Hid (Blk w13 X8 (cdA cc) 25) := C10_w12.out.grownO gm (own_blk_ne X_w12.out C10_w12.out (by decide))
  have XM_w13 : Hid (Ow .i64 3 W4.heap.size w13 x1 (marks .i64 1 zs.length)) := om
  clear om gm bm X_w12 B_w12 K_w12 V0_w12 C6_w12 G_w12 C10_w12 R2_w12
  go_wp2_with (fail)
  refine (eqIS _ _ out w13 G_w13.out.rd V0_w13.out).mono ?_
  rintro e w14 ⟨rfl, b⟩
  have B_w14 : Hid (Below w.heap.size w w14) := belowCall B_w13.out b B_w13.out.size
  have K_w14 : Hid (Blk w14 w.heap.size (cdA c) 52) := K_w13.out.below b K_w13.out.lt
  have V0_w14 : Hid (Rd .i64 w14 v0 out) := V0_w13.out.below b
  have C6_w14 : Hid (Blk w14 X4 (cdA cc) 25) := C6_w13.out.below b C6_w13.out.lt
  have G_w14 : Hid (Ow .i64 3 w6.heap.size w14 vg out) := G_w13.out.below b
  have C10_w14 : Hid (Blk w14 X8 (cdA cc) 25) := C10_w13.out.below b C10_w13.out.lt
  clear b B_w13 K_w13 V0_w13 C6_w13 G_w13 C10_w13 XM_w13
  have p0 := C10_w14.out.cell 0
  have p1 := C10_w14.out.cell 1
  simp at p0 p1
  have q0 := C6_w14.out.cell 0
  have q1 := C6_w14.out.cell 1
  simp at q0 q1
  go_wp2_with (fail)
  refine (eqCd_t cc w14).mono ?_
  rintro e w15 ⟨rfl, b⟩
  have B_w15 : Hid (Below w.heap.size w w15) := belowCall B_w14.out b B_w14.out.size
  have K_w15 : Hid (Blk w15 w.heap.size (cdA c) 52) := K_w14.out.below b K_w14.out.lt
  have V0_w15 : Hid (Rd .i64 w15 v0 out) := V0_w14.out.below b
  have C6_w15 : Hid (Blk w15 X4 (cdA cc) 25) := C6_w14.out.below b C6_w14.out.lt
  have G_w15 : Hid (Ow .i64 3 w6.heap.size w15 vg out) := G_w14.out.below b
  have C10_w15 : Hid (Blk w15 X8 (cdA cc) 25) := C10_w14.out.below b C10_w14.out.lt
  clear b B_w14 K_w14 V0_w14 C6_w14 G_w14 C10_w14 p0 p1 q0 q1
  go_wp2_with (fail)
  refine (markI _ out 1 _ w15 G_w15.out (by omega) (by omega)).mono ?_
  rintro e w16 ⟨rfl, om, gm⟩
  have bm : Below w.heap.size w15 w16 := grown_below gm B_w15.out.size (fun k hk => Nat.le_trans HSG.out (World.ownsRow.lt G_w15.out k hk).1)
  have B_w16 : Hid (Below w.heap.size w w16) := B_w15.out.trans bm
  have K_w16 : Hid (Blk w16 w.heap.size (cdA c) 52) := K_w15.out.grownO gm (own_blk_ne G_w15.out K_w15.out (by decide))
  have V0_w16 : Hid (Rd .i64 w16 v0 out) := V0_w15.out.grown gm HP3.out
  have C6_w16 : Hid (Blk w16 X4 (cdA cc) 25) := C6_w15.out.grownO gm (own_blk_ne G_w15.out C6_w15.out (by decide))
  have C10_w16 : Hid (Blk w16 X8 (cdA cc) 25) := C10_w15.out.grownO gm (own_blk_ne G_w15.out C10_w15.out (by decide))
  have GM_w16 : Hid (Ow .i64 3 w6.heap.size w16 vg (marks .i64 1 out.length)) := om
  clear om gm bm G_w15 B_w15 K_w15 V0_w15 C6_w15 C10_w15
  go_wp2_with (fail)
  refine (heldI _ 1 out.length w16 GM_w16.out.rd (by omega) (by omega)).mono ?_
  rintro e w17 ⟨rfl, b⟩
  have B_w17 : Hid (Below w.heap.size w w17) := belowCall B_w16.out b B_w16.out.size
  have K_w17 : Hid (Blk w17 w.heap.size (cdA c) 52) := K_w16.out.below b K_w16.out.lt
  have V0_w17 : Hid (Rd .i64 w17 v0 out) := V0_w16.out.below b
  have C6_w17 : Hid (Blk w17 X4 (cdA cc) 25) := C6_w16.out.below b C6_w16.out.lt
  have GM_w17 : Hid (Ow .i64 3 w6.heap.size w17 vg (marks .i64 1 out.length)) := GM_w16.out.below b
  clear b B_w16 K_w16 V0_w16 C6_w16 GM_w16 C10_w16
  have k0 := K_w17.out.cell 0
  have k1 := K_w17.out.cell 1
  simp at k0 k1
  go_wp2_with (fail)
  refine (toCd_c c w17).mono ?_
  rintro e w18 ⟨rfl, b⟩
  have B_w18 : Hid (Below w.heap.size w w18) := belowCall B_w17.out b B_w17.out.size
  have K_w18 : Hid (Blk w18 w.heap.size (cdA c) 52) := K_w17.out.below b K_w17.out.lt
  have V0_w18 : Hid (Rd .i64 w18 v0 out) := V0_w17.out.below b
  have C6_w18 : Hid (Blk w18 X4 (cdA cc) 25) := C6_w17.out.below b C6_w17.out.lt
  have GM_w18 : Hid (Ow .i64 3 w6.heap.size w18 vg (marks .i64 1 out.length)) := GM_w17.out.below b
  clear b B_w17 K_w17 V0_w17 C6_w17 GM_w17 k0 k1
  go_wp2_with (fail)
  refine (toI _ zs w18 (HR0.out.below B_w18.out) HL.out).mono ?_
  rintro e w19 ⟨u3, rfl, o_u3, b⟩
  have B_w19 : Hid (Below w.heap.size w w19) := belowCall B_w18.out b B_w18.out.size
  have K_w19 : Hid (Blk w19 w.heap.size (cdA c) 52) := K_w18.out.below b K_w18.out.lt
  have V0_w19 : Hid (Rd .i64 w19 v0 out) := V0_w18.out.below b
  have C6_w19 : Hid (Blk w19 X4 (cdA cc) 25) := C6_w18.out.below b C6_w18.out.lt
  have GM_w19 : Hid (Ow .i64 3 w6.heap.size w19 vg (marks .i64 1 out.length)) := GM_w18.out.below b
  clear b B_w18 K_w18 V0_w18 C6_w18 GM_w18
  have R3_w19 : Hid (Rd .i64 w19 u3 zs) := o_u3.rd
  clear o_u3
  go_wp2_with (fail)
  refine (HI.out w19 u3 R3_w19.out (HG.out.below B_w19.out HG.out.lt)).mono ?_
  rintro e w20 ⟨vh, rfl, oh, b⟩
  have B_w20 : Hid (Below w.heap.size w w20) := belowCall B_w19.out b B_w19.out.size
  have K_w20 : Hid (Blk w20 w.heap.size (cdA c) 52) := K_w19.out.below b K_w19.out.lt
  have V0_w20 : Hid (Rd .i64 w20 v0 out) := V0_w19.out.below b
  have C6_w20 : Hid (Blk w20 X4 (cdA cc) 25) := C6_w19.out.below b C6_w19.out.lt
  have GM_w20 : Hid (Ow .i64 3 w6.heap.size w20 vg (marks .i64 1 out.length)) := GM_w19.out.below b
  have R3_w20 : Hid (Rd .i64 w20 u3 zs) := R3_w19.out.below b
  clear b B_w19 K_w19 V0_w19 C6_w19 GM_w19 R3_w19
  have H_w20 : Hid (Rd .i64 w20 vh out) := oh.rd
  clear oh
  have ba : Below w20.heap.size w20 (w20.alloc (Obj.cells (cdA cc) 25)) := (Below.refl _ _).alloc (Nat.le_refl _) _
  have kb : Blk (w20.alloc (Obj.cells (cdA cc) 25)) w20.heap.size (cdA cc) 25 := Blk.new _ _ _
  obtain ⟨X21, hX21⟩ : ∃ X, w20.heap.size = X := ⟨_, rfl⟩
  obtain ⟨W21, hW21⟩ : ∃ W, w20.alloc (Obj.cells (cdA cc) 25) = W := ⟨_, rfl⟩
  rw [hW21] at ba kb
  rw [hX21] at kb
  have B_W21 : Hid (Below w.heap.size w W21) := belowCall B_w20.out ba B_w20.out.size
  have K_W21 : Hid (Blk W21 w.heap.size (cdA c) 52) := K_w20.out.below ba K_w20.out.lt
  have V0_W21 : Hid (Rd .i64 W21 v0 out) := V0_w20.out.below ba
  have C6_W21 : Hid (Blk W21 X4 (cdA cc) 25) := C6_w20.out.below ba C6_w20.out.lt
  have GM_W21 : Hid (Ow .i64 3 w6.heap.size W21 vg (marks .i64 1 out.length)) := GM_w20.out.below ba
  have H_W21 : Hid (Rd .i64 W21 vh out) := H_w20.out.below ba
  have C16_W21 : Hid (Blk W21 X21 (cdA cc) 25) := kb
  clear ba kb B_w20 K_w20 V0_w20 C6_w20 GM_w20 H_w20
  go_wp2_with (fail)
  refine (eqIS _ _ out W21 H_W21.out V0_W21.out).mono ?_
  rintro e w22 ⟨rfl, b⟩
  have B_w22 : Hid (Below w.heap.size w w22) := belowCall B_W21.out b B_W21.out.size
  have K_w22 : Hid (Blk w22 w.heap.size (cdA c) 52) := K_W21.out.below b K_W21.out.lt
  have V0_w22 : Hid (Rd .i64 w22 v0 out) := V0_W21.out.below b
  have C6_w22 : Hid (Blk w22 X4 (cdA cc) 25) := C6_W21.out.below b C6_W21.out.lt
  have GM_w22 : Hid (Ow .i64 3 w6.heap.size w22 vg (marks .i64 1 out.length)) := GM_W21.out.below b
  have H_w22 : Hid (Rd .i64 w22 vh out) := H_W21.out.below b
  have C16_w22 : Hid (Blk w22 X21 (cdA cc) 25) := C16_W21.out.below b C16_W21.out.lt
  clear b B_W21 K_W21 V0_W21 C6_W21 GM_W21 H_W21 C16_W21 R3_w20 hW21 hX21
  have p0 := C16_w22.out.cell 0
  have p1 := C16_w22.out.cell 1
  simp at p0 p1
  have q0 := C6_w22.out.cell 0
  have q1 := C6_w22.out.cell 1
  simp at q0 q1
  go_wp2_with (fail)
  refine (eqCd_t cc w22).mono ?_
  rintro e w23 ⟨rfl, b⟩
  have B_w23 : Hid (Below w.heap.size w w23) := belowCall B_w22.out b B_w22.out.size
  have K_w23 : Hid (Blk w23 w.heap.size (cdA c) 52) := K_w22.out.below b K_w22.out.lt
  have V0_w23 : Hid (Rd .i64 w23 v0 out) := V0_w22.out.below b
  have C6_w23 : Hid (Blk w23 X4 (cdA cc) 25) := C6_w22.out.below b C6_w22.out.lt
  have GM_w23 : Hid (Ow .i64 3 w6.heap.size w23 vg (marks .i64 1 out.length)) := GM_w22.out.below b
  have H_w23 : Hid (Rd .i64 w23 vh out) := H_w22.out.below b
  have C16_w23 : Hid (Blk w23 X21 (cdA cc) 25) := C16_w22.out.below b C16_w22.out.lt
  clear b B_w22 K_w22 V0_w22 C6_w22 GM_w22 H_w22 C16_w22 p0 p1 q0 q1
  go_wp2_with (fail)
  refine (heldI _ 1 out.length w23 GM_w23.out.rd (by omega) (by omega)).mono ?_
  rintro e w24 ⟨rfl, b⟩
  have B_w24 : Hid (Below w.heap.size w w24) := belowCall B_w23.out b B_w23.out.size
  have K_w24 : Hid (Blk w24 w.heap.size (cdA c) 52) := K_w23.out.below b K_w23.out.lt
  have V0_w24 : Hid (Rd .i64 w24 v0 out) := V0_w23.out.below b
  have C6_w24 : Hid (Blk w24 X4 (cdA cc) 25) := C6_w23.out.below b C6_w23.out.lt
  have GM_w24 : Hid (Ow .i64 3 w6.heap.size w24 vg (marks .i64 1 out.length)) := GM_w23.out.below b
  have H_w24 : Hid (Rd .i64 w24 vh out) := H_w23.out.below b
  have C16_w24 : Hid (Blk w24 X21 (cdA cc) 25) := C16_w23.out.below b C16_w23.out.lt
  clear b B_w23 K_w23 V0_w23 C6_w23 GM_w23 H_w23 C16_w23
  go_wp2
  go_ret
  exact ⟨rfl, B_w24.out⟩

theorem squeezeLaw (c : Int × Int) (v : Value) (zs : List Int) (w : World) (h : Rd .i64 w v zs) (hG : ChG w) : Calls Tryd.prog 8 #[.agg (cdA c), v] w fun e w' => e = .returned (.bool true) ∧ Below w.heap.size w w' := by
  by_cases hP : COk c ∧ VP zs
  · exact sqzCore c v zs (sqL c zs) (sqE c zs) true w h hG (by rw [sqL_len]; exact hP.2.len) (fun W u hu => (sqzM_c c u zs W hu).mono fun e w' hh => hh.1 hP) (fun W u hu hg => (sqzI_c c u zs W hu hg).mono fun e w' hh => hh.1 hP)
  · exact sqzCore c v zs [] (0, 0) false w h hG (by simp) (fun W u hu => (sqzM_c c u zs W hu).mono fun e w' hh => hh.2 hP) (fun W u hu hg => (sqzI_c c u zs W hu hg).mono fun e w' hh => hh.2 hP)

end Go.Proofs.YtkjfcebdjnclaaaDoor

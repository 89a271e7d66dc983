/- The law of OfFrame; the table is as it was laid. -/
import Derived.Test.YtkjfcebdjnclaaaDoorCdh
import Derived.Test.YtkjfcebdjnclaaaDoorOfm
namespace Go.Proofs.YtkjfcebdjnclaaaDoor
open Go.RowKit Go.ChangeShapes Go.WideShapes Go.ChangeAt
set_option linter.unusedVariables false
set_option linter.unusedSimpArgs false
set_option maxRecDepth 8000
set_option maxHeartbeats 12800000 in
theorem ofCore (l : Int) (f : Nat → Int) (out : List Int) (cc : Int × Int) (ok : Bool) (w : World) (hG : ChG w) (hol : out.length ≤ 300)
    (hM : ∀ W, Calls Tryd.prog 41 #[.int .i64 l, .agg (A16 f)] W (CdR out cc ok W))
    (hI : ∀ W, ChG W → Calls Tryd.prog 23 #[.int .i64 l, .agg (A16 f)] W (CdR out cc ok W)) :
    Calls Tryd.prog 11 #[.int .i64 l, .agg (A16 f)] w fun e w' => e = .returned (.bool true) ∧ Below w.heap.size w w' := by
  have HG : Hid (ChG w) := hG
  have HM : Hid (∀ W, Calls Tryd.prog 41 #[.int .i64 l, .agg (A16 f)] W (CdR out cc ok W)) := hM
  have HI : Hid (∀ W, ChG W → Calls Tryd.prog 23 #[.int .i64 l, .agg (A16 f)] W (CdR out cc ok W)) := hI
  have hol' := hol
  have okk : (ok != ok) = false := by simp
  obtain ⟨W0, hW0⟩ : ∃ W, w.alloc (Obj.cells (A16 f) 32) = W := ⟨_, rfl⟩
  have B_W0 : Hid (Below w.heap.size w W0) := by rw [← hW0]; exact (Below.refl _ _).alloc (Nat.le_refl _) _
  have K_W0 : Hid (Blk W0 w.heap.size (A16 f) 32) := by rw [← hW0]; exact Blk.new _ _ _
  clear hM hI hG hol
  have e1 : ((1 : Int) + (out.length : Int) < 0) = False := eq_false (by omega)
  have e2 : ((1 : Int) + (out.length : Int) != 1 + (out.length : Int)) = false := by simp
  have e1' : decide ((1 : Int) + (out.length : Int) < 0) = false := by simp only [decide_eq_false_iff_not]; omega
  go_enter Tryd.func11, Tryd.ntmps11
  go_wp2_with (refine ldF rfl _ rfl w.heap.size rfl 32 f (0, 0) K_W0.out ?_)
  refine (to16_c f W0).mono ?_
  rintro e w1 ⟨rfl, b⟩
  have B_w1 : Hid (Below w.heap.size w w1) := belowCall B_W0.out b B_W0.out.size
  have K_w1 : Hid (Blk w1 w.heap.size (A16 f) 32) := K_W0.out.below b K_W0.out.lt
  clear b B_W0 K_W0 hW0
  go_wp2_with (fail)
  refine (HM.out w1).mono ?_
  rintro e w2 ⟨v0, rfl, o0, b⟩
  have B_w2 : Hid (Below w.heap.size w w2) := belowCall B_w1.out b B_w1.out.size
  have K_w2 : Hid (Blk w2 w.heap.size (A16 f) 32) := K_w1.out.below b K_w1.out.lt
  clear b B_w1 K_w1
  have V0_w2 : Hid (Rd .i64 w2 v0 out) := o0.rd
  have HP0 : Hid (∀ k, v0.ownBlock = some k → k < w2.heap.size) := fun k hk => (World.ownsRow.lt o0 k hk).2
  have Z0_w2 : Hid (w2.heap.size ≤ w2.heap.size) := Nat.le_refl _
  clear o0
  have ba : Below w2.heap.size w2 (w2.alloc (Obj.cells (cdA cc) 25)) := (Below.refl _ _).alloc (Nat.le_refl _) _
  have kb : Blk (w2.alloc (Obj.cells (cdA cc) 25)) w2.heap.size (cdA cc) 25 := Blk.new _ _ _
  obtain ⟨X3, hX3⟩ : ∃ X, w2.heap.size = X := ⟨_, rfl⟩
  obtain ⟨W3, hW3⟩ : ∃ W, w2.alloc (Obj.cells (cdA cc) 25) = W := ⟨_, rfl⟩
  rw [hW3] at ba kb
  rw [hX3] at kb
  have B_W3 : Hid (Below w.heap.size w W3) := belowCall B_w2.out ba B_w2.out.size
  have K_W3 : Hid (Blk W3 w.heap.size (A16 f) 32) := K_w2.out.below ba K_w2.out.lt
  have V0_W3 : Hid (Rd .i64 W3 v0 out) := V0_w2.out.below ba
  have Z0_W3 : Hid (w2.heap.size ≤ W3.heap.size) := Nat.le_trans Z0_w2.out ba.size
  have C6_W3 : Hid (Blk W3 X3 (cdA cc) 25) := kb
  clear ba kb B_w2 K_w2 V0_w2 Z0_w2
  go_wp2_with (refine ldF rfl _ rfl w.heap.size rfl 32 f (0, 0) K_W3.out ?_)
  refine (to16_c f W3).mono ?_
  rintro e w4 ⟨rfl, b⟩
  have B_w4 : Hid (Below w.heap.size w w4) := belowCall B_W3.out b B_W3.out.size
  have K_w4 : Hid (Blk w4 w.heap.size (A16 f) 32) := K_W3.out.below b K_W3.out.lt
  have V0_w4 : Hid (Rd .i64 w4 v0 out) := V0_W3.out.below b
  have Z0_w4 : Hid (w2.heap.size ≤ w4.heap.size) := Nat.le_trans Z0_W3.out b.size
  have C6_w4 : Hid (Blk w4 X3 (cdA cc) 25) := C6_W3.out.below b C6_W3.out.lt
  clear b B_W3 K_W3 V0_W3 Z0_W3 C6_W3 hW3 hX3
  have HPV : Hid (∀ k, v0.ownBlock = some k → k < w4.heap.size) := fun k hk => Nat.lt_of_lt_of_le (HP0.out k hk) Z0_w4.out
  have HSG : Hid (w.heap.size ≤ w4.heap.size) := B_w4.out.size
  go_wp2_with (fail)
  refine (HI.out w4 (HG.out.below B_w4.out HG.out.lt)).mono ?_
  rintro e w5 ⟨vg, rfl, og, b⟩
  have B_w5 : Hid (Below w.heap.size w w5) := belowCall B_w4.out b B_w4.out.size
  have K_w5 : Hid (Blk w5 w.heap.size (A16 f) 32) := K_w4.out.below b K_w4.out.lt
  have V0_w5 : Hid (Rd .i64 w5 v0 out) := V0_w4.out.below b
  have C6_w5 : Hid (Blk w5 X3 (cdA cc) 25) := C6_w4.out.below b C6_w4.out.lt
  clear b B_w4 K_w4 V0_w4 C6_w4 Z0_w4
  have G_w5 : Hid (Ow .i64 3 w4.heap.size w5 vg out) := og
  have HP3 : Hid (v0.ownBlock = none ∨ v0.ownBlock ≠ vg.ownBlock) := by
    cases hv : v0.ownBlock with
    | none => exact .inl rfl
    | some k =>
      refine .inr fun e => ?_
      have h1 := HPV.out k hv
      have h2 := (World.ownsRow.lt og k e.symm).1
      omega
  clear og HPV
  have ba : Below w5.heap.size w5 (w5.alloc (Obj.cells (cdA cc) 25)) := (Below.refl _ _).alloc (Nat.le_refl _) _
  have kb : Blk (w5.alloc (Obj.cells (cdA cc) 25)) w5.heap.size (cdA cc) 25 := Blk.new _ _ _
  obtain ⟨X6, hX6⟩ : ∃ X, w5.heap.size = X := ⟨_, rfl⟩
  obtain ⟨W6, hW6⟩ : ∃ W, w5.alloc (Obj.cells (cdA cc) 25) = W := ⟨_, rfl⟩
  rw [hW6] at ba kb
  rw [hX6] at kb
  have B_W6 : Hid (Below w.heap.size w W6) := belowCall B_w5.out ba B_w5.out.size
  have K_W6 : Hid (Blk W6 w.heap.size (A16 f) 32) := K_w5.out.below ba K_w5.out.lt
  have V0_W6 : Hid (Rd .i64 W6 v0 out) := V0_w5.out.below ba
  have C6_W6 : Hid (Blk W6 X3 (cdA cc) 25) := C6_w5.out.below ba C6_w5.out.lt
  have G_W6 : Hid (Ow .i64 3 w4.heap.size W6 vg out) := G_w5.out.below ba
  have C10_W6 : Hid (Blk W6 X6 (cdA cc) 25) := kb
  clear ba kb B_w5 K_w5 V0_w5 C6_w5 G_w5
  go_wp2_with (fail)
  refine (eqIS _ _ out W6 G_W6.out.rd V0_W6.out).mono ?_
  rintro e w7 ⟨rfl, b⟩
  have B_w7 : Hid (Below w.heap.size w w7) := belowCall B_W6.out b B_W6.out.size
  have K_w7 : Hid (Blk w7 w.heap.size (A16 f) 32) := K_W6.out.below b K_W6.out.lt
  have V0_w7 : Hid (Rd .i64 w7 v0 out) := V0_W6.out.below b
  have C6_w7 : Hid (Blk w7 X3 (cdA cc) 25) := C6_W6.out.below b C6_W6.out.lt
  have G_w7 : Hid (Ow .i64 3 w4.heap.size w7 vg out) := G_W6.out.below b
  have C10_w7 : Hid (Blk w7 X6 (cdA cc) 25) := C10_W6.out.below b C10_W6.out.lt
  clear b B_W6 K_W6 V0_W6 C6_W6 G_W6 C10_W6 hW6 hX6
  have p0 := C10_w7.out.cell 0
  have p1 := C10_w7.out.cell 1
  simp at p0 p1
  have q0 := C6_w7.out.cell 0
  have q1 := C6_w7.out.cell 1
  simp at q0 q1
  go_wp2_with (fail)
  refine (eqCd_t cc w7).mono ?_
  rintro e w8 ⟨rfl, b⟩
  have B_w8 : Hid (Below w.heap.size w w8) := belowCall B_w7.out b B_w7.out.size
  have K_w8 : Hid (Blk w8 w.heap.size (A16 f) 32) := K_w7.out.below b K_w7.out.lt
  have V0_w8 : Hid (Rd .i64 w8 v0 out) := V0_w7.out.below b
  have C6_w8 : Hid (Blk w8 X3 (cdA cc) 25) := C6_w7.out.below b C6_w7.out.lt
  have G_w8 : Hid (Ow .i64 3 w4.heap.size w8 vg out) := G_w7.out.below b
  have C10_w8 : Hid (Blk w8 X6 (cdA cc) 25) := C10_w7.out.below b C10_w7.out.lt
  clear b B_w7 K_w7 V0_w7 C6_w7 G_w7 C10_w7 p0 p1 q0 q1
  go_wp2_with (fail)
  refine (markI _ out 1 _ w8 G_w8.out (by omega) (by omega)).mono ?_
  rintro e w9 ⟨rfl, om, gm⟩
  have bm : Below w.heap.size w8 w9 := grown_below gm B_w8.out.size (fun k hk => Nat.le_trans HSG.out (World.ownsRow.lt G_w8.out k hk).1)
  have B_w9 : Hid (Below w.heap.size w w9) := B_w8.out.trans bm
  have K_w9 : Hid (Blk w9 w.heap.size (A16 f) 32) := K_w8.out.grownO gm (own_blk_ne G_w8.out K_w8.out (by decide))
  have V0_w9 : Hid (Rd .i64 w9 v0 out) := V0_w8.out.grown gm HP3.out
  have C6_w9 : Hid (Blk w9 X3 (cdA cc) 25) := C6_w8.out.grownO gm (own_blk_ne G_w8.out C6_w8.out (by decide))
  have GM_w9 : Hid (Ow .i64 3 w4.heap.size w9 vg (marks .i64 1 out.length)) := om
  clear om gm bm G_w8 B_w8 K_w8 V0_w8 C6_w8 C10_w8
  go_wp2_with (fail)
  refine (heldI _ 1 out.length w9 GM_w9.out.rd (by omega) (by omega)).mono ?_
  rintro e w10 ⟨rfl, b⟩
  have B_w10 : Hid (Below w.heap.size w w10) := belowCall B_w9.out b B_w9.out.size
  have K_w10 : Hid (Blk w10 w.heap.size (A16 f) 32) := K_w9.out.below b K_w9.out.lt
  have V0_w10 : Hid (Rd .i64 w10 v0 out) := V0_w9.out.below b
  have C6_w10 : Hid (Blk w10 X3 (cdA cc) 25) := C6_w9.out.below b C6_w9.out.lt
  have GM_w10 : Hid (Ow .i64 3 w4.heap.size w10 vg (marks .i64 1 out.length)) := GM_w9.out.below b
  clear b B_w9 K_w9 V0_w9 C6_w9 GM_w9
  go_wp2_with (refine ldF rfl _ rfl w.heap.size rfl 32 f (0, 0) K_w10.out ?_)
  refine (to16_c f w10).mono ?_
  rintro e w11 ⟨rfl, b⟩
  have B_w11 : Hid (Below w.heap.size w w11) := belowCall B_w10.out b B_w10.out.size
  have K_w11 : Hid (Blk w11 w.heap.size (A16 f) 32) := K_w10.out.below b K_w10.out.lt
  have V0_w11 : Hid (Rd .i64 w11 v0 out) := V0_w10.out.below b
  have C6_w11 : Hid (Blk w11 X3 (cdA cc) 25) := C6_w10.out.below b C6_w10.out.lt
  have GM_w11 : Hid (Ow .i64 3 w4.heap.size w11 vg (marks .i64 1 out.length)) := GM_w10.out.below b
  clear b B_w10 K_w10 V0_w10 C6_w10 GM_w10
  go_wp2_with (fail)
  refine (HI.out w11 (HG.out.below B_w11.out HG.out.lt)).mono ?_
  rintro e w12 ⟨vh, rfl, oh, b⟩
  have B_w12 : Hid (Below w.heap.size w w12) := belowCall B_w11.out b B_w11.out.size
  have K_w12 : Hid (Blk w12 w.heap.size (A16 f) 32) := K_w11.out.below b K_w11.out.lt
  have V0_w12 : Hid (Rd .i64 w12 v0 out) := V0_w11.out.below b
  have C6_w12 : Hid (Blk w12 X3 (cdA cc) 25) := C6_w11.out.below b C6_w11.out.lt
  have GM_w12 : Hid (Ow .i64 3 w4.heap.size w12 vg (marks .i64 1 out.length)) := GM_w11.out.below b
  clear b B_w11 K_w11 V0_w11 C6_w11 GM_w11
  have H_w12 : Hid (Rd .i64 w12 vh out) := oh.rd
  clear oh
  have ba : Below w12.heap.size w12 (w12.alloc (Obj.cells (cdA cc) 25)) := (Below.refl _ _).alloc (Nat.le_refl _) _
  have kb : Blk (w12.alloc (Obj.cells (cdA cc) 25)) w12.heap.size (cdA cc) 25 := Blk.new _ _ _
  obtain ⟨X13, hX13⟩ : ∃ X, w12.heap.size = X := ⟨_, rfl⟩
  obtain ⟨W13, hW13⟩ : ∃ W, w12.alloc (Obj.cells (cdA cc) 25) = W := ⟨_, rfl⟩
  rw [hW13] at ba kb
  rw [hX13] at kb
  have B_W13 : Hid (Below w.heap.size w W13) := belowCall B_w12.out ba B_w12.out.size
  have K_W13 : Hid (Blk W13 w.heap.size (A16 f) 32) := K_w12.out.below ba K_w12.out.lt
  have V0_W13 : Hid (Rd .i64 W13 v0 out) := V0_w12.out.below ba
  have C6_W13 : Hid (Blk W13 X3 (cdA cc) 25) := C6_w12.out.below ba C6_w12.out.lt
  have GM_W13 : Hid (Ow .i64 3 w4.heap.size W13 vg (marks .i64 1 out.length)) := GM_w12.out.below ba
  have H_W13 : Hid (Rd .i64 W13 vh out) := H_w12.out.below ba
  have C16_W13 : Hid (Blk W13 X13 (cdA cc) 25) := kb
  clear ba kb B_w12 K_w12 V0_w12 C6_w12 GM_w12 H_w12
  go_wp2_with (fail)
  refine (eqIS _ _ out W13 H_W13.out V0_W13.out).mono ?_
  rintro e w14 ⟨rfl, b⟩
  have B_w14 : Hid (Below w.heap.size w w14) := belowCall B_W13.out b B_W13.out.size
  have K_w14 : Hid (Blk w14 w.heap.size (A16 f) 32) := K_W13.out.below b K_W13.out.lt
  have V0_w14 : Hid (Rd .i64 w14 v0 out) := V0_W13.out.below b
  have C6_w14 : Hid (Blk w14 X3 (cdA cc) 25) := C6_W13.out.below b C6_W13.out.lt
  have GM_w14 : Hid (Ow .i64 3 w4.heap.size w14 vg (marks .i64 1 out.length)) := GM_W13.out.below b
  have H_w14 : Hid (Rd .i64 w14 vh out) := H_W13.out.below b
  have C16_w14 : Hid (Blk w14 X13 (cdA cc) 25) := C16_W13.out.below b C16_W13.out.lt
  clear b B_W13 K_W13 V0_W13 C6_W13 GM_W13 H_W13 C16_W13 hW13 hX13
  have p0 := C16_w14.out.cell 0
  have p1 := C16_w14.out.cell 1
  simp at p0 p1
  have q0 := C6_w14.out.cell 0
  have q1 := C6_w14.out.cell 1
  simp at q0 q1
  go_wp2_with (fail)
  refine (eqCd_t cc w14).mono ?_
  rintro e w15 ⟨rfl, b⟩
  have B_w15 : Hid (Below w.heap.size w w15) := belowCall B_w14.out b B_w14.out.size
  have K_w15 : Hid (Blk w15 w.heap.size (A16 f) 32) := K_w14.out.below b K_w14.out.lt
  have V0_w15 : Hid (Rd .i64 w15 v0 out) := V0_w14.out.below b
  have C6_w15 : Hid (Blk w15 X3 (cdA cc) 25) := C6_w14.out.below b C6_w14.out.lt
  have GM_w15 : Hid (Ow .i64 3 w4.heap.size w15 vg (marks .i64 1 out.length)) := GM_w14.out.below b
  have H_w15 : Hid (Rd .i64 w15 vh out) := H_w14.out.below b
  have C16_w15 : Hid (Blk w15 X13 (cdA cc) 25) := C16_w14.out.below b C16_w14.out.lt
  clear b B_w14 K_w14 V0_w14 C6_w14 GM_w14 H_w14 C16_w14 p0 p1 q0 q1
  go_wp2_with (fail)
  refine (heldI _ 1 out.length w15 GM_w15.out.rd (by omega) (by omega)).mono ?_
  rintro e w16 ⟨rfl, b⟩
  have B_w16 : Hid (Below w.heap.size w w16) := belowCall B_w15.out b B_w15.out.size
  have K_w16 : Hid (Blk w16 w.heap.size (A16 f) 32) := K_w15.out.below b K_w15.out.lt
  have V0_w16 : Hid (Rd .i64 w16 v0 out) := V0_w15.out.below b
  have C6_w16 : Hid (Blk w16 X3 (cdA cc) 25) := C6_w15.out.below b C6_w15.out.lt
  have GM_w16 : Hid (Ow .i64 3 w4.heap.size w16 vg (marks .i64 1 out.length)) := GM_w15.out.below b
  have H_w16 : Hid (Rd .i64 w16 vh out) := H_w15.out.below b
  have C16_w16 : Hid (Blk w16 X13 (cdA cc) 25) := C16_w15.out.below b C16_w15.out.lt
  clear b B_w15 K_w15 V0_w15 C6_w15 GM_w15 H_w15 C16_w15
  go_wp2
  go_ret
  exact ⟨rfl, B_w16.out⟩

theorem ofFrameLaw (l : Int) (f : Nat → Int) (hf : ∀ i, i < 16 → 0 ≤ f i ∧ f i ≤ 255) (w : World) (hG : ChG w) : Calls Tryd.prog 11 #[.int .i64 l, .agg (A16 f)] w fun e w' => e = .returned (.bool true) ∧ Below w.heap.size w w' := by
  by_cases hP : COk (l, f 0)
  · exact ofCore l f _ _ true w hG (by rw [exL_len, frNs_len]; omega) (fun W => (ofM_c l f hf W).mono fun e w' hh => hh.1 hP) (fun W hg => (ofI_c l f hf W hg).mono fun e w' hh => hh.1 hP)
  · exact ofCore l f [] (0, 0) false w hG (by simp) (fun W => (ofM_c l f hf W).mono fun e w' hh => hh.2 hP) (fun W hg => (ofI_c l f hf W hg).mono fun e w' hh => hh.2 hP)

end Go.Proofs.YtkjfcebdjnclaaaDoor

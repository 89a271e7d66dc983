/- The law of Framed; the table is as it was laid. -/
import Derived.Test.YtkjfcebdjnclaaaDoorDrf
import Derived.Test.YtkjfcebdjnclaaaDoorSmi
import Derived.Test.YtkjfcebdjnclaaaDoorSqm
import Derived.Test.YtkjfcebdjnclaaaDoorOfi
import Derived.Test.YtkjfcebdjnclaaaDoorFoL
namespace Go.Proofs.YtkjfcebdjnclaaaDoor
open Go.RowKit Go.ChangeShapes Go.WideShapes Go.ChangeAt
set_option linter.unusedVariables false
set_option linter.unusedSimpArgs false
set_option maxRecDepth 8000

theorem eqZ16 (W : World) : Sem.run Tryd.prog (Op.equalIn 10000 32 (.agg #[.int .u8 0, .int .u8 0, .int .u8 0, .int .u8 0, .int .u8 0, .int .u8 0, .int .u8 0, .int .u8 0, .int .u8 0, .int .u8 0, .int .u8 0, .int .u8 0, .int .u8 0, .int .u8 0, .int .u8 0, .int .u8 0]) (.agg #[.int .u8 0, .int .u8 0, .int .u8 0, .int .u8 0, .int .u8 0, .int .u8 0, .int .u8 0, .int .u8 0, .int .u8 0, .int .u8 0, .int .u8 0, .int .u8 0, .int .u8 0, .int .u8 0, .int .u8 0, .int .u8 0])) W = .ok true W := by kernel_rfl
theorem sqFr2 {c : Int × Int} {ys : List Int} (hc : COk c) (h : VP ys) : FrP (sqL c ys) := ⟨by rw [sqL_len]; exact h.len, sqL_bd ys c hc⟩
theorem foF_bd {s : Int} {ns : List Int} (hs : 0 ≤ s ∧ s ≤ 48) (hn : ∀ n ∈ ns, 0 ≤ n ∧ n ≤ 15) (hl : ns.length = 30) : ∀ i, i < 16 → 0 ≤ foF s ns i ∧ foF s ns i ≤ 255 := by
  intro i hi
  unfold foF
  split
  · omega
  · have key : ∀ t, t < 30 → 0 ≤ ns.getD t 0 ∧ ns.getD t 0 ≤ 15 := fun t ht => getD_bd ns t 0 15 hn (by omega)
    have h1 := key (2 * (i - 1)) (by omega)
    have h2 := key (2 * (i - 1) + 1) (by omega)
    omega
/-- a frame's numbers are those that it was made of -/
theorem frNs_foF {s : Int} {ns : List Int} (hn : ∀ n ∈ ns, 0 ≤ n ∧ n ≤ 15) (hl : ns.length = 30) : ∀ j, j ≤ 15 → frNs (foF s ns) j = ns.take (2 * j)
  | 0, _ => by simp [frNs]
  | j + 1, hj => by
    rw [frNs, frNs_foF hn hl j (by omega)]
    have key : ∀ t, t < 30 → 0 ≤ ns.getD t 0 ∧ ns.getD t 0 ≤ 15 := fun t ht => getD_bd ns t 0 15 hn (by omega)
    have h1 := key (2 * j) (by omega)
    have h2 := key (2 * j + 1) (by omega)
    have hf : foF s ns (j + 1) = ns.getD (2 * j) 0 * 16 + ns.getD (2 * j + 1) 0 := by unfold foF; rw [if_neg (by omega), show 2 * (j + 1 - 1) = 2 * j by omega]
    rw [hf, show (ns.getD (2 * j) 0 * 16 + ns.getD (2 * j + 1) 0) / 16 = ns.getD (2 * j) 0 by omega, show (ns.getD (2 * j) 0 * 16 + ns.getD (2 * j + 1) 0) % 16 = ns.getD (2 * j + 1) 0 by omega]
    rw [show 2 * (j + 1) = 2 * j + 1 + 1 by omega, List.take_succ_eq_append_getElem (show 2 * j + 1 < ns.length by omega), List.take_succ_eq_append_getElem (show 2 * j < ns.length by omega)]
    simp only [List.getD_eq_getElem?_getD, List.getElem?_eq_getElem (show 2 * j < ns.length by omega), List.getElem?_eq_getElem (show 2 * j + 1 < ns.length by omega), Option.getD_some, List.append_assoc, List.cons_append, List.nil_append]
theorem frNs_all {s : Int} {ns : List Int} (hn : ∀ n ∈ ns, 0 ≤ n ∧ n ≤ 15) (hl : ns.length = 30) : frNs (foF s ns) 15 = ns := by
  rw [frNs_foF hn hl 15 (by omega), List.take_of_length_le (by omega)]

set_option maxHeartbeats 12800000 in
theorem framedLaw (v : Value) (zs : List Int) (w : World) (h : Rd .u8 w v zs) (hok : ∀ z ∈ zs, 0 ≤ z ∧ z ≤ 255) (hG : ChG w) : Calls Tryd.prog 4 #[v] w fun e w' => e = .returned (.bool true) ∧ Below w.heap.size w w' := by
  have HR : Hid (Rd .u8 w v zs) := h
  have HOK : Hid (∀ z ∈ zs, 0 ≤ z ∧ z ≤ 255) := hok
  have HG : Hid (ChG w) := hG
  clear h hok hG
  go_enter Tryd.func4, Tryd.ntmps4
  go_wp2_with (fail)
  refine (big_c _ zs _ HR.out).mono ?_
  rintro e w1 ⟨rfl, hw1⟩
  subst hw1
  by_cases hb : (1048576 : Int) < (zs.length : Int)
  · have hbd : decide ((1048576 : Int) < (zs.length : Int)) = true := by simp only [decide_eq_true_eq]; exact hb
    rw [hbd]
    clear hbd
    go_wp2
    go_ret
    exact ⟨rfl, Below.refl _ _⟩
  have hbd : decide ((1048576 : Int) < (zs.length : Int)) = false := by simp only [decide_eq_false_iff_not]; exact hb
  rw [hbd]
  have HLN : Hid (zs.length ≤ 1048576) := by show _ ≤ _; omega
  clear hbd hb
  go_wp2_with (fail)
  refine (drawFo_c _ zs _ HR.out HOK.out HLN.out).mono ?_
  rintro e w2 ⟨c, u, ys, rfl, r2, l2, b2⟩
  have HR2 : Hid (Rd .i64 w2 u ys) := r2
  have HL2 : Hid (ys.length ≤ 400) := l2
  have HB2 : Hid (Below w1.heap.size w1 w2) := b2
  clear r2 l2 b2
  have B_w2 : Hid (Below w1.heap.size w1 w2) := HB2.out
  have R_w2 : Hid (Rd .i64 w2 u ys) := HR2.out
  clear HB2 HR2
  have ba : Below w2.heap.size w2 (w2.alloc (Obj.cells (cdA c) 25)) := (Below.refl _ _).alloc (Nat.le_refl _) _
  have kb : Blk (w2.alloc (Obj.cells (cdA c) 25)) w2.heap.size (cdA c) 25 := Blk.new _ _ _
  obtain ⟨X1, hX1⟩ : ∃ X, w2.heap.size = X := ⟨_, rfl⟩
  obtain ⟨W1, hW1⟩ : ∃ W, w2.alloc (Obj.cells (cdA c) 25) = W := ⟨_, rfl⟩
  rw [hW1] at ba kb
  rw [hX1] at kb
  have B_W1 : Hid (Below w1.heap.size w1 W1) := belowCall B_w2.out ba B_w2.out.size
  have R_W1 : Hid (Rd .i64 W1 u ys) := R_w2.out.below ba
  have K_W1 : Hid (Blk W1 X1 (cdA c) 25) := kb
  clear ba kb B_w2 R_w2
  have k0 := K_W1.out.cell 0
  have k1 := K_W1.out.cell 1
  simp at k0 k1
  by_cases hP : FoP c ys
  · have HP : Hid (FoP c ys) := hP
    obtain ⟨f, hf⟩ : ∃ f, foF c.2 (sqL c ys) = f := ⟨_, rfl⟩
    obtain ⟨d, hd⟩ : ∃ d, sqE c ys = d := ⟨_, rfl⟩
    have HF : Hid (foF c.2 (sqL c ys) = f) := hf
    have HDD : Hid (sqE c ys = d) := hd
    clear hP hf hd
    go_wp2_with (fail)
    refine ((foI_c c u ys W1 R_W1.out (HG.out.below B_W1.out HG.out.lt)).mono fun e w' hh => (by rw [← HF.out, ← HDD.out]; exact hh.1 HP.out : FoR f d true _ e w')).mono ?_
    rintro e w2 ⟨rfl, b⟩
    have B_w2 : Hid (Below w1.heap.size w1 w2) := belowCall B_W1.out b B_W1.out.size
    have R_w2 : Hid (Rd .i64 w2 u ys) := R_W1.out.below b
    have K_w2 : Hid (Blk w2 X1 (cdA c) 25) := K_W1.out.below b K_W1.out.lt
    clear b B_W1 R_W1 K_W1 hW1 hX1 k0 k1
    obtain ⟨W3, hW3⟩ : ∃ W, fxW w2 f d = W := ⟨_, rfl⟩
    obtain ⟨g3, hg3⟩ : ∃ g, w2.heap.size = g := ⟨_, rfl⟩
    have bx : Below w2.heap.size w2 W3 := by rw [← hW3]; exact fxW_b _ _ _
    have HZ1 : Hid (Blk ((w2.alloc (Obj.cells #[.int .u8 0, .int .u8 0, .int .u8 0, .int .u8 0, .int .u8 0, .int .u8 0, .int .u8 0, .int .u8 0, .int .u8 0, .int .u8 0, .int .u8 0, .int .u8 0, .int .u8 0, .int .u8 0, .int .u8 0, .int .u8 0] 32)).alloc (Obj.cells (cdA (0, 0)) 25)) g3 (A16 fun _ => 0) 32) := by rw [← hg3]; exact fxW_z1 _
    have HZ2 : Hid (Blk (((w2.alloc (Obj.cells #[.int .u8 0, .int .u8 0, .int .u8 0, .int .u8 0, .int .u8 0, .int .u8 0, .int .u8 0, .int .u8 0, .int .u8 0, .int .u8 0, .int .u8 0, .int .u8 0, .int .u8 0, .int .u8 0, .int .u8 0, .int .u8 0] 32)).alloc (Obj.cells (cdA (0, 0)) 25)).setRow g3 (A16 f)) (g3 + 1) (cdA (0, 0)) 25) := by rw [← hg3]; exact fxW_z2 _ _
    have HWX : Hid ((((w2.alloc (Obj.cells #[.int .u8 0, .int .u8 0, .int .u8 0, .int .u8 0, .int .u8 0, .int .u8 0, .int .u8 0, .int .u8 0, .int .u8 0, .int .u8 0, .int .u8 0, .int .u8 0, .int .u8 0, .int .u8 0, .int .u8 0, .int .u8 0] 32)).alloc (Obj.cells (cdA (0, 0)) 25)).setRow g3 (A16 f)).setRow (g3 + 1) (cdA d) = W3) := by rw [← hg3]; exact hW3
    have kf : Blk W3 g3 (A16 f) 32 := by rw [← hW3, ← hg3]; exact fxW_f _ _ _
    have kc : Blk W3 (g3 + 1) (cdA d) 25 := by rw [← hW3, ← hg3]; exact fxW_c _ _ _
    have B_W3 : Hid (Below w1.heap.size w1 W3) := belowCall B_w2.out bx B_w2.out.size
    have R_W3 : Hid (Rd .i64 W3 u ys) := R_w2.out.below bx
    have K_W3 : Hid (Blk W3 X1 (cdA c) 25) := K_w2.out.below bx K_w2.out.lt
    have F_W3 : Hid (Blk W3 g3 (A16 f) 32) := kf
    have E_W3 : Hid (Blk W3 (g3 + 1) (cdA d) 25) := kc
    clear bx kf kc hW3 B_w2 R_w2 K_w2
    have k0 := K_W3.out.cell 0
    have k1 := K_W3.out.cell 1
    simp at k0 k1
    go_wp2_with (first | refine stF rfl _ _ rfl g3 rfl f rfl 32 (A16 fun _ => 0) HZ1.out (A16_size _) ?_ | (refine wpList_store_row rfl 25 _ _ rfl (g3 + 1) _ rfl rfl 25 (cdA (0, 0)) HZ2.out sizeCd rfl (by simp [Value.oneCell']) ?_; rw [HWX.out]))
    clear HZ1 HZ2 HWX hg3
    refine ((foM_c c u ys W3 R_W3.out).mono fun e w' hh => (by rw [← HF.out, ← HDD.out]; exact hh.1 HP.out : FoR f d true _ e w')).mono ?_
    rintro e w4 ⟨rfl, b⟩
    have B_w4 : Hid (Below w1.heap.size w1 w4) := belowCall B_W3.out b B_W3.out.size
    have R_w4 : Hid (Rd .i64 w4 u ys) := R_W3.out.below b
    have K_w4 : Hid (Blk w4 X1 (cdA c) 25) := K_W3.out.below b K_W3.out.lt
    have F_w4 : Hid (Blk w4 g3 (A16 f) 32) := F_W3.out.below b F_W3.out.lt
    have E_w4 : Hid (Blk w4 (g3 + 1) (cdA d) 25) := E_W3.out.below b E_W3.out.lt
    clear b B_W3 R_W3 K_W3 F_W3 E_W3 k0 k1
    obtain ⟨W5, hW5⟩ : ∃ W, fxW w4 f d = W := ⟨_, rfl⟩
    obtain ⟨g5, hg5⟩ : ∃ g, w4.heap.size = g := ⟨_, rfl⟩
    have bx : Below w4.heap.size w4 W5 := by rw [← hW5]; exact fxW_b _ _ _
    have HZ1 : Hid (Blk ((w4.alloc (Obj.cells #[.int .u8 0, .int .u8 0, .int .u8 0, .int .u8 0, .int .u8 0, .int .u8 0, .int .u8 0, .int .u8 0, .int .u8 0, .int .u8 0, .int .u8 0, .int .u8 0, .int .u8 0, .int .u8 0, .int .u8 0, .int .u8 0] 32)).alloc (Obj.cells (cdA (0, 0)) 25)) g5 (A16 fun _ => 0) 32) := by rw [← hg5]; exact fxW_z1 _
    have HZ2 : Hid (Blk (((w4.alloc (Obj.cells #[.int .u8 0, .int .u8 0, .int .u8 0, .int .u8 0, .int .u8 0, .int .u8 0, .int .u8 0, .int .u8 0, .int .u8 0, .int .u8 0, .int .u8 0, .int .u8 0, .int .u8 0, .int .u8 0, .int .u8 0, .int .u8 0] 32)).alloc (Obj.cells (cdA (0, 0)) 25)).setRow g5 (A16 f)) (g5 + 1) (cdA (0, 0)) 25) := by rw [← hg5]; exact fxW_z2 _ _
    have HWX : Hid ((((w4.alloc (Obj.cells #[.int .u8 0, .int .u8 0, .int .u8 0, .int .u8 0, .int .u8 0, .int .u8 0, .int .u8 0, .int .u8 0, .int .u8 0, .int .u8 0, .int .u8 0, .int .u8 0, .int .u8 0, .int .u8 0, .int .u8 0, .int .u8 0] 32)).alloc (Obj.cells (cdA (0, 0)) 25)).setRow g5 (A16 f)).setRow (g5 + 1) (cdA d) = W5) := by rw [← hg5]; exact hW5
    have kf : Blk W5 g5 (A16 f) 32 := by rw [← hW5, ← hg5]; exact fxW_f _ _ _
    have kc : Blk W5 (g5 + 1) (cdA d) 25 := by rw [← hW5, ← hg5]; exact fxW_c _ _ _
    have B_W5 : Hid (Below w1.heap.size w1 W5) := belowCall B_w4.out bx B_w4.out.size
    have R_W5 : Hid (Rd .i64 W5 u ys) := R_w4.out.below bx
    have K_W5 : Hid (Blk W5 X1 (cdA c) 25) := K_w4.out.below bx K_w4.out.lt
    have F_W5 : Hid (Blk W5 g3 (A16 f) 32) := F_w4.out.below bx F_w4.out.lt
    have E_W5 : Hid (Blk W5 (g3 + 1) (cdA d) 25) := E_w4.out.below bx E_w4.out.lt
    have F2_W5 : Hid (Blk W5 g5 (A16 f) 32) := kf
    have E2_W5 : Hid (Blk W5 (g5 + 1) (cdA d) 25) := kc
    clear bx kf kc hW5 B_w4 R_w4 K_w4 F_w4 E_w4
    have k0 := K_W5.out.cell 0
    have k1 := K_W5.out.cell 1
    simp at k0 k1
    go_wp2_with (first | refine stF rfl _ _ rfl g5 rfl f rfl 32 (A16 fun _ => 0) HZ1.out (A16_size _) ?_ | (refine wpList_store_row rfl 25 _ _ rfl (g5 + 1) _ rfl rfl 25 (cdA (0, 0)) HZ2.out sizeCd rfl (by simp [Value.oneCell']) ?_; rw [HWX.out]))
    clear HZ1 HZ2 HWX hg5
    obtain ⟨out, hout⟩ : ∃ l, exL c (sqL c ys) = l := ⟨_, rfl⟩
    have HOUT : Hid (exL c (sqL c ys) = out ∧ cdE c (sqL c ys) = d) := ⟨hout, HDD.out⟩
    have HOL : Hid (out.length = 30) := by show _ = _; rw [← hout, exL_len, sqL_len]; exact HP.out.2.2
    clear hout
    refine ((sqzI_c c u ys W5 R_W5.out (HG.out.below B_W5.out HG.out.lt)).mono fun e w' hh => (by rw [← HDD.out]; exact hh.1 ⟨HP.out.1, HP.out.2.1⟩ : CdR (sqL c ys) d true _ e w')).mono ?_
    rintro e w6 ⟨v3, rfl, o3, b⟩
    have B_w6 : Hid (Below w1.heap.size w1 w6) := belowCall B_W5.out b B_W5.out.size
    have R_w6 : Hid (Rd .i64 w6 u ys) := R_W5.out.below b
    have K_w6 : Hid (Blk w6 X1 (cdA c) 25) := K_W5.out.below b K_W5.out.lt
    have F_w6 : Hid (Blk w6 g3 (A16 f) 32) := F_W5.out.below b F_W5.out.lt
    have E_w6 : Hid (Blk w6 (g3 + 1) (cdA d) 25) := E_W5.out.below b E_W5.out.lt
    clear b B_W5 R_W5 K_W5 F_W5 E_W5 k0 k1 F2_W5 E2_W5
    have N_w6 : Hid (Rd .i64 w6 v3 (sqL c ys)) := o3.rd
    clear o3
    have ba : Below w6.heap.size w6 (w6.alloc (Obj.cells (cdA d) 25)) := (Below.refl _ _).alloc (Nat.le_refl _) _
    have kb : Blk (w6.alloc (Obj.cells (cdA d) 25)) w6.heap.size (cdA d) 25 := Blk.new _ _ _
    obtain ⟨X7, hX7⟩ : ∃ X, w6.heap.size = X := ⟨_, rfl⟩
    obtain ⟨W7, hW7⟩ : ∃ W, w6.alloc (Obj.cells (cdA d) 25) = W := ⟨_, rfl⟩
    rw [hW7] at ba kb
    rw [hX7] at kb
    have B_W7 : Hid (Below w1.heap.size w1 W7) := belowCall B_w6.out ba B_w6.out.size
    have K_W7 : Hid (Blk W7 X1 (cdA c) 25) := K_w6.out.below ba K_w6.out.lt
    have F_W7 : Hid (Blk W7 g3 (A16 f) 32) := F_w6.out.below ba F_w6.out.lt
    have E_W7 : Hid (Blk W7 (g3 + 1) (cdA d) 25) := E_w6.out.below ba E_w6.out.lt
    have N_W7 : Hid (Rd .i64 W7 v3 (sqL c ys)) := N_w6.out.below ba
    have E3_W7 : Hid (Blk W7 X7 (cdA d) 25) := kb
    clear ba kb B_w6 K_w6 F_w6 E_w6 N_w6
    have k0 := K_W7.out.cell 0
    have k1 := K_W7.out.cell 1
    simp at k0 k1
    go_wp2_with (fail)
    refine ((exI_c c v3 (sqL c ys) W7 N_W7.out (HG.out.below B_W7.out HG.out.lt)).mono fun e w' hh => (by rw [← HOUT.out.1, ← HOUT.out.2]; exact hh.1 ⟨HP.out.1, sqFr2 HP.out.1 HP.out.2.1⟩ : CdR out d true _ e w')).mono ?_
    rintro e w8 ⟨v5, rfl, o5, b⟩
    have B_w8 : Hid (Below w1.heap.size w1 w8) := belowCall B_W7.out b B_W7.out.size
    have K_w8 : Hid (Blk w8 X1 (cdA c) 25) := K_W7.out.below b K_W7.out.lt
    have F_w8 : Hid (Blk w8 g3 (A16 f) 32) := F_W7.out.below b F_W7.out.lt
    have E_w8 : Hid (Blk w8 (g3 + 1) (cdA d) 25) := E_W7.out.below b E_W7.out.lt
    have N_w8 : Hid (Rd .i64 w8 v3 (sqL c ys)) := N_W7.out.below b
    clear b B_W7 K_W7 F_W7 E_W7 N_W7 R_w6 hW7 hX7 E3_W7 k0 k1
    have M_w8 : Hid (Rd .i64 w8 v5 out) := o5.rd
    clear o5
    have ba : Below w8.heap.size w8 (w8.alloc (Obj.cells (cdA d) 25)) := (Below.refl _ _).alloc (Nat.le_refl _) _
    have kb : Blk (w8.alloc (Obj.cells (cdA d) 25)) w8.heap.size (cdA d) 25 := Blk.new _ _ _
    obtain ⟨X9, hX9⟩ : ∃ X, w8.heap.size = X := ⟨_, rfl⟩
    obtain ⟨W9, hW9⟩ : ∃ W, w8.alloc (Obj.cells (cdA d) 25) = W := ⟨_, rfl⟩
    rw [hW9] at ba kb
    rw [hX9] at kb
    have B_W9 : Hid (Below w1.heap.size w1 W9) := belowCall B_w8.out ba B_w8.out.size
    have K_W9 : Hid (Blk W9 X1 (cdA c) 25) := K_w8.out.below ba K_w8.out.lt
    have F_W9 : Hid (Blk W9 g3 (A16 f) 32) := F_w8.out.below ba F_w8.out.lt
    have E_W9 : Hid (Blk W9 (g3 + 1) (cdA d) 25) := E_w8.out.below ba E_w8.out.lt
    have M_W9 : Hid (Rd .i64 W9 v5 out) := M_w8.out.below ba
    have E4_W9 : Hid (Blk W9 X9 (cdA d) 25) := kb
    clear ba kb B_w8 K_w8 F_w8 E_w8 M_w8
    have k0 := K_W9.out.cell 0
    have k1 := K_W9.out.cell 1
    simp at k0 k1
    go_wp2_with (refine ldF rfl _ rfl g3 rfl 32 f (0, 0) F_W9.out ?_)
    have HBD : Hid (∀ i, i < 16 → 0 ≤ f i ∧ f i ≤ 255) := by
      rw [← HF.out]; exact foF_bd HP.out.1.2 (sqL_bd ys c HP.out.1) (by rw [sqL_len]; exact HP.out.2.2)
    have HC0 : Hid (f 0 = c.2) := by rw [← HF.out]; rfl
    have HFN : Hid (frNs f 15 = sqL c ys) := by rw [← HF.out]; exact frNs_all (sqL_bd ys c HP.out.1) (by rw [sqL_len]; exact HP.out.2.2)
    refine ((ofI_c c.1 f HBD.out W9 (HG.out.below B_W9.out HG.out.lt)).mono fun e w' hh => (by rw [← HOUT.out.1, ← HOUT.out.2]; have h1 := hh.1; rw [HC0.out, HFN.out] at h1; exact h1 HP.out.1 : CdR out d true _ e w')).mono ?_
    rintro e w10 ⟨v7, rfl, o7, b⟩
    have B_w10 : Hid (Below w1.heap.size w1 w10) := belowCall B_W9.out b B_W9.out.size
    have K_w10 : Hid (Blk w10 X1 (cdA c) 25) := K_W9.out.below b K_W9.out.lt
    have F_w10 : Hid (Blk w10 g3 (A16 f) 32) := F_W9.out.below b F_W9.out.lt
    have E_w10 : Hid (Blk w10 (g3 + 1) (cdA d) 25) := E_W9.out.below b E_W9.out.lt
    have M_w10 : Hid (Rd .i64 w10 v5 out) := M_W9.out.below b
    clear b B_W9 K_W9 F_W9 E_W9 M_W9 N_w8 hW9 hX9 E4_W9 k0 k1
    have T_w10 : Hid (Rd .i64 w10 v7 out) := o7.rd
    clear o7
    have ba : Below w10.heap.size w10 (w10.alloc (Obj.cells (cdA d) 25)) := (Below.refl _ _).alloc (Nat.le_refl _) _
    have kb : Blk (w10.alloc (Obj.cells (cdA d) 25)) w10.heap.size (cdA d) 25 := Blk.new _ _ _
    obtain ⟨X11, hX11⟩ : ∃ X, w10.heap.size = X := ⟨_, rfl⟩
    obtain ⟨W11, hW11⟩ : ∃ W, w10.alloc (Obj.cells (cdA d) 25) = W := ⟨_, rfl⟩
    rw [hW11] at ba kb
    rw [hX11] at kb
    have B_W11 : Hid (Below w1.heap.size w1 W11) := belowCall B_w10.out ba B_w10.out.size
    have K_W11 : Hid (Blk W11 X1 (cdA c) 25) := K_w10.out.below ba K_w10.out.lt
    have F_W11 : Hid (Blk W11 g3 (A16 f) 32) := F_w10.out.below ba F_w10.out.lt
    have E_W11 : Hid (Blk W11 (g3 + 1) (cdA d) 25) := E_w10.out.below ba E_w10.out.lt
    have M_W11 : Hid (Rd .i64 W11 v5 out) := M_w10.out.below ba
    have T_W11 : Hid (Rd .i64 W11 v7 out) := T_w10.out.below ba
    have L_W11 : Hid (Blk W11 X11 (cdA d) 25) := kb
    clear ba kb B_w10 K_w10 F_w10 E_w10 M_w10 T_w10
    go_wp2_with (fail)
    refine (sameI _ _ out out W11 T_W11.out M_W11.out).mono ?_
    rintro e w12 ⟨rfl, b⟩
    have B_w12 : Hid (Below w1.heap.size w1 w12) := belowCall B_W11.out b B_W11.out.size
    have K_w12 : Hid (Blk w12 X1 (cdA c) 25) := K_W11.out.below b K_W11.out.lt
    have F_w12 : Hid (Blk w12 g3 (A16 f) 32) := F_W11.out.below b F_W11.out.lt
    have E_w12 : Hid (Blk w12 (g3 + 1) (cdA d) 25) := E_W11.out.below b E_W11.out.lt
    have M_w12 : Hid (Rd .i64 w12 v5 out) := M_W11.out.below b
    have T_w12 : Hid (Rd .i64 w12 v7 out) := T_W11.out.below b
    have L_w12 : Hid (Blk w12 X11 (cdA d) 25) := L_W11.out.below b L_W11.out.lt
    clear b B_W11 K_W11 F_W11 E_W11 M_W11 T_W11 L_W11 hW11 hX11
    have l0 := L_w12.out.cell 0
    have l1 := L_w12.out.cell 1
    simp at l0 l1
    have m0 := E_w12.out.cell 0
    have m1 := E_w12.out.cell 1
    simp at m0 m1
    have k0 := K_w12.out.cell 0
    have k1 := K_w12.out.cell 1
    simp at k0 k1
    have hf0 : w12.cell? ⟨g3, 0, none⟩ = some (.int .u8 c.2) := by rw [F_w12.out.cell 0, A16_at f 0 (by decide), HC0.out]
    have hs0 : 0 ≤ c.2 := HP.out.1.2.1
    have hs1 : c.2 ≤ 48 := HP.out.1.2.2
    have hTT := T_w12.out
    obtain ⟨a7, cap7, hv7, q1, q2, -⟩ := hTT
    rw [HOL.out] at hv7
    subst hv7
    clear q1 q2
    have HFIN : Hid (Below w1.heap.size w1 w12) := B_w12.out
    have hoo : decide (out = out) = true := by simp
    go_wp2
    go_ret
    exact ⟨rfl, HFIN.out⟩
  · have HP : Hid (¬ FoP c ys) := hP
    obtain ⟨f, hf⟩ : ∃ f : Nat → Int, (fun _ => 0) = f := ⟨_, rfl⟩
    obtain ⟨d, hd⟩ : ∃ d : Int × Int, (0, 0) = d := ⟨_, rfl⟩
    have HF : Hid ((fun _ => 0) = f) := hf
    have HDD : Hid ((0, 0) = d) := hd
    clear hP hf hd
    go_wp2_with (fail)
    refine ((foI_c c u ys W1 R_W1.out (HG.out.below B_W1.out HG.out.lt)).mono fun e w' hh => (by rw [← HF.out, ← HDD.out]; exact hh.2 HP.out : FoR f d false _ e w')).mono ?_
    rintro e w2 ⟨rfl, b⟩
    have B_w2 : Hid (Below w1.heap.size w1 w2) := belowCall B_W1.out b B_W1.out.size
    have R_w2 : Hid (Rd .i64 w2 u ys) := R_W1.out.below b
    have K_w2 : Hid (Blk w2 X1 (cdA c) 25) := K_W1.out.below b K_W1.out.lt
    clear b B_W1 R_W1 K_W1 hW1 hX1 k0 k1
    obtain ⟨W3, hW3⟩ : ∃ W, fxW w2 f d = W := ⟨_, rfl⟩
    obtain ⟨g3, hg3⟩ : ∃ g, w2.heap.size = g := ⟨_, rfl⟩
    have bx : Below w2.heap.size w2 W3 := by rw [← hW3]; exact fxW_b _ _ _
    have HZ1 : Hid (Blk ((w2.alloc (Obj.cells #[.int .u8 0, .int .u8 0, .int .u8 0, .int .u8 0, .int .u8 0, .int .u8 0, .int .u8 0, .int .u8 0, .int .u8 0, .int .u8 0, .int .u8 0, .int .u8 0, .int .u8 0, .int .u8 0, .int .u8 0, .int .u8 0] 32)).alloc (Obj.cells (cdA (0, 0)) 25)) g3 (A16 fun _ => 0) 32) := by rw [← hg3]; exact fxW_z1 _
    have HZ2 : Hid (Blk (((w2.alloc (Obj.cells #[.int .u8 0, .int .u8 0, .int .u8 0, .int .u8 0, .int .u8 0, .int .u8 0, .int .u8 0, .int .u8 0, .int .u8 0, .int .u8 0, .int .u8 0, .int .u8 0, .int .u8 0, .int .u8 0, .int .u8 0, .int .u8 0] 32)).alloc (Obj.cells (cdA (0, 0)) 25)).setRow g3 (A16 f)) (g3 + 1) (cdA (0, 0)) 25) := by rw [← hg3]; exact fxW_z2 _ _
    have HWX : Hid ((((w2.alloc (Obj.cells #[.int .u8 0, .int .u8 0, .int .u8 0, .int .u8 0, .int .u8 0, .int .u8 0, .int .u8 0, .int .u8 0, .int .u8 0, .int .u8 0, .int .u8 0, .int .u8 0, .int .u8 0, .int .u8 0, .int .u8 0, .int .u8 0] 32)).alloc (Obj.cells (cdA (0, 0)) 25)).setRow g3 (A16 f)).setRow (g3 + 1) (cdA d) = W3) := by rw [← hg3]; exact hW3
    have kf : Blk W3 g3 (A16 f) 32 := by rw [← hW3, ← hg3]; exact fxW_f _ _ _
    have kc : Blk W3 (g3 + 1) (cdA d) 25 := by rw [← hW3, ← hg3]; exact fxW_c _ _ _
    have B_W3 : Hid (Below w1.heap.size w1 W3) := belowCall B_w2.out bx B_w2.out.size
    have R_W3 : Hid (Rd .i64 W3 u ys) := R_w2.out.below bx
    have K_W3 : Hid (Blk W3 X1 (cdA c) 25) := K_w2.out.below bx K_w2.out.lt
    have F_W3 : Hid (Blk W3 g3 (A16 f) 32) := kf
    have E_W3 : Hid (Blk W3 (g3 + 1) (cdA d) 25) := kc
    clear bx kf kc hW3 B_w2 R_w2 K_w2
    have k0 := K_W3.out.cell 0
    have k1 := K_W3.out.cell 1
    simp at k0 k1
    go_wp2_with (first | refine stF rfl _ _ rfl g3 rfl f rfl 32 (A16 fun _ => 0) HZ1.out (A16_size _) ?_ | (refine wpList_store_row rfl 25 _ _ rfl (g3 + 1) _ rfl rfl 25 (cdA (0, 0)) HZ2.out sizeCd rfl (by simp [Value.oneCell']) ?_; rw [HWX.out]))
    clear HZ1 HZ2 HWX hg3
    refine ((foM_c c u ys W3 R_W3.out).mono fun e w' hh => (by rw [← HF.out, ← HDD.out]; exact hh.2 HP.out : FoR f d false _ e w')).mono ?_
    rintro e w4 ⟨rfl, b⟩
    have B_w4 : Hid (Below w1.heap.size w1 w4) := belowCall B_W3.out b B_W3.out.size
    have R_w4 : Hid (Rd .i64 w4 u ys) := R_W3.out.below b
    have K_w4 : Hid (Blk w4 X1 (cdA c) 25) := K_W3.out.below b K_W3.out.lt
    have F_w4 : Hid (Blk w4 g3 (A16 f) 32) := F_W3.out.below b F_W3.out.lt
    have E_w4 : Hid (Blk w4 (g3 + 1) (cdA d) 25) := E_W3.out.below b E_W3.out.lt
    clear b B_W3 R_W3 K_W3 F_W3 E_W3 k0 k1
    obtain ⟨i0, hi, hz0, hz1, hz2⟩ := info_parts toIInfo
    have HI0 : Hid ((Tryd.prog.info? 3 = some i0 ∧ i0.zero = some (.int .i64 0)) ∧ i0.size = 1 ∧ i0.bytes = 8) := ⟨⟨hi, hz0⟩, hz1, hz2⟩
    clear hi hz0 hz1 hz2
    obtain ⟨W5, hW5⟩ : ∃ W, fxW w4 f d = W := ⟨_, rfl⟩
    obtain ⟨g5, hg5⟩ : ∃ g, w4.heap.size = g := ⟨_, rfl⟩
    have bx : Below w4.heap.size w4 W5 := by rw [← hW5]; exact fxW_b _ _ _
    have HZ1 : Hid (Blk ((w4.alloc (Obj.cells #[.int .u8 0, .int .u8 0, .int .u8 0, .int .u8 0, .int .u8 0, .int .u8 0, .int .u8 0, .int .u8 0, .int .u8 0, .int .u8 0, .int .u8 0, .int .u8 0, .int .u8 0, .int .u8 0, .int .u8 0, .int .u8 0] 32)).alloc (Obj.cells (cdA (0, 0)) 25)) g5 (A16 fun _ => 0) 32) := by rw [← hg5]; exact fxW_z1 _
    have HZ2 : Hid (Blk (((w4.alloc (Obj.cells #[.int .u8 0, .int .u8 0, .int .u8 0, .int .u8 0, .int .u8 0, .int .u8 0, .int .u8 0, .int .u8 0, .int .u8 0, .int .u8 0, .int .u8 0, .int .u8 0, .int .u8 0, .int .u8 0, .int .u8 0, .int .u8 0] 32)).alloc (Obj.cells (cdA (0, 0)) 25)).setRow g5 (A16 f)) (g5 + 1) (cdA (0, 0)) 25) := by rw [← hg5]; exact fxW_z2 _ _
    have HWX : Hid ((((w4.alloc (Obj.cells #[.int .u8 0, .int .u8 0, .int .u8 0, .int .u8 0, .int .u8 0, .int .u8 0, .int .u8 0, .int .u8 0, .int .u8 0, .int .u8 0, .int .u8 0, .int .u8 0, .int .u8 0, .int .u8 0, .int .u8 0, .int .u8 0] 32)).alloc (Obj.cells (cdA (0, 0)) 25)).setRow g5 (A16 f)).setRow (g5 + 1) (cdA d) = W5) := by rw [← hg5]; exact hW5
    have kf : Blk W5 g5 (A16 f) 32 := by rw [← hW5, ← hg5]; exact fxW_f _ _ _
    have kc : Blk W5 (g5 + 1) (cdA d) 25 := by rw [← hW5, ← hg5]; exact fxW_c _ _ _
    have B_W5 : Hid (Below w1.heap.size w1 W5) := belowCall B_w4.out bx B_w4.out.size
    have R_W5 : Hid (Rd .i64 W5 u ys) := R_w4.out.below bx
    have K_W5 : Hid (Blk W5 X1 (cdA c) 25) := K_w4.out.below bx K_w4.out.lt
    have F_W5 : Hid (Blk W5 g3 (A16 f) 32) := F_w4.out.below bx F_w4.out.lt
    have E_W5 : Hid (Blk W5 (g3 + 1) (cdA d) 25) := E_w4.out.below bx E_w4.out.lt
    have F2_W5 : Hid (Blk W5 g5 (A16 f) 32) := kf
    have E2_W5 : Hid (Blk W5 (g5 + 1) (cdA d) 25) := kc
    clear bx kf kc hW5 B_w4 R_w4 K_w4 F_w4 E_w4
    have k0 := K_W5.out.cell 0
    have k1 := K_W5.out.cell 1
    simp at k0 k1
    go_wp2_with (first | refine stF rfl _ _ rfl g5 rfl f rfl 32 (A16 fun _ => 0) HZ1.out (A16_size _) ?_ | (refine wpList_store_row rfl 25 _ _ rfl (g5 + 1) _ rfl rfl 25 (cdA (0, 0)) HZ2.out sizeCd rfl (by simp [Value.oneCell']) ?_; rw [HWX.out]) | (at_make; refine wpList_make_full _ rfl _ _ 26 rfl W5.heap.size 3 i0 (.int .i64 0) 1 Tryd.underlying26 HI0.out.1.1 HI0.out.1.2 HI0.out.2.1 .i64 .i64 _ _ 30 rfl rfl rfl rfl (by rw [HI0.out.2.2]; omega) (by unfold maxLen; omega) (Nat.le_refl _) ?_))
    clear HZ1 HZ2 HWX hg5
    intro wm ho hg
    have b : Below W5.heap.size W5 wm := grown_below hg (Nat.le_refl _) (by simp)
    have hx : (madeCells #[Value.int .i64 0] 30).toList = (List.replicate 30 (0 : Int)).map (Value.int .i64) := by rw [toList_madeCells_one]; simp
    rw [hx] at ho
    have Z_wm : Hid (Rd .i64 wm (.slice (some ⟨W5.heap.size, 0, none⟩) 30 30) (List.replicate 30 0)) := (show Ow .i64 3 W5.heap.size wm _ (List.replicate 30 0) from ho).rd
    clear ho hg hx
    have B_wm : Hid (Below w1.heap.size w1 wm) := belowCall B_W5.out b B_W5.out.size
    have F_wm : Hid (Blk wm g3 (A16 f) 32) := F_W5.out.below b F_W5.out.lt
    clear b B_W5 F_W5 k0 k1 F2_W5 E2_W5 R_W5 K_W5 E_W5
    go_wp2_with (fail)
    refine ((foI_c (0, 0) _ (List.replicate 30 0) wm Z_wm.out (HG.out.below B_wm.out HG.out.lt)).mono fun e w' hh => hh.1 ⟨by decide, rfl, rfl⟩).mono ?_
    rintro e w6 ⟨rfl, b⟩
    have B_w6 : Hid (Below w1.heap.size w1 w6) := belowCall B_wm.out b B_wm.out.size
    have F_w6 : Hid (Blk w6 g3 (A16 f) 32) := F_wm.out.below b F_wm.out.lt
    have Z_w6 : Hid (Rd .i64 w6 (.slice (some ⟨W5.heap.size, 0, none⟩) 30 30) (List.replicate 30 0)) := Z_wm.out.below b
    clear b B_wm F_wm Z_wm
    obtain ⟨f3, hf3⟩ : ∃ f, foF (0 : Int) (sqL (0, 0) (List.replicate 30 0)) = f := ⟨_, rfl⟩
    obtain ⟨d3, hd3⟩ : ∃ d, sqE (0, 0) (List.replicate 30 0) = d := ⟨_, rfl⟩
    have HF3 : Hid (f3 1 = 0) := by rw [← hf3]; rfl
    rw [hf3, hd3]
    clear hf3 hd3
    obtain ⟨W7, hW7⟩ : ∃ W, fxW w6 f3 d3 = W := ⟨_, rfl⟩
    obtain ⟨g7, hg7⟩ : ∃ g, w6.heap.size = g := ⟨_, rfl⟩
    have bx : Below w6.heap.size w6 W7 := by rw [← hW7]; exact fxW_b _ _ _
    have HZ1 : Hid (Blk ((w6.alloc (Obj.cells #[.int .u8 0, .int .u8 0, .int .u8 0, .int .u8 0, .int .u8 0, .int .u8 0, .int .u8 0, .int .u8 0, .int .u8 0, .int .u8 0, .int .u8 0, .int .u8 0, .int .u8 0, .int .u8 0, .int .u8 0, .int .u8 0] 32)).alloc (Obj.cells (cdA (0, 0)) 25)) g7 (A16 fun _ => 0) 32) := by rw [← hg7]; exact fxW_z1 _
    have HZ2 : Hid (Blk (((w6.alloc (Obj.cells #[.int .u8 0, .int .u8 0, .int .u8 0, .int .u8 0, .int .u8 0, .int .u8 0, .int .u8 0, .int .u8 0, .int .u8 0, .int .u8 0, .int .u8 0, .int .u8 0, .int .u8 0, .int .u8 0, .int .u8 0, .int .u8 0] 32)).alloc (Obj.cells (cdA (0, 0)) 25)).setRow g7 (A16 f3)) (g7 + 1) (cdA (0, 0)) 25) := by rw [← hg7]; exact fxW_z2 _ _
    have HWX : Hid ((((w6.alloc (Obj.cells #[.int .u8 0, .int .u8 0, .int .u8 0, .int .u8 0, .int .u8 0, .int .u8 0, .int .u8 0, .int .u8 0, .int .u8 0, .int .u8 0, .int .u8 0, .int .u8 0, .int .u8 0, .int .u8 0, .int .u8 0, .int .u8 0] 32)).alloc (Obj.cells (cdA (0, 0)) 25)).setRow g7 (A16 f3)).setRow (g7 + 1) (cdA d3) = W7) := by rw [← hg7]; exact hW7
    have kf : Blk W7 g7 (A16 f3) 32 := by rw [← hW7, ← hg7]; exact fxW_f _ _ _
    have kc : Blk W7 (g7 + 1) (cdA d3) 25 := by rw [← hW7, ← hg7]; exact fxW_c _ _ _
    have B_W7 : Hid (Below w1.heap.size w1 W7) := belowCall B_w6.out bx B_w6.out.size
    have F_W7 : Hid (Blk W7 g3 (A16 f) 32) := F_w6.out.below bx F_w6.out.lt
    have F3_W7 : Hid (Blk W7 g7 (A16 f3) 32) := kf
    have E3_W7 : Hid (Blk W7 (g7 + 1) (cdA d3) 25) := kc
    clear bx kf kc hW7 B_w6 F_w6 Z_w6
    have hx1 : W7.cell? ⟨g7, 1, none⟩ = some (.int .u8 0) := by rw [F3_W7.out.cell 1, A16_at f3 1 (by decide), HF3.out]
    have HFZ : Hid (Blk W7 g3 #[.int .u8 0, .int .u8 0, .int .u8 0, .int .u8 0, .int .u8 0, .int .u8 0, .int .u8 0, .int .u8 0, .int .u8 0, .int .u8 0, .int .u8 0, .int .u8 0, .int .u8 0, .int .u8 0, .int .u8 0, .int .u8 0] 32) := by have := F_W7.out; rw [← HF.out] at this; exact this
    have HFIN : Hid (Below w1.heap.size w1 W7) := B_W7.out
    have hez := eqZ16 W7
    have z0 : W7.cell? ⟨g3, 0, none⟩ = some (.int .u8 0) := HFZ.out.cell 0
    have z1 : W7.cell? ⟨g3, 1, none⟩ = some (.int .u8 0) := HFZ.out.cell 1
    have z2 : W7.cell? ⟨g3, 2, none⟩ = some (.int .u8 0) := HFZ.out.cell 2
    have z3 : W7.cell? ⟨g3, 3, none⟩ = some (.int .u8 0) := HFZ.out.cell 3
    have z4 : W7.cell? ⟨g3, 4, none⟩ = some (.int .u8 0) := HFZ.out.cell 4
    have z5 : W7.cell? ⟨g3, 5, none⟩ = some (.int .u8 0) := HFZ.out.cell 5
    have z6 : W7.cell? ⟨g3, 6, none⟩ = some (.int .u8 0) := HFZ.out.cell 6
    have z7 : W7.cell? ⟨g3, 7, none⟩ = some (.int .u8 0) := HFZ.out.cell 7
    have z8 : W7.cell? ⟨g3, 8, none⟩ = some (.int .u8 0) := HFZ.out.cell 8
    have z9 : W7.cell? ⟨g3, 9, none⟩ = some (.int .u8 0) := HFZ.out.cell 9
    have z10 : W7.cell? ⟨g3, 10, none⟩ = some (.int .u8 0) := HFZ.out.cell 10
    have z11 : W7.cell? ⟨g3, 11, none⟩ = some (.int .u8 0) := HFZ.out.cell 11
    have z12 : W7.cell? ⟨g3, 12, none⟩ = some (.int .u8 0) := HFZ.out.cell 12
    have z13 : W7.cell? ⟨g3, 13, none⟩ = some (.int .u8 0) := HFZ.out.cell 13
    have z14 : W7.cell? ⟨g3, 14, none⟩ = some (.int .u8 0) := HFZ.out.cell 14
    have z15 : W7.cell? ⟨g3, 15, none⟩ = some (.int .u8 0) := HFZ.out.cell 15
    go_wp2_with (first | refine stF rfl _ _ rfl g7 rfl f3 rfl 32 (A16 fun _ => 0) HZ1.out (A16_size _) ?_ | (refine wpList_store_row rfl 25 _ _ rfl (g7 + 1) _ rfl rfl 25 (cdA (0, 0)) HZ2.out sizeCd rfl (by simp [Value.oneCell']) ?_; rw [HWX.out]))
    clear HZ1 HZ2 HWX hg7
    go_wp2
    go_ret
    exact ⟨rfl, HFIN.out⟩

end Go.Proofs.YtkjfcebdjnclaaaDoor

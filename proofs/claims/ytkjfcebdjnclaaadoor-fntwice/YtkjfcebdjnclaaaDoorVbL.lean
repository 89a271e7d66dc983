/- The law of VoiceBack; the table is as it was laid. -/
import Derived.Test.YtkjfcebdjnclaaaDoorDrb
import Derived.Test.YtkjfcebdjnclaaaDoorSmi
import Derived.Test.YtkjfcebdjnclaaaDoorSqm
import Derived.Test.YtkjfcebdjnclaaaDoorCdh
namespace Go.Proofs.YtkjfcebdjnclaaaDoor
open Go.RowKit Go.ChangeShapes Go.WideShapes Go.ChangeAt
set_option linter.unusedVariables false
set_option linter.unusedSimpArgs false
set_option maxRecDepth 8000

theorem exLast (c : Int × Int) (ns : List Int) (i : Nat) (hi : i + 1 = (exL c ns).length) : (exL c ns).getD i 0 = (cdE c ns).1 := by
  rw [exL_len] at hi
  have h1 := exL_take c ns i (by omega)
  have h2 := cdE_take c ns i (by omega)
  rw [List.take_of_length_le (by omega)] at h1 h2
  rw [h1, h2]
  have h3 : (exL c (ns.take i)).length = i := by rw [exL_len]; simp; omega
  rw [List.getD_eq_getElem?_getD, List.getElem?_append_right (by omega), h3]
  simp
theorem sqFr {c : Int × Int} {ys : List Int} (hc : COk c) (h : VP ys) : FrP (sqL c ys) := ⟨by rw [sqL_len]; exact h.len, sqL_bd ys c hc⟩
set_option maxHeartbeats 6400000 in
theorem voiceBackLaw (v : Value) (zs : List Int) (w : World) (h : Rd .u8 w v zs) (hok : ∀ z ∈ zs, 0 ≤ z ∧ z ≤ 255) (hG : ChG w) : Calls Tryd.prog 3 #[v] w fun e w' => e = .returned (.bool true) ∧ Below w.heap.size w w' := by
  have HR : Hid (Rd .u8 w v zs) := h
  have HOK : Hid (∀ z ∈ zs, 0 ≤ z ∧ z ≤ 255) := hok
  have HG : Hid (ChG w) := hG
  clear h hok hG
  go_enter Tryd.func3, Tryd.ntmps3
  go_wp2_with (fail)
  refine (big_c _ zs _ HR.out).mono ?_
  rintro e w1 ⟨rfl, hw1⟩
  subst hw1
  by_cases hb : (1048576 : Int) < (zs.length : Int)
  · have hbd : decide ((1048576 : Int) < (zs.length : Int)) = true := by simp only [decide_eq_true_eq]; exact hb
    rw [hbd]
    clear hbd
    go_wp2
    go_ret
    exact ⟨rfl, Below.refl _ _⟩
  have hbd : decide ((1048576 : Int) < (zs.length : Int)) = false := by simp only [decide_eq_false_iff_not]; exact hb
  rw [hbd]
  have HLN : Hid (zs.length ≤ 1048576) := by show _ ≤ _; omega
  clear hbd hb
  go_wp2_with (fail)
  refine (drawSq_c _ zs _ HR.out HOK.out HLN.out).mono ?_
  rintro e w2 ⟨c, u, ys, rfl, r2, l2, b2⟩
  have HR2 : Hid (Rd .i64 w2 u ys) := r2
  have HL2 : Hid (ys.length ≤ 400) := l2
  have HB2 : Hid (Below w1.heap.size w1 w2) := b2
  clear r2 l2 b2
  have B_w2 : Hid (Below w1.heap.size w1 w2) := HB2.out
  have R_w2 : Hid (Rd .i64 w2 u ys) := HR2.out
  clear HB2 HR2
  have ba : Below w2.heap.size w2 (w2.alloc (Obj.cells (cdA c) 25)) := (Below.refl _ _).alloc (Nat.le_refl _) _
  have kb : Blk (w2.alloc (Obj.cells (cdA c) 25)) w2.heap.size (cdA c) 25 := Blk.new _ _ _
  obtain ⟨X1, hX1⟩ : ∃ X, w2.heap.size = X := ⟨_, rfl⟩
  obtain ⟨W1, hW1⟩ : ∃ W, w2.alloc (Obj.cells (cdA c) 25) = W := ⟨_, rfl⟩
  rw [hW1] at ba kb
  rw [hX1] at kb
  have B_W1 : Hid (Below w1.heap.size w1 W1) := belowCall B_w2.out ba B_w2.out.size
  have R_W1 : Hid (Rd .i64 W1 u ys) := R_w2.out.below ba
  have K_W1 : Hid (Blk W1 X1 (cdA c) 25) := kb
  clear ba kb B_w2 R_w2
  have k0 := K_W1.out.cell 0
  have k1 := K_W1.out.cell 1
  simp at k0 k1
  by_cases hP : COk c ∧ VP ys
  · have HP : Hid (COk c ∧ VP ys) := hP
    clear hP
    go_wp2_with (fail)
    refine ((sqzI_c c u ys W1 R_W1.out (HG.out.below B_W1.out HG.out.lt)).mono fun e w' hh => hh.1 HP.out).mono ?_
    rintro e w2 ⟨v3, rfl, o3, b⟩
    have B_w2 : Hid (Below w1.heap.size w1 w2) := belowCall B_W1.out b B_W1.out.size
    have R_w2 : Hid (Rd .i64 w2 u ys) := R_W1.out.below b
    have K_w2 : Hid (Blk w2 X1 (cdA c) 25) := K_W1.out.below b K_W1.out.lt
    clear b B_W1 R_W1 K_W1 hW1 hX1 k0 k1
    have N_w2 : Hid (Rd .i64 w2 v3 (sqL c ys)) := o3.rd
    clear o3
    have ba : Below w2.heap.size w2 (w2.alloc (Obj.cells (cdA (sqE c ys)) 25)) := (Below.refl _ _).alloc (Nat.le_refl _) _
    have kb : Blk (w2.alloc (Obj.cells (cdA (sqE c ys)) 25)) w2.heap.size (cdA (sqE c ys)) 25 := Blk.new _ _ _
    obtain ⟨X3, hX3⟩ : ∃ X, w2.heap.size = X := ⟨_, rfl⟩
    obtain ⟨W3, hW3⟩ : ∃ W, w2.alloc (Obj.cells (cdA (sqE c ys)) 25) = W := ⟨_, rfl⟩
    rw [hW3] at ba kb
    rw [hX3] at kb
    have B_W3 : Hid (Below w1.heap.size w1 W3) := belowCall B_w2.out ba B_w2.out.size
    have R_W3 : Hid (Rd .i64 W3 u ys) := R_w2.out.below ba
    have K_W3 : Hid (Blk W3 X1 (cdA c) 25) := K_w2.out.below ba K_w2.out.lt
    have N_W3 : Hid (Rd .i64 W3 v3 (sqL c ys)) := N_w2.out.below ba
    have E_W3 : Hid (Blk W3 X3 (cdA (sqE c ys)) 25) := kb
    clear ba kb B_w2 R_w2 K_w2 N_w2
    have k0 := K_W3.out.cell 0
    have k1 := K_W3.out.cell 1
    simp at k0 k1
    go_wp2_with (fail)
    refine ((sqzM_c c u ys W3 R_W3.out).mono fun e w' hh => hh.1 HP.out).mono ?_
    rintro e w4 ⟨v4, rfl, -, b⟩
    have B_w4 : Hid (Below w1.heap.size w1 w4) := belowCall B_W3.out b B_W3.out.size
    have R_w4 : Hid (Rd .i64 w4 u ys) := R_W3.out.below b
    have K_w4 : Hid (Blk w4 X1 (cdA c) 25) := K_W3.out.below b K_W3.out.lt
    have N_w4 : Hid (Rd .i64 w4 v3 (sqL c ys)) := N_W3.out.below b
    have E_w4 : Hid (Blk w4 X3 (cdA (sqE c ys)) 25) := E_W3.out.below b E_W3.out.lt
    clear b B_W3 R_W3 K_W3 N_W3 E_W3 hW3 hX3 k0 k1
    have ba : Below w4.heap.size w4 (w4.alloc (Obj.cells (cdA (sqE c ys)) 25)) := (Below.refl _ _).alloc (Nat.le_refl _) _
    have kb : Blk (w4.alloc (Obj.cells (cdA (sqE c ys)) 25)) w4.heap.size (cdA (sqE c ys)) 25 := Blk.new _ _ _
    obtain ⟨X5, hX5⟩ : ∃ X, w4.heap.size = X := ⟨_, rfl⟩
    obtain ⟨W5, hW5⟩ : ∃ W, w4.alloc (Obj.cells (cdA (sqE c ys)) 25) = W := ⟨_, rfl⟩
    rw [hW5] at ba kb
    rw [hX5] at kb
    have B_W5 : Hid (Below w1.heap.size w1 W5) := belowCall B_w4.out ba B_w4.out.size
    have R_W5 : Hid (Rd .i64 W5 u ys) := R_w4.out.below ba
    have K_W5 : Hid (Blk W5 X1 (cdA c) 25) := K_w4.out.below ba K_w4.out.lt
    have N_W5 : Hid (Rd .i64 W5 v3 (sqL c ys)) := N_w4.out.below ba
    have E_W5 : Hid (Blk W5 X3 (cdA (sqE c ys)) 25) := E_w4.out.below ba E_w4.out.lt
    have F_W5 : Hid (Blk W5 X5 (cdA (sqE c ys)) 25) := kb
    clear ba kb B_w4 R_w4 K_w4 N_w4 E_w4
    have k0 := K_W5.out.cell 0
    have k1 := K_W5.out.cell 1
    simp at k0 k1
    go_wp2_with (fail)
    refine ((exI_c c v3 (sqL c ys) W5 N_W5.out (HG.out.below B_W5.out HG.out.lt)).mono fun e w' hh => hh.1 ⟨HP.out.1, sqFr HP.out.1 HP.out.2⟩).mono ?_
    rintro e w6 ⟨v5, rfl, o5, b⟩
    have B_w6 : Hid (Below w1.heap.size w1 w6) := belowCall B_W5.out b B_W5.out.size
    have R_w6 : Hid (Rd .i64 w6 u ys) := R_W5.out.below b
    have K_w6 : Hid (Blk w6 X1 (cdA c) 25) := K_W5.out.below b K_W5.out.lt
    have N_w6 : Hid (Rd .i64 w6 v3 (sqL c ys)) := N_W5.out.below b
    have E_w6 : Hid (Blk w6 X3 (cdA (sqE c ys)) 25) := E_W5.out.below b E_W5.out.lt
    have F_w6 : Hid (Blk w6 X5 (cdA (sqE c ys)) 25) := F_W5.out.below b F_W5.out.lt
    clear b B_W5 R_W5 K_W5 N_W5 E_W5 F_W5 hW5 hX5 k0 k1
    have M_w6 : Hid (Rd .i64 w6 v5 (exL c (sqL c ys))) := o5.rd
    clear o5
    have ba : Below w6.heap.size w6 (w6.alloc (Obj.cells (cdA (cdE c (sqL c ys))) 25)) := (Below.refl _ _).alloc (Nat.le_refl _) _
    have kb : Blk (w6.alloc (Obj.cells (cdA (cdE c (sqL c ys))) 25)) w6.heap.size (cdA (cdE c (sqL c ys))) 25 := Blk.new _ _ _
    obtain ⟨X7, hX7⟩ : ∃ X, w6.heap.size = X := ⟨_, rfl⟩
    obtain ⟨W7, hW7⟩ : ∃ W, w6.alloc (Obj.cells (cdA (cdE c (sqL c ys))) 25) = W := ⟨_, rfl⟩
    rw [hW7] at ba kb
    rw [hX7] at kb
    have B_W7 : Hid (Below w1.heap.size w1 W7) := belowCall B_w6.out ba B_w6.out.size
    have R_W7 : Hid (Rd .i64 W7 u ys) := R_w6.out.below ba
    have K_W7 : Hid (Blk W7 X1 (cdA c) 25) := K_w6.out.below ba K_w6.out.lt
    have E_W7 : Hid (Blk W7 X3 (cdA (sqE c ys)) 25) := E_w6.out.below ba E_w6.out.lt
    have M_W7 : Hid (Rd .i64 W7 v5 (exL c (sqL c ys))) := M_w6.out.below ba
    have L_W7 : Hid (Blk W7 X7 (cdA (cdE c (sqL c ys))) 25) := kb
    clear ba kb B_w6 R_w6 K_w6 E_w6 M_w6
    obtain ⟨d, hd⟩ : ∃ d, cdE c (sqL c ys) = d := ⟨_, rfl⟩
    have hE : sqE c ys = d := hd
    obtain ⟨bk, hbk⟩ : ∃ l, exL c (sqL c ys) = l := ⟨_, rfl⟩
    have hlen : bk.length = ys.length := by rw [← hbk, exL_len, sqL_len]
    have hlast : ∀ i, i + 1 = bk.length → bk.getD i 0 = d.1 := by rw [← hbk, ← hd]; exact exLast c (sqL c ys)
    have HLEN : Hid (bk.length = ys.length) := hlen
    rw [hbk] at M_W7
    rw [hd] at L_W7 hW7 ⊢
    rw [hE] at E_W7 ⊢
    obtain ⟨a5, cap5, rfl, q1, q2, q3⟩ := M_W7.out
    obtain ⟨a6, cap6, rfl, r1, r2, -⟩ := R_W7.out
    unfold maxLen at q2 r2
    rw [hlen] at q1 ⊢
    clear hlen
    have l0 := L_W7.out.cell 0
    have l1 := L_W7.out.cell 1
    simp at l0 l1
    have m0 := E_W7.out.cell 0
    have m1 := E_W7.out.cell 1
    simp at m0 m1
    have HFIN : Hid (Below w1.heap.size w1 W7) := B_W7.out
    clear hd hE hbk
    by_cases hn0 : ys.length = 0
    · have hz : ((ys.length : Int) == 0) = true := by simp [hn0]
      have HN0 : Hid (ys.length = 0) := hn0
      clear q3 hlast hn0
      go_wp2
      go_quiet (fail)
      go_wp2
      go_ret
      exact ⟨rfl, below_drewN HFIN.out _⟩
    · have hz : ((ys.length : Int) == 0) = false := by rw [beq_eq_false_iff_ne]; omega
      rcases q3 with q3 | ⟨b5, off5, rfl, q4⟩
      · have hl := HLEN.out; rw [q3] at hl; simp at hl; omega
      have hc : W7.cell? ⟨b5, off5 + (ys.length - 1), none⟩ = some (.int .i64 d.1) := by rw [q4 (ys.length - 1) (by have := HLEN.out; omega), hlast (ys.length - 1) (by have := HLEN.out; omega)]
      have hi0 : (0 : Int) ≤ (ys.length : Int) - 1 := by omega
      have HN0 : Hid (ys.length ≠ 0) := hn0
      clear q4 hlast
      go_wp2
      go_quiet (fail)
      go_wp2
      go_ret
      exact ⟨rfl, below_drewN HFIN.out _⟩
  · have HP : Hid (¬ (COk c ∧ VP ys)) := hP
    obtain ⟨cc, hcc⟩ : ∃ cc : Int × Int, cc = (0, 0) := ⟨_, rfl⟩
    have HCC : Hid (cc = (0, 0)) := hcc
    clear hP hcc
    go_wp2_with (fail)
    refine ((sqzI_c c u ys W1 R_W1.out (HG.out.below B_W1.out HG.out.lt)).mono fun e w' hh => (by rw [HCC.out]; exact hh.2 HP.out : CdR [] cc false _ e w')).mono ?_
    rintro e w2 ⟨v3, rfl, -, b⟩
    have B_w2 : Hid (Below w1.heap.size w1 w2) := belowCall B_W1.out b B_W1.out.size
    have R_w2 : Hid (Rd .i64 w2 u ys) := R_W1.out.below b
    have K_w2 : Hid (Blk w2 X1 (cdA c) 25) := K_W1.out.below b K_W1.out.lt
    clear b B_W1 R_W1 K_W1 hW1 hX1 k0 k1
    have ba : Below w2.heap.size w2 (w2.alloc (Obj.cells (cdA cc) 25)) := (Below.refl _ _).alloc (Nat.le_refl _) _
    have kb : Blk (w2.alloc (Obj.cells (cdA cc) 25)) w2.heap.size (cdA cc) 25 := Blk.new _ _ _
    obtain ⟨X3, hX3⟩ : ∃ X, w2.heap.size = X := ⟨_, rfl⟩
    obtain ⟨W3, hW3⟩ : ∃ W, w2.alloc (Obj.cells (cdA cc) 25) = W := ⟨_, rfl⟩
    rw [hW3] at ba kb
    rw [hX3] at kb
    have B_W3 : Hid (Below w1.heap.size w1 W3) := belowCall B_w2.out ba B_w2.out.size
    have R_W3 : Hid (Rd .i64 W3 u ys) := R_w2.out.below ba
    have K_W3 : Hid (Blk W3 X1 (cdA c) 25) := K_w2.out.below ba K_w2.out.lt
    have E_W3 : Hid (Blk W3 X3 (cdA cc) 25) := kb
    clear ba kb B_w2 R_w2 K_w2
    have k0 := K_W3.out.cell 0
    have k1 := K_W3.out.cell 1
    simp at k0 k1
    go_wp2_with (fail)
    refine ((sqzM_c c u ys W3 R_W3.out).mono fun e w' hh => (by rw [HCC.out]; exact hh.2 HP.out : CdR [] cc false _ e w')).mono ?_
    rintro e w4 ⟨v4, rfl, -, b⟩
    have B_w4 : Hid (Below w1.heap.size w1 w4) := belowCall B_W3.out b B_W3.out.size
    have R_w4 : Hid (Rd .i64 w4 u ys) := R_W3.out.below b
    have K_w4 : Hid (Blk w4 X1 (cdA c) 25) := K_W3.out.below b K_W3.out.lt
    have E_w4 : Hid (Blk w4 X3 (cdA cc) 25) := E_W3.out.below b E_W3.out.lt
    clear b B_W3 R_W3 K_W3 E_W3 hW3 hX3 k0 k1
    have ba : Below w4.heap.size w4 (w4.alloc (Obj.cells (cdA cc) 25)) := (Below.refl _ _).alloc (Nat.le_refl _) _
    have kb : Blk (w4.alloc (Obj.cells (cdA cc) 25)) w4.heap.size (cdA cc) 25 := Blk.new _ _ _
    obtain ⟨X5, hX5⟩ : ∃ X, w4.heap.size = X := ⟨_, rfl⟩
    obtain ⟨W5, hW5⟩ : ∃ W, w4.alloc (Obj.cells (cdA cc) 25) = W := ⟨_, rfl⟩
    rw [hW5] at ba kb
    rw [hX5] at kb
    have B_W5 : Hid (Below w1.heap.size w1 W5) := belowCall B_w4.out ba B_w4.out.size
    have R_W5 : Hid (Rd .i64 W5 u ys) := R_w4.out.below ba
    have K_W5 : Hid (Blk W5 X1 (cdA c) 25) := K_w4.out.below ba K_w4.out.lt
    have E_W5 : Hid (Blk W5 X3 (cdA cc) 25) := E_w4.out.below ba E_w4.out.lt
    have F_W5 : Hid (Blk W5 X5 (cdA cc) 25) := kb
    clear ba kb B_w4 R_w4 K_w4 E_w4
    have ba : Below W5.heap.size W5 (W5.alloc (Obj.cells (#[.int .i64 7]) 3)) := (Below.refl _ _).alloc (Nat.le_refl _) _
    have kb : Blk (W5.alloc (Obj.cells (#[.int .i64 7]) 3)) W5.heap.size (#[.int .i64 7]) 3 := Blk.new _ _ _
    obtain ⟨X6, hX6⟩ : ∃ X, W5.heap.size = X := ⟨_, rfl⟩
    obtain ⟨W6, hW6⟩ : ∃ W, W5.alloc (Obj.cells (#[.int .i64 7]) 3) = W := ⟨_, rfl⟩
    rw [hW6] at ba kb
    rw [hX6] at kb
    have B_W6 : Hid (Below w1.heap.size w1 W6) := belowCall B_W5.out ba B_W5.out.size
    have Q_W6 : Hid (Blk W6 X6 (#[.int .i64 7]) 3) := kb
    clear ba kb B_W5
    have Z_W6 : Hid (Rd .i64 W6 (.slice (some ⟨X6, 0, none⟩) 1 1) [7]) := by
      have := Rd.lit W5 [7] (by simp)
      rw [← hW6, ← hX6]; exact this
    go_wp2_with (fail)
    refine ((sqzI_c (0, 0) _ [7] W6 Z_W6.out (HG.out.below B_W6.out HG.out.lt)).mono fun e w' hh => hh.1 ⟨by decide, rfl⟩).mono ?_
    rintro e w7 ⟨v6, rfl, o6, b⟩
    have B_w7 : Hid (Below w1.heap.size w1 w7) := belowCall B_W6.out b B_W6.out.size
    have Z_w7 : Hid (Rd .i64 w7 (.slice (some ⟨X6, 0, none⟩) 1 1) [7]) := Z_W6.out.below b
    clear b B_W6 Z_W6 hW5 hX5 R_W5 E_W5 F_W5 K_W5 hW6 hX6 Q_W6
    have Y_w7 : Hid (Rd .i64 w7 v6 [4]) := o6.rd
    clear o6
    obtain ⟨ee, hee⟩ : ∃ e, sqE (0, 0) [7] = e := ⟨_, rfl⟩
    rw [hee]
    clear hee
    have ba : Below w7.heap.size w7 (w7.alloc (Obj.cells (cdA ee) 25)) := (Below.refl _ _).alloc (Nat.le_refl _) _
    have kb : Blk (w7.alloc (Obj.cells (cdA ee) 25)) w7.heap.size (cdA ee) 25 := Blk.new _ _ _
    obtain ⟨X8, hX8⟩ : ∃ X, w7.heap.size = X := ⟨_, rfl⟩
    obtain ⟨W8, hW8⟩ : ∃ W, w7.alloc (Obj.cells (cdA ee) 25) = W := ⟨_, rfl⟩
    rw [hW8] at ba kb
    rw [hX8] at kb
    have B_W8 : Hid (Below w1.heap.size w1 W8) := belowCall B_w7.out ba B_w7.out.size
    have Y_W8 : Hid (Rd .i64 W8 v6 [4]) := Y_w7.out.below ba
    have G_W8 : Hid (Blk W8 X8 (cdA ee) 25) := kb
    clear ba kb B_w7 Y_w7
    have ba : Below W8.heap.size W8 (W8.alloc (Obj.cells (#[.int .i64 4]) 3)) := (Below.refl _ _).alloc (Nat.le_refl _) _
    have kb : Blk (W8.alloc (Obj.cells (#[.int .i64 4]) 3)) W8.heap.size (#[.int .i64 4]) 3 := Blk.new _ _ _
    obtain ⟨X9, hX9⟩ : ∃ X, W8.heap.size = X := ⟨_, rfl⟩
    obtain ⟨W9, hW9⟩ : ∃ W, W8.alloc (Obj.cells (#[.int .i64 4]) 3) = W := ⟨_, rfl⟩
    rw [hW9] at ba kb
    rw [hX9] at kb
    have B_W9 : Hid (Below w1.heap.size w1 W9) := belowCall B_W8.out ba B_W8.out.size
    have Y_W9 : Hid (Rd .i64 W9 v6 [4]) := Y_W8.out.below ba
    have Q_W9 : Hid (Blk W9 X9 (#[.int .i64 4]) 3) := kb
    clear ba kb B_W8 Y_W8
    have Z_W9 : Hid (Rd .i64 W9 (.slice (some ⟨X9, 0, none⟩) 1 1) [4]) := by
      have := Rd.lit W8 [4] (by simp)
      rw [← hW9, ← hX9]; exact this
    go_wp2_with (fail)
    refine (sameI _ _ [4] [4] W9 Y_W9.out Z_W9.out).mono ?_
    rintro e w10 ⟨rfl, b⟩
    have B_w10 : Hid (Below w1.heap.size w1 w10) := belowCall B_W9.out b B_W9.out.size
    have Y_w10 : Hid (Rd .i64 w10 v6 [4]) := Y_W9.out.below b
    have Z_w10 : Hid (Rd .i64 w10 (.slice (some ⟨X9, 0, none⟩) 1 1) [4]) := Z_W9.out.below b
    clear b B_W9 Y_W9 Z_W9 Z_w7 hW8 hX8 G_W8 hW9 hX9 Q_W9
    go_wp2
    go_ret
    exact ⟨rfl, B_w10.out⟩

end Go.Proofs.YtkjfcebdjnclaaaDoor

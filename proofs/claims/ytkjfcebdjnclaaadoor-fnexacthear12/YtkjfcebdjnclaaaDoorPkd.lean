/- Which packets are right; no condition. -/
import Derived.Test.YtkjfcebdjnclaaaDoorPkb
namespace Go.Proofs.YtkjfcebdjnclaaaDoor
open Go.RowKit Go.ChangeShapes Go.WideShapes Go.ChangeAt
set_option linter.unusedVariables false
set_option linter.unusedSimpArgs false
set_option maxRecDepth 8000

/-- a packet that is one -/
def pkB (k : Pk) : Bool := decide (0 ≤ k.t ∧ k.t ≤ 1000000000) && decide (0 ≤ k.s ∧ k.s ≤ 1000000)
theorem pkB_iff (k : Pk) : pkB k = true ↔ (0 ≤ k.t ∧ k.t ≤ 1000000000) ∧ (0 ≤ k.s ∧ k.s ≤ 1000000) := by simp [pkB]
theorem in_c (n l m : Int) (w : World) : Calls Tryd.prog 87 #[.int .i64 n, .int .i64 l, .int .i64 m] w fun e w' => e = .returned (.bool (decide (l ≤ n ∧ n ≤ m))) ∧ w' = w := by
  by_cases h1 : l ≤ n
  · by_cases h2 : n ≤ m
    · go_enter Tryd.func87, Tryd.ntmps87
      go_wp2
      go_ret
      exact ⟨by simp [h1, h2], rfl⟩
    · go_enter Tryd.func87, Tryd.ntmps87
      go_wp2
      go_ret
      exact ⟨by simp [h1, h2], rfl⟩
  · go_enter Tryd.func87, Tryd.ntmps87
    go_wp2
    go_ret
    exact ⟨by simp; omega, rfl⟩
theorem within_c (n l m : Int) (w : World) : Calls Tryd.prog 72 #[.int .i64 n, .int .i64 l, .int .i64 m] w fun e w' => e = .returned (.bool (decide (l ≤ n ∧ n ≤ m))) ∧ w' = w := by
  by_cases h1 : l ≤ n
  · by_cases h2 : n ≤ m
    · go_enter Tryd.func72, Tryd.ntmps72
      go_wp2
      go_ret
      exact ⟨by simp [h1, h2], rfl⟩
    · go_enter Tryd.func72, Tryd.ntmps72
      go_wp2
      go_ret
      exact ⟨by simp [h1, h2], rfl⟩
  · go_enter Tryd.func72, Tryd.ntmps72
    go_wp2
    go_ret
    exact ⟨by simp; omega, rfl⟩
theorem seq_c (x : Int) (w : World) : Calls Tryd.prog 86 #[.int .i64 x] w fun e w' => e = .returned (.bool (decide (0 ≤ x ∧ x ≤ 1000000))) ∧ w' = w := by
  go_enter Tryd.func86, Tryd.ntmps86
  go_wp2_with (fail)
  refine (in_c _ _ _ _).mono ?_
  rintro e w1 ⟨rfl, rfl⟩
  go_wp2
  go_ret
  exact ⟨by simp, rfl⟩
theorem tick_c (x : Int) (w : World) : Calls Tryd.prog 88 #[.int .i64 x] w fun e w' => e = .returned (.bool (decide (0 ≤ x ∧ x ≤ 1000000000))) ∧ w' = w := by
  go_enter Tryd.func88, Tryd.ntmps88
  go_wp2_with (fail)
  refine (in_c _ _ _ _).mono ?_
  rintro e w1 ⟨rfl, rfl⟩
  go_wp2
  go_ret
  exact ⟨by simp, rfl⟩
theorem level_c (x : Int) (w : World) : Calls Tryd.prog 89 #[.int .i64 x] w fun e w' => e = .returned (.bool (decide (-32767 ≤ x ∧ x ≤ 32767))) ∧ w' = w := by
  go_enter Tryd.func89, Tryd.ntmps89
  go_wp2_with (fail)
  refine (in_c _ _ _ _).mono ?_
  rintro e w1 ⟨rfl, rfl⟩
  go_wp2
  go_ret
  exact ⟨by simp, rfl⟩
set_option maxHeartbeats 1600000 in
theorem pkM_c (k : Pk) (w : World) : Calls Tryd.prog 90 #[.agg (pkA k)] w fun e w' => e = .returned (.bool (pkB k)) ∧ Below w.heap.size w w' := by
  obtain ⟨W1, hW1⟩ : ∃ W, w.alloc (Obj.cells (pkA k) 40) = W := ⟨_, rfl⟩
  have HB : Hid (Below w.heap.size w W1) := by rw [← hW1]; exact (Below.refl _ _).alloc (Nat.le_refl _) _
  have K0 : Blk W1 w.heap.size (pkA k) 40 := by rw [← hW1]; exact Blk.new _ _ _
  have x0 := pk_cell0 K0
  have x1 := pk_cell1 K0
  clear K0
  have HP : Hid (pkB k = (decide (0 ≤ k.t ∧ k.t ≤ 1000000000) && decide (0 ≤ k.s ∧ k.s ≤ 1000000))) := rfl
  go_enter Tryd.func90, Tryd.ntmps90
  go_wp2_with (fail)
  refine (tick_c k.t W1).mono ?_
  rintro e w1 ⟨rfl, hw⟩
  rw [hw]
  clear hw w1
  by_cases c1 : 0 ≤ k.t ∧ k.t ≤ 1000000000
  · have d1 : decide (0 ≤ k.t ∧ k.t ≤ 1000000000) = true := by simp only [decide_eq_true_eq]; exact c1
    rw [d1] at HP ⊢
    clear c1
    go_wp2_with (fail)
    refine (seq_c k.s W1).mono ?_
    rintro e w1 ⟨rfl, hw⟩
    rw [hw]
    clear hw w1
    go_wp2
    go_ret
    exact ⟨by rw [HP.out, Bool.true_and, Bool.decide_and]; rfl, HB.out⟩
  · have d1 : decide (0 ≤ k.t ∧ k.t ≤ 1000000000) = false := by simp only [decide_eq_false_iff_not]; exact c1
    rw [d1] at HP ⊢
    clear c1
    go_wp2
    go_ret
    exact ⟨by rw [HP.out, Bool.false_and]; rfl, HB.out⟩
set_option maxHeartbeats 1600000 in
theorem pkI_c (k : Pk) (w : World) : Calls Tryd.prog 76 #[.agg (pkA k)] w fun e w' => e = .returned (.bool (pkB k)) ∧ Below w.heap.size w w' := by
  obtain ⟨W1, hW1⟩ : ∃ W, w.alloc (Obj.cells (pkA k) 40) = W := ⟨_, rfl⟩
  have HB : Hid (Below w.heap.size w W1) := by rw [← hW1]; exact (Below.refl _ _).alloc (Nat.le_refl _) _
  have K0 : Blk W1 w.heap.size (pkA k) 40 := by rw [← hW1]; exact Blk.new _ _ _
  have x0 := pk_cell0 K0
  have x1 := pk_cell1 K0
  clear K0
  have HP : Hid (pkB k = (decide (0 ≤ k.t ∧ k.t ≤ 1000000000) && decide (0 ≤ k.s ∧ k.s ≤ 1000000))) := rfl
  go_enter Tryd.func76, Tryd.ntmps76
  go_wp2_with (fail)
  refine (within_c k.t 0 1000000000 W1).mono ?_
  rintro e w1 ⟨rfl, hw⟩
  rw [hw]
  clear hw w1
  by_cases c1 : 0 ≤ k.t ∧ k.t ≤ 1000000000
  · have d1 : decide (0 ≤ k.t ∧ k.t ≤ 1000000000) = true := by simp only [decide_eq_true_eq]; exact c1
    rw [d1] at HP ⊢
    clear c1
    go_wp2_with (fail)
    refine (within_c k.s 0 1000000 W1).mono ?_
    rintro e w1 ⟨rfl, hw⟩
    rw [hw]
    clear hw w1
    go_wp2
    go_ret
    exact ⟨by rw [HP.out, Bool.true_and, Bool.decide_and]; rfl, HB.out⟩
  · have d1 : decide (0 ≤ k.t ∧ k.t ≤ 1000000000) = false := by simp only [decide_eq_false_iff_not]; exact c1
    rw [d1] at HP ⊢
    clear c1
    go_wp2
    go_ret
    exact ⟨by rw [HP.out, Bool.false_and]; rfl, HB.out⟩

end Go.Proofs.YtkjfcebdjnclaaaDoor

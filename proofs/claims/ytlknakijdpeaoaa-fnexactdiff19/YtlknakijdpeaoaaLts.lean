/- Letters and marks, on both sides; no condition. -/
import Derived.Test.YtlknakijdpeaoaaWin
import Derived.Test.YtlknakijdpeaoaaWrd
namespace Go.Proofs.Ytlknakijdpeaoaa
open Go.RowKit Go.ChangeShapes Go.WideShapes Go.ChangeAt
set_option linter.unusedVariables false
set_option linter.unusedSimpArgs false
set_option maxRecDepth 8000

theorem in_t {x lo hi : Int} (h : lo ≤ x ∧ x ≤ hi) (w : World) : Calls Try.prog 29 #[.int .i64 x, .int .i64 lo, .int .i64 hi] w fun e w' => e = .returned (.bool true) ∧ w' = w := by
  have := in_c x lo hi w; rw [decide_eq_true h] at this; exact this
theorem in_f {x lo hi : Int} (h : ¬ (lo ≤ x ∧ x ≤ hi)) (w : World) : Calls Try.prog 29 #[.int .i64 x, .int .i64 lo, .int .i64 hi] w fun e w' => e = .returned (.bool false) ∧ w' = w := by
  have := in_c x lo hi w; rw [decide_eq_false h] at this; exact this
theorem wi_t {x lo hi : Int} (h : lo ≤ x ∧ x ≤ hi) (w : World) : Calls Try.prog 44 #[.int .i64 x, .int .i64 lo, .int .i64 hi] w fun e w' => e = .returned (.bool true) ∧ w' = w := by
  have := within_c x lo hi w; rw [decide_eq_true h] at this; exact this
theorem wi_f {x lo hi : Int} (h : ¬ (lo ≤ x ∧ x ≤ hi)) (w : World) : Calls Try.prog 44 #[.int .i64 x, .int .i64 lo, .int .i64 hi] w fun e w' => e = .returned (.bool false) ∧ w' = w := by
  have := within_c x lo hi w; rw [decide_eq_false h] at this; exact this
theorem am_t {x lo hi : Int} (h : lo ≤ x ∧ x ≤ hi) (w : World) : Calls Try.prog 47 #[.int .i32 x, .int .i32 lo, .int .i32 hi] w fun e w' => e = .returned (.bool true) ∧ w' = w := by
  obtain ⟨q1, q2⟩ := h
  go_enter Try.func47, Try.ntmps47
  go_wp2
  go_ret
  exact ⟨rfl, rfl⟩
theorem am_f {x lo hi : Int} (h : ¬ (lo ≤ x ∧ x ≤ hi)) (w : World) : Calls Try.prog 47 #[.int .i32 x, .int .i32 lo, .int .i32 hi] w fun e w' => e = .returned (.bool false) ∧ w' = w := by
  by_cases q1 : lo ≤ x
  · have q2 : ¬ (x ≤ hi) := fun q => h ⟨q1, q⟩
    clear h
    go_enter Try.func47, Try.ntmps47
    go_wp2
    go_ret
    exact ⟨rfl, rfl⟩
  · clear h
    go_enter Try.func47, Try.ntmps47
    go_wp2
    go_ret
    exact ⟨rfl, rfl⟩
set_option maxHeartbeats 3200000 in
theorem letM_c (n : Nat) (w : World) : Calls Try.prog 31 #[.int .i64 (n : Int)] w fun e w' => e = .returned (.bool (isL n)) ∧ w' = w := by
  rcases (show (0 ≤ n ∧ n ≤ 64) ∨ (65 ≤ n ∧ n ≤ 90) ∨ (91 ≤ n ∧ n ≤ 96) ∨ (97 ≤ n ∧ n ≤ 122) ∨ (123 ≤ n ∧ n ≤ 191) ∨ (192 ≤ n ∧ n ≤ 214) ∨ (215 ≤ n ∧ n ≤ 215) ∨ (216 ≤ n ∧ n ≤ 246) ∨ (247 ≤ n ∧ n ≤ 247) ∨ (248 ≤ n ∧ n ≤ 591) ∨ (592 ≤ n ∧ n ≤ 912) ∨ (913 ≤ n ∧ n ≤ 929) ∨ (930 ≤ n ∧ n ≤ 930) ∨ (931 ≤ n ∧ n ≤ 969) ∨ (970 ≤ n ∧ n ≤ 1039) ∨ (1040 ≤ n ∧ n ≤ 1103) ∨ 1104 ≤ n by omega) with h | h | h | h | h | h | h | h | h | h | h | h | h | h | h | h | h
  · have hr : isL n = false := decide_eq_false (by omega)
    rw [hr]; clear hr
    have q1 : ¬ ((65 : Int) ≤ (n : Int)) := by omega
    have q2 : ¬ ((97 : Int) ≤ (n : Int)) := by omega
    go_enter Try.func31, Try.ntmps31
    go_wp2_with (fail)
    refine (in_f (by omega) w).mono ?_
    rintro e w2 ⟨rfl, hw2⟩
    obtain rfl : w = w2 := hw2.symm
    go_wp2_with (fail)
    refine (in_f (by omega) w).mono ?_
    rintro e w2 ⟨rfl, hw2⟩
    obtain rfl : w = w2 := hw2.symm
    go_wp2_with (fail)
    refine (in_f (by omega) w).mono ?_
    rintro e w2 ⟨rfl, hw2⟩
    obtain rfl : w = w2 := hw2.symm
    go_wp2
    go_ret
    exact ⟨rfl, rfl⟩
  · have hr : isL n = true := decide_eq_true (by omega)
    rw [hr]; clear hr
    have q1 : ((65 : Int) ≤ (n : Int)) := by omega
    have q2 : ((n : Int) ≤ 90) := by omega
    go_enter Try.func31, Try.ntmps31
    go_wp2
    go_ret
    exact ⟨rfl, rfl⟩
  · have hr : isL n = false := decide_eq_false (by omega)
    rw [hr]; clear hr
    have q1 : ((65 : Int) ≤ (n : Int)) := by omega
    have q2 : ¬ ((n : Int) ≤ 90) := by omega
    have q3 : ¬ ((97 : Int) ≤ (n : Int)) := by omega
    go_enter Try.func31, Try.ntmps31
    go_wp2_with (fail)
    refine (in_f (by omega) w).mono ?_
    rintro e w2 ⟨rfl, hw2⟩
    obtain rfl : w = w2 := hw2.symm
    go_wp2_with (fail)
    refine (in_f (by omega) w).mono ?_
    rintro e w2 ⟨rfl, hw2⟩
    obtain rfl : w = w2 := hw2.symm
    go_wp2_with (fail)
    refine (in_f (by omega) w).mono ?_
    rintro e w2 ⟨rfl, hw2⟩
    obtain rfl : w = w2 := hw2.symm
    go_wp2
    go_ret
    exact ⟨rfl, rfl⟩
  · have hr : isL n = true := decide_eq_true (by omega)
    rw [hr]; clear hr
    have q1 : ((65 : Int) ≤ (n : Int)) := by omega
    have q2 : ¬ ((n : Int) ≤ 90) := by omega
    have q3 : ((97 : Int) ≤ (n : Int)) := by omega
    have q4 : ((n : Int) ≤ 122) := by omega
    go_enter Try.func31, Try.ntmps31
    go_wp2
    go_ret
    exact ⟨rfl, rfl⟩
  · have hr : isL n = false := decide_eq_false (by omega)
    rw [hr]; clear hr
    have q1 : ((65 : Int) ≤ (n : Int)) := by omega
    have q2 : ¬ ((n : Int) ≤ 90) := by omega
    have q3 : ((97 : Int) ≤ (n : Int)) := by omega
    have q4 : ¬ ((n : Int) ≤ 122) := by omega
    go_enter Try.func31, Try.ntmps31
    go_wp2_with (fail)
    refine (in_f (by omega) w).mono ?_
    rintro e w2 ⟨rfl, hw2⟩
    obtain rfl : w = w2 := hw2.symm
    go_wp2_with (fail)
    refine (in_f (by omega) w).mono ?_
    rintro e w2 ⟨rfl, hw2⟩
    obtain rfl : w = w2 := hw2.symm
    go_wp2_with (fail)
    refine (in_f (by omega) w).mono ?_
    rintro e w2 ⟨rfl, hw2⟩
    obtain rfl : w = w2 := hw2.symm
    go_wp2
    go_ret
    exact ⟨rfl, rfl⟩
  · have hr : isL n = true := decide_eq_true (by omega)
    rw [hr]; clear hr
    have q1 : ((65 : Int) ≤ (n : Int)) := by omega
    have q2 : ¬ ((n : Int) ≤ 90) := by omega
    have q3 : ((97 : Int) ≤ (n : Int)) := by omega
    have q4 : ¬ ((n : Int) ≤ 122) := by omega
    have q5 : ((n : Int) != 215) = true := by simp; omega
    have q6 : ((n : Int) != 247) = true := by simp; omega
    go_enter Try.func31, Try.ntmps31
    go_wp2_with (fail)
    refine (in_t (by omega) w).mono ?_
    rintro e w2 ⟨rfl, hw2⟩
    obtain rfl : w = w2 := hw2.symm
    go_wp2
    go_ret
    exact ⟨rfl, rfl⟩
  · have hr : isL n = false := decide_eq_false (by omega)
    rw [hr]; clear hr
    have q1 : ((65 : Int) ≤ (n : Int)) := by omega
    have q2 : ¬ ((n : Int) ≤ 90) := by omega
    have q3 : ((97 : Int) ≤ (n : Int)) := by omega
    have q4 : ¬ ((n : Int) ≤ 122) := by omega
    have q5 : ((n : Int) != 215) = false := by simp; omega
    go_enter Try.func31, Try.ntmps31
    go_wp2_with (fail)
    refine (in_t (by omega) w).mono ?_
    rintro e w2 ⟨rfl, hw2⟩
    obtain rfl : w = w2 := hw2.symm
    go_wp2_with (fail)
    refine (in_f (by omega) w).mono ?_
    rintro e w2 ⟨rfl, hw2⟩
    obtain rfl : w = w2 := hw2.symm
    go_wp2_with (fail)
    refine (in_f (by omega) w).mono ?_
    rintro e w2 ⟨rfl, hw2⟩
    obtain rfl : w = w2 := hw2.symm
    go_wp2
    go_ret
    exact ⟨rfl, rfl⟩
  · have hr : isL n = true := decide_eq_true (by omega)
    rw [hr]; clear hr
    have q1 : ((65 : Int) ≤ (n : Int)) := by omega
    have q2 : ¬ ((n : Int) ≤ 90) := by omega
    have q3 : ((97 : Int) ≤ (n : Int)) := by omega
    have q4 : ¬ ((n : Int) ≤ 122) := by omega
    have q5 : ((n : Int) != 215) = true := by simp; omega
    have q6 : ((n : Int) != 247) = true := by simp; omega
    go_enter Try.func31, Try.ntmps31
    go_wp2_with (fail)
    refine (in_t (by omega) w).mono ?_
    rintro e w2 ⟨rfl, hw2⟩
    obtain rfl : w = w2 := hw2.symm
    go_wp2
    go_ret
    exact ⟨rfl, rfl⟩
  · have hr : isL n = false := decide_eq_false (by omega)
    rw [hr]; clear hr
    have q1 : ((65 : Int) ≤ (n : Int)) := by omega
    have q2 : ¬ ((n : Int) ≤ 90) := by omega
    have q3 : ((97 : Int) ≤ (n : Int)) := by omega
    have q4 : ¬ ((n : Int) ≤ 122) := by omega
    have q5 : ((n : Int) != 215) = true := by simp; omega
    have q6 : ((n : Int) != 247) = false := by simp; omega
    go_enter Try.func31, Try.ntmps31
    go_wp2_with (fail)
    refine (in_t (by omega) w).mono ?_
    rintro e w2 ⟨rfl, hw2⟩
    obtain rfl : w = w2 := hw2.symm
    go_wp2_with (fail)
    refine (in_f (by omega) w).mono ?_
    rintro e w2 ⟨rfl, hw2⟩
    obtain rfl : w = w2 := hw2.symm
    go_wp2_with (fail)
    refine (in_f (by omega) w).mono ?_
    rintro e w2 ⟨rfl, hw2⟩
    obtain rfl : w = w2 := hw2.symm
    go_wp2
    go_ret
    exact ⟨rfl, rfl⟩
  · have hr : isL n = true := decide_eq_true (by omega)
    rw [hr]; clear hr
    have q1 : ((65 : Int) ≤ (n : Int)) := by omega
    have q2 : ¬ ((n : Int) ≤ 90) := by omega
    have q3 : ((97 : Int) ≤ (n : Int)) := by omega
    have q4 : ¬ ((n : Int) ≤ 122) := by omega
    have q5 : ((n : Int) != 215) = true := by simp; omega
    have q6 : ((n : Int) != 247) = true := by simp; omega
    go_enter Try.func31, Try.ntmps31
    go_wp2_with (fail)
    refine (in_t (by omega) w).mono ?_
    rintro e w2 ⟨rfl, hw2⟩
    obtain rfl : w = w2 := hw2.symm
    go_wp2
    go_ret
    exact ⟨rfl, rfl⟩
  · have hr : isL n = false := decide_eq_false (by omega)
    rw [hr]; clear hr
    have q1 : ((65 : Int) ≤ (n : Int)) := by omega
    have q2 : ¬ ((n : Int) ≤ 90) := by omega
    have q3 : ((97 : Int) ≤ (n : Int)) := by omega
    have q4 : ¬ ((n : Int) ≤ 122) := by omega
    go_enter Try.func31, Try.ntmps31
    go_wp2_with (fail)
    refine (in_f (by omega) w).mono ?_
    rintro e w2 ⟨rfl, hw2⟩
    obtain rfl : w = w2 := hw2.symm
    go_wp2_with (fail)
    refine (in_f (by omega) w).mono ?_
    rintro e w2 ⟨rfl, hw2⟩
    obtain rfl : w = w2 := hw2.symm
    go_wp2_with (fail)
    refine (in_f (by omega) w).mono ?_
    rintro e w2 ⟨rfl, hw2⟩
    obtain rfl : w = w2 := hw2.symm
    go_wp2
    go_ret
    exact ⟨rfl, rfl⟩
  · have hr : isL n = true := decide_eq_true (by omega)
    rw [hr]; clear hr
    have q1 : ((65 : Int) ≤ (n : Int)) := by omega
    have q2 : ¬ ((n : Int) ≤ 90) := by omega
    have q3 : ((97 : Int) ≤ (n : Int)) := by omega
    have q4 : ¬ ((n : Int) ≤ 122) := by omega
    have q5 : ((n : Int) != 930) = true := by simp; omega
    go_enter Try.func31, Try.ntmps31
    go_wp2_with (fail)
    refine (in_f (by omega) w).mono ?_
    rintro e w2 ⟨rfl, hw2⟩
    obtain rfl : w = w2 := hw2.symm
    go_wp2_with (fail)
    refine (in_t (by omega) w).mono ?_
    rintro e w2 ⟨rfl, hw2⟩
    obtain rfl : w = w2 := hw2.symm
    go_wp2
    go_ret
    exact ⟨rfl, rfl⟩
  · have hr : isL n = false := decide_eq_false (by omega)
    rw [hr]; clear hr
    have q1 : ((65 : Int) ≤ (n : Int)) := by omega
    have q2 : ¬ ((n : Int) ≤ 90) := by omega
    have q3 : ((97 : Int) ≤ (n : Int)) := by omega
    have q4 : ¬ ((n : Int) ≤ 122) := by omega
    have q5 : ((n : Int) != 930) = false := by simp; omega
    go_enter Try.func31, Try.ntmps31
    go_wp2_with (fail)
    refine (in_f (by omega) w).mono ?_
    rintro e w2 ⟨rfl, hw2⟩
    obtain rfl : w = w2 := hw2.symm
    go_wp2_with (fail)
    refine (in_t (by omega) w).mono ?_
    rintro e w2 ⟨rfl, hw2⟩
    obtain rfl : w = w2 := hw2.symm
    go_wp2_with (fail)
    refine (in_f (by omega) w).mono ?_
    rintro e w2 ⟨rfl, hw2⟩
    obtain rfl : w = w2 := hw2.symm
    go_wp2
    go_ret
    exact ⟨rfl, rfl⟩
  · have hr : isL n = true := decide_eq_true (by omega)
    rw [hr]; clear hr
    have q1 : ((65 : Int) ≤ (n : Int)) := by omega
    have q2 : ¬ ((n : Int) ≤ 90) := by omega
    have q3 : ((97 : Int) ≤ (n : Int)) := by omega
    have q4 : ¬ ((n : Int) ≤ 122) := by omega
    have q5 : ((n : Int) != 930) = true := by simp; omega
    go_enter Try.func31, Try.ntmps31
    go_wp2_with (fail)
    refine (in_f (by omega) w).mono ?_
    rintro e w2 ⟨rfl, hw2⟩
    obtain rfl : w = w2 := hw2.symm
    go_wp2_with (fail)
    refine (in_t (by omega) w).mono ?_
    rintro e w2 ⟨rfl, hw2⟩
    obtain rfl : w = w2 := hw2.symm
    go_wp2
    go_ret
    exact ⟨rfl, rfl⟩
  · have hr : isL n = false := decide_eq_false (by omega)
    rw [hr]; clear hr
    have q1 : ((65 : Int) ≤ (n : Int)) := by omega
    have q2 : ¬ ((n : Int) ≤ 90) := by omega
    have q3 : ((97 : Int) ≤ (n : Int)) := by omega
    have q4 : ¬ ((n : Int) ≤ 122) := by omega
    go_enter Try.func31, Try.ntmps31
    go_wp2_with (fail)
    refine (in_f (by omega) w).mono ?_
    rintro e w2 ⟨rfl, hw2⟩
    obtain rfl : w = w2 := hw2.symm
    go_wp2_with (fail)
    refine (in_f (by omega) w).mono ?_
    rintro e w2 ⟨rfl, hw2⟩
    obtain rfl : w = w2 := hw2.symm
    go_wp2_with (fail)
    refine (in_f (by omega) w).mono ?_
    rintro e w2 ⟨rfl, hw2⟩
    obtain rfl : w = w2 := hw2.symm
    go_wp2
    go_ret
    exact ⟨rfl, rfl⟩
  · have hr : isL n = true := decide_eq_true (by omega)
    rw [hr]; clear hr
    have q1 : ((65 : Int) ≤ (n : Int)) := by omega
    have q2 : ¬ ((n : Int) ≤ 90) := by omega
    have q3 : ((97 : Int) ≤ (n : Int)) := by omega
    have q4 : ¬ ((n : Int) ≤ 122) := by omega
    go_enter Try.func31, Try.ntmps31
    go_wp2_with (fail)
    refine (in_f (by omega) w).mono ?_
    rintro e w2 ⟨rfl, hw2⟩
    obtain rfl : w = w2 := hw2.symm
    go_wp2_with (fail)
    refine (in_f (by omega) w).mono ?_
    rintro e w2 ⟨rfl, hw2⟩
    obtain rfl : w = w2 := hw2.symm
    go_wp2_with (fail)
    refine (in_t (by omega) w).mono ?_
    rintro e w2 ⟨rfl, hw2⟩
    obtain rfl : w = w2 := hw2.symm
    go_wp2
    go_ret
    exact ⟨rfl, rfl⟩
  · have hr : isL n = false := decide_eq_false (by omega)
    rw [hr]; clear hr
    have q1 : ((65 : Int) ≤ (n : Int)) := by omega
    have q2 : ¬ ((n : Int) ≤ 90) := by omega
    have q3 : ((97 : Int) ≤ (n : Int)) := by omega
    have q4 : ¬ ((n : Int) ≤ 122) := by omega
    go_enter Try.func31, Try.ntmps31
    go_wp2_with (fail)
    refine (in_f (by omega) w).mono ?_
    rintro e w2 ⟨rfl, hw2⟩
    obtain rfl : w = w2 := hw2.symm
    go_wp2_with (fail)
    refine (in_f (by omega) w).mono ?_
    rintro e w2 ⟨rfl, hw2⟩
    obtain rfl : w = w2 := hw2.symm
    go_wp2_with (fail)
    refine (in_f (by omega) w).mono ?_
    rintro e w2 ⟨rfl, hw2⟩
    obtain rfl : w = w2 := hw2.symm
    go_wp2
    go_ret
    exact ⟨rfl, rfl⟩
set_option maxHeartbeats 3200000 in
theorem letI_c (n : Nat) (w : World) : Calls Try.prog 45 #[.int .i32 (n : Int)] w fun e w' => e = .returned (.bool (isL n)) ∧ w' = w := by
  rcases (show (0 ≤ n ∧ n ≤ 64) ∨ (65 ≤ n ∧ n ≤ 90) ∨ (91 ≤ n ∧ n ≤ 96) ∨ (97 ≤ n ∧ n ≤ 122) ∨ (123 ≤ n ∧ n ≤ 191) ∨ (192 ≤ n ∧ n ≤ 214) ∨ (215 ≤ n ∧ n ≤ 215) ∨ (216 ≤ n ∧ n ≤ 246) ∨ (247 ≤ n ∧ n ≤ 247) ∨ (248 ≤ n ∧ n ≤ 591) ∨ (592 ≤ n ∧ n ≤ 912) ∨ (913 ≤ n ∧ n ≤ 929) ∨ (930 ≤ n ∧ n ≤ 930) ∨ (931 ≤ n ∧ n ≤ 969) ∨ (970 ≤ n ∧ n ≤ 1039) ∨ (1040 ≤ n ∧ n ≤ 1103) ∨ 1104 ≤ n by omega) with h | h | h | h | h | h | h | h | h | h | h | h | h | h | h | h | h
  · have hr : isL n = false := decide_eq_false (by omega)
    rw [hr]; clear hr
    have q1 : ((n : Int) == 215) = false := by simp; omega
    have q2 : ((n : Int) == 247) = false := by simp; omega
    have q3 : ((n : Int) == 930) = false := by simp; omega
    go_enter Try.func45, Try.ntmps45
    go_wp2_with (fail)
    refine (am_f (by omega) w).mono ?_
    rintro e w2 ⟨rfl, hw2⟩
    obtain rfl : w = w2 := hw2.symm
    go_wp2_with (fail)
    refine (am_f (by omega) w).mono ?_
    rintro e w2 ⟨rfl, hw2⟩
    obtain rfl : w = w2 := hw2.symm
    go_wp2_with (fail)
    refine (am_f (by omega) w).mono ?_
    rintro e w2 ⟨rfl, hw2⟩
    obtain rfl : w = w2 := hw2.symm
    go_wp2_with (fail)
    refine (am_f (by omega) w).mono ?_
    rintro e w2 ⟨rfl, hw2⟩
    obtain rfl : w = w2 := hw2.symm
    go_wp2_with (fail)
    refine (am_f (by omega) w).mono ?_
    rintro e w2 ⟨rfl, hw2⟩
    obtain rfl : w = w2 := hw2.symm
    go_wp2
    go_ret
    exact ⟨rfl, rfl⟩
  · have hr : isL n = true := decide_eq_true (by omega)
    rw [hr]; clear hr
    have q1 : ((n : Int) == 215) = false := by simp; omega
    have q2 : ((n : Int) == 247) = false := by simp; omega
    have q3 : ((n : Int) == 930) = false := by simp; omega
    go_enter Try.func45, Try.ntmps45
    go_wp2_with (fail)
    refine (am_t (by omega) w).mono ?_
    rintro e w2 ⟨rfl, hw2⟩
    obtain rfl : w = w2 := hw2.symm
    go_wp2
    go_ret
    exact ⟨rfl, rfl⟩
  · have hr : isL n = false := decide_eq_false (by omega)
    rw [hr]; clear hr
    have q1 : ((n : Int) == 215) = false := by simp; omega
    have q2 : ((n : Int) == 247) = false := by simp; omega
    have q3 : ((n : Int) == 930) = false := by simp; omega
    go_enter Try.func45, Try.ntmps45
    go_wp2_with (fail)
    refine (am_f (by omega) w).mono ?_
    rintro e w2 ⟨rfl, hw2⟩
    obtain rfl : w = w2 := hw2.symm
    go_wp2_with (fail)
    refine (am_f (by omega) w).mono ?_
    rintro e w2 ⟨rfl, hw2⟩
    obtain rfl : w = w2 := hw2.symm
    go_wp2_with (fail)
    refine (am_f (by omega) w).mono ?_
    rintro e w2 ⟨rfl, hw2⟩
    obtain rfl : w = w2 := hw2.symm
    go_wp2_with (fail)
    refine (am_f (by omega) w).mono ?_
    rintro e w2 ⟨rfl, hw2⟩
    obtain rfl : w = w2 := hw2.symm
    go_wp2_with (fail)
    refine (am_f (by omega) w).mono ?_
    rintro e w2 ⟨rfl, hw2⟩
    obtain rfl : w = w2 := hw2.symm
    go_wp2
    go_ret
    exact ⟨rfl, rfl⟩
  · have hr : isL n = true := decide_eq_true (by omega)
    rw [hr]; clear hr
    have q1 : ((n : Int) == 215) = false := by simp; omega
    have q2 : ((n : Int) == 247) = false := by simp; omega
    have q3 : ((n : Int) == 930) = false := by simp; omega
    go_enter Try.func45, Try.ntmps45
    go_wp2_with (fail)
    refine (am_f (by omega) w).mono ?_
    rintro e w2 ⟨rfl, hw2⟩
    obtain rfl : w = w2 := hw2.symm
    go_wp2_with (fail)
    refine (am_t (by omega) w).mono ?_
    rintro e w2 ⟨rfl, hw2⟩
    obtain rfl : w = w2 := hw2.symm
    go_wp2
    go_ret
    exact ⟨rfl, rfl⟩
  · have hr : isL n = false := decide_eq_false (by omega)
    rw [hr]; clear hr
    have q1 : ((n : Int) == 215) = false := by simp; omega
    have q2 : ((n : Int) == 247) = false := by simp; omega
    have q3 : ((n : Int) == 930) = false := by simp; omega
    go_enter Try.func45, Try.ntmps45
    go_wp2_with (fail)
    refine (am_f (by omega) w).mono ?_
    rintro e w2 ⟨rfl, hw2⟩
    obtain rfl : w = w2 := hw2.symm
    go_wp2_with (fail)
    refine (am_f (by omega) w).mono ?_
    rintro e w2 ⟨rfl, hw2⟩
    obtain rfl : w = w2 := hw2.symm
    go_wp2_with (fail)
    refine (am_f (by omega) w).mono ?_
    rintro e w2 ⟨rfl, hw2⟩
    obtain rfl : w = w2 := hw2.symm
    go_wp2_with (fail)
    refine (am_f (by omega) w).mono ?_
    rintro e w2 ⟨rfl, hw2⟩
    obtain rfl : w = w2 := hw2.symm
    go_wp2_with (fail)
    refine (am_f (by omega) w).mono ?_
    rintro e w2 ⟨rfl, hw2⟩
    obtain rfl : w = w2 := hw2.symm
    go_wp2
    go_ret
    exact ⟨rfl, rfl⟩
  · have hr : isL n = true := decide_eq_true (by omega)
    rw [hr]; clear hr
    have q1 : ((n : Int) == 215) = false := by simp; omega
    have q2 : ((n : Int) == 247) = false := by simp; omega
    have q3 : ((n : Int) == 930) = false := by simp; omega
    go_enter Try.func45, Try.ntmps45
    go_wp2_with (fail)
    refine (am_f (by omega) w).mono ?_
    rintro e w2 ⟨rfl, hw2⟩
    obtain rfl : w = w2 := hw2.symm
    go_wp2_with (fail)
    refine (am_f (by omega) w).mono ?_
    rintro e w2 ⟨rfl, hw2⟩
    obtain rfl : w = w2 := hw2.symm
    go_wp2_with (fail)
    refine (am_t (by omega) w).mono ?_
    rintro e w2 ⟨rfl, hw2⟩
    obtain rfl : w = w2 := hw2.symm
    go_wp2
    go_ret
    exact ⟨rfl, rfl⟩
  · have hr : isL n = false := decide_eq_false (by omega)
    rw [hr]; clear hr
    have q1 : ((n : Int) == 215) = true := by simp; omega
    go_enter Try.func45, Try.ntmps45
    go_wp2
    go_ret
    exact ⟨rfl, rfl⟩
  · have hr : isL n = true := decide_eq_true (by omega)
    rw [hr]; clear hr
    have q1 : ((n : Int) == 215) = false := by simp; omega
    have q2 : ((n : Int) == 247) = false := by simp; omega
    have q3 : ((n : Int) == 930) = false := by simp; omega
    go_enter Try.func45, Try.ntmps45
    go_wp2_with (fail)
    refine (am_f (by omega) w).mono ?_
    rintro e w2 ⟨rfl, hw2⟩
    obtain rfl : w = w2 := hw2.symm
    go_wp2_with (fail)
    refine (am_f (by omega) w).mono ?_
    rintro e w2 ⟨rfl, hw2⟩
    obtain rfl : w = w2 := hw2.symm
    go_wp2_with (fail)
    refine (am_t (by omega) w).mono ?_
    rintro e w2 ⟨rfl, hw2⟩
    obtain rfl : w = w2 := hw2.symm
    go_wp2
    go_ret
    exact ⟨rfl, rfl⟩
  · have hr : isL n = false := decide_eq_false (by omega)
    rw [hr]; clear hr
    have q1 : ((n : Int) == 215) = false := by simp; omega
    have q2 : ((n : Int) == 247) = true := by simp; omega
    go_enter Try.func45, Try.ntmps45
    go_wp2
    go_ret
    exact ⟨rfl, rfl⟩
  · have hr : isL n = true := decide_eq_true (by omega)
    rw [hr]; clear hr
    have q1 : ((n : Int) == 215) = false := by simp; omega
    have q2 : ((n : Int) == 247) = false := by simp; omega
    have q3 : ((n : Int) == 930) = false := by simp; omega
    go_enter Try.func45, Try.ntmps45
    go_wp2_with (fail)
    refine (am_f (by omega) w).mono ?_
    rintro e w2 ⟨rfl, hw2⟩
    obtain rfl : w = w2 := hw2.symm
    go_wp2_with (fail)
    refine (am_f (by omega) w).mono ?_
    rintro e w2 ⟨rfl, hw2⟩
    obtain rfl : w = w2 := hw2.symm
    go_wp2_with (fail)
    refine (am_t (by omega) w).mono ?_
    rintro e w2 ⟨rfl, hw2⟩
    obtain rfl : w = w2 := hw2.symm
    go_wp2
    go_ret
    exact ⟨rfl, rfl⟩
  · have hr : isL n = false := decide_eq_false (by omega)
    rw [hr]; clear hr
    have q1 : ((n : Int) == 215) = false := by simp; omega
    have q2 : ((n : Int) == 247) = false := by simp; omega
    have q3 : ((n : Int) == 930) = false := by simp; omega
    go_enter Try.func45, Try.ntmps45
    go_wp2_with (fail)
    refine (am_f (by omega) w).mono ?_
    rintro e w2 ⟨rfl, hw2⟩
    obtain rfl : w = w2 := hw2.symm
    go_wp2_with (fail)
    refine (am_f (by omega) w).mono ?_
    rintro e w2 ⟨rfl, hw2⟩
    obtain rfl : w = w2 := hw2.symm
    go_wp2_with (fail)
    refine (am_f (by omega) w).mono ?_
    rintro e w2 ⟨rfl, hw2⟩
    obtain rfl : w = w2 := hw2.symm
    go_wp2_with (fail)
    refine (am_f (by omega) w).mono ?_
    rintro e w2 ⟨rfl, hw2⟩
    obtain rfl : w = w2 := hw2.symm
    go_wp2_with (fail)
    refine (am_f (by omega) w).mono ?_
    rintro e w2 ⟨rfl, hw2⟩
    obtain rfl : w = w2 := hw2.symm
    go_wp2
    go_ret
    exact ⟨rfl, rfl⟩
  · have hr : isL n = true := decide_eq_true (by omega)
    rw [hr]; clear hr
    have q1 : ((n : Int) == 215) = false := by simp; omega
    have q2 : ((n : Int) == 247) = false := by simp; omega
    have q3 : ((n : Int) == 930) = false := by simp; omega
    go_enter Try.func45, Try.ntmps45
    go_wp2_with (fail)
    refine (am_f (by omega) w).mono ?_
    rintro e w2 ⟨rfl, hw2⟩
    obtain rfl : w = w2 := hw2.symm
    go_wp2_with (fail)
    refine (am_f (by omega) w).mono ?_
    rintro e w2 ⟨rfl, hw2⟩
    obtain rfl : w = w2 := hw2.symm
    go_wp2_with (fail)
    refine (am_f (by omega) w).mono ?_
    rintro e w2 ⟨rfl, hw2⟩
    obtain rfl : w = w2 := hw2.symm
    go_wp2_with (fail)
    refine (am_t (by omega) w).mono ?_
    rintro e w2 ⟨rfl, hw2⟩
    obtain rfl : w = w2 := hw2.symm
    go_wp2
    go_ret
    exact ⟨rfl, rfl⟩
  · have hr : isL n = false := decide_eq_false (by omega)
    rw [hr]; clear hr
    have q1 : ((n : Int) == 215) = false := by simp; omega
    have q2 : ((n : Int) == 247) = false := by simp; omega
    have q3 : ((n : Int) == 930) = true := by simp; omega
    go_enter Try.func45, Try.ntmps45
    go_wp2
    go_ret
    exact ⟨rfl, rfl⟩
  · have hr : isL n = true := decide_eq_true (by omega)
    rw [hr]; clear hr
    have q1 : ((n : Int) == 215) = false := by simp; omega
    have q2 : ((n : Int) == 247) = false := by simp; omega
    have q3 : ((n : Int) == 930) = false := by simp; omega
    go_enter Try.func45, Try.ntmps45
    go_wp2_with (fail)
    refine (am_f (by omega) w).mono ?_
    rintro e w2 ⟨rfl, hw2⟩
    obtain rfl : w = w2 := hw2.symm
    go_wp2_with (fail)
    refine (am_f (by omega) w).mono ?_
    rintro e w2 ⟨rfl, hw2⟩
    obtain rfl : w = w2 := hw2.symm
    go_wp2_with (fail)
    refine (am_f (by omega) w).mono ?_
    rintro e w2 ⟨rfl, hw2⟩
    obtain rfl : w = w2 := hw2.symm
    go_wp2_with (fail)
    refine (am_t (by omega) w).mono ?_
    rintro e w2 ⟨rfl, hw2⟩
    obtain rfl : w = w2 := hw2.symm
    go_wp2
    go_ret
    exact ⟨rfl, rfl⟩
  · have hr : isL n = false := decide_eq_false (by omega)
    rw [hr]; clear hr
    have q1 : ((n : Int) == 215) = false := by simp; omega
    have q2 : ((n : Int) == 247) = false := by simp; omega
    have q3 : ((n : Int) == 930) = false := by simp; omega
    go_enter Try.func45, Try.ntmps45
    go_wp2_with (fail)
    refine (am_f (by omega) w).mono ?_
    rintro e w2 ⟨rfl, hw2⟩
    obtain rfl : w = w2 := hw2.symm
    go_wp2_with (fail)
    refine (am_f (by omega) w).mono ?_
    rintro e w2 ⟨rfl, hw2⟩
    obtain rfl : w = w2 := hw2.symm
    go_wp2_with (fail)
    refine (am_f (by omega) w).mono ?_
    rintro e w2 ⟨rfl, hw2⟩
    obtain rfl : w = w2 := hw2.symm
    go_wp2_with (fail)
    refine (am_f (by omega) w).mono ?_
    rintro e w2 ⟨rfl, hw2⟩
    obtain rfl : w = w2 := hw2.symm
    go_wp2_with (fail)
    refine (am_f (by omega) w).mono ?_
    rintro e w2 ⟨rfl, hw2⟩
    obtain rfl : w = w2 := hw2.symm
    go_wp2
    go_ret
    exact ⟨rfl, rfl⟩
  · have hr : isL n = true := decide_eq_true (by omega)
    rw [hr]; clear hr
    have q1 : ((n : Int) == 215) = false := by simp; omega
    have q2 : ((n : Int) == 247) = false := by simp; omega
    have q3 : ((n : Int) == 930) = false := by simp; omega
    go_enter Try.func45, Try.ntmps45
    go_wp2_with (fail)
    refine (am_f (by omega) w).mono ?_
    rintro e w2 ⟨rfl, hw2⟩
    obtain rfl : w = w2 := hw2.symm
    go_wp2_with (fail)
    refine (am_f (by omega) w).mono ?_
    rintro e w2 ⟨rfl, hw2⟩
    obtain rfl : w = w2 := hw2.symm
    go_wp2_with (fail)
    refine (am_f (by omega) w).mono ?_
    rintro e w2 ⟨rfl, hw2⟩
    obtain rfl : w = w2 := hw2.symm
    go_wp2_with (fail)
    refine (am_f (by omega) w).mono ?_
    rintro e w2 ⟨rfl, hw2⟩
    obtain rfl : w = w2 := hw2.symm
    go_wp2_with (fail)
    refine (am_t (by omega) w).mono ?_
    rintro e w2 ⟨rfl, hw2⟩
    obtain rfl : w = w2 := hw2.symm
    go_wp2
    go_ret
    exact ⟨rfl, rfl⟩
  · have hr : isL n = false := decide_eq_false (by omega)
    rw [hr]; clear hr
    have q1 : ((n : Int) == 215) = false := by simp; omega
    have q2 : ((n : Int) == 247) = false := by simp; omega
    have q3 : ((n : Int) == 930) = false := by simp; omega
    go_enter Try.func45, Try.ntmps45
    go_wp2_with (fail)
    refine (am_f (by omega) w).mono ?_
    rintro e w2 ⟨rfl, hw2⟩
    obtain rfl : w = w2 := hw2.symm
    go_wp2_with (fail)
    refine (am_f (by omega) w).mono ?_
    rintro e w2 ⟨rfl, hw2⟩
    obtain rfl : w = w2 := hw2.symm
    go_wp2_with (fail)
    refine (am_f (by omega) w).mono ?_
    rintro e w2 ⟨rfl, hw2⟩
    obtain rfl : w = w2 := hw2.symm
    go_wp2_with (fail)
    refine (am_f (by omega) w).mono ?_
    rintro e w2 ⟨rfl, hw2⟩
    obtain rfl : w = w2 := hw2.symm
    go_wp2_with (fail)
    refine (am_f (by omega) w).mono ?_
    rintro e w2 ⟨rfl, hw2⟩
    obtain rfl : w = w2 := hw2.symm
    go_wp2
    go_ret
    exact ⟨rfl, rfl⟩
set_option maxHeartbeats 3200000 in
theorem mrkI_c (n : Nat) (w : World) : Calls Try.prog 46 #[.int .i32 (n : Int)] w fun e w' => e = .returned (.bool (isM n)) ∧ w' = w := by
  rcases (show (0 ≤ n ∧ n ≤ 44) ∨ (45 ≤ n ∧ n ≤ 45) ∨ (46 ≤ n ∧ n ≤ 46) ∨ (47 ≤ n ∧ n ≤ 47) ∨ (48 ≤ n ∧ n ≤ 57) ∨ (58 ≤ n ∧ n ≤ 94) ∨ (95 ≤ n ∧ n ≤ 95) ∨ 96 ≤ n by omega) with h | h | h | h | h | h | h | h
  · have hr : isM n = false := decide_eq_false (by omega)
    rw [hr]; clear hr
    have q1 : ((n : Int) == 45) = false := by simp; omega
    have q2 : ((n : Int) == 95) = false := by simp; omega
    have q3 : ((n : Int) == 46) = false := by simp; omega
    go_enter Try.func46, Try.ntmps46
    go_wp2_with (fail)
    refine (am_f (by omega) w).mono ?_
    rintro e w2 ⟨rfl, hw2⟩
    obtain rfl : w = w2 := hw2.symm
    go_wp2
    go_ret
    exact ⟨rfl, rfl⟩
  · have hr : isM n = true := decide_eq_true (by omega)
    rw [hr]; clear hr
    have q1 : ((n : Int) == 45) = true := by simp; omega
    go_enter Try.func46, Try.ntmps46
    go_wp2_with (fail)
    refine (am_f (by omega) w).mono ?_
    rintro e w2 ⟨rfl, hw2⟩
    obtain rfl : w = w2 := hw2.symm
    go_wp2
    go_ret
    exact ⟨rfl, rfl⟩
  · have hr : isM n = true := decide_eq_true (by omega)
    rw [hr]; clear hr
    have q1 : ((n : Int) == 45) = false := by simp; omega
    have q2 : ((n : Int) == 95) = false := by simp; omega
    have q3 : ((n : Int) == 46) = true := by simp; omega
    go_enter Try.func46, Try.ntmps46
    go_wp2_with (fail)
    refine (am_f (by omega) w).mono ?_
    rintro e w2 ⟨rfl, hw2⟩
    obtain rfl : w = w2 := hw2.symm
    go_wp2
    go_ret
    exact ⟨rfl, rfl⟩
  · have hr : isM n = false := decide_eq_false (by omega)
    rw [hr]; clear hr
    have q1 : ((n : Int) == 45) = false := by simp; omega
    have q2 : ((n : Int) == 95) = false := by simp; omega
    have q3 : ((n : Int) == 46) = false := by simp; omega
    go_enter Try.func46, Try.ntmps46
    go_wp2_with (fail)
    refine (am_f (by omega) w).mono ?_
    rintro e w2 ⟨rfl, hw2⟩
    obtain rfl : w = w2 := hw2.symm
    go_wp2
    go_ret
    exact ⟨rfl, rfl⟩
  · have hr : isM n = true := decide_eq_true (by omega)
    rw [hr]; clear hr
    go_enter Try.func46, Try.ntmps46
    go_wp2_with (fail)
    refine (am_t (by omega) w).mono ?_
    rintro e w2 ⟨rfl, hw2⟩
    obtain rfl : w = w2 := hw2.symm
    go_wp2
    go_ret
    exact ⟨rfl, rfl⟩
  · have hr : isM n = false := decide_eq_false (by omega)
    rw [hr]; clear hr
    have q1 : ((n : Int) == 45) = false := by simp; omega
    have q2 : ((n : Int) == 95) = false := by simp; omega
    have q3 : ((n : Int) == 46) = false := by simp; omega
    go_enter Try.func46, Try.ntmps46
    go_wp2_with (fail)
    refine (am_f (by omega) w).mono ?_
    rintro e w2 ⟨rfl, hw2⟩
    obtain rfl : w = w2 := hw2.symm
    go_wp2
    go_ret
    exact ⟨rfl, rfl⟩
  · have hr : isM n = true := decide_eq_true (by omega)
    rw [hr]; clear hr
    have q1 : ((n : Int) == 45) = false := by simp; omega
    have q2 : ((n : Int) == 95) = true := by simp; omega
    go_enter Try.func46, Try.ntmps46
    go_wp2_with (fail)
    refine (am_f (by omega) w).mono ?_
    rintro e w2 ⟨rfl, hw2⟩
    obtain rfl : w = w2 := hw2.symm
    go_wp2
    go_ret
    exact ⟨rfl, rfl⟩
  · have hr : isM n = false := decide_eq_false (by omega)
    rw [hr]; clear hr
    have q1 : ((n : Int) == 45) = false := by simp; omega
    have q2 : ((n : Int) == 95) = false := by simp; omega
    have q3 : ((n : Int) == 46) = false := by simp; omega
    go_enter Try.func46, Try.ntmps46
    go_wp2_with (fail)
    refine (am_f (by omega) w).mono ?_
    rintro e w2 ⟨rfl, hw2⟩
    obtain rfl : w = w2 := hw2.symm
    go_wp2
    go_ret
    exact ⟨rfl, rfl⟩

end Go.Proofs.Ytlknakijdpeaoaa

/- The program's great letter; no condition. -/
import Derived.Test.YtlknakijdpeaoaaLts
import Derived.Test.YtlknakijdpeaoaaUpp
import Derived.Test.YtlknakijdpeaoaaBase
namespace Go.Proofs.Ytlknakijdpeaoaa
open Go.RowKit Go.ChangeShapes Go.WideShapes Go.ChangeAt
set_option linter.unusedVariables false
set_option linter.unusedSimpArgs false
set_option maxRecDepth 8000
set_option maxHeartbeats 3200000 in
theorem great_c (n : Nat) (w : World) (hn : n ≠ 247) : Calls Try.prog 27 #[.int .i32 (n : Int)] w fun e w' => e = .returned (.int .i32 ((up n : Nat) : Int)) ∧ w' = w := by
  rcases (show (0 ≤ n ∧ n ≤ 96) ∨ (97 ≤ n ∧ n ≤ 122) ∨ (123 ≤ n ∧ n ≤ 223) ∨ (224 ≤ n ∧ n ≤ 246) ∨ (248 ≤ n ∧ n ≤ 254) ∨ (255 ≤ n ∧ n ≤ 944) ∨ (945 ≤ n ∧ n ≤ 961) ∨ (962 ≤ n ∧ n ≤ 962) ∨ (963 ≤ n ∧ n ≤ 969) ∨ (970 ≤ n ∧ n ≤ 1071) ∨ (1072 ≤ n ∧ n ≤ 1103) ∨ 1104 ≤ n by omega) with h | h | h | h | h | h | h | h | h | h | h | h
  · have hr : ((up n : Nat) : Int) = (n : Int) := by unfold up; rw [if_neg (by omega)]
    rw [hr]; clear hr
    have q1 : ((n : Int) == 962) = false := by simp; omega
    go_enter Try.func27, Try.ntmps27
    go_wp2_with (fail)
    refine (am_f (by omega) w).mono ?_
    rintro e w2 ⟨rfl, hw2⟩
    obtain rfl : w = w2 := hw2.symm
    go_wp2_with (fail)
    refine (am_f (by omega) w).mono ?_
    rintro e w2 ⟨rfl, hw2⟩
    obtain rfl : w = w2 := hw2.symm
    go_wp2_with (fail)
    refine (am_f (by omega) w).mono ?_
    rintro e w2 ⟨rfl, hw2⟩
    obtain rfl : w = w2 := hw2.symm
    go_wp2_with (fail)
    refine (am_f (by omega) w).mono ?_
    rintro e w2 ⟨rfl, hw2⟩
    obtain rfl : w = w2 := hw2.symm
    go_wp2
    go_ret
    first | exact ⟨rfl, rfl⟩ | (refine ⟨ret_int ?_, rfl⟩; simp [IntKind.wrap, IntKind.signed, IntKind.bits]; omega)
  · have hr : ((up n : Nat) : Int) = (n : Int) - 32 := by unfold up; rw [if_pos (by omega)]; omega
    rw [hr]; clear hr
    have q1 : ((n : Int) == 962) = false := by simp; omega
    go_enter Try.func27, Try.ntmps27
    go_wp2_with (fail)
    refine (am_t (by omega) w).mono ?_
    rintro e w2 ⟨rfl, hw2⟩
    obtain rfl : w = w2 := hw2.symm
    go_wp2
    go_ret
    first | exact ⟨rfl, rfl⟩ | (refine ⟨ret_int ?_, rfl⟩; simp [IntKind.wrap, IntKind.signed, IntKind.bits]; omega)
  · have hr : ((up n : Nat) : Int) = (n : Int) := by unfold up; rw [if_neg (by omega)]
    rw [hr]; clear hr
    have q1 : ((n : Int) == 962) = false := by simp; omega
    go_enter Try.func27, Try.ntmps27
    go_wp2_with (fail)
    refine (am_f (by omega) w).mono ?_
    rintro e w2 ⟨rfl, hw2⟩
    obtain rfl : w = w2 := hw2.symm
    go_wp2_with (fail)
    refine (am_f (by omega) w).mono ?_
    rintro e w2 ⟨rfl, hw2⟩
    obtain rfl : w = w2 := hw2.symm
    go_wp2_with (fail)
    refine (am_f (by omega) w).mono ?_
    rintro e w2 ⟨rfl, hw2⟩
    obtain rfl : w = w2 := hw2.symm
    go_wp2_with (fail)
    refine (am_f (by omega) w).mono ?_
    rintro e w2 ⟨rfl, hw2⟩
    obtain rfl : w = w2 := hw2.symm
    go_wp2
    go_ret
    first | exact ⟨rfl, rfl⟩ | (refine ⟨ret_int ?_, rfl⟩; simp [IntKind.wrap, IntKind.signed, IntKind.bits]; omega)
  · have hr : ((up n : Nat) : Int) = (n : Int) - 32 := by unfold up; rw [if_pos (by omega)]; omega
    rw [hr]; clear hr
    have q1 : ((n : Int) == 962) = false := by simp; omega
    go_enter Try.func27, Try.ntmps27
    go_wp2_with (fail)
    refine (am_f (by omega) w).mono ?_
    rintro e w2 ⟨rfl, hw2⟩
    obtain rfl : w = w2 := hw2.symm
    go_wp2_with (fail)
    refine (am_t (by omega) w).mono ?_
    rintro e w2 ⟨rfl, hw2⟩
    obtain rfl : w = w2 := hw2.symm
    go_wp2
    go_ret
    first | exact ⟨rfl, rfl⟩ | (refine ⟨ret_int ?_, rfl⟩; simp [IntKind.wrap, IntKind.signed, IntKind.bits]; omega)
  · have hr : ((up n : Nat) : Int) = (n : Int) - 32 := by unfold up; rw [if_pos (by omega)]; omega
    rw [hr]; clear hr
    have q1 : ((n : Int) == 962) = false := by simp; omega
    go_enter Try.func27, Try.ntmps27
    go_wp2_with (fail)
    refine (am_f (by omega) w).mono ?_
    rintro e w2 ⟨rfl, hw2⟩
    obtain rfl : w = w2 := hw2.symm
    go_wp2_with (fail)
    refine (am_t (by omega) w).mono ?_
    rintro e w2 ⟨rfl, hw2⟩
    obtain rfl : w = w2 := hw2.symm
    go_wp2
    go_ret
    first | exact ⟨rfl, rfl⟩ | (refine ⟨ret_int ?_, rfl⟩; simp [IntKind.wrap, IntKind.signed, IntKind.bits]; omega)
  · have hr : ((up n : Nat) : Int) = (n : Int) := by unfold up; rw [if_neg (by omega)]
    rw [hr]; clear hr
    have q1 : ((n : Int) == 962) = false := by simp; omega
    go_enter Try.func27, Try.ntmps27
    go_wp2_with (fail)
    refine (am_f (by omega) w).mono ?_
    rintro e w2 ⟨rfl, hw2⟩
    obtain rfl : w = w2 := hw2.symm
    go_wp2_with (fail)
    refine (am_f (by omega) w).mono ?_
    rintro e w2 ⟨rfl, hw2⟩
    obtain rfl : w = w2 := hw2.symm
    go_wp2_with (fail)
    refine (am_f (by omega) w).mono ?_
    rintro e w2 ⟨rfl, hw2⟩
    obtain rfl : w = w2 := hw2.symm
    go_wp2_with (fail)
    refine (am_f (by omega) w).mono ?_
    rintro e w2 ⟨rfl, hw2⟩
    obtain rfl : w = w2 := hw2.symm
    go_wp2
    go_ret
    first | exact ⟨rfl, rfl⟩ | (refine ⟨ret_int ?_, rfl⟩; simp [IntKind.wrap, IntKind.signed, IntKind.bits]; omega)
  · have hr : ((up n : Nat) : Int) = (n : Int) - 32 := by unfold up; rw [if_pos (by omega)]; omega
    rw [hr]; clear hr
    have q1 : ((n : Int) == 962) = false := by simp; omega
    go_enter Try.func27, Try.ntmps27
    go_wp2_with (fail)
    refine (am_f (by omega) w).mono ?_
    rintro e w2 ⟨rfl, hw2⟩
    obtain rfl : w = w2 := hw2.symm
    go_wp2_with (fail)
    refine (am_f (by omega) w).mono ?_
    rintro e w2 ⟨rfl, hw2⟩
    obtain rfl : w = w2 := hw2.symm
    go_wp2_with (fail)
    refine (am_t (by omega) w).mono ?_
    rintro e w2 ⟨rfl, hw2⟩
    obtain rfl : w = w2 := hw2.symm
    go_wp2
    go_ret
    first | exact ⟨rfl, rfl⟩ | (refine ⟨ret_int ?_, rfl⟩; simp [IntKind.wrap, IntKind.signed, IntKind.bits]; omega)
  · have hr : ((up n : Nat) : Int) = (n : Int) := by unfold up; rw [if_neg (by omega)]
    rw [hr]; clear hr
    have q1 : ((n : Int) == 962) = true := by simp; omega
    go_enter Try.func27, Try.ntmps27
    go_wp2
    go_ret
    first | exact ⟨rfl, rfl⟩ | (refine ⟨ret_int ?_, rfl⟩; simp [IntKind.wrap, IntKind.signed, IntKind.bits]; omega)
  · have hr : ((up n : Nat) : Int) = (n : Int) - 32 := by unfold up; rw [if_pos (by omega)]; omega
    rw [hr]; clear hr
    have q1 : ((n : Int) == 962) = false := by simp; omega
    go_enter Try.func27, Try.ntmps27
    go_wp2_with (fail)
    refine (am_f (by omega) w).mono ?_
    rintro e w2 ⟨rfl, hw2⟩
    obtain rfl : w = w2 := hw2.symm
    go_wp2_with (fail)
    refine (am_f (by omega) w).mono ?_
    rintro e w2 ⟨rfl, hw2⟩
    obtain rfl : w = w2 := hw2.symm
    go_wp2_with (fail)
    refine (am_t (by omega) w).mono ?_
    rintro e w2 ⟨rfl, hw2⟩
    obtain rfl : w = w2 := hw2.symm
    go_wp2
    go_ret
    first | exact ⟨rfl, rfl⟩ | (refine ⟨ret_int ?_, rfl⟩; simp [IntKind.wrap, IntKind.signed, IntKind.bits]; omega)
  · have hr : ((up n : Nat) : Int) = (n : Int) := by unfold up; rw [if_neg (by omega)]
    rw [hr]; clear hr
    have q1 : ((n : Int) == 962) = false := by simp; omega
    go_enter Try.func27, Try.ntmps27
    go_wp2_with (fail)
    refine (am_f (by omega) w).mono ?_
    rintro e w2 ⟨rfl, hw2⟩
    obtain rfl : w = w2 := hw2.symm
    go_wp2_with (fail)
    refine (am_f (by omega) w).mono ?_
    rintro e w2 ⟨rfl, hw2⟩
    obtain rfl : w = w2 := hw2.symm
    go_wp2_with (fail)
    refine (am_f (by omega) w).mono ?_
    rintro e w2 ⟨rfl, hw2⟩
    obtain rfl : w = w2 := hw2.symm
    go_wp2_with (fail)
    refine (am_f (by omega) w).mono ?_
    rintro e w2 ⟨rfl, hw2⟩
    obtain rfl : w = w2 := hw2.symm
    go_wp2
    go_ret
    first | exact ⟨rfl, rfl⟩ | (refine ⟨ret_int ?_, rfl⟩; simp [IntKind.wrap, IntKind.signed, IntKind.bits]; omega)
  · have hr : ((up n : Nat) : Int) = (n : Int) - 32 := by unfold up; rw [if_pos (by omega)]; omega
    rw [hr]; clear hr
    have q1 : ((n : Int) == 962) = false := by simp; omega
    go_enter Try.func27, Try.ntmps27
    go_wp2_with (fail)
    refine (am_f (by omega) w).mono ?_
    rintro e w2 ⟨rfl, hw2⟩
    obtain rfl : w = w2 := hw2.symm
    go_wp2_with (fail)
    refine (am_f (by omega) w).mono ?_
    rintro e w2 ⟨rfl, hw2⟩
    obtain rfl : w = w2 := hw2.symm
    go_wp2_with (fail)
    refine (am_f (by omega) w).mono ?_
    rintro e w2 ⟨rfl, hw2⟩
    obtain rfl : w = w2 := hw2.symm
    go_wp2_with (fail)
    refine (am_t (by omega) w).mono ?_
    rintro e w2 ⟨rfl, hw2⟩
    obtain rfl : w = w2 := hw2.symm
    go_wp2
    go_ret
    first | exact ⟨rfl, rfl⟩ | (refine ⟨ret_int ?_, rfl⟩; simp [IntKind.wrap, IntKind.signed, IntKind.bits]; omega)
  · have hr : ((up n : Nat) : Int) = (n : Int) := by unfold up; rw [if_neg (by omega)]
    rw [hr]; clear hr
    have q1 : ((n : Int) == 962) = false := by simp; omega
    go_enter Try.func27, Try.ntmps27
    go_wp2_with (fail)
    refine (am_f (by omega) w).mono ?_
    rintro e w2 ⟨rfl, hw2⟩
    obtain rfl : w = w2 := hw2.symm
    go_wp2_with (fail)
    refine (am_f (by omega) w).mono ?_
    rintro e w2 ⟨rfl, hw2⟩
    obtain rfl : w = w2 := hw2.symm
    go_wp2_with (fail)
    refine (am_f (by omega) w).mono ?_
    rintro e w2 ⟨rfl, hw2⟩
    obtain rfl : w = w2 := hw2.symm
    go_wp2_with (fail)
    refine (am_f (by omega) w).mono ?_
    rintro e w2 ⟨rfl, hw2⟩
    obtain rfl : w = w2 := hw2.symm
    go_wp2
    go_ret
    first | exact ⟨rfl, rfl⟩ | (refine ⟨ret_int ?_, rfl⟩; simp [IntKind.wrap, IntKind.signed, IntKind.bits]; omega)

end Go.Proofs.Ytlknakijdpeaoaa

/- FnExactStrength's body answers true at all numbers; no condition. -/
import Derived.Test.YtikhfeafbckjlaaFIn
namespace Go.Proofs.Ytikhfeafbckjlaa
open Go.RowKit Go.ChangeShapes Go.WideShapes Go.ChangeAt
set_option linter.unusedVariables false
set_option linter.unusedSimpArgs false
set_option maxRecDepth 8000
/-- how strong -/
def stren (p m : Int) : Int := if p < 1 ∨ 4 < p then 0 else if 2 * p - 1 ≤ m then 2 else if p ≤ m then 1 else 0
theorem strength_c (p m : Int) (w : World) : Calls Try.prog 10 #[.int .i64 p, .int .i64 m] w fun e w' => e = .returned (.int .i64 (stren p m)) ∧ w' = w := by
  by_cases h1 : 1 ≤ p ∧ p ≤ 4
  · have hd : decide (1 ≤ p ∧ p ≤ 4) = true := by simp only [decide_eq_true_eq]; exact h1
    obtain ⟨a, b⟩ := h1
    by_cases h2 : 2 * p - 1 ≤ m
    · have hs : stren p m = 2 := by unfold stren; rw [if_neg (by omega), if_pos h2]
      rw [hs]; clear hs
      go_enter Try.func10, Try.ntmps10
      go_wp2_with (go_at_call 13; refine (in_c _ _ _ _).mono ?_; rintro e w2 ⟨rfl, rfl⟩; rw [hd])
      go_ret
      exact ⟨rfl, rfl⟩
    · by_cases h3 : p ≤ m
      · have hs : stren p m = 1 := by unfold stren; rw [if_neg (by omega), if_neg h2, if_pos h3]
        rw [hs]; clear hs
        go_enter Try.func10, Try.ntmps10
        go_wp2_with (go_at_call 13; refine (in_c _ _ _ _).mono ?_; rintro e w2 ⟨rfl, rfl⟩; rw [hd])
        go_ret
        exact ⟨rfl, rfl⟩
      · have hs : stren p m = 0 := by unfold stren; rw [if_neg (by omega), if_neg h2, if_neg h3]
        rw [hs]; clear hs
        go_enter Try.func10, Try.ntmps10
        go_wp2_with (go_at_call 13; refine (in_c _ _ _ _).mono ?_; rintro e w2 ⟨rfl, rfl⟩; rw [hd])
        go_ret
        exact ⟨rfl, rfl⟩
  · have hd : decide (1 ≤ p ∧ p ≤ 4) = false := by simp only [decide_eq_false_iff_not]; exact h1
    have hs : stren p m = 0 := by unfold stren; rw [if_pos (by omega)]
    rw [hs]; clear hs h1
    go_enter Try.func10, Try.ntmps10
    go_wp2_with (go_at_call 13; refine (in_c _ _ _ _).mono ?_; rintro e w2 ⟨rfl, rfl⟩; rw [hd])
    go_ret
    exact ⟨rfl, rfl⟩
theorem strengthI_c (p m : Int) (w : World) : Calls Try.prog 11 #[.int .i64 p, .int .i64 m] w fun e w' => e = .returned (.int .i64 (stren p m)) ∧ w' = w := by
  by_cases h1 : p < 1
  · have hs : stren p m = 0 := by unfold stren; rw [if_pos (by omega)]
    rw [hs]; clear hs
    go_enter Try.func11, Try.ntmps11
    go_wp2
    go_ret
    exact ⟨rfl, rfl⟩
  by_cases h4 : 4 < p
  · have hs : stren p m = 0 := by unfold stren; rw [if_pos (by omega)]
    rw [hs]; clear hs
    go_enter Try.func11, Try.ntmps11
    go_wp2
    go_ret
    exact ⟨rfl, rfl⟩
  by_cases h2 : 2 * p - 1 ≤ m
  · have hs : stren p m = 2 := by unfold stren; rw [if_neg (by omega), if_pos h2]
    rw [hs]; clear hs
    go_enter Try.func11, Try.ntmps11
    go_wp2
    go_ret
    exact ⟨rfl, rfl⟩
  by_cases h3 : p ≤ m
  · have hs : stren p m = 1 := by unfold stren; rw [if_neg (by omega), if_neg h2, if_pos h3]
    rw [hs]; clear hs
    go_enter Try.func11, Try.ntmps11
    go_wp2
    go_ret
    exact ⟨rfl, rfl⟩
  · have hs : stren p m = 0 := by unfold stren; rw [if_neg (by omega), if_neg h2, if_neg h3]
    rw [hs]; clear hs
    go_enter Try.func11, Try.ntmps11
    go_wp2
    go_ret
    exact ⟨rfl, rfl⟩
theorem strengthLaw (p m : Int) (w : World) : Calls Try.prog 4 #[.int .i64 p, .int .i64 m] w fun e w' => e = .returned (.bool true) ∧ Below w.heap.size w w' := by
  go_enter Try.func4, Try.ntmps4
  go_wp2_with (fail)
  refine (strength_c p m w).mono ?_
  rintro e w2 ⟨rfl, rfl⟩
  go_wp2_with (fail)
  refine (strengthI_c p m w2).mono ?_
  rintro e w3 ⟨rfl, rfl⟩
  have hb : (stren p m != stren p m) = false := by simp
  go_wp2
  go_ret
  exact ⟨rfl, Below.refl _ _⟩
end Go.Proofs.Ytikhfeafbckjlaa

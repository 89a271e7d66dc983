/- Numbers within bounds; no condition. -/
import Derived.Test.YtlknakijdpeaoaaBase
namespace Go.Proofs.Ytlknakijdpeaoaa
open Go.RowKit Go.ChangeShapes Go.WideShapes Go.ChangeAt
set_option linter.unusedVariables false
set_option linter.unusedSimpArgs false
set_option maxRecDepth 8000
set_option maxHeartbeats 800000 in
theorem within_c (x lo hi : Int) (w : World) : Calls Try.prog 44 #[.int .i64 x, .int .i64 lo, .int .i64 hi] w fun e w' => e = .returned (.bool (decide (lo ≤ x ∧ x ≤ hi))) ∧ w' = w := by
  by_cases h1 : lo ≤ x
  · have d1 : decide (lo ≤ x) = true := decide_eq_true h1
    by_cases h2 : x ≤ hi
    · have d2 : decide (x ≤ hi) = true := decide_eq_true h2
      have HF : Hid (decide (lo ≤ x ∧ x ≤ hi) = true) := decide_eq_true ⟨h1, h2⟩
      go_enter Try.func44, Try.ntmps44
      go_wp2
      go_ret
      exact ⟨by rw [HF.out]; rfl, rfl⟩
    · have d2 : decide (x ≤ hi) = false := decide_eq_false h2
      have d3 : (x ≤ hi) = False := eq_false h2
      have HF : Hid (decide (lo ≤ x ∧ x ≤ hi) = false) := decide_eq_false (fun h => h2 h.2)
      clear h2
      go_enter Try.func44, Try.ntmps44
      go_wp2
      go_ret
      exact ⟨by rw [HF.out]; rfl, rfl⟩
  · have d1 : decide (lo ≤ x) = false := decide_eq_false h1
    have d3 : (lo ≤ x) = False := eq_false h1
    have HF : Hid (decide (lo ≤ x ∧ x ≤ hi) = false) := decide_eq_false (fun h => h1 h.1)
    clear h1
    go_enter Try.func44, Try.ntmps44
    go_wp2
    go_ret
    exact ⟨by rw [HF.out]; rfl, rfl⟩

set_option maxHeartbeats 800000 in
theorem in_c (x lo hi : Int) (w : World) : Calls Try.prog 29 #[.int .i64 x, .int .i64 lo, .int .i64 hi] w fun e w' => e = .returned (.bool (decide (lo ≤ x ∧ x ≤ hi))) ∧ w' = w := by
  by_cases h1 : lo ≤ x
  · have d1 : decide (lo ≤ x) = true := decide_eq_true h1
    by_cases h2 : x ≤ hi
    · have d2 : decide (x ≤ hi) = true := decide_eq_true h2
      have HF : Hid (decide (lo ≤ x ∧ x ≤ hi) = true) := decide_eq_true ⟨h1, h2⟩
      go_enter Try.func29, Try.ntmps29
      go_wp2
      go_ret
      exact ⟨by rw [HF.out]; rfl, rfl⟩
    · have d2 : decide (x ≤ hi) = false := decide_eq_false h2
      have d3 : (x ≤ hi) = False := eq_false h2
      have HF : Hid (decide (lo ≤ x ∧ x ≤ hi) = false) := decide_eq_false (fun h => h2 h.2)
      clear h2
      go_enter Try.func29, Try.ntmps29
      go_wp2
      go_ret
      exact ⟨by rw [HF.out]; rfl, rfl⟩
  · have d1 : decide (lo ≤ x) = false := decide_eq_false h1
    have d3 : (lo ≤ x) = False := eq_false h1
    have HF : Hid (decide (lo ≤ x ∧ x ≤ hi) = false) := decide_eq_false (fun h => h1 h.1)
    clear h1
    go_enter Try.func29, Try.ntmps29
    go_wp2
    go_ret
    exact ⟨by rw [HF.out]; rfl, rfl⟩

/-- are all of them from lo to hi? -/
def awB (zs : List Int) (lo hi : Int) : Bool := zs.all fun z => decide (lo ≤ z ∧ z ≤ hi)
theorem awB_at {zs : List Int} {lo hi : Int} (h : awB zs lo hi = true) (k : Nat) (hk : k < zs.length) : lo ≤ zs.getD k 0 ∧ zs.getD k 0 ≤ hi := by
  rw [List.getD_eq_getElem?_getD, List.getElem?_eq_getElem hk]
  exact of_decide_eq_true (List.all_eq_true.1 h _ (List.getElem_mem hk))
theorem awB_no {zs : List Int} {lo hi : Int} (k : Nat) (hk : k < zs.length) (h : ¬ (lo ≤ zs.getD k 0 ∧ zs.getD k 0 ≤ hi)) : awB zs lo hi = false := by
  cases e : awB zs lo hi with
  | false => rfl
  | true => exact absurd (awB_at e k hk) h
theorem awB_yes {zs : List Int} {lo hi : Int} (h : ∀ k, k < zs.length → lo ≤ zs.getD k 0 ∧ zs.getD k 0 ≤ hi) : awB zs lo hi = true := by
  refine List.all_eq_true.2 fun z hz => decide_eq_true ?_
  obtain ⟨k, hk, rfl⟩ := List.getElem_of_mem hz
  have := h k hk
  rwa [List.getD_eq_getElem?_getD, List.getElem?_eq_getElem hk] at this

end Go.Proofs.Ytlknakijdpeaoaa

/- What makes a duo right, and the small tests of it; no condition. -/
import Derived.Test.YtljejjfhlpjlfaaDuB
namespace Go.Proofs.Ytljejjfhlpjlfaa
open Go.RowKit Go.ChangeShapes Go.WideShapes Go.ChangeAt
set_option linter.unusedVariables false
set_option linter.unusedSimpArgs false
set_option maxRecDepth 8000

/-- a signal that may be on the way, half 0 having the call c -/
def SgOk (c : Int) (x : Int × Int × Int) : Prop := (0 ≤ x.1 ∧ x.1 ≤ 1) ∧ (1 ≤ x.2.1 ∧ x.2.1 ≤ 4) ∧ (0 ≤ x.2.2 ∧ x.2.2 ≤ c)
/-- a right duo -/
def DOk (s c s' c' : Int) (ls : Tri) : Prop := (0 ≤ s ∧ s ≤ 4) ∧ s ≠ 2 ∧ (0 ≤ s' ∧ s' ≤ 4) ∧ s' ≠ 1 ∧ (0 ≤ c ∧ c ≤ 1000) ∧ (0 ≤ c' ∧ c' ≤ c) ∧ ls.length ≤ 40 ∧ ∀ k (h : k < ls.length), SgOk c ls[k]
theorem stateOk_b (x : Int) (b : Bool) (hb : decide (0 ≤ x ∧ x ≤ 4) = b) (w : World) : Calls Try.prog 46 #[.int .i64 x] w fun e w' => e = .returned (.bool b) ∧ w' = w := by
  subst hb
  go_enter Try.func46, Try.ntmps46
  by_cases h0 : 0 ≤ x
  · by_cases h1 : x ≤ 4
    · go_wp2
      go_ret
      simp [h0, h1]
    · go_wp2
      go_ret
      simp [h1]
  · go_wp2
    go_ret
    simp [h0]
    try omega
theorem callOk_b (x m : Int) (b : Bool) (hb : decide (0 ≤ x ∧ x ≤ m) = b) (w : World) : Calls Try.prog 47 #[.int .i64 x, .int .i64 m] w fun e w' => e = .returned (.bool b) ∧ w' = w := by
  subst hb
  go_enter Try.func47, Try.ntmps47
  by_cases h0 : 0 ≤ x
  · by_cases h1 : x ≤ m
    · go_wp2
      go_ret
      simp [h0, h1]
    · go_wp2
      go_ret
      simp [h1]
  · go_wp2
    go_ret
    simp [h0]
    try omega
theorem halfOk_b (x : Int) (b : Bool) (hb : decide (0 ≤ x ∧ x ≤ 1) = b) (w : World) : Calls Try.prog 48 #[.int .i64 x] w fun e w' => e = .returned (.bool b) ∧ w' = w := by
  subst hb
  go_enter Try.func48, Try.ntmps48
  by_cases h0 : x = 0
  · subst h0
    go_wp2
    go_ret
    simp
  · by_cases h1 : x = 1
    · subst h1
      go_wp2
      go_ret
      simp
    · have h2 : decide (0 ≤ x ∧ x ≤ 1) = false := by simp; omega
      have H2 : Hid _ := h2
      clear h2
      go_wp2
      go_ret
      refine ⟨?_, rfl⟩
      rw [H2.out]
      simp [h0, h1]
theorem l1In_b (x l m : Int) (b : Bool) (hb : decide (l ≤ x ∧ x ≤ m) = b) (w : World) : Calls Try.prog 41 #[.int .i64 x, .int .i64 l, .int .i64 m] w fun e w' => e = .returned (.bool b) ∧ w' = w := by
  subst hb
  go_enter Try.func41, Try.ntmps41
  by_cases h0 : l ≤ x
  · by_cases h1 : x ≤ m
    · go_wp2
      go_ret
      simp [h0, h1]
    · go_wp2
      go_ret
      simp [h1]
  · go_wp2
    go_ret
    simp [h0]
    try omega
def OkR (s c s' c' : Int) (ls : Tri) (w : World) (e : Ending) (w' : World) : Prop := ∃ r, e = .returned (.bool r) ∧ (r = true ↔ DOk s c s' c' ls) ∧ Below w.heap.size w w'
theorem OkR.no {s c s' c' : Int} {ls : Tri} {w w' : World} (h : ¬ DOk s c s' c' ls) (b : Below w.heap.size w w') : OkR s c s' c' ls w (.returned (.bool false)) w' := ⟨_, rfl, ⟨fun h => (by cases h), fun h' => absurd h' h⟩, b⟩
theorem OkR.yes {s c s' c' : Int} {ls : Tri} {w w' : World} (h : DOk s c s' c' ls) (b : Below w.heap.size w w') : OkR s c s' c' ls w (.returned (.bool true)) w' := ⟨_, rfl, ⟨fun _ => h, fun _ => rfl⟩, b⟩

end Go.Proofs.Ytljejjfhlpjlfaa

/- Contracts of what asks for an inlet, and whether two paths clash: the model's and the program's; no condition. -/
import Derived.Test.YtikhfeafbckjlaaDoorFab
namespace Go.Proofs.YtikhfeafbckjlaaDoor
open Go.RowKit Go.ChangeShapes Go.WideShapes Go.ChangeAt
set_option linter.unusedVariables false
set_option linter.unusedSimpArgs false
set_option maxRecDepth 8000
theorem in_c (x lo hi : Int) (w : World) : Calls Tryd.prog 49 #[.int .i64 x, .int .i64 lo, .int .i64 hi] w fun e w' => e = .returned (.bool (decide (lo ≤ x ∧ x ≤ hi))) ∧ w' = w := by
  go_enter Tryd.func49, Tryd.ntmps49
  by_cases h1 : lo ≤ x <;> by_cases h2 : x ≤ hi
  all_goals
    go_wp2
    go_ret
    exact ⟨by simp [h1, h2], rfl⟩
/-- an inlet or an outlet -/
def FEnd (n x : Int) : Prop := 0 ≤ x ∧ x ≤ n - 1
instance (n x : Int) : Decidable (FEnd n x) := inferInstanceAs (Decidable (0 ≤ x ∧ x ≤ n - 1))
theorem fend_b (n x : Int) : (decide (0 ≤ x) && decide (x ≤ n - 1)) = decide (FEnd n x) := by rw [Bool.eq_iff_iff, decide_eq_true_iff]; simp [FEnd]
theorem end_c (s p m n : Int) (v : Value) (x : Int) (w : World) (hn : s * p = n) (h1 : 1 ≤ n) (h2 : n ≤ 24) : Calls Tryd.prog 45 #[.agg (F4 s p m v), .int .i64 x] w fun e w' => e = .returned (.bool (decide (FEnd n x))) ∧ Below w.heap.size w w' := by
  have HB : Hid (Below w.heap.size w (w.alloc (Obj.cells (F4 s p m v) 26))) := (Below.refl _ _).alloc (Nat.le_refl _) _
  go_enter Tryd.func45, Tryd.ntmps45
  go_wp2_with (fail)
  refine (in_c _ _ _ _).mono ?_
  rintro e w2 ⟨rfl, rfl⟩
  go_wp2
  go_ret
  exact ⟨by rw [← fend_b]; rfl, HB.out⟩
theorem port_c (s p m n : Int) (v : Value) (x : Int) (w : World) (hn : s * p = n) (h1 : 1 ≤ n) (h2 : n ≤ 24) : Calls Tryd.prog 37 #[.agg (F4 s p m v), .int .i64 x] w fun e w' => e = .returned (.bool (decide (FEnd n x))) ∧ Below w.heap.size w w' := by
  have HB : Hid (Below w.heap.size w (w.alloc (Obj.cells (F4 s p m v) 26))) := (Below.refl _ _).alloc (Nat.le_refl _) _
  go_enter Tryd.func37, Tryd.ntmps37
  by_cases h3 : 0 ≤ x <;> by_cases h4 : x < n
  all_goals
    have hd : decide (FEnd n x) = decide (0 ≤ x ∧ x < n) := decide_eq_decide.2 (by unfold FEnd; omega)
    rw [hd]
    clear hd
    go_wp2
    go_ret
    refine ⟨?_, HB.out⟩
    simp [h3, h4]
/-- two paths that may not stand in one fabric -/
def Clash (p : Int) (a b : Int × Int × Int) : Prop := a.1 = b.1 ∨ a.2.1 = b.2.1 ∨ (a.2.2 = b.2.2 ∧ (a.1 / p = b.1 / p ∨ a.2.1 / p = b.2.1 / p))
instance (p : Int) (a b : Int × Int × Int) : Decidable (Clash p a b) := inferInstanceAs (Decidable (a.1 = b.1 ∨ a.2.1 = b.2.1 ∨ (a.2.2 = b.2.2 ∧ (a.1 / p = b.1 / p ∨ a.2.1 / p = b.2.1 / p))))
theorem clash_b (p x y z x' y' z' : Int) : decide (Clash p (x, y, z) (x', y', z')) = ((x == x') || (y == y') || ((z == z') && ((x / p == x' / p) || (y / p == y' / p)))) := by
  rw [Bool.eq_iff_iff, decide_eq_true_iff]; simp [Clash, or_assoc]
theorem clash_b' (p x y z x' y' z' : Int) : decide (Clash p (x, y, z) (x', y', z')) = ((x' == x) || (y' == y) || ((z' == z) && ((x' / p == x / p) || (y' / p == y / p)))) := by
  have c : ∀ a b : Int, (a == b) = (b == a) := fun a b => Bool.beq_comm
  rw [clash_b, c x x', c y y', c z z', c (x / p), c (y / p)]
set_option maxHeartbeats 3200000 in
theorem clash_c (s p m : Int) (v : Value) (x y z x' y' z' : Int) (w : World) (hp : 1 ≤ p) (hp4 : p ≤ 4) (hx : 0 ≤ x) (hx2 : x ≤ 23) (hy : 0 ≤ y) (hy2 : y ≤ 23) (hx' : 0 ≤ x') (hx2' : x' ≤ 23) (hy' : 0 ≤ y') (hy2' : y' ≤ 23) : Calls Tryd.prog 50 #[.agg (F4 s p m v), .agg (P3 x y z), .agg (P3 x' y' z')] w fun e w' => e = .returned (.bool (decide (Clash p (x, y, z) (x', y', z')))) ∧ Below w.heap.size w w' := by
  have hcl := clash_b p x y z x' y' z'
  obtain ⟨b1, h1⟩ : ∃ b, (x == x') = b := ⟨_, rfl⟩
  obtain ⟨b2, h2⟩ : ∃ b, (y == y') = b := ⟨_, rfl⟩
  obtain ⟨b3, h3⟩ : ∃ b, (z == z') = b := ⟨_, rfl⟩
  obtain ⟨b4, h4⟩ : ∃ b, (x / p == x' / p) = b := ⟨_, rfl⟩
  obtain ⟨b5, h5⟩ : ∃ b, (y / p == y' / p) = b := ⟨_, rfl⟩
  rw [h1, h2, h3, h4, h5] at hcl
  rw [hcl]
  clear hcl
  have hp0 : p ≠ 0 := by omega
  have HB : Hid (Below w.heap.size w (((w.alloc (Obj.cells (F4 s p m v) 26)).alloc (Obj.cells (P3 x y z) 35)).alloc (Obj.cells (P3 x' y' z') 35))) := (((Below.refl _ _).alloc (Nat.le_refl _) _).alloc (by simp) _).alloc (by simp; omega) _
  go_enter Tryd.func50, Tryd.ntmps50
  cases b1 with
  | true =>
    go_wp2
    go_ret
    exact ⟨by simp, HB.out⟩
  | false =>
    cases b2 with
    | true =>
      go_wp2
      go_ret
      exact ⟨by simp, HB.out⟩
    | false =>
      cases b3 with
      | false =>
        go_wp2
        go_quiet (fail)
        go_wp2
        go_ret
        exact ⟨by simp, below_drewN HB.out _⟩
      | true =>
        cases b4 with
        | true =>
          go_wp2
          go_quiet (fail)
          go_wp2
          go_ret
          exact ⟨by simp, below_drewN HB.out _⟩
        | false =>
          cases b5 with
          | true =>
            go_wp2
            go_quiet (fail)
            go_wp2
            go_ret
            exact ⟨by simp, below_drewN HB.out _⟩
          | false =>
            go_wp2
            go_quiet (fail)
            go_wp2
            go_ret
            exact ⟨by simp, below_drewN HB.out _⟩
end Go.Proofs.YtikhfeafbckjlaaDoor

/- What is settled; two ways of seeing a circuit held against the right ones; no condition. -/
import Derived.Test.YtkehcalijamhjaaTkM
import Derived.DeepKeys
import Derived.Laws.StructEq
namespace Go.Proofs.Ytkehcalijamhjaa
open Go.RowKit Go.ChangeShapes Go.WideShapes Go.ChangeAt
set_option linter.unusedVariables false
set_option linter.unusedSimpArgs false
set_option maxRecDepth 8000
def AlP (x y : Int) : Prop := (x = 0 ∧ y = 0) ∨ (x = 2 ∧ y = 3) ∨ (x = 3 ∧ y = 2)
def StP (z0 z1 : List Int) (l0 l1 : Int) (n0 n1 : Mvs) : Prop := TOk z0 z1 l0 l1 n0 n1 ∧ n0.length = 0 ∧ n1.length = 0 ∧ ∀ k, k < z0.length → AlP (z0.getD k 0) (z1.getD k 0)
theorem part29_0 (a b : Value) (w : World) : (part 3 #[a, b] 0).run Try.prog w = .ok a w := by kernel_rfl
theorem part29_1 (a b : Value) (w : World) : (part 3 #[a, b] 1).run Try.prog w = .ok b w := by kernel_rfl
theorem celln3 : Try.prog.cellsOf 3 = 1 := by kernel_rfl
theorem eqA2run (x y a b : Int) (w : World) : (Op.equalIn 10000 29 (.agg (H2 x y)) (.agg (H2 a b))).run Try.prog w = .ok (decide (x = a ∧ y = b)) w := by
  obtain ⟨i0, hi, -⟩ := info_parts (show (Try.prog.info? 3).map (fun i => (i.zero, i.size, i.bytes)) = some (some (.int .i64 0), 1, 8) by kernel_rfl)
  have hq : ∀ p q : Int, (Op.equalIn 9999 3 (.int .i64 p) (.int .i64 q)).run Try.prog w = .ok (p == q) w := fun p q => run_equalIn_int w 9998 3 .i64 .i64 p q Try.underlying3
  rw [show (10000 : Nat) = 9998 + 1 + 1 from rfl, run_equalIn_array w _ (H2 x y) (H2 a b) Try.underlying29 hi, celln3]
  simp only [show List.range 2 = [0, 1] from rfl, Op.eqItems, Sem.run_bind, Nat.zero_mul, Nat.one_mul, part29_0, part29_1, Result.andThen_ok, show (9998 + 1 : Nat) = 9999 from rfl, hq]
  by_cases h0 : x = a <;> by_cases h1 : y = b <;> simp [h0, h1, part29_1, hq]
theorem guard29 : Try.prog.eqGuardType Try.prog.depth 29 = false := by kernel_rfl
set_option maxHeartbeats 1600000 in
theorem alike_c (x y : Int) (w : World) : Calls Try.prog 51 #[.agg (H2 x y)] w (BoR (AlP x y) w) := by
  have HB : Hid (Below w.heap.size w (w.alloc (Obj.cells (H2 x y) 29))) := (Below.refl _ _).alloc (Nat.le_refl _) _
  by_cases h0 : x = 0 ∧ y = 0
  · have H0 : Hid (x = 0 ∧ y = 0) := h0
    clear h0
    go_enter Try.func51, Try.ntmps51
    go_wp2_with (fail)
    rw [eqA2run, decide_eq_true H0.out]
    simp only [Result.andThen_ok]
    go_wp2
    go_ret
    exact ⟨_, rfl, ⟨fun _ => .inl H0.out, fun _ => rfl⟩, HB.out⟩
  have H0 : Hid (¬ (x = 0 ∧ y = 0)) := h0
  clear h0
  by_cases h1 : x = 2 ∧ y = 3
  · have H1 : Hid (x = 2 ∧ y = 3) := h1
    clear h1
    go_enter Try.func51, Try.ntmps51
    go_wp2_with (fail)
    rw [eqA2run, decide_eq_false H0.out]
    simp only [Result.andThen_ok]
    go_wp2_with (fail)
    rw [eqA2run, decide_eq_true H1.out]
    simp only [Result.andThen_ok]
    go_wp2
    go_ret
    exact ⟨_, rfl, ⟨fun _ => .inr (.inl H1.out), fun _ => rfl⟩, HB.out⟩
  have H1 : Hid (¬ (x = 2 ∧ y = 3)) := h1
  clear h1
  by_cases h2 : x = 3 ∧ y = 2
  · have H2 : Hid (x = 3 ∧ y = 2) := h2
    clear h2
    go_enter Try.func51, Try.ntmps51
    go_wp2_with (fail)
    rw [eqA2run, decide_eq_false H0.out]
    simp only [Result.andThen_ok]
    go_wp2_with (fail)
    rw [eqA2run, decide_eq_false H1.out]
    simp only [Result.andThen_ok]
    go_wp2_with (fail)
    rw [eqA2run, decide_eq_true H2.out]
    simp only [Result.andThen_ok]
    go_wp2
    go_ret
    exact ⟨_, rfl, ⟨fun _ => .inr (.inr H2.out), fun _ => rfl⟩, HB.out⟩
  have H2 : Hid (¬ (x = 3 ∧ y = 2)) := h2
  clear h2
  · go_enter Try.func51, Try.ntmps51
    go_wp2_with (fail)
    rw [eqA2run, decide_eq_false H0.out]
    simp only [Result.andThen_ok]
    go_wp2_with (fail)
    rw [eqA2run, decide_eq_false H1.out]
    simp only [Result.andThen_ok]
    go_wp2_with (fail)
    rw [eqA2run, decide_eq_false H2.out]
    simp only [Result.andThen_ok]
    go_wp2
    go_ret
    exact ⟨_, rfl, ⟨fun h => (by cases h), fun h => by rcases h with h | h | h; exact absurd h H0.out; exact absurd h H1.out; exact absurd h H2.out⟩, HB.out⟩
end Go.Proofs.Ytkehcalijamhjaa

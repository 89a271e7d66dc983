/- The parts that are blocked, as floats; no condition. -/
import Derived.Test.YtiadakponjpkmaaNdb
import Derived.Laws.FloatArith
namespace Go.Proofs.Ytiadakponjpkmaa
open Go.RowKit Go.ChangeShapes Go.WideShapes Go.ChangeAt
set_option linter.unusedVariables false
set_option linter.unusedSimpArgs false
set_option maxRecDepth 8000

/-- the quotient with one circuit more is not greater, as floats -/
def chB (X Y n : Nat) : Bool :=
  match floatBits .quo .f64 (floatOfInt .f64 (blN X Y (n + 1)).1) (floatOfInt .f64 (blN X Y (n + 1)).2), floatBits .quo .f64 (floatOfInt .f64 (blN X Y n).1) (floatOfInt .f64 (blN X Y n).2) with
  | some a, some b => match floatBits .add .f64 b 4427486594234968593 with
    | some d => !(FloatKind.f64.format.order a d == some .gt)
    | none => false
  | _, _ => false
theorem ch_all : (List.range 8).all (fun n => (List.range 21).all fun X => (List.range 10).all fun Y => chB X (Y + 1) n) = true := by decide +kernel
theorem ch_of {X Y n : Nat} (hx : X ≤ 20) (hy : 1 ≤ Y) (hy' : Y ≤ 10) (hn : n < 8) : chB X Y n = true := by
  have h := ch_all
  rw [List.all_eq_true] at h
  have h1 := h n (by simpa using hn)
  rw [List.all_eq_true] at h1
  have h2 := h1 X (by simp; omega)
  rw [List.all_eq_true] at h2
  have h3 := h2 (Y - 1) (by simp; omega)
  rwa [show Y - 1 + 1 = Y by omega] at h3
theorem ch_at {X Y n : Nat} (hx : X ≤ 20) (hy : 1 ≤ Y) (hy' : Y ≤ 10) (hn : n < 8) : ∃ ra rb rd : Nat, floatBits .quo .f64 (floatOfInt .f64 ((blN X Y (n + 1)).1 : Int)) (floatOfInt .f64 ((blN X Y (n + 1)).2 : Int)) = some ra ∧ floatBits .quo .f64 (floatOfInt .f64 ((blN X Y n).1 : Int)) (floatOfInt .f64 ((blN X Y n).2 : Int)) = some rb ∧ floatBits .add .f64 rb 4427486594234968593 = some rd ∧ (FloatKind.f64.format.order ra rd == some .gt) = false := by
  have h := ch_of hx hy hy' hn
  unfold chB at h
  split at h
  · rename_i a b ha hb
    split at h
    · rename_i d hd
      exact ⟨a, b, d, ha, hb, hd, by simpa using h⟩
    · cases h
  · cases h
/-- both sides of the recurrence, as whole numbers -/
theorem low_cross (a b : Nat) : (low a b).1 * b = a * (low a b).2 := by
  obtain ⟨h1, h2⟩ := low_back a b
  obtain ⟨g, hg⟩ : ∃ g, Nat.gcd a b = g := ⟨_, rfl⟩
  rw [hg] at h1 h2
  calc (low a b).1 * b = (low a b).1 * (g * (low a b).2) := by rw [h2]
    _ = (g * (low a b).1) * (low a b).2 := by rw [← Nat.mul_assoc, Nat.mul_comm (low a b).1 g]
    _ = a * (low a b).2 := by rw [h1]
theorem ndO_some {x y pn pd : Int} {k : Nat} (h : ndO x y pn pd = some k) : (0 ≤ x ∧ x ≤ 20) ∧ (1 ≤ y ∧ y ≤ 10) ∧ (0 ≤ pn ∧ pn ≤ 1000) ∧ (1 ≤ pd ∧ pd ≤ 1000) ∧ k ≤ 8 ∧ enB x.toNat y.toNat pn.toNat pd.toNat k = true ∧ ∀ m, m < k → enB x.toNat y.toNat pn.toNat pd.toNat m = false := by
  unfold ndO at h
  split at h
  · rename_i hc
    unfold ldB' ptB at hc
    simp only [Bool.and_eq_true, decide_eq_true_eq] at hc
    rw [List.find?_eq_some_iff_getElem] at h
    obtain ⟨h1, i, hi, h2, h3⟩ := h
    simp at hi h2
    subst h2
    refine ⟨hc.1.1, hc.1.2, hc.2.1, hc.2.2, by omega, h1, fun m hm => ?_⟩
    have := h3 m hm
    simpa using this
  · cases h

end Go.Proofs.Ytiadakponjpkmaa

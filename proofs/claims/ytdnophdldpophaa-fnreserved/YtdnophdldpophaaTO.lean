/- tariffOk; no condition. -/
import Derived.Test.YtdnophdldpophaaTI
namespace Go.Proofs.Ytdnophdldpophaa
open Go.RowKit Go.ChangeShapes Go.WideShapes Go.ChangeAt
set_option linter.unusedVariables false
set_option linter.unusedSimpArgs false
set_option maxRecDepth 8000
set_option maxHeartbeats 3200000 in
theorem tariffOk_c (x : Tf) (w : World) : Calls Try.prog 42 #[.agg #[.int .i64 x.1, .int .i64 x.2.1, .int .i64 x.2.2.1, .int .i64 x.2.2.2.1, .int .i64 x.2.2.2.2]] w fun e w' => e = .returned (.bool (tfB x)) ∧ Below w.heap.size w w' := by
  obtain ⟨z, f, s, p, i⟩ := x
  obtain ⟨b0, h0⟩ : ∃ b, decide (0 ≤ z ∧ z ≤ 99) = b := ⟨_, rfl⟩
  obtain ⟨b1, h1⟩ : ∃ b, decide (0 ≤ f ∧ f ≤ 86399) = b := ⟨_, rfl⟩
  obtain ⟨b2, h2⟩ : ∃ b, decide (1 ≤ s ∧ s ≤ 10000) = b := ⟨_, rfl⟩
  obtain ⟨b3, h3⟩ : ∃ b, decide (0 ≤ p ∧ p ≤ 100000) = b := ⟨_, rfl⟩
  obtain ⟨b4, h4⟩ : ∃ b, decide (0 ≤ i ∧ i ≤ 100000) = b := ⟨_, rfl⟩
  have HT : Hid (tfB (z, f, s, p, i) = (b0 && b1 && b2 && b3 && b4)) := by show tfB _ = _; rw [tfB]; dsimp only; rw [h0, h1, h2, h3, h4]
  have HQ : Hid (decide (0 ≤ z ∧ z ≤ 99) = b0 ∧ decide (0 ≤ f ∧ f ≤ 86399) = b1 ∧ decide (1 ≤ s ∧ s ≤ 10000) = b2 ∧ decide (0 ≤ p ∧ p ≤ 100000) = b3 ∧ decide (0 ≤ i ∧ i ≤ 100000) = b4) := ⟨h0, h1, h2, h3, h4⟩
  clear h0 h1 h2 h3 h4
  have HB : Hid (Below w.heap.size w (w.alloc (Obj.cells #[.int .i64 z, .int .i64 f, .int .i64 s, .int .i64 p, .int .i64 i] 32))) := (Below.refl _ _).alloc (Nat.le_refl _) _
  go_enter Try.func42, Try.ntmps42
  go_wp2_with (fail)
  refine (zoneOk_c _ _).mono ?_
  rintro e w1 ⟨rfl, hw⟩
  rw [hw, HQ.out.1]
  clear hw w1
  cases b0
  · go_wp2
    go_ret
    exact ⟨by rw [HT.out]; rfl, HB.out⟩
  go_wp2_with (fail)
  refine (within_c _ _ _ _).mono ?_
  rintro e w1 ⟨rfl, hw⟩
  rw [hw, HQ.out.2.1]
  clear hw w1
  cases b1
  · go_wp2
    go_ret
    exact ⟨by rw [HT.out]; rfl, HB.out⟩
  go_wp2_with (fail)
  refine (within_c _ _ _ _).mono ?_
  rintro e w1 ⟨rfl, hw⟩
  rw [hw, HQ.out.2.2.1]
  clear hw w1
  cases b2
  · go_wp2
    go_ret
    exact ⟨by rw [HT.out]; rfl, HB.out⟩
  go_wp2_with (fail)
  refine (within_c _ _ _ _).mono ?_
  rintro e w1 ⟨rfl, hw⟩
  rw [hw, HQ.out.2.2.2.1]
  clear hw w1
  cases b3
  · go_wp2
    go_ret
    exact ⟨by rw [HT.out]; rfl, HB.out⟩
  go_wp2_with (fail)
  refine (within_c _ _ _ _).mono ?_
  rintro e w1 ⟨rfl, hw⟩
  rw [hw, HQ.out.2.2.2.2]
  clear hw w1
  go_wp2
  go_ret
  exact ⟨by rw [HT.out]; rfl, HB.out⟩
end Go.Proofs.Ytdnophdldpophaa

/- The program's search for a free circuit; no condition. -/
import Derived.Test.YtkehcalijamhjaaHea
namespace Go.Proofs.Ytkehcalijamhjaa
open Go.RowKit Go.ChangeShapes Go.WideShapes Go.ChangeAt
set_option linter.unusedVariables false
set_option linter.unusedSimpArgs false
set_option maxRecDepth 8000
/-- the first free circuit of a side's own among the first j; the last free one of the others -/
def atN (z : List Int) (sd : Int) : Nat → Int
  | 0 => -1
  | j + 1 => if 0 ≤ atN z sd j then atN z sd j else if z.getD j 0 = 0 ∧ (j : Int) % 2 = sd then (j : Int) else -1
def laN (z : List Int) (sd : Int) : Nat → Int
  | 0 => -1
  | j + 1 => if z.getD j 0 = 0 ∧ ¬ (j : Int) % 2 = sd then (j : Int) else laN z sd j
def freeF (z : List Int) (sd : Int) : Int := if 0 ≤ atN z sd z.length then atN z sd z.length else laN z sd z.length
theorem atN_keep (z : List Int) (sd : Int) (j : Nat) (h : 0 ≤ atN z sd j) : ∀ k, atN z sd (j + k) = atN z sd j
  | 0 => rfl
  | k + 1 => by
    have := atN_keep z sd j h k
    show atN z sd (j + k + 1) = _
    rw [atN, this, if_pos h]
set_option maxHeartbeats 1600000 in
theorem freeI_c (v : Value) (z : List Int) (sd : Int) (w : World) (h : Rd .i64 w v z) (hl : z.length ≤ 1000) : Calls Try.prog 40 #[v, .int .i64 sd] w fun e w' => e = .returned (.int .i64 (freeF z sd)) ∧ w' = w := by
  obtain ⟨a, cap, rfl, h1, h2, h3⟩ := h
  unfold maxLen at h2
  go_enter Try.func40, Try.ntmps40
  go_wp2
  go_loopw [5, 10] (fun l i wr => ∃ j : Nat, j ≤ z.length ∧ i = .int .i64 j ∧ l = .int .i64 (laN z sd j) ∧ wr = w ∧ Hid (atN z sd j < 0)) (fun _ i _ => z.length - (intOf i).toNat)
  case atStart => exact ⟨0, Nat.zero_le _, rfl, rfl, rfl, by show atN z sd 0 < 0; simp [atN]⟩
  case round =>
    obtain ⟨j, hj, rfl, rfl, hwr, hat⟩ := hrel
    have hwr' := hwr.symm
    clear hwr
    subst hwr'
    obtain ⟨t, ht⟩ : ∃ t, laN z sd j = t := ⟨_, rfl⟩
    have HT : Hid (laN z sd j = t) := ht
    rw [ht]
    clear ht
    by_cases hlt : j < z.length
    · rcases h3 with h3 | ⟨b, off, rfl, h4⟩
      · subst h3; simp at hlt
      obtain ⟨x, hx⟩ : ∃ x, z.getD j 0 = x := ⟨_, rfl⟩
      have hc := h4 j hlt
      rw [hx] at hc
      have HX : Hid (z.getD j 0 = x) := hx
      have hi : (j : Int) < (z.length : Int) := by omega
      clear h4 hx
      by_cases g0 : x = 0
      · subst g0
        go_wp2_with (fail)
        refine (owns_c sd j w (by omega)).mono ?_
        rintro e wq ⟨rfl, hwq⟩
        rw [hwq]
        clear hwq wq
        by_cases g1 : (j : Int) % 2 = sd
        · have g1b : ((j : Int) % 2 == sd) = true := by simpa using g1
          rw [g1b]
          have HF : Hid (freeF z sd = (j : Int)) := by
            have e1 : atN z sd (j + 1) = (j : Int) := by rw [atN, if_neg (by have := hat.out; omega), if_pos ⟨HX.out, g1⟩]
            have e2 := atN_keep z sd (j + 1) (by rw [e1]; omega) (z.length - (j + 1))
            rw [show j + 1 + (z.length - (j + 1)) = z.length by omega, e1] at e2
            show freeF z sd = _
            rw [freeF, e2, if_pos (by omega)]
          clear g1 g1b
          go_wp2
          go_ret
          rw [HF.out]
          exact ⟨rfl, rfl⟩
        · have g1b : ((j : Int) % 2 == sd) = false := by simpa using g1
          rw [g1b]
          have HN : Hid (laN z sd (j + 1) = (j : Int) ∧ atN z sd (j + 1) < 0) := ⟨by rw [laN, if_pos ⟨HX.out, g1⟩], by rw [atN, if_neg (by have := hat.out; omega), if_neg (fun h => g1 h.2)]; omega⟩
          clear g1 g1b
          go_wp2
          go_roundw
          case rel => exact ⟨j + 1, by omega, by go_num, by rw [HN.out.1], trivial, HN.out.2⟩
          case measure => simp [intOf]; omega
      · have g0b : (x != 0) = true := by simpa using g0
        have HN : Hid (laN z sd (j + 1) = t ∧ atN z sd (j + 1) < 0) := ⟨by rw [laN, if_neg (fun h => g0 (by rw [← HX.out]; exact h.1)), HT.out], by rw [atN, if_neg (by have := hat.out; omega), if_neg (fun h => g0 (by rw [← HX.out]; exact h.1))]; omega⟩
        clear g0
        go_wp2
        go_roundw
        case rel => exact ⟨j + 1, by omega, by go_num, by rw [HN.out.1], trivial, HN.out.2⟩
        case measure => simp [intOf]; omega
    · obtain rfl : j = z.length := by omega
      have HF : Hid (freeF z sd = t) := by show freeF z sd = _; rw [freeF, if_neg (by have := hat.out; omega), HT.out]
      clear h3
      go_wp2
      go_ret
      rw [HF.out]
      exact ⟨rfl, rfl⟩
end Go.Proofs.Ytkehcalijamhjaa

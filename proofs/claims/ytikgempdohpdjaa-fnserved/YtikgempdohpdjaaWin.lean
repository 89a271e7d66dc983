/- Numbers within bounds; no condition. -/
import Derived.Test.YtikgempdohpdjaaChm
namespace Go.Proofs.Ytikgempdohpdjaa
open Go.RowKit Go.ChangeShapes Go.WideShapes Go.ChangeAt
set_option linter.unusedVariables false
set_option linter.unusedSimpArgs false
set_option maxRecDepth 8000

set_option maxHeartbeats 800000 in
theorem within_c (x lo hi : Int) (w : World) : Calls Try.prog 48 #[.int .i64 x, .int .i64 lo, .int .i64 hi] w fun e w' => e = .returned (.bool (decide (lo ≤ x ∧ x ≤ hi))) ∧ w' = w := by
  by_cases h1 : lo ≤ x
  · have d1 : decide (lo ≤ x) = true := decide_eq_true h1
    by_cases h2 : x ≤ hi
    · have d2 : decide (x ≤ hi) = true := decide_eq_true h2
      have HF : Hid (decide (lo ≤ x ∧ x ≤ hi) = true) := decide_eq_true ⟨h1, h2⟩
      go_enter Try.func48, Try.ntmps48
      go_wp2
      go_ret
      exact ⟨by rw [HF.out]; rfl, rfl⟩
    · have d2 : decide (x ≤ hi) = false := decide_eq_false h2
      have d3 : (x ≤ hi) = False := eq_false h2
      have HF : Hid (decide (lo ≤ x ∧ x ≤ hi) = false) := decide_eq_false (fun h => h2 h.2)
      clear h2
      go_enter Try.func48, Try.ntmps48
      go_wp2
      go_ret
      exact ⟨by rw [HF.out]; rfl, rfl⟩
  · have d1 : decide (lo ≤ x) = false := decide_eq_false h1
    have d3 : (lo ≤ x) = False := eq_false h1
    have HF : Hid (decide (lo ≤ x ∧ x ≤ hi) = false) := decide_eq_false (fun h => h1 h.1)
    clear h1
    go_enter Try.func48, Try.ntmps48
    go_wp2
    go_ret
    exact ⟨by rw [HF.out]; rfl, rfl⟩

set_option maxHeartbeats 800000 in
theorem in_c (x lo hi : Int) (w : World) : Calls Try.prog 52 #[.int .i64 x, .int .i64 lo, .int .i64 hi] w fun e w' => e = .returned (.bool (decide (lo ≤ x ∧ x ≤ hi))) ∧ w' = w := by
  by_cases h1 : lo ≤ x
  · have d1 : decide (lo ≤ x) = true := decide_eq_true h1
    by_cases h2 : x ≤ hi
    · have d2 : decide (x ≤ hi) = true := decide_eq_true h2
      have HF : Hid (decide (lo ≤ x ∧ x ≤ hi) = true) := decide_eq_true ⟨h1, h2⟩
      go_enter Try.func52, Try.ntmps52
      go_wp2
      go_ret
      exact ⟨by rw [HF.out]; rfl, rfl⟩
    · have d2 : decide (x ≤ hi) = false := decide_eq_false h2
      have d3 : (x ≤ hi) = False := eq_false h2
      have HF : Hid (decide (lo ≤ x ∧ x ≤ hi) = false) := decide_eq_false (fun h => h2 h.2)
      clear h2
      go_enter Try.func52, Try.ntmps52
      go_wp2
      go_ret
      exact ⟨by rw [HF.out]; rfl, rfl⟩
  · have d1 : decide (lo ≤ x) = false := decide_eq_false h1
    have d3 : (lo ≤ x) = False := eq_false h1
    have HF : Hid (decide (lo ≤ x ∧ x ≤ hi) = false) := decide_eq_false (fun h => h1 h.1)
    clear h1
    go_enter Try.func52, Try.ntmps52
    go_wp2
    go_ret
    exact ⟨by rw [HF.out]; rfl, rfl⟩

/-- are all of them from lo to hi? -/
def awB (zs : List Int) (lo hi : Int) : Bool := zs.all fun z => decide (lo ≤ z ∧ z ≤ hi)
theorem awB_at {zs : List Int} {lo hi : Int} (h : awB zs lo hi = true) (k : Nat) (hk : k < zs.length) : lo ≤ zs.getD k 0 ∧ zs.getD k 0 ≤ hi := by
  rw [List.getD_eq_getElem?_getD, List.getElem?_eq_getElem hk]
  exact of_decide_eq_true (List.all_eq_true.1 h _ (List.getElem_mem hk))
theorem awB_no {zs : List Int} {lo hi : Int} (k : Nat) (hk : k < zs.length) (h : ¬ (lo ≤ zs.getD k 0 ∧ zs.getD k 0 ≤ hi)) : awB zs lo hi = false := by
  cases e : awB zs lo hi with
  | false => rfl
  | true => exact absurd (awB_at e k hk) h
theorem awB_yes {zs : List Int} {lo hi : Int} (h : ∀ k, k < zs.length → lo ≤ zs.getD k 0 ∧ zs.getD k 0 ≤ hi) : awB zs lo hi = true := by
  refine List.all_eq_true.2 fun z hz => decide_eq_true ?_
  obtain ⟨k, hk, rfl⟩ := List.getElem_of_mem hz
  have := h k hk
  rwa [List.getD_eq_getElem?_getD, List.getElem?_eq_getElem hk] at this
set_option maxHeartbeats 1600000 in
theorem areWithin_c (v : Value) (zs : List Int) (lo hi : Int) (w : World) (h : Rd .i64 w v zs) : Calls Try.prog 69 #[v, .int .i64 lo, .int .i64 hi] w fun e w' => e = .returned (.bool (awB zs lo hi)) ∧ w' = w := by
  obtain ⟨a, cap, rfl, h1, h2, -⟩ := id h
  unfold maxLen at h2
  have HC : Hid (∀ W j, j < zs.length → Below w.heap.size w W → ∃ bo : Nat × Nat, a = some ⟨bo.1, bo.2, none⟩ ∧ bo.1 < w.heap.size ∧ W.cell? ⟨bo.1, bo.2 + j, none⟩ = some (.int .i64 (zs.getD j 0))) := rdc h
  have HNO : Hid (∀ k, k < zs.length → ¬ (lo ≤ zs.getD k 0 ∧ zs.getD k 0 ≤ hi) → awB zs lo hi = false) := fun k hk hn => awB_no k hk hn
  have HYE : Hid ((∀ k, k < zs.length → lo ≤ zs.getD k 0 ∧ zs.getD k 0 ≤ hi) → awB zs lo hi = true) := fun h => awB_yes h
  obtain ⟨L, hL⟩ : ∃ L, zs.length = L := ⟨_, rfl⟩
  rw [hL] at h1 HC HNO HYE ⊢
  obtain ⟨B, hB⟩ : ∃ B, awB zs lo hi = B := ⟨_, rfl⟩
  rw [hB] at HNO HYE ⊢
  clear hL h hB
  go_enter Try.func69, Try.ntmps69
  go_wp2
  go_loop [11] (fun i => ∃ j : Nat, j ≤ L ∧ i = .int .i64 j ∧ Hid (∀ k, k < j → lo ≤ zs.getD k 0 ∧ zs.getD k 0 ≤ hi)) (fun i => L - (intOf i).toNat)
  case atStart => exact ⟨0, Nat.zero_le _, rfl, fun k hk => by omega⟩
  case round =>
    obtain ⟨j, hj, rfl, hA⟩ := hrel
    by_cases hlt : j < L
    case neg =>
      obtain rfl : j = L := by omega
      have HT : Hid (B = true) := HYE.out hA.out
      clear hlt hj
      go_wp2
      go_ret
      exact ⟨by rw [HT.out]; rfl, rfl⟩
    case pos =>
    obtain ⟨⟨b, off⟩, rfl, hbl, hc0⟩ := HC.out w j hlt (Below.refl _ _)
    dsimp only at hc0 hbl
    have HN := HNO.out j hlt
    have HS : Hid (lo ≤ zs.getD j 0 ∧ zs.getD j 0 ≤ hi → ∀ k, k < j + 1 → lo ≤ zs.getD k 0 ∧ zs.getD k 0 ≤ hi) := fun hq k hk => by
      rcases Nat.lt_or_ge k j with h | h
      · exact hA.out k h
      · obtain rfl : k = j := by omega
        exact hq
    obtain ⟨x, hx⟩ : ∃ x, zs.getD j 0 = x := ⟨_, rfl⟩
    rw [hx] at hc0 HN HS
    have HN : Hid (¬ (lo ≤ x ∧ x ≤ hi) → B = false) := HN
    have hi0 : (0 : Int) ≤ (j : Int) := by omega
    have hi1 : (j : Int) < (L : Int) := by omega
    clear hx
    by_cases hq : lo ≤ x ∧ x ≤ hi
    case pos =>
      have hd : decide (lo ≤ x ∧ x ≤ hi) = true := decide_eq_true hq
      have HS2 : Hid (∀ k, k < j + 1 → lo ≤ zs.getD k 0 ∧ zs.getD k 0 ≤ hi) := HS.out hq
      have HD : Hid (decide (lo ≤ x ∧ x ≤ hi) = true) := hd
      clear hq hd HS
      go_wp2_with (fail)
      refine (within_c x lo hi _).mono ?_
      rintro e w1 ⟨rfl, hw⟩
      rw [hw, HD.out]
      clear hw w1
      go_wp2
      go_round
      case rel => exact ⟨j + 1, by omega, by go_num, HS2.out⟩
      case measure => simp [intOf]; omega
    case neg =>
    have HF : Hid (B = false) := HN.out hq
    have HD : Hid (decide (lo ≤ x ∧ x ≤ hi) = false) := decide_eq_false hq
    clear hq HS
    go_wp2_with (fail)
    refine (within_c x lo hi _).mono ?_
    rintro e w1 ⟨rfl, hw⟩
    rw [hw, HD.out]
    clear hw w1
    go_wp2
    go_ret
    exact ⟨by rw [HF.out]; rfl, rfl⟩

end Go.Proofs.Ytikgempdohpdjaa

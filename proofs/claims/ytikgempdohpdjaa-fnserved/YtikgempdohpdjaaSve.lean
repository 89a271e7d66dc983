/- slices.Max, slices.Index, strongestOf; no condition. -/
import Derived.Test.YtikgempdohpdjaaSva
namespace Go.Proofs.Ytikgempdohpdjaa
open Go.RowKit Go.ChangeShapes Go.WideShapes Go.ChangeAt
set_option linter.unusedVariables false
set_option linter.unusedSimpArgs false
set_option maxRecDepth 8000

set_option maxHeartbeats 1600000 in
theorem max_c (v : Value) (row : List Int) (w : World) (h : Rd .i64 w v row) (h1r : 1 ≤ row.length) : Calls Try.prog 71 #[v] w fun e w' => e = .returned (.int .i64 (mxN row (row.length - 1))) ∧ w' = w := by
  obtain ⟨a, cap, rfl, h1, h2, -⟩ := id h
  unfold maxLen at h2
  have HC : Hid (∀ W j, j < row.length → Below w.heap.size w W → ∃ bo : Nat × Nat, a = some ⟨bo.1, bo.2, none⟩ ∧ bo.1 < w.heap.size ∧ W.cell? ⟨bo.1, bo.2 + j, none⟩ = some (.int .i64 (row.getD j 0))) := rdc h
  obtain ⟨L, hL⟩ : ∃ L, row.length = L := ⟨_, rfl⟩
  rw [hL] at h1 h1r HC ⊢
  clear h hL
  obtain ⟨⟨b, off⟩, rfl, hbl, hc0⟩ := HC.out w 0 (by omega) (Below.refl _ _)
  dsimp only at hc0 hbl
  rw [Nat.add_zero] at hc0
  have HM0 : Hid (mxN row 0 = row.getD 0 0) := rfl
  obtain ⟨x0, hx0⟩ : ∃ x, row.getD 0 0 = x := ⟨_, rfl⟩
  rw [hx0] at hc0 HM0
  have hd : decide ((L : Int) < 1) = false := by simp; omega
  have he : ((L : Int) < 1) = False := eq_false (by omega)
  have hi2 : (0 : Int) < (L : Int) := by omega
  clear hx0
  go_enter Try.func71, Try.ntmps71
  go_wp2
  go_loop [3, 4] (fun m i => ∃ j : Nat, 1 ≤ j ∧ j ≤ L ∧ i = .int .i64 j ∧ m = .int .i64 (mxN row (j - 1))) (fun _ i => L - (intOf i).toNat)
  case atStart => exact ⟨1, Nat.le_refl _, by omega, rfl, by rw [show 1 - 1 = 0 from rfl, HM0.out]⟩
  case round =>
    obtain ⟨j, hj1, hj, rfl, rfl⟩ := hrel
    clear hc0 hd he
    by_cases hlt : j < L
    case neg =>
      obtain rfl : j = L := by omega
      clear hlt hj
      go_wp2
      go_ret
      exact ⟨rfl, rfl⟩
    case pos =>
    obtain ⟨bo, e, -, hc1⟩ := HC.out w j hlt (Below.refl _ _)
    cases e
    have HN : Hid (mxN row (j + 1 - 1) = if mxN row (j - 1) < row.getD j 0 then row.getD j 0 else mxN row (j - 1)) := by
      show _ = _
      obtain ⟨k, rfl⟩ : ∃ k, j = k + 1 := ⟨j - 1, by omega⟩
      rfl
    obtain ⟨x, hx⟩ : ∃ x, row.getD j 0 = x := ⟨_, rfl⟩
    obtain ⟨m, hm⟩ : ∃ m, mxN row (j - 1) = m := ⟨_, rfl⟩
    rw [hx] at hc1 HN
    rw [hm] at HN ⊢
    have hi0 : (0 : Int) ≤ (j : Int) := by omega
    have hi1 : (j : Int) < (L : Int) := by omega
    clear hx hm
    by_cases hq : m < x
    case pos =>
      have hd : decide (m < x) = true := decide_eq_true hq
      have HN2 : Hid (mxN row (j + 1 - 1) = x) := by show _ = _; rw [HN.out, if_pos hq]
      clear HN
      go_wp2
      go_round
      case rel => exact ⟨j + 1, by omega, by omega, by go_num, by rw [HN2.out]⟩
      case measure => simp [intOf]; omega
    case neg =>
    have hd : decide (m < x) = false := decide_eq_false hq
    have he : (m < x) = False := eq_false hq
    have HN2 : Hid (mxN row (j + 1 - 1) = m) := by show _ = _; rw [HN.out, if_neg hq]
    clear HN hq
    go_wp2
    go_round
    case rel => exact ⟨j + 1, by omega, by omega, by go_num, by rw [HN2.out]⟩
    case measure => simp [intOf]; omega
set_option maxHeartbeats 1600000 in
theorem index_c (v : Value) (row : List Int) (x : Int) (t : Nat) (w : World) (h : Rd .i64 w v row) (ht : t < row.length) (hx : row.getD t 0 = x) (hn : ∀ i, i < t → row.getD i 0 < x) : Calls Try.prog 70 #[v, .int .i64 x] w fun e w' => e = .returned (.int .i64 (t : Int)) ∧ w' = w := by
  obtain ⟨a, cap, rfl, h1, h2, -⟩ := id h
  unfold maxLen at h2
  have HC : Hid (∀ W j, j < row.length → Below w.heap.size w W → ∃ bo : Nat × Nat, a = some ⟨bo.1, bo.2, none⟩ ∧ bo.1 < w.heap.size ∧ W.cell? ⟨bo.1, bo.2 + j, none⟩ = some (.int .i64 (row.getD j 0))) := rdc h
  obtain ⟨L, hL⟩ : ∃ L, row.length = L := ⟨_, rfl⟩
  rw [hL] at h1 ht HC ⊢
  have HX : Hid (row.getD t 0 = x) := hx
  have HN : Hid (∀ i, i < t → row.getD i 0 < x) := hn
  clear h hL hx hn
  go_enter Try.func70, Try.ntmps70
  go_wp2
  go_loop [8] (fun i => ∃ j : Nat, j ≤ t ∧ i = .int .i64 j) (fun i => L - (intOf i).toNat)
  case atStart => exact ⟨0, Nat.zero_le _, rfl⟩
  case round =>
    obtain ⟨j, hj, rfl⟩ := hrel
    obtain ⟨⟨b, off⟩, rfl, hbl, hc1⟩ := HC.out w j (by omega) (Below.refl _ _)
    dsimp only at hc1 hbl
    have hi0 : (0 : Int) ≤ (j : Int) := by omega
    have hi1 : (j : Int) < (L : Int) := by omega
    by_cases hlt : j < t
    case neg =>
      obtain rfl : j = t := by omega
      rw [HX.out] at hc1
      have hq : (x == x) = true := by simp
      clear hlt hj
      go_wp2
      go_ret
      exact ⟨rfl, rfl⟩
    case pos =>
    have hlx := HN.out j hlt
    obtain ⟨y, hy⟩ : ∃ y, row.getD j 0 = y := ⟨_, rfl⟩
    rw [hy] at hc1 hlx
    have hq : (x == y) = false := by simp; omega
    clear hy
    go_wp2
    go_round
    case rel => exact ⟨j + 1, by omega, by go_num⟩
    case measure => simp [intOf]; omega
set_option maxHeartbeats 800000 in
theorem strong_c (v : Value) (row : List Int) (w : World) (h : Rd .i64 w v row) (h1r : 1 ≤ row.length) : Calls Try.prog 49 #[v] w fun e w' => e = .returned (.int .i64 (amx row : Int)) ∧ w' = w := by
  have HB := bs_mx row (row.length - 1)
  rw [show row.length - 1 + 1 = row.length by omega] at HB
  have HL := amx_lt h1r
  go_enter Try.func49, Try.ntmps49
  go_wp2_with (fail)
  refine (max_c v row _ h h1r).mono ?_
  rintro e w1 ⟨rfl, hw⟩
  rw [hw]
  clear hw w1
  go_wp2_with (fail)
  refine (index_c v row _ (amx row) _ h HL HB.2.1 HB.2.2).mono ?_
  rintro e w1 ⟨rfl, hw⟩
  rw [hw]
  clear hw w1
  go_wp2
  go_ret
  exact ⟨rfl, rfl⟩

end Go.Proofs.Ytikgempdohpdjaa

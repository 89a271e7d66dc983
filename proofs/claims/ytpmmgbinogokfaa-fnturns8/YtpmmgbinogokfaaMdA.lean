/- Small functions of the model; no condition. -/
import Derived.Test.YtpmmgbinogokfaaQok
namespace Go.Proofs.Ytpmmgbinogokfaa
open Go.RowKit Go.ChangeShapes Go.WideShapes Go.ChangeAt
set_option linter.unusedVariables false
set_option linter.unusedSimpArgs false
set_option maxRecDepth 8000
theorem in_c (x a b : Int) (w : World) : Calls Try.prog 41 #[.int .i64 x, .int .i64 a, .int .i64 b] w fun e w' => e = .returned (.bool (decide (a ≤ x ∧ x ≤ b))) ∧ w' = w := by
  by_cases h0 : a ≤ x <;> by_cases h1 : x ≤ b
  all_goals
    go_enter Try.func41, Try.ntmps41
    go_wp2
    go_ret
    exact ⟨by simp [h0, h1], rfl⟩
theorem tickM_c (x : Int) (w : World) : Calls Try.prog 40 #[.int .i64 x] w fun e w' => e = .returned (.bool (tkB x)) ∧ w' = w := by
  go_enter Try.func40, Try.ntmps40
  go_wp2_with (go_at_call 41; refine (in_c _ _ _ _).mono ?_; rintro e w2 ⟨rfl, rfl⟩)
  go_ret
  exact ⟨by simp [tkB, Bool.decide_and], rfl⟩
theorem skB_small : ∀ m : Nat, m < 256 → (skB (m : Int) = true ↔ m = 1 ∨ m = 2 ∨ m = 4 ∨ m = 8 ∨ m = 16 ∨ m = 32 ∨ m = 64 ∨ m = 128) := by decide +kernel
theorem skB_iff (k : Int) : skB k = true ↔ k = 1 ∨ k = 2 ∨ k = 4 ∨ k = 8 ∨ k = 16 ∨ k = 32 ∨ k = 64 ∨ k = 128 := by
  by_cases h : 0 ≤ k ∧ k < 256
  · obtain ⟨m, rfl⟩ := Int.eq_ofNat_of_zero_le h.1
    rw [skB_small m (by omega)]; omega
  · constructor
    · intro h1; simp [skB] at h1; omega
    · intro h1; omega
set_option maxHeartbeats 3200000 in
theorem skillM_c (k : Int) (w : World) : Calls Try.prog 42 #[.int .i64 k] w fun e w' => e = .returned (.bool (skB k)) ∧ w' = w := by
  by_cases h : k = 1 ∨ k = 2 ∨ k = 4 ∨ k = 8 ∨ k = 16 ∨ k = 32 ∨ k = 64 ∨ k = 128
  · have hs : skB k = true := (skB_iff k).2 h
    rw [hs]
    have HS : Hid (skB k = true) := hs
    clear hs
    rcases h with rfl | rfl | rfl | rfl | rfl | rfl | rfl | rfl
    all_goals
      clear HS
      go_enter Try.func42, Try.ntmps42
      go_wp2
      refine wp_loop_rounds 9 ?_
      repeat (rw [rounds_succ]; go_wp2)
      go_ret
      exact ⟨rfl, rfl⟩
  · have hs : skB k = false := by
      cases hq : skB k with
      | false => rfl
      | true => exact absurd ((skB_iff k).1 hq) h
    rw [hs]
    have n1 : ¬ k = 1 := by omega
    have n2 : ¬ k = 2 := by omega
    have n3 : ¬ k = 4 := by omega
    have n4 : ¬ k = 8 := by omega
    have n5 : ¬ k = 16 := by omega
    have n6 : ¬ k = 32 := by omega
    have n7 : ¬ k = 64 := by omega
    have n8 : ¬ k = 128 := by omega
    clear h hs
    go_enter Try.func42, Try.ntmps42
    go_wp2
    refine wp_loop_rounds 9 ?_
    repeat (rw [rounds_succ]; go_wp2)
    go_ret
    exact ⟨rfl, rfl⟩
theorem onesF_step (f n : Nat) (h : n < 2 ^ (f + 1)) : onesF (f + 1) n = n % 2 + onesF f (n / 2) := rfl
theorem onesF_zero : ∀ f, onesF f 0 = 0
  | 0 => rfl
  | f + 1 => by rw [onesF]; simp [onesF_zero f]
theorem onesF_more : ∀ (f n : Nat), n < 2 ^ f → onesF (f + 1) n = onesF f n
  | 0, n, h => by
    obtain rfl : n = 0 := by simpa using h
    rfl
  | f + 1, n, h => by
    rw [onesF, onesF_more f (n / 2) (by rw [Nat.pow_succ] at h; omega), onesF]
theorem onesF_half (n : Nat) (h : n < 256) : onesF 8 n = n % 2 + onesF 8 (n / 2) := by
  rw [← onesF_more 8 n (by omega), onesF]
set_option maxHeartbeats 1600000 in
theorem onesM_c (x : Int) (h0 : 0 ≤ x) (h1 : x ≤ 255) (w : World) : Calls Try.prog 74 #[.int .i64 x] w fun e w' => e = .returned (.int .i64 (ones x)) ∧ w' = w := by
  obtain ⟨m, rfl⟩ := Int.eq_ofNat_of_zero_le h0
  have hm : m ≤ 255 := by omega
  have HO : Hid (ones (m : Int) = onesF 8 m) := by show ones (m : Int) = onesF 8 m; simp [ones]
  clear h0 h1
  go_enter Try.func74, Try.ntmps74
  go_wp2
  go_loopw [0, 3] (fun y c wr => ∃ j k : Nat, j ≤ 255 ∧ k ≤ 255 ∧ y = .int .i64 j ∧ c = .int .i64 k ∧ Hid (k + onesF 8 j = onesF 8 m) ∧ k + j ≤ 255 ∧ wr = w) (fun y _ _ => (intOf y).toNat)
  case atStart => exact ⟨m, 0, hm, by omega, rfl, rfl, by simp [Hid], by omega, rfl⟩
  case round =>
    obtain ⟨j, k, hj, hk, rfl, rfl, hE, hjk, rfl⟩ := hrel
    by_cases hp : 0 < j
    · have hE2 : Hid (k + j % 2 + onesF 8 (j / 2) = onesF 8 m) := by
        show k + j % 2 + onesF 8 (j / 2) = onesF 8 m
        rw [← hE.out, onesF_half j (by omega)]; omega
      have q1 : (j : Int).tmod 2 = ((j % 2 : Nat) : Int) := by rw [Int.tmod_eq_emod_of_nonneg (by omega)]; omega
      have q2 : (j : Int).tdiv 2 = ((j / 2 : Nat) : Int) := by rw [Int.tdiv_eq_ediv_of_nonneg (by omega)]; omega
      clear hE
      go_wp2
      go_roundw
      case rel => exact ⟨j / 2, k + j % 2, by omega, by omega, by go_num, by go_num, hE2.out, by omega, by first | rfl | trivial⟩
      case measure => simp [intOf]; omega
    · obtain rfl : j = 0 := by omega
      have HK : Hid ((k : Int) = ones (m : Int)) := by
        show (k : Int) = ones (m : Int)
        rw [HO.out, ← hE.out, onesF_zero]; simp
      go_wp2
      go_ret
      exact ⟨by rw [← HK.out]; rfl, rfl⟩
set_option maxHeartbeats 1600000 in
theorem within_c (v : Value) (zs : List Int) (x : Int) (w : World) (h : Rd .i64 w v zs) : Calls Try.prog 44 #[v, .int .i64 x] w fun e w' => e = .returned (.bool (decide (x ∈ zs))) ∧ w' = w := by
  obtain ⟨a, cap, rfl, h1, h2, h3⟩ := h
  unfold maxLen at h2
  go_enter Try.func44, Try.ntmps44
  go_wp2
  go_loopw [5] (fun i wr => ∃ j : Nat, j ≤ zs.length ∧ i = .int .i64 j ∧ Hid (x ∉ zs.take j) ∧ wr = w) (fun i _ => zs.length - (intOf i).toNat)
  case atStart => exact ⟨0, Nat.zero_le _, rfl, by show x ∉ zs.take 0; simp, rfl⟩
  case round =>
    obtain ⟨j, hj, rfl, hA, rfl⟩ := hrel
    by_cases hlt : j < zs.length
    case neg =>
      obtain rfl : j = zs.length := by omega
      have HN : Hid (decide (x ∈ zs) = false) := by
        show decide (x ∈ zs) = false
        have := hA.out
        rw [List.take_length] at this
        exact decide_eq_false this
      clear h3
      go_wp2
      go_ret
      exact ⟨by rw [HN.out]; rfl, rfl⟩
    case pos =>
    rcases h3 with h3 | ⟨b, off, rfl, h4⟩
    · subst h3; simp at hlt
    have hc := h4 j hlt
    obtain ⟨r, hr⟩ : ∃ r, zs.getD j 0 = r := ⟨_, rfl⟩
    have HR : Hid (zs[j] = r) := by show zs[j] = r; rw [← hr]; simp [List.getElem?_eq_getElem hlt]
    rw [hr] at hc
    clear h4 hr
    by_cases ht : r = x
    · have HF : Hid (decide (x ∈ zs) = true) := by
        show decide (x ∈ zs) = true
        exact decide_eq_true (by rw [← ht, ← HR.out]; exact List.getElem_mem hlt)
      subst ht
      go_wp2
      go_ret
      exact ⟨by rw [HF.out]; rfl, rfl⟩
    · have HF : Hid (x ∉ zs.take (j + 1)) := by
        show x ∉ zs.take (j + 1)
        rw [List.take_succ_eq_append_getElem hlt, HR.out, List.mem_append]
        rintro (h | h)
        · exact hA.out h
        · simp at h; exact ht h.symm
      go_wp2
      go_roundw
      case rel => exact ⟨j + 1, by omega, by go_num, HF.out, by first | rfl | trivial⟩
      case measure => simp [intOf]; omega
end Go.Proofs.Ytpmmgbinogokfaa

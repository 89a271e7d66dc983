/- The law of numbers as a function; the sizes; no condition. -/
import Derived.Test.YtdphnkjmpogecaaSl
namespace Go.Proofs.Ytdphnkjmpogecaa
open Go.RowKit Go.ChangeShapes Go.WideShapes Go.ChangeAt
set_option linter.unusedVariables false
set_option linter.unusedSimpArgs false
set_option maxRecDepth 8000

/-- the size of a number of the law without its sign -/
def lw (b : Nat) : Int := if b / 16 = 0 then 16 * (b % 16 : Nat) + 8 else (16 * (b % 16 : Nat) + 264) * 2 ^ (b / 16 - 1)
theorem lw_step : ∀ b, b < 127 → lw b < lw (b + 1) := by decide +kernel
theorem lw_lt {a b : Nat} (h : a < b) (hb : b ≤ 127) : lw a < lw b := by
  induction b with
  | zero => omega
  | succ b ih =>
    have h1 := lw_step b (by omega)
    by_cases e : a = b
    · subst e; exact h1
    · have := ih (by omega) (by omega); omega
theorem lw_pos : ∀ b, b < 128 → 8 ≤ lw b ∧ lw b ≤ 32256 := by decide +kernel
theorem within_c (n l m : Int) (w : World) : Calls Try.prog 23 #[.int .i64 n, .int .i64 l, .int .i64 m] w fun e w' => e = .returned (.bool (decide (l ≤ n ∧ n ≤ m))) ∧ w' = w := by
  by_cases h1 : l ≤ n
  · by_cases h2 : n ≤ m
    · go_enter Try.func23, Try.ntmps23
      go_wp2
      go_ret
      exact ⟨by simp [h1, h2], rfl⟩
    · go_enter Try.func23, Try.ntmps23
      go_wp2
      go_ret
      exact ⟨by simp [h1, h2], rfl⟩
  · go_enter Try.func23, Try.ntmps23
    go_wp2
    go_ret
    exact ⟨by simp; omega, rfl⟩
theorem in_c (n l m : Int) (w : World) : Calls Try.prog 29 #[.int .i64 n, .int .i64 l, .int .i64 m] w fun e w' => e = .returned (.bool (decide (l ≤ n ∧ n ≤ m))) ∧ w' = w := by
  by_cases h1 : l ≤ n
  · by_cases h2 : n ≤ m
    · go_enter Try.func29, Try.ntmps29
      go_wp2
      go_ret
      exact ⟨by simp [h1, h2], rfl⟩
    · go_enter Try.func29, Try.ntmps29
      go_wp2
      go_ret
      exact ⟨by simp [h1, h2], rfl⟩
  · go_enter Try.func29, Try.ntmps29
    go_wp2
    go_ret
    exact ⟨by simp; omega, rfl⟩
theorem lw_lo (b : Nat) (h : b / 16 = 0) : 16 * ((b : Int) % 16) + 8 = lw b := by unfold lw; rw [if_pos h]; omega
theorem lw_hi (b : Nat) (hb : b < 128) (h : ¬ b / 16 = 0) : wrap64 ((16 * ((b : Int) % 16) + 264) * 2 ^ (b / 16 - 1)) = lw b := by
  have e : (16 * ((b : Int) % 16) + 264) * 2 ^ (b / 16 - 1) = lw b := by unfold lw; rw [if_neg h]; rfl
  rw [e]
  have := lw_pos b hb
  unfold wrap64; omega
theorem lawSize_c (b : Nat) (hb : b < 128) (w : World) : Calls Try.prog 25 #[.int .i64 b] w fun e w' => e = .returned (.int .i64 (lw b)) ∧ w' = w := by
  by_cases h0 : b / 16 = 0
  · have HX : Hid (16 * ((b : Int) % 16) + 8 = lw b) := lw_lo b h0
    have hz : (b : Int) / 16 = 0 := by omega
    go_enter Try.func25, Try.ntmps25
    go_wp2
    go_ret
    exact ⟨by rw [← HX.out]; rfl, rfl⟩
  · have HX : Hid (wrap64 ((16 * ((b : Int) % 16) + 264) * 2 ^ (b / 16 - 1)) = lw b) := lw_hi b hb h0
    go_enter Try.func25, Try.ntmps25
    go_wp2
    go_ret
    exact ⟨by rw [← HX.out]; rfl, rfl⟩
/-- what a number of the law stands for -/
def fl (b : Int) : Int := if 0 ≤ b ∧ b ≤ 255 then (if 128 ≤ b then -lw (b - 128).toNat else lw b.toNat) else 0
theorem fl_out (b : Int) (h : ¬ (0 ≤ b ∧ b ≤ 255)) : fl b = 0 := by unfold fl; rw [if_neg h]
theorem fl_lo (b : Nat) (h : b < 128) : fl b = lw b := by unfold fl; rw [if_pos (by omega), if_neg (by omega)]; rfl
theorem fl_hi (b : Nat) (h : b < 128) : fl ((128 : Int) + b) = -lw b := by
  unfold fl; rw [if_pos (by omega), if_pos (by omega)]
  congr 2; omega
theorem fromLawI_c (b : Int) (w : World) : Calls Try.prog 11 #[.int .i64 b] w fun e w' => e = .returned (.int .i64 (fl b)) ∧ w' = w := by
  by_cases h : 0 ≤ b ∧ b ≤ 255
  · have hd : decide (0 ≤ b ∧ b ≤ 255) = true := by simp; omega
    by_cases h1 : b < 128
    · obtain ⟨k, rfl⟩ := Int.eq_ofNat_of_zero_le h.1
      have HF : Hid (fl k = lw k) := fl_lo k (by omega)
      go_enter Try.func11, Try.ntmps11
      go_wp2_with (fail)
      refine (within_c _ _ _ _).mono ?_
      rintro e w1 ⟨rfl, rfl⟩
      rw [hd]
      go_wp2_with (fail)
      refine (lawSize_c k (by omega) _).mono ?_
      rintro e w1 ⟨rfl, rfl⟩
      go_wp2
      go_ret
      exact ⟨by rw [HF.out]; rfl, rfl⟩
    · obtain ⟨k, hk⟩ := Int.eq_ofNat_of_zero_le (show 0 ≤ b - 128 by omega)
      obtain rfl : b = 128 + (k : Int) := by omega
      have HF : Hid (fl (128 + (k : Int)) = -lw k) := fl_hi k (by omega)
      have HP : Hid (8 ≤ lw k ∧ lw k ≤ 32256) := lw_pos k (by omega)
      have HC := lawSize_c k (by omega) w
      have e0 : (128 + (k : Int)) - 128 = k := by omega
      clear hk
      go_enter Try.func11, Try.ntmps11
      go_wp2_with (fail)
      refine (within_c _ _ _ _).mono ?_
      rintro e w1 ⟨rfl, rfl⟩
      rw [hd]
      go_wp2_with (fail)
      refine HC.mono ?_
      rintro e w1 ⟨rfl, rfl⟩
      obtain ⟨x, hx⟩ : ∃ x, lw k = x := ⟨_, rfl⟩
      rw [hx] at HF HP ⊢
      have hp := HP.out
      go_wp2
      go_ret
      exact ⟨by rw [HF.out]; rfl, rfl⟩
  · have hd : decide (0 ≤ b ∧ b ≤ 255) = false := by simp; omega
    have HF : Hid (fl b = 0) := fl_out b h
    clear h
    go_enter Try.func11, Try.ntmps11
    go_wp2_with (fail)
    refine (within_c _ _ _ _).mono ?_
    rintro e w1 ⟨rfl, rfl⟩
    rw [hd]
    go_wp2
    go_ret
    exact ⟨by rw [HF.out]; rfl, rfl⟩
theorem fromLawM_c (b : Int) (w : World) : Calls Try.prog 18 #[.int .i64 b] w fun e w' => e = .returned (.int .i64 (fl b)) ∧ w' = w := by
  by_cases h : 0 ≤ b ∧ b ≤ 255
  · have hd : decide (0 ≤ b ∧ b ≤ 255) = true := by simp; omega
    obtain ⟨k, rfl⟩ := Int.eq_ofNat_of_zero_le h.1
    obtain ⟨m, hm⟩ : ∃ m, k % 128 = m := ⟨_, rfl⟩
    have hm1 : m < 128 := by omega
    have q1 : (k : Int) % 128 / 16 = (m : Int) / 16 := by omega
    have q2 : (k : Int) % 16 = (m : Int) % 16 := by omega
    have HG : Hid ((¬ 128 ≤ (k : Int) → fl k = lw m) ∧ (128 ≤ (k : Int) → fl k = -lw m)) := by
      refine ⟨fun h1 => ?_, fun h1 => ?_⟩
      · rw [fl_lo k (by omega)]; congr 1; omega
      · obtain rfl : k = 128 + m := by omega
        have := fl_hi m hm1
        rw [← this]; congr 1
    have HP : Hid (8 ≤ lw m ∧ lw m ≤ 32256) := lw_pos m hm1
    obtain ⟨x, hx⟩ : ∃ x, lw m = x := ⟨_, rfl⟩
    rw [hx] at HG HP
    by_cases h0 : m / 16 = 0
    · have HX : Hid (16 * ((m : Int) % 16) + 8 = x) := by show _ = _; rw [← hx]; exact lw_lo m h0
      have hz : (m : Int) / 16 = 0 := by omega
      clear h0 hx
      by_cases h1 : 128 ≤ (k : Int)
      · have HF : Hid (fl k = -x) := HG.out.2 h1
        go_enter Try.func18, Try.ntmps18
        go_wp2_with (fail)
        refine (in_c _ _ _ _).mono ?_
        rintro e w1 ⟨rfl, rfl⟩
        rw [hd]
        go_wp2
        go_ret
        exact ⟨by rw [HF.out, ← HX.out]; rfl, rfl⟩
      · have HF : Hid (fl k = x) := HG.out.1 h1
        go_enter Try.func18, Try.ntmps18
        go_wp2_with (fail)
        refine (in_c _ _ _ _).mono ?_
        rintro e w1 ⟨rfl, rfl⟩
        rw [hd]
        go_wp2
        go_ret
        exact ⟨by rw [HF.out, ← HX.out]; rfl, rfl⟩
    · have HX : Hid (wrap64 ((16 * ((m : Int) % 16) + 264) * 2 ^ (m / 16 - 1)) = x) := by show _ = _; rw [← hx]; exact lw_hi m hm1 h0
      have HY : Hid (wrap64 (-wrap64 ((16 * ((m : Int) % 16) + 264) * 2 ^ (m / 16 - 1))) = -x) := by show _ = _; rw [HX.out]; have := HP.out; unfold wrap64; omega
      clear hx
      by_cases h1 : 128 ≤ (k : Int)
      · have HF : Hid (fl k = -x) := HG.out.2 h1
        go_enter Try.func18, Try.ntmps18
        go_wp2_with (fail)
        refine (in_c _ _ _ _).mono ?_
        rintro e w1 ⟨rfl, rfl⟩
        rw [hd]
        go_wp2
        go_ret
        exact ⟨by rw [HF.out, ← HY.out]; rfl, rfl⟩
      · have HF : Hid (fl k = x) := HG.out.1 h1
        go_enter Try.func18, Try.ntmps18
        go_wp2_with (fail)
        refine (in_c _ _ _ _).mono ?_
        rintro e w1 ⟨rfl, rfl⟩
        rw [hd]
        go_wp2
        go_ret
        exact ⟨by rw [HF.out, ← HX.out]; rfl, rfl⟩
  · have hd : decide (0 ≤ b ∧ b ≤ 255) = false := by simp; omega
    have HF : Hid (fl b = 0) := fl_out b h
    clear h
    go_enter Try.func18, Try.ntmps18
    go_wp2_with (fail)
    refine (in_c _ _ _ _).mono ?_
    rintro e w1 ⟨rfl, rfl⟩
    rw [hd]
    go_wp2
    go_ret
    exact ⟨by rw [HF.out]; rfl, rfl⟩
theorem level_c (x : Int) (w : World) : Calls Try.prog 26 #[.int .i64 x] w fun e w' => e = .returned (.bool (decide (-32767 ≤ x ∧ x ≤ 32767))) ∧ w' = w := by
  go_enter Try.func26, Try.ntmps26
  go_wp2_with (fail)
  refine (in_c _ _ _ _).mono ?_
  rintro e w1 ⟨rfl, rfl⟩
  go_wp2
  go_ret
  exact ⟨by simp, rfl⟩
def szf (x : Int) : Int := if x < 0 then -x else x
theorem size_c (x : Int) (hx : -9000000000000000000 ≤ x ∧ x ≤ 9000000000000000000) (w : World) : Calls Try.prog 27 #[.int .i64 x] w fun e w' => e = .returned (.int .i64 (szf x)) ∧ w' = w := by
  by_cases h : x < 0
  · have HF : Hid (szf x = -x) := by show _ = _; unfold szf; rw [if_pos h]
    go_enter Try.func27, Try.ntmps27
    go_wp2
    go_ret
    exact ⟨by rw [HF.out]; rfl, rfl⟩
  · have HF : Hid (szf x = x) := by show _ = _; unfold szf; rw [if_neg h]
    go_enter Try.func27, Try.ntmps27
    go_wp2
    go_ret
    exact ⟨by rw [HF.out]; rfl, rfl⟩
theorem abs_c (x : Int) (hx : -9000000000000000000 ≤ x ∧ x ≤ 9000000000000000000) (w : World) : Calls Try.prog 12 #[.int .i64 x] w fun e w' => e = .returned (.int .i64 (szf x)) ∧ w' = w := by
  by_cases h : x < 0
  · have HF : Hid (szf x = -x) := by show _ = _; unfold szf; rw [if_pos h]
    go_enter Try.func12, Try.ntmps12
    go_wp2
    go_ret
    exact ⟨by rw [HF.out]; rfl, rfl⟩
  · have HF : Hid (szf x = x) := by show _ = _; unfold szf; rw [if_neg h]
    go_enter Try.func12, Try.ntmps12
    go_wp2
    go_ret
    exact ⟨by rw [HF.out]; rfl, rfl⟩
theorem fromLaw (b : Int) (w : World) : Calls Try.prog 6 #[.int .i64 b] w fun e w' => e = .returned (.bool true) ∧ Below w.heap.size w w' := by
  have HB : Hid (Below w.heap.size w w) := Below.refl _ _
  obtain ⟨x, hx⟩ : ∃ x, fl b = x := ⟨_, rfl⟩
  have e0 : (x != x) = false := by simp
  go_enter Try.func6, Try.ntmps6
  go_wp2_with (fail)
  refine (fromLawM_c _ _).mono ?_
  rintro e w1 ⟨rfl, rfl⟩
  go_wp2_with (fail)
  refine (fromLawI_c _ _).mono ?_
  rintro e w1 ⟨rfl, rfl⟩
  rw [hx]
  go_wp2
  go_ret
  exact ⟨rfl, HB.out⟩
end Go.Proofs.Ytdphnkjmpogecaa

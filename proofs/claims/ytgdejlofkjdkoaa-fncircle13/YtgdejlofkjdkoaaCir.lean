/- FnCircle13; no condition. -/
import Derived.Test.YtgdejlofkjdkoaaWve
import Derived.Test.YtgdejlofkjdkoaaMixT
namespace Go.Proofs.Ytgdejlofkjdkoaa
open Go.RowKit Go.ChangeShapes Go.WideShapes Go.ChangeAt
set_option linter.unusedVariables false
set_option linter.unusedSimpArgs false
set_option maxRecDepth 8000
theorem big_c (v : Value) (zs : List Int) (w : World) (h : Rd .u8 w v zs) : Calls Try.prog 6 #[v] w fun e w' => e = .returned (.bool (decide ((1048576 : Int) < (zs.length : Int)))) ∧ w' = w := by
  obtain ⟨a, cap, rfl, -, h2, -⟩ := h
  unfold maxLen at h2
  go_enter Try.func6, Try.ntmps6
  go_wp2
  go_ret
  exact ⟨rfl, rfl⟩
set_option maxHeartbeats 1600000 in
theorem at_c (v : Value) (zs : List Int) (i : Int) (w : World) (h : Rd .u8 w v zs) (hok : ∀ z ∈ zs, 0 ≤ z ∧ z ≤ 255) (hi0 : 0 ≤ i) (hi : i ≤ 100000) (hlen : zs.length ≤ 1048576) :
   Calls Try.prog 7 #[v, .int .i64 i] w fun e w' => ∃ x : Int, e = .returned (.int .i64 x) ∧ 0 ≤ x ∧ x ≤ 255 ∧ w' = w := by
  obtain ⟨a, cap, rfl, h1, h2, h3⟩ := h
  unfold maxLen at h2
  obtain ⟨k, rfl⟩ := Int.eq_ofNat_of_zero_le hi0
  by_cases hlt : k < zs.length
  · rcases h3 with h3 | ⟨b, off, rfl, h4⟩
    · subst h3; simp at hlt
    have hc := h4 k hlt
    have hb := hok _ (List.getElem_mem hlt)
    have hltI : (k : Int) < (zs.length : Int) := by omega
    clear h4 hok
    go_enter Try.func7, Try.ntmps7
    go_wp2
    go_ret
    exact ⟨_, rfl, hb.1, hb.2, rfl⟩
  · clear h3 hok
    go_enter Try.func7, Try.ntmps7
    go_wp2
    go_ret
    exact ⟨_, rfl, by omega, by omega, rfl⟩

/-- the sum of the first j waves -/
def wS : Nat → Int
  | 0 => 0
  | j + 1 => wS j + wave j
theorem wS_bd : ∀ j : Nat, -(1073741824 * (j : Int)) ≤ wS j ∧ wS j ≤ 1073741824 * j
  | 0 => by simp [wS]
  | j + 1 => by
    have h1 := wS_bd j
    have h2 := wave_bd j
    simp only [wS]
    omega
theorem wS_256 : wS 256 = 0 := by decide +kernel
theorem wave_0 : wave 0 = 1073741824 := by decide +kernel
theorem abs_c (x : Int) (h : -1073741824 ≤ x ∧ x ≤ 1073741824) (w : World) : Calls Try.prog 10 #[.int .i64 x] w fun e w' => ∃ y, e = .returned (.int .i64 y) ∧ y ≤ 1073741824 ∧ w' = w := by
  by_cases c : x < 0
  · go_enter Try.func10, Try.ntmps10
    go_wp2
    go_ret
    exact ⟨_, rfl, by omega, rfl⟩
  · go_enter Try.func10, Try.ntmps10
    go_wp2
    go_ret
    exact ⟨_, rfl, by omega, rfl⟩
set_option maxHeartbeats 3200000 in
theorem circleLaw (v : Value) (zs : List Int) (w : World) (h : Rd .u8 w v zs) (hok : ∀ z ∈ zs, 0 ≤ z ∧ z ≤ 255) : Calls Try.prog 3 #[v] w fun e w' => e = .returned (.bool true) ∧ Below w.heap.size w w' := by
  have HR : Hid (Rd .u8 w v zs) := h
  have HK : Hid (∀ z ∈ zs, 0 ≤ z ∧ z ≤ 255) := hok
  have HB : Hid (Below w.heap.size w w) := Below.refl _ _
  obtain ⟨a, cap, rfl, h1, h2, -⟩ := h
  unfold maxLen at h2
  clear hok
  by_cases hl : (1048576 : Int) < (zs.length : Int)
  · have hd : decide ((1048576 : Int) < (zs.length : Int)) = true := by simp; omega
    go_enter Try.func3, Try.ntmps3
    go_wp2_with (fail)
    refine (big_c _ zs w HR.out).mono ?_
    rintro e w1 ⟨rfl, hw⟩
    rw [hw, hd]
    clear hw w1
    go_wp2
    go_ret
    exact ⟨rfl, HB.out⟩
  have hd : decide ((1048576 : Int) < (zs.length : Int)) = false := by simp; omega
  have hl' : zs.length ≤ 1048576 := by omega
  go_enter Try.func3, Try.ntmps3
  go_wp2_with (fail)
  refine (big_c _ zs w HR.out).mono ?_
  rintro e w1 ⟨rfl, hw⟩
  rw [hw, hd]
  clear hw w1 hd
  go_wp2_with (fail)
  refine (at_c _ zs 0 w HR.out HK.out (by omega) (by omega) hl').mono ?_
  rintro e w1 ⟨a0, rfl, a1, a2, hw⟩
  rw [hw]
  clear hw w1
  go_wp2_with (fail)
  refine (at_c _ zs 1 w HR.out HK.out (by omega) (by omega) hl').mono ?_
  rintro e w1 ⟨c0, rfl, c1, c2, hw⟩
  rw [hw]
  clear hw w1
  obtain ⟨s, hs⟩ : ∃ s, a0 * 3 - 300 + c0 = s := ⟨_, rfl⟩
  have hs1 : -300 ≤ s ∧ s ≤ 800 := by omega
  go_wp2_with (fail)
  clear hs
  refine (waveI_c s (by omega) (by omega) w).mono ?_
  rintro e w1 ⟨rfl, b1⟩
  have HB1 : Hid (Below w.heap.size w w1) := b1
  clear b1
  have qx := wave_bd s
  have ev : wave (-s) = wave s := wave_even s
  have pe : wave (s + 256) = wave s := wave_per s
  have ha : wave (s + 128) = -wave s := wave_half s
  obtain ⟨x, hx⟩ : ∃ x, wave s = x := ⟨_, rfl⟩
  rw [hx] at qx ev pe ha ⊢
  have HX : Hid (wave s = x) := hx
  have HE : Hid (wave (-s) = x) := ev
  have HP : Hid (wave (s + 256) = x) := pe
  have HH : Hid (wave (s + 128) = -x) := ha
  clear hx ev pe ha
  go_wp2
  go_loopw [5, 6] (fun u i wr => ∃ j : Nat, j ≤ 256 ∧ i = .int .i64 j ∧ u = .int .i64 (wS j) ∧ Hid (Below w.heap.size w wr)) (fun _ i _ => 256 - (intOf i).toNat)
  case atStart => exact ⟨0, Nat.zero_le _, rfl, rfl, HB1.out⟩
  case round =>
    obtain ⟨j, hj, rfl, rfl, hbr⟩ := hrel
    clear HB1
    by_cases hlt : j < 256
    case pos =>
      have HS : Hid (wS (j + 1) = wS j + wave j) := rfl
      have b1 := wS_bd j
      have b2 := wave_bd j
      obtain ⟨y, hy⟩ : ∃ y, wS j = y := ⟨_, rfl⟩
      rw [hy] at HS b1 ⊢
      clear hy
      go_wp2_with (fail)
      refine (waveI_c j (by omega) (by omega) wr).mono ?_
      rintro e w2 ⟨rfl, b2'⟩
      have HB2 : Hid (Below w.heap.size w w2) := belowCall hbr.out b2' hbr.out.size
      obtain ⟨z, hz⟩ : ∃ z, wave j = z := ⟨_, rfl⟩
      rw [hz] at HS b2 ⊢
      clear b2' hz
      go_wp2
      go_roundw
      case rel => exact ⟨j + 1, by omega, by go_num, by rw [HS.out], HB2.out⟩
      case measure => simp [intOf]; omega
    case neg =>
    obtain rfl : j = 256 := by omega
    rw [wS_256]
    have e1 : (x == x) = true := by simp
    have e2 : (-x == -x) = true := by simp
    go_wp2_with (fail)
    refine (waveM_c s (by omega) (by omega) wr).mono ?_
    rintro e w2 ⟨rfl, b⟩
    have HB2 : Hid (Below w.heap.size w w2) := belowCall hbr.out b hbr.out.size
    rw [HX.out]
    clear b
    go_wp2_with (fail)
    refine (waveI_c (-s) (by omega) (by omega) w2).mono ?_
    rintro e w3 ⟨rfl, b⟩
    have HB3 : Hid (Below w.heap.size w w3) := belowCall HB2.out b HB2.out.size
    rw [HE.out]
    clear b
    go_wp2_with (fail)
    refine (waveI_c (s + 256) (by omega) (by omega) w3).mono ?_
    rintro e w4 ⟨rfl, b⟩
    have HB4 : Hid (Below w.heap.size w w4) := belowCall HB3.out b HB3.out.size
    rw [HP.out]
    clear b
    go_wp2_with (fail)
    refine (waveI_c (s + 128) (by omega) (by omega) w4).mono ?_
    rintro e w5 ⟨rfl, b⟩
    have HB5 : Hid (Below w.heap.size w w5) := belowCall HB4.out b HB4.out.size
    rw [HH.out]
    clear b
    go_wp2_with (fail)
    refine (waveI_c 0 (by omega) (by omega) w5).mono ?_
    rintro e w6 ⟨rfl, b⟩
    have HB6 : Hid (Below w.heap.size w w6) := belowCall HB5.out b HB5.out.size
    rw [wave_0]
    clear b
    go_wp2_with (fail)
    refine (abs_c x qx w6).mono ?_
    rintro e w7 ⟨y, rfl, hy, hw⟩
    rw [hw]
    clear hw w7
    have e3 : decide (y ≤ 1073741824) = true := by simp; omega
    go_wp2
    go_ret
    exact ⟨rfl, HB6.out⟩

end Go.Proofs.Ytgdejlofkjdkoaa

/- Waves as mathematics; roundings; the wave at a step; no condition. -/
import Derived.Test.YtgdejlofkjdkoaaDoorBase
import Derived.Test.YtgdejlofkjdkoaaDoorSl
import Derived.Test.YtgdejlofkjdkoaaDoorApp
import Derived.Test.YtgdejlofkjdkoaaDoorReg
namespace Go.Proofs.YtgdejlofkjdkoaaDoor
open Go.RowKit Go.ChangeShapes Go.WideShapes Go.ChangeAt
set_option linter.unusedVariables false
set_option linter.unusedSimpArgs false
set_option maxRecDepth 8000

/-- the waves of the first quarter of a circle; nought behind them -/
def wvL : List Int := [1073741824, 1073418433, 1072448455, 1070832474, 1068571463, 1065666784, 1062120187, 1057933808, 1053110169, 1047652176, 1041563116, 1034846657, 1027506845, 1019548101, 1010975219, 1001793363, 992008064, 981625216, 970651074, 959092248, 946955701, 934248743, 920979028, 907154550, 892783636, 877874942, 862437449, 846480456, 830013575, 813046725, 795590126, 777654293, 759250030, 740388423, 721080834, 701338893, 681174492, 660599777, 639627141, 618269217, 596538871, 574449192, 552013486, 529245268, 506158252, 482766345, 459083638, 435124396, 410903051, 386434193, 361732561, 336813035, 311690625, 286380464, 260897798, 235257977, 209476445, 183568732, 157550444, 131437253, 105244889, 78989129, 52685789, 26350713]
def wv (k : Nat) : Int := wvL.getD k 0
/-- by Whole, to the nearest, of two as near the greater -/
def near (a : Int) : Int := (a + 536870912) / 1073741824
theorem wv_step : ∀ k, k < 62 → wv (k + 2) = near (2146836866 * wv (k + 1)) - wv k := by decide +kernel
theorem wv_bd : ∀ k, k ≤ 64 → 0 ≤ wv k ∧ wv k ≤ 1073741824 := by decide +kernel
theorem wv_64 : wv 64 = 0 := by decide +kernel
def waveN (r : Nat) : Int := if r ≤ 64 then wv r else if r ≤ 128 then -wv (128 - r) else if r ≤ 192 then -wv (r - 128) else wv (256 - r)
/-- the wave of a step -/
def wave (s : Int) : Int := waveN (s % 256).toNat
theorem waveN_bd (r : Nat) (h : r < 256) : -1073741824 ≤ waveN r ∧ waveN r ≤ 1073741824 := by
  unfold waveN
  split
  · have := wv_bd r (by omega); omega
  split
  · have := wv_bd (128 - r) (by omega); omega
  split
  · have := wv_bd (r - 128) (by omega); omega
  · have := wv_bd (256 - r) (by omega); omega
theorem wave_bd (s : Int) : -1073741824 ≤ wave s ∧ wave s ≤ 1073741824 := waveN_bd _ (by omega)
theorem waveN_even : ∀ r, r < 256 → waveN ((256 - r) % 256) = waveN r := by decide +kernel
theorem waveN_half : ∀ r, r < 256 → waveN ((r + 128) % 256) = -waveN r := by decide +kernel
theorem wave_even (s : Int) : wave (-s) = wave s := by
  unfold wave
  rw [← waveN_even (s % 256).toNat (by omega)]
  congr 1
  omega
theorem wave_per (s : Int) : wave (s + 256) = wave s := by unfold wave; congr 1; omega
theorem wave_half (s : Int) : wave (s + 128) = -wave s := by
  unfold wave
  rw [← waveN_half (s % 256).toNat (by omega)]
  congr 1
  omega

theorem tdivW (a : Int) : a.tdiv 1073741824 = if 0 ≤ a then a / 1073741824 else -((-a) / 1073741824) := by
  split
  · exact Int.tdiv_eq_ediv_of_nonneg (by omega)
  · rw [show a = -(-a) by omega, Int.neg_tdiv, Int.tdiv_eq_ediv_of_nonneg (by omega)]; simp
theorem tmodW (a : Int) : a.tmod 1073741824 = if 0 ≤ a then a % 1073741824 else -((-a) % 1073741824) := by
  split
  · exact Int.tmod_eq_emod_of_nonneg (by omega)
  · rw [show a = -(-a) by omega, Int.neg_tmod, Int.tmod_eq_emod_of_nonneg (by omega)]; simp
theorem tmodC (a : Int) : a.tmod 256 = if 0 ≤ a then a % 256 else -((-a) % 256) := by
  split
  · exact Int.tmod_eq_emod_of_nonneg (by omega)
  · rw [show a = -(-a) by omega, Int.neg_tmod, Int.tmod_eq_emod_of_nonneg (by omega)]; simp
theorem floorM_c (a : Int) (h0 : -4611686018427387904 ≤ a) (h1 : a ≤ 4611686018427387904) (w : World) : Calls Tryd.prog 54 #[.int .i64 a, .int .i64 1073741824] w fun e w' => e = .returned (.int .i64 (a / 1073741824)) ∧ w' = w := by
  have HT : Hid (a.tdiv 1073741824 = if 0 ≤ a then a / 1073741824 else -((-a) / 1073741824)) := tdivW a
  have HM : Hid (a.tmod 1073741824 = if 0 ≤ a then a % 1073741824 else -((-a) % 1073741824)) := tmodW a
  by_cases c : a.tmod 1073741824 < 0
  · have HC : Hid (wrap64 (a.tdiv 1073741824 - 1) = a / 1073741824) := by
      have h2 := HT.out
      have h3 := HM.out
      show _ = _
      rw [h3] at c
      rw [h2]
      unfold wrap64
      split at c <;> split <;> omega
    go_enter Tryd.func54, Tryd.ntmps54
    go_wp2
    go_ret
    exact ⟨ret_int HC.out, rfl⟩
  · have HC : Hid (a.tdiv 1073741824 = a / 1073741824) := by
      have h2 := HT.out
      have h3 := HM.out
      show _ = _
      rw [h3] at c
      rw [h2]
      split at c <;> split <;> omega
    go_enter Tryd.func54, Tryd.ntmps54
    go_wp2
    go_ret
    exact ⟨ret_int HC.out, rfl⟩
theorem nearM_c (a : Int) (h0 : -4611686018427387904 ≤ a) (h1 : a ≤ 4611686018427387904) (w : World) : Calls Tryd.prog 47 #[.int .i64 a, .int .i64 1073741824] w fun e w' => e = .returned (.int .i64 (near a)) ∧ w' = w := by
  have HN : Hid (near a = (a + 536870912) / 1073741824) := rfl
  go_enter Tryd.func47, Tryd.ntmps47
  go_wp2_with (fail)
  refine (floorM_c a h0 h1 _).mono ?_
  rintro e w1 ⟨rfl, hw⟩
  rw [hw]
  clear hw w1
  obtain ⟨q, hq⟩ : ∃ q, a / 1073741824 = q := ⟨_, rfl⟩
  have hq1 : q * 1073741824 ≤ a := by omega
  have hq2 : a < q * 1073741824 + 1073741824 := by omega
  rw [hq]
  have HQ : Hid (a / 1073741824 = q) := hq
  clear hq
  by_cases c : 536870912 ≤ a - q * 1073741824
  · have HC : Hid (q + 1 = near a) := by
      have h3 := HN.out
      have h4 := HQ.out
      show _ = _
      omega
    have cd : decide (1073741824 - (a - q * 1073741824) ≤ a - q * 1073741824) = true := by simp; omega
    go_wp2
    go_ret
    exact ⟨ret_int HC.out, rfl⟩
  · have HC : Hid (q = near a) := by
      have h3 := HN.out
      have h4 := HQ.out
      show _ = _
      omega
    have cd : decide (1073741824 - (a - q * 1073741824) ≤ a - q * 1073741824) = false := by simp; omega
    go_wp2
    go_ret
    exact ⟨ret_int HC.out, rfl⟩
theorem downI_c (a : Int) (w : World) : Calls Tryd.prog 48 #[.int .i64 a] w fun e w' => e = .returned (.int .i64 (a / 1073741824)) ∧ w' = w := by
  go_enter Tryd.func48, Tryd.ntmps48
  go_wp2
  go_ret
  exact ⟨rfl, rfl⟩
theorem nearI_c (a : Int) (h0 : -4611686018427387904 ≤ a) (h1 : a ≤ 4611686018427387904) (w : World) : Calls Tryd.prog 26 #[.int .i64 a] w fun e w' => e = .returned (.int .i64 (near a)) ∧ w' = w := by
  have HN : Hid (near a = (a + 536870912) / 1073741824) := rfl
  go_enter Tryd.func26, Tryd.ntmps26
  go_wp2_with (fail)
  refine (downI_c _ _).mono ?_
  rintro e w1 ⟨rfl, hw⟩
  rw [hw]
  clear hw w1
  go_wp2
  go_ret
  exact ⟨by rw [HN.out]; rfl, rfl⟩
/-- a row that reads as the waves of a quarter -/
def wvR : List Int := wvL ++ [0]
theorem wvR_len : wvR.length = 65 := by decide +kernel
theorem wvR_at : ∀ k, k < 65 → wvR.getD k 0 = wv k := by decide +kernel
set_option maxHeartbeats 1600000 in
theorem atM_c (v : Value) (s : Int) (hs0 : -9223372036854775808 ≤ s) (hs1 : s ≤ 9223372036854775807) (w : World) (h : Rd .i64 w v wvR) : Calls Tryd.prog 46 #[v, .int .i64 s] w fun e w' => e = .returned (.int .i64 (wave s)) ∧ w' = w := by
  obtain ⟨a, cap, rfl, h1, h2, h3⟩ := h
  unfold maxLen at h2
  rw [wvR_len] at h1 h3 ⊢
  rcases h3 with h3 | ⟨b, off, rfl, h4⟩
  · have := congrArg List.length h3; rw [wvR_len] at this; simp at this
  have H4 : Hid (∀ i, i < 65 → w.cell? ⟨b, off + i, none⟩ = some (.int .i64 (wv i))) := fun i hi => by rw [h4 i hi, wvR_at i hi]
  clear h4
  obtain ⟨r, hr⟩ : ∃ r : Nat, s % 256 = (r : Int) := Int.eq_ofNat_of_zero_le (by omega)
  have hr2 : r < 256 := by omega
  have HW : Hid (wave s = waveN r) := by show _ = _; unfold wave; rw [hr]; rfl
  obtain ⟨m, hm⟩ : ∃ m, s.tmod 256 = m := ⟨_, rfl⟩
  have hmr : (m = r ∧ 0 ≤ m) ∨ (m = (r : Int) - 256 ∧ m < 0) := by
    have := tmodC s
    rw [hm] at this
    split at this <;> omega
  have HU : Hid (waveN r = if r ≤ 64 then wv r else if r ≤ 128 then -wv (128 - r) else if r ≤ 192 then -wv (r - 128) else wv (256 - r)) := rfl
  clear hr
  rcases hmr with ⟨e, hm0⟩ | ⟨e, hm0⟩
  all_goals
    by_cases c1 : r ≤ 64
    · have hc := H4.out r (by omega)
      have HX : Hid (wave s = wv r) := by show _ = _; rw [HW.out, HU.out, if_pos c1]
      have hb := wv_bd r (by omega)
      obtain ⟨x, hx⟩ : ∃ x, wv r = x := ⟨_, rfl⟩
      rw [hx] at hc HX hb
      clear hx HU HW H4
      go_enter Tryd.func46, Tryd.ntmps46
      go_wp2
      go_ret
      exact ⟨by rw [HX.out]; rfl, rfl⟩
    have d1 : decide ((r : Int) ≤ 64) = false := by simp; omega
    by_cases c2 : r ≤ 128
    · have hc := H4.out (128 - r) (by omega)
      have HX : Hid (wave s = -wv (128 - r)) := by show _ = _; rw [HW.out, HU.out, if_neg c1, if_pos c2]
      have hb := wv_bd (128 - r) (by omega)
      obtain ⟨x, hx⟩ : ∃ x, wv (128 - r) = x := ⟨_, rfl⟩
      rw [hx] at hc HX hb
      have hk : (128 - (r : Int)).toNat = 128 - r := by omega
      clear hx HU HW H4
      go_enter Tryd.func46, Tryd.ntmps46
      go_wp2
      go_ret
      exact ⟨by rw [HX.out]; rfl, rfl⟩
    have d2 : decide ((r : Int) ≤ 128) = false := by simp; omega
    by_cases c3 : r ≤ 192
    · have hc := H4.out (r - 128) (by omega)
      have HX : Hid (wave s = -wv (r - 128)) := by show _ = _; rw [HW.out, HU.out, if_neg c1, if_neg c2, if_pos c3]
      have hb := wv_bd (r - 128) (by omega)
      obtain ⟨x, hx⟩ : ∃ x, wv (r - 128) = x := ⟨_, rfl⟩
      rw [hx] at hc HX hb
      have hk : ((r : Int) - 128).toNat = r - 128 := by omega
      clear hx HU HW H4
      go_enter Tryd.func46, Tryd.ntmps46
      go_wp2
      go_ret
      exact ⟨by rw [HX.out]; rfl, rfl⟩
    · have hc := H4.out (256 - r) (by omega)
      have HX : Hid (wave s = wv (256 - r)) := by show _ = _; rw [HW.out, HU.out, if_neg c1, if_neg c2, if_neg c3]
      have hb := wv_bd (256 - r) (by omega)
      obtain ⟨x, hx⟩ : ∃ x, wv (256 - r) = x := ⟨_, rfl⟩
      rw [hx] at hc HX hb
      have d3 : decide ((r : Int) ≤ 192) = false := by simp; omega
      have hk : (256 - (r : Int)).toNat = 256 - r := by omega
      clear hx HU HW H4
      go_enter Tryd.func46, Tryd.ntmps46
      go_wp2
      go_ret
      exact ⟨by rw [HX.out]; rfl, rfl⟩

end Go.Proofs.YtgdejlofkjdkoaaDoor

/- l16Measures; no condition. -/
import Derived.Test.YtikgempdohpdjaaSvb
namespace Go.Proofs.Ytikgempdohpdjaa
open Go.RowKit Go.ChangeShapes Go.WideShapes Go.ChangeAt
set_option linter.unusedVariables false
set_option linter.unusedSimpArgs false
set_option maxRecDepth 8000

set_option maxHeartbeats 6400000 in
theorem measM_c (v : Value) (g : List (List Int)) (w : World) (h : Rn w v g) : Calls Try.prog 51 #[v] w fun e w' => e = .returned (.bool (msB g)) ∧ Below w.heap.size w w' := by
  obtain ⟨a, cap, rfl, h1, h2, -⟩ := id h
  unfold maxLen at h2
  have HC : Hid (∀ W j, j < g.length → Below w.heap.size w W → ∃ (bo : Nat × Nat) (u : Value), a = some ⟨bo.1, bo.2, none⟩ ∧ bo.1 < w.heap.size ∧ W.cell? ⟨bo.1, bo.2 + j, none⟩ = some u ∧ Rd .i64 w u (g.getD j [])) := rnc h
  have HNO : Hid (∀ i, i < g.length → mkB g i = false → msB g = false) := fun i hi hk => msB_row hi hk
  have HYE : Hid ((∀ i, i < g.length → mkB g i = true) → msB g = decide ((g.length : Int) ≤ 200)) := msB_all
  have HKW : Hid (∀ i, ¬ (1 ≤ ((g.getD i []).length : Int) ∧ ((g.getD i []).length : Int) ≤ 12) → mkB g i = false) := fun i h => mkB_w h
  have HKL : Hid (∀ i, (g.getD i []).length ≠ (g.getD 0 []).length → mkB g i = false) := fun i h => mkB_l h
  have HKA : Hid (∀ i, awB (g.getD i []) (-120) 0 = false → mkB g i = false) := fun i h => mkB_a h
  have HKO : Hid (∀ i, (1 ≤ ((g.getD i []).length : Int) ∧ ((g.getD i []).length : Int) ≤ 12) → (g.getD i []).length = (g.getD 0 []).length → awB (g.getD i []) (-120) 0 = true → mkB g i = true) := fun i h1 h2 h3 => mkB_ok h1 h2 h3
  obtain ⟨L, hL⟩ : ∃ L, g.length = L := ⟨_, rfl⟩
  rw [hL] at h1 HC HNO HYE ⊢
  obtain ⟨B, hB⟩ : ∃ B, msB g = B := ⟨_, rfl⟩
  rw [hB] at HNO HYE ⊢
  obtain ⟨p0, hp0⟩ : ∃ p, g.getD 0 [] = p := ⟨_, rfl⟩
  have HP0 : Hid (g.getD 0 [] = p0) := hp0
  rw [hp0] at HKL HKO
  clear hL h hB hp0
  go_enter Try.func51, Try.ntmps51
  go_wp2
  go_loopw [3] (fun i wr => ∃ j : Nat, j ≤ L ∧ i = .int .i64 j ∧ Hid (∀ k, k < j → mkB g k = true) ∧ Hid (Below w.heap.size w wr)) (fun i _ => L - (intOf i).toNat)
  case atStart => exact ⟨0, Nat.zero_le _, rfl, fun k hk => by omega, Below.refl _ _⟩
  case round =>
    obtain ⟨j, hj, rfl, hA, hB⟩ := hrel
    by_cases hlt : j < L
    case neg =>
      obtain rfl : j = L := by omega
      have HT : Hid (B = decide ((j : Int) ≤ 200)) := HYE.out hA.out
      obtain ⟨q, hq⟩ : ∃ q, decide ((j : Int) ≤ 200) = q := ⟨_, rfl⟩
      rw [hq] at HT
      clear hlt hj
      go_wp2
      go_ret
      exact ⟨by rw [HT.out, ← hq]; simp, hB.out⟩
    case pos =>
    obtain ⟨⟨b, off⟩, u, rfl, hbl, hc0, hrd⟩ := HC.out wr j hlt hB.out
    obtain ⟨⟨b0, off0⟩, u0, e, hbl0, hcz, hrz⟩ := HC.out wr 0 (by omega) hB.out
    simp at e
    obtain ⟨rfl, rfl⟩ := e
    dsimp only at hc0 hbl hcz
    rw [Nat.add_zero] at hcz
    rw [HP0.out] at hrz
    have HNJ : Hid (mkB g j = false → B = false) := HNO.out j hlt
    have HW1 : Hid (¬ (1 ≤ ((g.getD j []).length : Int) ∧ ((g.getD j []).length : Int) ≤ 12) → mkB g j = false) := HKW.out j
    have HL1 : Hid ((g.getD j []).length ≠ p0.length → mkB g j = false) := HKL.out j
    have HA1 : Hid (awB (g.getD j []) (-120) 0 = false → mkB g j = false) := HKA.out j
    have HO1 : Hid ((1 ≤ ((g.getD j []).length : Int) ∧ ((g.getD j []).length : Int) ≤ 12) → (g.getD j []).length = p0.length → awB (g.getD j []) (-120) 0 = true → mkB g j = true) := HKO.out j
    have HS : Hid (mkB g j = true → ∀ k, k < j + 1 → mkB g k = true) := fun hq k hk => by
      rcases Nat.lt_or_ge k j with h | h
      · exact hA.out k h
      · obtain rfl : k = j := by omega
        exact hq
    obtain ⟨p, hp⟩ : ∃ p, g.getD j [] = p := ⟨_, rfl⟩
    rw [hp] at hrd HW1 HL1 HA1 HO1
    obtain ⟨au, cu, hvu, hu1, hu2, -⟩ := id hrd
    obtain ⟨az, cz, hvz, hz1, hz2, -⟩ := id hrz
    subst hvu hvz
    have HCU : Hid (∀ W j, j < p.length → Below w.heap.size w W → ∃ bo : Nat × Nat, au = some ⟨bo.1, bo.2, none⟩ ∧ bo.1 < w.heap.size ∧ W.cell? ⟨bo.1, bo.2 + j, none⟩ = some (.int .i64 (p.getD j 0))) := rdc hrd
    have HCJ : Hid (∀ W, Below w.heap.size w W → W.cell? ⟨b, off + j, none⟩ = some (.slice au p.length cu)) := fun W hW => by
      have e1 := hB.out.cell (p := ⟨b, off + j, none⟩) hbl
      rw [hW.cell (p := ⟨b, off + j, none⟩) hbl, ← e1]; exact hc0
    unfold maxLen at hu2 hz2
    have y0 : ∀ W : Ov wr, W.wd.cell? ⟨b, off + j, none⟩ = some (.slice au p.length cu) := ov_cell hc0
    have y1 : ∀ W : Ov wr, W.wd.cell? ⟨b, off, none⟩ = some (.slice az p0.length cz) := ov_cell hcz
    have ne : Nonempty (Ov wr) := ⟨⟨_, Below.refl _ _⟩⟩
    have hi0 : (0 : Int) ≤ (j : Int) := by omega
    have hi1 : (j : Int) < (L : Int) := by omega
    have hi2 : (0 : Int) < (L : Int) := by omega
    clear hp hrd hrz hc0 hcz
    by_cases hpl : p.length = p0.length
    case neg =>
      have hn : ((p.length : Int) != (p0.length : Int)) = true := by rw [bne_iff_ne]; omega
      have HF : Hid (B = false) := HNJ.out (HL1.out hpl)
      clear hpl
      go_wp2
      refine region_over (by kernel_rfl) (by kernel_rfl) ?_
      repeat (go_big_quiet_step (fail))
      refine wpQuiet_nil ?_
      rintro _ ⟨W, rfl⟩
      have HBW : Hid (Below w.heap.size w W.wd) := belowCall hB.out W.ok hB.out.size
      go_wp2
      go_ret
      exact ⟨by rw [HF.out]; rfl, HBW.out⟩
    case pos =>
    have hn : ((p.length : Int) != (p0.length : Int)) = false := by simp [hpl]
    have HPL : Hid (p.length = p0.length) := hpl
    clear hpl
    obtain ⟨q, hq⟩ : ∃ q, decide (1 ≤ (p.length : Int) ∧ (p.length : Int) ≤ 12) = q := ⟨_, rfl⟩
    have HQ : Hid (decide (1 ≤ (p.length : Int) ∧ (p.length : Int) ≤ 12) = q) := hq
    have HCL : Hid (∀ W : Ov wr, Calls Try.prog 52 #[.int .i64 (p.length : Int), .int .i64 1, .int .i64 12] W.wd fun e w'' => e = .returned (.bool q) ∧ ∃ W' : Ov wr, w'' = W'.wd) := fun W => ov_call ((in_c (p.length : Int) 1 12 W.wd).mono fun e w' ⟨h1, h2⟩ => ⟨by rw [h1, hq], by rw [h2]; exact Below.refl _ _⟩)
    clear hq
    cases q with
    | false =>
      have HF : Hid (B = false) := HNJ.out (HW1.out (of_decide_eq_false HQ.out))
      go_wp2
      refine region_over (by kernel_rfl) (by kernel_rfl) ?_
      repeat (go_big_quiet_step (first | (go_at_call 52; exact HCL.out _)))
      refine wpQuiet_nil ?_
      rintro _ ⟨W, rfl⟩
      have HBW : Hid (Below w.heap.size w W.wd) := belowCall hB.out W.ok hB.out.size
      clear HCL
      go_wp2
      go_ret
      exact ⟨by rw [HF.out]; rfl, HBW.out⟩
    | true =>
    have HAN : Hid (∀ k, k < p.length → ¬ (-120 ≤ p.getD k 0 ∧ p.getD k 0 ≤ 0) → B = false) := fun k hk hn => HNJ.out (HA1.out (awB_no k hk hn))
    have HAY : Hid ((∀ k, k < p.length → -120 ≤ p.getD k 0 ∧ p.getD k 0 ≤ 0) → ∀ k, k < j + 1 → mkB g k = true) := fun h => HS.out (HO1.out (of_decide_eq_true HQ.out) HPL.out (awB_yes h))
    clear HNO HKW HKL HKA HKO HL1 HA1 HW1 HO1 HS
    go_wp2
    refine region_over (by kernel_rfl) (by kernel_rfl) ?_
    repeat (go_big_quiet_step (first | (go_at_call 52; exact HCL.out _)))
    refine wpQuiet_nil ?_
    rintro _ ⟨W, rfl⟩
    have HBW : Hid (Below w.heap.size w W.wd) := belowCall hB.out W.ok hB.out.size
    obtain ⟨wv, hwv⟩ : ∃ x, W.wd = x := ⟨_, rfl⟩
    rw [hwv] at HBW ⊢
    have hcj := HCJ.out wv HBW.out
    clear HCL y0 y1 ne hwv hB
    go_wp2
    go_loop [4] (fun i => ∃ k : Nat, k ≤ p.length ∧ i = .int .i64 k ∧ Hid (∀ t, t < k → -120 ≤ p.getD t 0 ∧ p.getD t 0 ≤ 0)) (fun i => p.length - (intOf i).toNat)
    case atStart => exact ⟨0, Nat.zero_le _, rfl, fun t ht => by omega⟩
    case round =>
      obtain ⟨k, hk, rfl, hK⟩ := hrel
      by_cases hkt : k < p.length
      case pos =>
        obtain ⟨⟨b', off'⟩, rfl, hbl', hc1⟩ := HCU.out wv k hkt HBW.out
        dsimp only at hc1 hbl'
        have HFN : Hid (¬ (-120 ≤ p.getD k 0 ∧ p.getD k 0 ≤ 0) → B = false) := HAN.out k hkt
        have HKS : Hid (-120 ≤ p.getD k 0 ∧ p.getD k 0 ≤ 0 → ∀ t, t < k + 1 → -120 ≤ p.getD t 0 ∧ p.getD t 0 ≤ 0) := fun hq t ht => by
          rcases Nat.lt_or_ge t k with h | h
          · exact hK.out t h
          · obtain rfl : t = k := by omega
            exact hq
        obtain ⟨x, hx⟩ : ∃ x, p.getD k 0 = x := ⟨_, rfl⟩
        rw [hx] at hc1 HFN HKS
        have hk0 : (0 : Int) ≤ (k : Int) := by omega
        have hk1 : (k : Int) < (p.length : Int) := by omega
        clear hx
        go_wp2_with (fail)
        refine (in_c x (-120) 0 _).mono ?_
        rintro e w1 ⟨rfl, hw⟩
        rw [hw]
        clear hw w1
        by_cases hq : -120 ≤ x ∧ x ≤ 0
        case neg =>
          have HF : Hid (B = false) := HFN.out hq
          rw [decide_eq_false hq]
          clear hq
          go_wp2
          go_ret
          exact ⟨by rw [HF.out]; rfl, HBW.out⟩
        case pos =>
        rw [decide_eq_true hq]
        have HK2 : Hid (∀ t, t < k + 1 → -120 ≤ p.getD t 0 ∧ p.getD t 0 ≤ 0) := HKS.out hq
        clear hq HKS HFN
        go_wp2
        go_round
        case rel => exact ⟨k + 1, by omega, by go_num, HK2.out⟩
        case measure => simp [intOf]; omega
      case neg =>
      obtain rfl : k = p.length := by omega
      have HS2 : Hid (∀ k, k < j + 1 → mkB g k = true) := HAY.out hK.out
      clear hkt hk
      go_wp2
      go_roundw
      case rel => exact ⟨j + 1, by omega, by go_num, HS2.out, HBW.out⟩
      case measure => simp [intOf]; omega

end Go.Proofs.Ytikgempdohpdjaa

/- gainsOk, both; no condition. -/
import Derived.Test.YtikgempdohpdjaaLda
namespace Go.Proofs.Ytikgempdohpdjaa
open Go.RowKit Go.ChangeShapes Go.WideShapes Go.ChangeAt
set_option linter.unusedVariables false
set_option linter.unusedSimpArgs false
set_option maxRecDepth 8000

theorem gkB_len {g : List (List Int)} {i : Nat} (h : (g.getD i []).length ≠ g.length) : gkB g i = false := by unfold gkB; rw [decide_eq_false h]; rfl
theorem gkB_aw {g : List (List Int)} {i : Nat} (h : awB (g.getD i []) 0 1000 = false) : gkB g i = false := by unfold gkB; rw [h]; simp
theorem gkB_dg {g : List (List Int)} {i : Nat} (h : (g.getD i []).getD i 0 < 1) : gkB g i = false := by unfold gkB; rw [decide_eq_false (show ¬ 1 ≤ (g.getD i []).getD i 0 by omega)]; simp
theorem gkB_ok {g : List (List Int)} {i : Nat} (h1 : (g.getD i []).length = g.length) (h2 : awB (g.getD i []) 0 1000 = true) (h3 : 1 ≤ (g.getD i []).getD i 0) : gkB g i = true := by unfold gkB; rw [decide_eq_true h1, decide_eq_true h3, h2]; rfl
theorem ge1_of {zs : List Int} {i : Nat} (h : awB zs 0 1000 = true) (hi : i < zs.length) (hn : ¬ zs.getD i 0 = 0) : 1 ≤ zs.getD i 0 := by have := awB_at h i hi; omega
set_option maxHeartbeats 3200000 in
theorem gainsI_c (v : Value) (g : List (List Int)) (w : World) (h : Rn w v g) : Calls Try.prog 59 #[v] w fun e w' => e = .returned (.bool (gnB g)) ∧ w' = w := by
  obtain ⟨a, cap, rfl, h1, h2, -⟩ := id h
  unfold maxLen at h2
  have HC : Hid (∀ W j, j < g.length → Below w.heap.size w W → ∃ (bo : Nat × Nat) (u : Value), a = some ⟨bo.1, bo.2, none⟩ ∧ bo.1 < w.heap.size ∧ W.cell? ⟨bo.1, bo.2 + j, none⟩ = some u ∧ Rd .i64 w u (g.getD j [])) := rnc h
  have HNO : Hid (∀ i, i < g.length → gkB g i = false → gnB g = false) := fun i hi hk => gnB_row hi hk
  have HYE : Hid ((∀ i, i < g.length → gkB g i = true) → gnB g = decide (1 ≤ (g.length : Int) ∧ (g.length : Int) ≤ 12)) := gnB_all
  have HN1 : Hid (¬ (1 ≤ (g.length : Int) ∧ (g.length : Int) ≤ 12) → gnB g = false) := fun h => by unfold gnB; rw [decide_eq_false h]; rfl
  have HKL : Hid (∀ i, (g.getD i []).length ≠ g.length → gkB g i = false) := fun i h => gkB_len h
  have HKA : Hid (∀ i, awB (g.getD i []) 0 1000 = false → gkB g i = false) := fun i h => gkB_aw h
  have HKD : Hid (∀ i, (g.getD i []).getD i 0 < 1 → gkB g i = false) := fun i h => gkB_dg h
  have HKO : Hid (∀ i, (g.getD i []).length = g.length → awB (g.getD i []) 0 1000 = true → 1 ≤ (g.getD i []).getD i 0 → gkB g i = true) := fun i h1 h2 h3 => gkB_ok h1 h2 h3
  obtain ⟨L, hL⟩ : ∃ L, g.length = L := ⟨_, rfl⟩
  rw [hL] at h1 HC HNO HYE HN1 HKL HKO ⊢
  obtain ⟨B, hB⟩ : ∃ B, gnB g = B := ⟨_, rfl⟩
  rw [hB] at HNO HYE HN1 ⊢
  clear hL h hB
  go_enter Try.func59, Try.ntmps59
  go_wp2_with (fail)
  refine (within_c (L : Int) 1 12 _).mono ?_
  rintro e w1 ⟨rfl, hw⟩
  rw [hw]
  clear hw w1
  by_cases hl : 1 ≤ (L : Int) ∧ (L : Int) ≤ 12
  case neg =>
    have HF : Hid (B = false) := HN1.out hl
    rw [decide_eq_false hl]
    clear hl
    go_wp2
    go_ret
    exact ⟨by rw [HF.out]; rfl, rfl⟩
  rw [decide_eq_true hl]
  have HYT : Hid ((∀ i, i < L → gkB g i = true) → B = true) := fun h => by rw [HYE.out h, decide_eq_true hl]
  clear HYE HN1
  go_wp2
  go_loop [11] (fun i => ∃ j : Nat, j ≤ L ∧ i = .int .i64 j ∧ Hid (∀ k, k < j → gkB g k = true)) (fun i => L - (intOf i).toNat)
  case atStart => exact ⟨0, Nat.zero_le _, rfl, fun k hk => by omega⟩
  case round =>
    obtain ⟨j, hj, rfl, hA⟩ := hrel
    by_cases hlt : j < L
    case neg =>
      obtain rfl : j = L := by omega
      have HT : Hid (B = true) := HYT.out hA.out
      clear hlt hj hl
      go_wp2
      go_ret
      exact ⟨by rw [HT.out]; rfl, rfl⟩
    case pos =>
    obtain ⟨⟨b, off⟩, u, rfl, hbl, hc0, hrd⟩ := HC.out w j hlt (Below.refl _ _)
    dsimp only at hc0 hbl
    have HNJ : Hid (gkB g j = false → B = false) := HNO.out j hlt
    have HL1 : Hid ((g.getD j []).length ≠ L → gkB g j = false) := HKL.out j
    have HA1 : Hid (awB (g.getD j []) 0 1000 = false → gkB g j = false) := HKA.out j
    have HD1 : Hid ((g.getD j []).getD j 0 < 1 → gkB g j = false) := HKD.out j
    have HO1 : Hid ((g.getD j []).length = L → awB (g.getD j []) 0 1000 = true → 1 ≤ (g.getD j []).getD j 0 → gkB g j = true) := HKO.out j
    have HS : Hid (gkB g j = true → ∀ k, k < j + 1 → gkB g k = true) := fun hq k hk => by
      rcases Nat.lt_or_ge k j with h | h
      · exact hA.out k h
      · obtain rfl : k = j := by omega
        exact hq
    obtain ⟨p, hp⟩ : ∃ p, g.getD j [] = p := ⟨_, rfl⟩
    rw [hp] at hrd HL1 HA1 HD1 HO1
    have HRD : Hid (Rd .i64 w u p) := hrd
    obtain ⟨au, cu, hvu, hu1, hu2, -⟩ := id hrd
    have HVU : Hid (u = .slice au p.length cu) := hvu
    rw [hvu] at hc0 hrd
    have HCU : Hid (∀ W j, j < p.length → Below w.heap.size w W → ∃ bo : Nat × Nat, au = some ⟨bo.1, bo.2, none⟩ ∧ bo.1 < w.heap.size ∧ W.cell? ⟨bo.1, bo.2 + j, none⟩ = some (.int .i64 (p.getD j 0))) := rdc hrd
    unfold maxLen at hu2
    have hi0 : (0 : Int) ≤ (j : Int) := by omega
    have hi1 : (j : Int) < (L : Int) := by omega
    clear hp hvu hrd
    by_cases hpl : p.length = L
    case neg =>
      have hn : ((p.length : Int) != (L : Int)) = true := by rw [bne_iff_ne]; omega
      have HF : Hid (B = false) := HNJ.out (HL1.out hpl)
      have HX : Hid (¬ p.length = L) := hpl
      clear hpl hl
      go_wp2
      go_ret
      exact ⟨by rw [HF.out]; rfl, rfl⟩
    case pos =>
    have hn : ((p.length : Int) != (L : Int)) = false := by simp [hpl]
    have HPL : Hid (p.length = L) := hpl
    obtain ⟨⟨b', off'⟩, hau, hbl', hc1⟩ := HCU.out w j (by omega) (Below.refl _ _)
    dsimp only at hau hc1 hbl'
    subst hau
    have hi2 : (j : Int) < (p.length : Int) := by omega
    have HG1 : Hid (awB p 0 1000 = true → ¬ p.getD j 0 = 0 → 1 ≤ p.getD j 0) := fun h1 h2 => ge1_of h1 (by omega) h2
    clear hpl
    go_wp2_with (fail)
    rw [← HVU.out]
    refine (areWithin_c u p 0 1000 _ HRD.out).mono ?_
    rintro e w1 ⟨rfl, hw⟩
    rw [hw]
    clear hw w1
    obtain ⟨q, hq⟩ : ∃ q, awB p 0 1000 = q := ⟨_, rfl⟩
    have HQ : Hid (awB p 0 1000 = q) := hq
    rw [hq]
    clear hq
    cases q with
    | false =>
      have HF : Hid (B = false) := HNJ.out (HA1.out HQ.out)
      clear hl
      go_wp2
      go_ret
      exact ⟨by rw [HF.out]; rfl, rfl⟩
    | true =>
    rw [HVU.out]
    obtain ⟨x, hx⟩ : ∃ x, p.getD j 0 = x := ⟨_, rfl⟩
    rw [hx] at hc1 HG1 HD1 HO1
    clear hx
    by_cases hx0 : x = 0
    case pos =>
      have HF : Hid (B = false) := HNJ.out (HD1.out (by omega))
      subst hx0
      clear hl
      go_wp2
      go_ret
      exact ⟨by rw [HF.out]; rfl, rfl⟩
    case neg =>
    have hxe : (x == 0) = false := by simp [hx0]
    have HS2 : Hid (∀ k, k < j + 1 → gkB g k = true) := HS.out (HO1.out HPL.out HQ.out (HG1.out HQ.out hx0))
    clear hx0 HS
    go_wp2
    go_round
    case rel => exact ⟨j + 1, by omega, by go_num, HS2.out⟩
    case measure => simp [intOf]; omega
set_option maxHeartbeats 3200000 in
theorem gainsM_c (v : Value) (g : List (List Int)) (w : World) (h : Rn w v g) : Calls Try.prog 61 #[v] w fun e w' => e = .returned (.bool (gnB g)) ∧ w' = w := by
  obtain ⟨a, cap, rfl, h1, h2, -⟩ := id h
  unfold maxLen at h2
  have HC : Hid (∀ W j, j < g.length → Below w.heap.size w W → ∃ (bo : Nat × Nat) (u : Value), a = some ⟨bo.1, bo.2, none⟩ ∧ bo.1 < w.heap.size ∧ W.cell? ⟨bo.1, bo.2 + j, none⟩ = some u ∧ Rd .i64 w u (g.getD j [])) := rnc h
  have HNO : Hid (∀ i, i < g.length → gkB g i = false → gnB g = false) := fun i hi hk => gnB_row hi hk
  have HYE : Hid ((∀ i, i < g.length → gkB g i = true) → gnB g = decide (1 ≤ (g.length : Int) ∧ (g.length : Int) ≤ 12)) := gnB_all
  have HKL : Hid (∀ i, (g.getD i []).length ≠ g.length → gkB g i = false) := fun i h => gkB_len h
  have HKA : Hid (∀ i, awB (g.getD i []) 0 1000 = false → gkB g i = false) := fun i h => gkB_aw h
  have HKD : Hid (∀ i, (g.getD i []).getD i 0 < 1 → gkB g i = false) := fun i h => gkB_dg h
  have HKO : Hid (∀ i, (g.getD i []).length = g.length → awB (g.getD i []) 0 1000 = true → 1 ≤ (g.getD i []).getD i 0 → gkB g i = true) := fun i h1 h2 h3 => gkB_ok h1 h2 h3
  obtain ⟨L, hL⟩ : ∃ L, g.length = L := ⟨_, rfl⟩
  rw [hL] at h1 HC HNO HYE HKL HKO ⊢
  obtain ⟨B, hB⟩ : ∃ B, gnB g = B := ⟨_, rfl⟩
  rw [hB] at HNO HYE ⊢
  clear hL h hB
  go_enter Try.func61, Try.ntmps61
  go_wp2
  go_loop [3] (fun i => ∃ j : Nat, j ≤ L ∧ i = .int .i64 j ∧ Hid (∀ k, k < j → gkB g k = true)) (fun i => L - (intOf i).toNat)
  case atStart => exact ⟨0, Nat.zero_le _, rfl, fun k hk => by omega⟩
  case round =>
    obtain ⟨j, hj, rfl, hA⟩ := hrel
    by_cases hlt : j < L
    case neg =>
      obtain rfl : j = L := by omega
      have HT : Hid (B = decide (1 ≤ (j : Int) ∧ (j : Int) ≤ 12)) := HYE.out hA.out
      clear hlt hj
      go_wp2_with (fail)
      refine (in_c (j : Int) 1 12 _).mono ?_
      rintro e w1 ⟨rfl, hw⟩
      rw [hw, ← HT.out]
      clear hw w1
      go_wp2
      go_ret
      exact ⟨rfl, rfl⟩
    case pos =>
    obtain ⟨⟨b, off⟩, u, rfl, hbl, hc0, hrd⟩ := HC.out w j hlt (Below.refl _ _)
    dsimp only at hc0 hbl
    have HNJ : Hid (gkB g j = false → B = false) := HNO.out j hlt
    have HL1 : Hid ((g.getD j []).length ≠ L → gkB g j = false) := HKL.out j
    have HA1 : Hid (awB (g.getD j []) 0 1000 = false → gkB g j = false) := HKA.out j
    have HD1 : Hid ((g.getD j []).getD j 0 < 1 → gkB g j = false) := HKD.out j
    have HO1 : Hid ((g.getD j []).length = L → awB (g.getD j []) 0 1000 = true → 1 ≤ (g.getD j []).getD j 0 → gkB g j = true) := HKO.out j
    have HS : Hid (gkB g j = true → ∀ k, k < j + 1 → gkB g k = true) := fun hq k hk => by
      rcases Nat.lt_or_ge k j with h | h
      · exact hA.out k h
      · obtain rfl : k = j := by omega
        exact hq
    obtain ⟨p, hp⟩ : ∃ p, g.getD j [] = p := ⟨_, rfl⟩
    rw [hp] at hrd HL1 HA1 HD1 HO1
    obtain ⟨au, cu, hvu, hu1, hu2, -⟩ := id hrd
    rw [hvu] at hc0 hrd
    have HCU : Hid (∀ W j, j < p.length → Below w.heap.size w W → ∃ bo : Nat × Nat, au = some ⟨bo.1, bo.2, none⟩ ∧ bo.1 < w.heap.size ∧ W.cell? ⟨bo.1, bo.2 + j, none⟩ = some (.int .i64 (p.getD j 0))) := rdc hrd
    unfold maxLen at hu2
    have hi0 : (0 : Int) ≤ (j : Int) := by omega
    have hi1 : (j : Int) < (L : Int) := by omega
    clear hp hvu hrd
    by_cases hpl : p.length = L
    case neg =>
      have hn : ((p.length : Int) != (L : Int)) = true := by rw [bne_iff_ne]; omega
      have HF : Hid (B = false) := HNJ.out (HL1.out hpl)
      have HX : Hid (¬ p.length = L) := hpl
      clear hpl
      go_wp2
      go_ret
      exact ⟨by rw [HF.out]; rfl, rfl⟩
    case pos =>
    have hn : ((p.length : Int) != (L : Int)) = false := by simp [hpl]
    have HPL : Hid (p.length = L) := hpl
    have HAN : Hid (∀ k, k < L → ¬ (0 ≤ p.getD k 0 ∧ p.getD k 0 ≤ 1000) → B = false) := fun k hk hn => HNJ.out (HA1.out (awB_no k (by omega) hn))
    have HAY : Hid ((∀ k, k < L → 0 ≤ p.getD k 0 ∧ p.getD k 0 ≤ 1000) → awB p 0 1000 = true) := fun h => awB_yes (fun k hk => h k (by omega))
    clear hpl HNO HKL HKA HKD HKO HL1 HA1
    go_wp2
    go_loop [4] (fun i => ∃ k : Nat, k ≤ L ∧ i = .int .i64 k ∧ Hid (∀ t, t < k → 0 ≤ p.getD t 0 ∧ p.getD t 0 ≤ 1000)) (fun i => L - (intOf i).toNat)
    case atStart => exact ⟨0, Nat.zero_le _, rfl, fun t ht => by omega⟩
    case round =>
      obtain ⟨k, hk, rfl, hK⟩ := hrel
      by_cases hkt : k < L
      case pos =>
        obtain ⟨⟨b', off'⟩, rfl, hbl', hc1⟩ := HCU.out w k (by have := HPL.out; omega) (Below.refl _ _)
        dsimp only at hc1 hbl'
        have HFN : Hid (¬ (0 ≤ p.getD k 0 ∧ p.getD k 0 ≤ 1000) → B = false) := HAN.out k hkt
        have HKS : Hid (0 ≤ p.getD k 0 ∧ p.getD k 0 ≤ 1000 → ∀ t, t < k + 1 → 0 ≤ p.getD t 0 ∧ p.getD t 0 ≤ 1000) := fun hq t ht => by
          rcases Nat.lt_or_ge t k with h | h
          · exact hK.out t h
          · obtain rfl : t = k := by omega
            exact hq
        obtain ⟨x, hx⟩ : ∃ x, p.getD k 0 = x := ⟨_, rfl⟩
        rw [hx] at hc1 HFN HKS
        have hk0 : (0 : Int) ≤ (k : Int) := by omega
        have hk1 : (k : Int) < (L : Int) := by omega
        have hk2 : (k : Int) < (p.length : Int) := by have := HPL.out; omega
        clear hx
        go_wp2_with (fail)
        refine (in_c x 0 1000 _).mono ?_
        rintro e w1 ⟨rfl, hw⟩
        rw [hw]
        clear hw w1
        by_cases hq : 0 ≤ x ∧ x ≤ 1000
        case neg =>
          have HF : Hid (B = false) := HFN.out hq
          rw [decide_eq_false hq]
          clear hq
          go_wp2
          go_ret
          exact ⟨by rw [HF.out]; rfl, rfl⟩
        case pos =>
        rw [decide_eq_true hq]
        have HK2 : Hid (∀ t, t < k + 1 → 0 ≤ p.getD t 0 ∧ p.getD t 0 ≤ 1000) := HKS.out hq
        clear hq HKS HFN
        go_wp2
        go_round
        case rel => exact ⟨k + 1, by omega, by go_num, HK2.out⟩
        case measure => simp [intOf]; omega
      case neg =>
      obtain rfl : k = L := by omega
      have HAT : Hid (awB p 0 1000 = true) := HAY.out hK.out
      obtain ⟨⟨b', off'⟩, rfl, hbl', hc1⟩ := HCU.out w j (by have := HPL.out; omega) (Below.refl _ _)
      dsimp only at hc1 hbl'
      obtain ⟨x, hx⟩ : ∃ x, p.getD j 0 = x := ⟨_, rfl⟩
      rw [hx] at hc1 HD1 HO1
      have hk2 : (j : Int) < (p.length : Int) := by have := HPL.out; omega
      clear hx hkt hk
      by_cases hx1 : x < 1
      case pos =>
        have HF : Hid (B = false) := HNJ.out (HD1.out (by omega))
        have hd : decide (x < 1) = true := decide_eq_true hx1
        go_wp2
        go_ret
        exact ⟨by rw [HF.out]; rfl, rfl⟩
      case neg =>
      have hd : decide (x < 1) = false := decide_eq_false hx1
      have he : (x < 1) = False := eq_false hx1
      have HS2 : Hid (∀ k, k < j + 1 → gkB g k = true) := HS.out (HO1.out HPL.out HAT.out (by omega))
      clear hx1 HS
      go_wp2
      go_round
      case rel => exact ⟨j + 1, by omega, by go_num, HS2.out⟩
      case measure => simp [intOf]; omega

end Go.Proofs.Ytikgempdohpdjaa

/- measuresOk; no condition. -/
import Derived.Test.YtikgempdohpdjaaSva
namespace Go.Proofs.Ytikgempdohpdjaa
open Go.RowKit Go.ChangeShapes Go.WideShapes Go.ChangeAt
set_option linter.unusedVariables false
set_option linter.unusedSimpArgs false
set_option maxRecDepth 8000

theorem mkB_w {g : List (List Int)} {i : Nat} (h : ¬ (1 ≤ ((g.getD i []).length : Int) ∧ ((g.getD i []).length : Int) ≤ 12)) : mkB g i = false := by unfold mkB; rw [decide_eq_false h]; rfl
theorem mkB_l {g : List (List Int)} {i : Nat} (h : (g.getD i []).length ≠ (g.getD 0 []).length) : mkB g i = false := by unfold mkB; rw [decide_eq_false h]; simp
theorem mkB_a {g : List (List Int)} {i : Nat} (h : awB (g.getD i []) (-120) 0 = false) : mkB g i = false := by unfold mkB; rw [h]; simp
theorem mkB_ok {g : List (List Int)} {i : Nat} (h1 : 1 ≤ ((g.getD i []).length : Int) ∧ ((g.getD i []).length : Int) ≤ 12) (h2 : (g.getD i []).length = (g.getD 0 []).length) (h3 : awB (g.getD i []) (-120) 0 = true) : mkB g i = true := by unfold mkB; rw [decide_eq_true h1, decide_eq_true h2, h3]; rfl
set_option maxHeartbeats 3200000 in
theorem measI_c (v : Value) (g : List (List Int)) (w : World) (h : Rn w v g) : Calls Try.prog 47 #[v] w fun e w' => e = .returned (.bool (msB g)) ∧ w' = w := by
  obtain ⟨a, cap, rfl, h1, h2, -⟩ := id h
  unfold maxLen at h2
  have HC : Hid (∀ W j, j < g.length → Below w.heap.size w W → ∃ (bo : Nat × Nat) (u : Value), a = some ⟨bo.1, bo.2, none⟩ ∧ bo.1 < w.heap.size ∧ W.cell? ⟨bo.1, bo.2 + j, none⟩ = some u ∧ Rd .i64 w u (g.getD j [])) := rnc h
  have HNO : Hid (∀ i, i < g.length → mkB g i = false → msB g = false) := fun i hi hk => msB_row hi hk
  have HYE : Hid ((∀ i, i < g.length → mkB g i = true) → msB g = decide ((g.length : Int) ≤ 200)) := msB_all
  have HN1 : Hid (¬ ((g.length : Int) ≤ 200) → msB g = false) := fun h => by unfold msB; rw [decide_eq_false h]; rfl
  have HKW : Hid (∀ i, ¬ (1 ≤ ((g.getD i []).length : Int) ∧ ((g.getD i []).length : Int) ≤ 12) → mkB g i = false) := fun i h => mkB_w h
  have HKL : Hid (∀ i, (g.getD i []).length ≠ (g.getD 0 []).length → mkB g i = false) := fun i h => mkB_l h
  have HKA : Hid (∀ i, awB (g.getD i []) (-120) 0 = false → mkB g i = false) := fun i h => mkB_a h
  have HKO : Hid (∀ i, (1 ≤ ((g.getD i []).length : Int) ∧ ((g.getD i []).length : Int) ≤ 12) → (g.getD i []).length = (g.getD 0 []).length → awB (g.getD i []) (-120) 0 = true → mkB g i = true) := fun i h1 h2 h3 => mkB_ok h1 h2 h3
  obtain ⟨L, hL⟩ : ∃ L, g.length = L := ⟨_, rfl⟩
  rw [hL] at h1 HC HNO HYE HN1 ⊢
  obtain ⟨B, hB⟩ : ∃ B, msB g = B := ⟨_, rfl⟩
  rw [hB] at HNO HYE HN1 ⊢
  obtain ⟨p0, hp0⟩ : ∃ p, g.getD 0 [] = p := ⟨_, rfl⟩
  have HP0 : Hid (g.getD 0 [] = p0) := hp0
  rw [hp0] at HKL HKO
  clear hL h hB hp0
  by_cases hl : (200 : Int) < (L : Int)
  case pos =>
    have HF : Hid (B = false) := HN1.out (by omega)
    have hd : decide ((200 : Int) < (L : Int)) = true := decide_eq_true hl
    go_enter Try.func47, Try.ntmps47
    go_wp2
    go_ret
    exact ⟨by rw [HF.out]; rfl, rfl⟩
  have hd : decide ((200 : Int) < (L : Int)) = false := decide_eq_false hl
  have he : ((200 : Int) < (L : Int)) = False := eq_false hl
  have HYT : Hid ((∀ i, i < L → mkB g i = true) → B = true) := fun h => by rw [HYE.out h, decide_eq_true (by omega)]
  clear HYE HN1 hl
  go_enter Try.func47, Try.ntmps47
  go_wp2
  go_loop [10] (fun i => ∃ j : Nat, j ≤ L ∧ i = .int .i64 j ∧ Hid (∀ k, k < j → mkB g k = true)) (fun i => L - (intOf i).toNat)
  case atStart => exact ⟨0, Nat.zero_le _, rfl, fun k hk => by omega⟩
  case round =>
    obtain ⟨j, hj, rfl, hA⟩ := hrel
    clear hd he
    by_cases hlt : j < L
    case neg =>
      obtain rfl : j = L := by omega
      have HT : Hid (B = true) := HYT.out hA.out
      clear hlt hj
      go_wp2
      go_ret
      exact ⟨by rw [HT.out]; rfl, rfl⟩
    case pos =>
    obtain ⟨⟨b, off⟩, u, rfl, hbl, hc0, hrd⟩ := HC.out w j hlt (Below.refl _ _)
    obtain ⟨bo, u0, e, hbl0, hcz, hrz⟩ := HC.out w 0 (by omega) (Below.refl _ _)
    cases e
    dsimp only at hc0 hbl hcz
    rw [Nat.add_zero] at hcz
    rw [HP0.out] at hrz
    have HNJ : Hid (mkB g j = false → B = false) := HNO.out j hlt
    have HW1 : Hid (¬ (1 ≤ ((g.getD j []).length : Int) ∧ ((g.getD j []).length : Int) ≤ 12) → mkB g j = false) := HKW.out j
    have HL1 : Hid ((g.getD j []).length ≠ p0.length → mkB g j = false) := HKL.out j
    have HA1 : Hid (awB (g.getD j []) (-120) 0 = false → mkB g j = false) := HKA.out j
    have HO1 : Hid ((1 ≤ ((g.getD j []).length : Int) ∧ ((g.getD j []).length : Int) ≤ 12) → (g.getD j []).length = p0.length → awB (g.getD j []) (-120) 0 = true → mkB g j = true) := HKO.out j
    have HS : Hid (mkB g j = true → ∀ k, k < j + 1 → mkB g k = true) := fun hq k hk => by
      rcases Nat.lt_or_ge k j with h | h
      · exact hA.out k h
      · obtain rfl : k = j := by omega
        exact hq
    obtain ⟨p, hp⟩ : ∃ p, g.getD j [] = p := ⟨_, rfl⟩
    rw [hp] at hrd HW1 HL1 HA1 HO1
    have HRD : Hid (Rd .i64 w u p) := hrd
    obtain ⟨au, cu, hvu, hu1, hu2, -⟩ := id hrd
    obtain ⟨az, cz, hvz, hz1, hz2, -⟩ := id hrz
    have HVU : Hid (u = .slice au p.length cu) := hvu
    rw [hvu] at hc0
    rw [hvz] at hcz
    unfold maxLen at hu2 hz2
    have hi0 : (0 : Int) ≤ (j : Int) := by omega
    have hi1 : (j : Int) < (L : Int) := by omega
    have hi2 : (0 : Int) < (L : Int) := by omega
    clear hp hvu hrd hrz hvz
    go_wp2_with (fail)
    refine (within_c (p.length : Int) 1 12 _).mono ?_
    rintro e w1 ⟨rfl, hw⟩
    rw [hw]
    clear hw w1
    by_cases hpw : 1 ≤ (p.length : Int) ∧ (p.length : Int) ≤ 12
    case neg =>
      have HF : Hid (B = false) := HNJ.out (HW1.out hpw)
      rw [decide_eq_false hpw]
      clear hpw
      go_wp2
      go_ret
      exact ⟨by rw [HF.out]; rfl, rfl⟩
    rw [decide_eq_true hpw]
    by_cases hpl : p.length = p0.length
    case neg =>
      have hn : ((p.length : Int) != (p0.length : Int)) = true := by rw [bne_iff_ne]; omega
      have HF : Hid (B = false) := HNJ.out (HL1.out hpl)
      clear hpl
      go_wp2
      go_ret
      exact ⟨by rw [HF.out]; rfl, rfl⟩
    case pos =>
    have hn : ((p.length : Int) != (p0.length : Int)) = false := by simp [hpl]
    have HPL : Hid (p.length = p0.length) := hpl
    have HPW : Hid (1 ≤ (p.length : Int) ∧ (p.length : Int) ≤ 12) := hpw
    clear hpl
    go_wp2_with (fail)
    rw [← HVU.out]
    refine (areWithin_c u p (-120) 0 _ HRD.out).mono ?_
    rintro e w1 ⟨rfl, hw⟩
    rw [hw]
    clear hw w1
    obtain ⟨q, hq⟩ : ∃ q, awB p (-120) 0 = q := ⟨_, rfl⟩
    have HQ : Hid (awB p (-120) 0 = q) := hq
    rw [hq]
    clear hq
    cases q with
    | false =>
      have HF : Hid (B = false) := HNJ.out (HA1.out HQ.out)
      go_wp2
      go_ret
      exact ⟨by rw [HF.out]; rfl, rfl⟩
    | true =>
    have HS2 : Hid (∀ k, k < j + 1 → mkB g k = true) := HS.out (HO1.out HPW.out HPL.out HQ.out)
    clear HS
    go_wp2
    go_round
    case rel => exact ⟨j + 1, by omega, by go_num, HS2.out⟩
    case measure => simp [intOf]; omega

end Go.Proofs.Ytikgempdohpdjaa

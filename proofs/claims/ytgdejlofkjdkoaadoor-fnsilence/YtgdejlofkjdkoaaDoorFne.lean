/- What is found; no condition. -/
import Derived.Test.YtgdejlofkjdkoaaDoorFnd
namespace Go.Proofs.YtgdejlofkjdkoaaDoor
open Go.RowKit Go.ChangeShapes Go.WideShapes Go.ChangeAt
set_option linter.unusedVariables false
set_option linter.unusedSimpArgs false
set_option maxRecDepth 8000

theorem bst_max (p : Nat → Int) (k : Nat) (hk : k < 4) (h : ∀ i, i < 4 → i ≠ k → p i < p k) : bst p 4 = k := by
  have h0 := h 0 (by omega)
  have h1 := h 1 (by omega)
  have h2 := h 2 (by omega)
  have h3 := h 3 (by omega)
  have e1 : bst p 1 = 0 := by simp [bst]
  have e2 : bst p 2 = if p (bst p 1) < p 1 then 1 else bst p 1 := rfl
  have e3 : bst p 3 = if p (bst p 2) < p 2 then 2 else bst p 2 := rfl
  have e4 : bst p 4 = if p (bst p 3) < p 3 then 3 else bst p 3 := rfl
  rw [e1] at e2
  have hkk : k = 0 ∨ k = 1 ∨ k = 2 ∨ k = 3 := by omega
  by_cases c1 : p 0 < p 1
  · rw [if_pos c1] at e2
    rw [e2] at e3
    by_cases c2 : p 1 < p 2
    · rw [if_pos c2] at e3
      rw [e3] at e4
      by_cases c3 : p 2 < p 3
      · rw [if_pos c3] at e4
        rw [e4]
        rcases hkk with rfl | rfl | rfl | rfl <;> first | rfl | (exfalso; omega)
      · rw [if_neg c3] at e4
        rw [e4]
        rcases hkk with rfl | rfl | rfl | rfl <;> first | rfl | (exfalso; omega)
    · rw [if_neg c2] at e3
      rw [e3] at e4
      by_cases c3 : p 1 < p 3
      · rw [if_pos c3] at e4
        rw [e4]
        rcases hkk with rfl | rfl | rfl | rfl <;> first | rfl | (exfalso; omega)
      · rw [if_neg c3] at e4
        rw [e4]
        rcases hkk with rfl | rfl | rfl | rfl <;> first | rfl | (exfalso; omega)
  · rw [if_neg c1] at e2
    rw [e2] at e3
    by_cases c2 : p 0 < p 2
    · rw [if_pos c2] at e3
      rw [e3] at e4
      by_cases c3 : p 2 < p 3
      · rw [if_pos c3] at e4
        rw [e4]
        rcases hkk with rfl | rfl | rfl | rfl <;> first | rfl | (exfalso; omega)
      · rw [if_neg c3] at e4
        rw [e4]
        rcases hkk with rfl | rfl | rfl | rfl <;> first | rfl | (exfalso; omega)
    · rw [if_neg c2] at e3
      rw [e3] at e4
      by_cases c3 : p 0 < p 3
      · rw [if_pos c3] at e4
        rw [e4]
        rcases hkk with rfl | rfl | rfl | rfl <;> first | rfl | (exfalso; omega)
      · rw [if_neg c3] at e4
        rw [e4]
        rcases hkk with rfl | rfl | rfl | rfl <;> first | rfl | (exfalso; omega)
theorem outB_max (p : Nat → Int) (k : Nat) (h : ∀ i, i < 4 → i ≠ k → 8 * p i ≤ p k) : outB p k 4 = true := by
  have h0 := h 0 (by omega)
  have h1 := h 1 (by omega)
  have h2 := h 2 (by omega)
  have h3 := h 3 (by omega)
  simp only [outB, Bool.true_and, Bool.and_eq_true, Bool.or_eq_true, decide_eq_true_eq]
  omega
theorem found (zs : List Int) (d : Nat) (hd : d < 16) (sz ph : Int) (h : Tn zs sz ph (12 + 2 * (d / 4 : Nat)) (22 + 4 * (d % 4 : Nat))) (hlv : lvB zs = true) : dgF zs = d := by
  have hsz := h.hs
  have hs2 : 40000 ≤ sz * sz := by
    have := (show (200 : Int) * 200 ≤ sz * sz from Int.mul_le_mul hsz hsz (by omega) (by omega))
    omega
  have mR := h.main (12 + 2 * (d / 4 : Nat)) h.hr (.inl rfl)
  have mC := h.main (22 + 4 * (d % 4 : Nat)) h.hc (.inr rfl)
  have oR : ∀ i, i < 4 → i ≠ d / 4 → 25 * rwP zs i ≤ 2738 * (sz * sz) := fun i hi hne => h.other (12 + 2 * (i : Int)) ⟨by omega, by omega, by omega⟩ (by omega) (by omega)
  have oC : ∀ i, i < 4 → i ≠ d % 4 → 25 * clP zs i ≤ 2738 * (sz * sz) := fun i hi hne => h.other (22 + 4 * (i : Int)) ⟨by omega, by omega, by omega⟩ (by omega) (by omega)
  have en := h.en
  have b1 : bst (rwP zs) 4 = d / 4 := bst_max _ _ (by omega) (fun i hi hne => by have := oR i hi hne; show _ < pw zs _; omega)
  have b2 : bst (clP zs) 4 = d % 4 := bst_max _ _ (by omega) (fun i hi hne => by have := oC i hi hne; show _ < pw zs _; omega)
  have o1 : outB (rwP zs) (d / 4) 4 = true := outB_max _ _ (fun i hi hne => by have := oR i hi hne; show _ ≤ pw zs _; omega)
  have o2 : outB (clP zs) (d % 4) 4 = true := outB_max _ _ (fun i hi hne => by have := oC i hi hne; show _ ≤ pw zs _; omega)
  have eR : rwP zs (d / 4) = pw zs (12 + 2 * (d / 4 : Nat)) := rfl
  have eC : clP zs (d % 4) = pw zs (22 + 4 * (d % 4 : Nat)) := rfl
  unfold dgF
  rw [b1, b2, o1, o2, eR, eC, if_pos]
  · omega
  · unfold dgB
    simp only [h.hl, hlv, Bool.and_eq_true, decide_eq_true_eq]
    refine ⟨⟨trivial, trivial⟩, ⟨⟨⟨⟨⟨⟨trivial, trivial⟩, ?_⟩, ?_⟩, ?_⟩, ?_⟩, ?_⟩⟩ <;> omega
theorem near_bd (a : Int) : -536870912 ≤ 1073741824 * near a - a ∧ 1073741824 * near a - a ≤ 536870912 := by unfold near; omega
/-- a tone's levels, with noise -/
theorem tn_of (zs : List Int) (d : Nat) (hd : d < 16) (sz ph : Int) (hl : zs.length = 128) (hs : 200 ≤ sz) (b : Nat) (hb : b % 128 = 0) (n : Nat → Int) (hn : ∀ i, i < 128 → -(sz + 20) ≤ 20 * n i ∧ 20 * n i ≤ sz + 20) (hz : ∀ i, i < 128 → zs.getD i 0 = tnF d sz ph (b + i) + n i) :
    Tn zs sz ph (12 + 2 * (d / 4 : Nat)) (22 + 4 * (d % 4 : Nat)) := by
  refine ⟨hl, hs, ⟨by omega, by omega, by omega⟩, ⟨by omega, by omega, by omega⟩, by omega, fun i hi => ?_⟩
  have h1 := hn i hi
  rw [hz i hi]
  unfold tnF
  have e : ∀ s : Int, s % 2 = 0 → wave ((ph + ((b + i : Nat) : Int)) * s) = wave ((ph + i) * s) := fun s hs => by
    apply wave_mod
    obtain ⟨q, hq⟩ : ∃ q : Nat, b = 128 * q := ⟨b / 128, by omega⟩
    obtain ⟨m, hm⟩ : ∃ m : Int, s = 2 * m := ⟨s / 2, by omega⟩
    have e1 : (ph + ((b + i : Nat) : Int)) * s = (ph + i) * s + 256 * (q * m) := by
      rw [hq, hm, Int.natCast_add, Int.natCast_mul]
      have : (ph + (((128 : Nat) : Int) * (q : Int) + (i : Int))) * (2 * m) = (ph + i) * (2 * m) + 128 * (q : Int) * (2 * m) := by rw [← Int.add_mul]; congr 1; omega
      rw [this, Int.mul_assoc 128, Int.mul_left_comm (q : Int) 2 m]; omega
    rw [e1]; omega
  rw [e _ (by omega), e _ (by omega)]
  have h2 := near_bd (sz * (wave ((ph + i) * (12 + 2 * (d / 4 : Nat))) + wave ((ph + i) * (22 + 4 * (d % 4 : Nat)))))
  obtain ⟨a, ha⟩ : ∃ a, sz * (wave ((ph + i) * (12 + 2 * (d / 4 : Nat))) + wave ((ph + i) * (22 + 4 * (d % 4 : Nat)))) = a := ⟨_, rfl⟩
  rw [ha] at h2 ⊢
  omega
theorem tnF_bd (d : Nat) (sz ph : Int) (hs : 0 ≤ sz) (i : Nat) : -(2 * sz + 1) ≤ tnF d sz ph i ∧ tnF d sz ph i ≤ 2 * sz + 1 := by
  unfold tnF
  have h2 := near_bd (sz * (wave ((ph + i) * (12 + 2 * (d / 4 : Nat))) + wave ((ph + i) * (22 + 4 * (d % 4 : Nat)))))
  have w1 := wave_bd ((ph + i) * (12 + 2 * (d / 4 : Nat)))
  have w2 := wave_bd ((ph + i) * (22 + 4 * (d % 4 : Nat)))
  have m := mul_bd (a := sz) (A := sz) (b := wave ((ph + i) * (12 + 2 * (d / 4 : Nat))) + wave ((ph + i) * (22 + 4 * (d % 4 : Nat)))) (B := 2147483648) ⟨by omega, by omega⟩ ⟨by omega, by omega⟩
  omega

end Go.Proofs.YtgdejlofkjdkoaaDoor

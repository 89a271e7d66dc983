/- The program's events and the model's are the same; no condition. -/
import Derived.Test.YtljejjfhlpjlfaaEvM
namespace Go.Proofs.Ytljejjfhlpjlfaa
open Go.RowKit Go.ChangeShapes Go.WideShapes Go.ChangeAt
set_option linter.unusedVariables false
set_option linter.unusedSimpArgs false
set_option maxRecDepth 8000
theorem arr_same0 (s c s' c' : Int) (ls : Tri) (q r : Int) (hl : ls.length ≤ 39) (hq0 : 1 ≤ q) (hq1 : q ≤ 4) :
    tellP (s, c, s', c', ls) 0 5 (0, q, r) = (arrM (s, c, s', c', ls) 0 q r, true) ∧ (arrM (s, c, s', c', ls) 0 q r).2.2.2.2.length ≤ 40 := by
  have h40 : ¬ ls.length = 40 := by omega
  rcases (show q = 1 ∨ q = 2 ∨ q = 3 ∨ q = 4 by omega) with rfl | rfl | rfl | rfl
  · simp [tellP, turnH, arrM, seizM]; omega
  · by_cases hc : c = r
    · subst hc
      by_cases hs : s = 1
      · subst hs; simp [tellP, turnH, arrM]; omega
      · simp [tellP, turnH, arrM, hs]; omega
    · have hc' : ¬ r = c := fun e => hc e.symm
      simp [tellP, turnH, arrM, hc, hc']; omega
  · by_cases hc : c ≤ r
    · simp [tellP, turnH, arrM, hc, h40]; omega
    · simp [tellP, turnH, arrM, hc, h40]; omega
  · by_cases hc : c = r
    · subst hc
      by_cases hs : s = 4
      · subst hs; simp [tellP, turnH, arrM]; omega
      · simp [tellP, turnH, arrM, hs]; omega
    · have hc' : ¬ r = c := fun e => hc e.symm
      simp [tellP, turnH, arrM, hc, hc']; omega
theorem arr_same1 (s c s' c' : Int) (ls : Tri) (q r : Int) (hs1 : ¬ s' = 1) (hl : ls.length ≤ 39) (hq0 : 1 ≤ q) (hq1 : q ≤ 4) :
    tellP (s, c, s', c', ls) 1 5 (1, q, r) = (arrM (s, c, s', c', ls) 1 q r, true) ∧ (arrM (s, c, s', c', ls) 1 q r).2.2.2.2.length ≤ 40 := by
  have h40 : ¬ ls.length = 40 := by omega
  rcases (show q = 1 ∨ q = 2 ∨ q = 3 ∨ q = 4 by omega) with rfl | rfl | rfl | rfl
  · by_cases h1 : c' < r
    · simp [tellP, turnH, arrM, seizM, h1]; omega
    by_cases h2 : r < c'
    · have hc : ¬ r = c' := by omega
      simp [tellP, turnH, arrM, seizM, h1, h2, hc]; omega
    obtain rfl : c' = r := by omega
    by_cases h3 : s' = 3
    · subst h3; simp [tellP, turnH, arrM, seizM, h40]; omega
    by_cases h4 : s' = 4
    · subst h4; simp [tellP, turnH, arrM, seizM, h40]; omega
    simp [tellP, turnH, arrM, seizM, h3, h4]; omega
  · by_cases hc : c' = r
    · subst hc
      simp [tellP, turnH, arrM, hs1]; omega
    · have hc' : ¬ r = c' := fun e => hc e.symm
      simp [tellP, turnH, arrM, hc, hc']; omega
  · by_cases hc : c' ≤ r
    · simp [tellP, turnH, arrM, hc, h40]; omega
    · simp [tellP, turnH, arrM, hc, h40]; omega
  · by_cases hc : c' = r
    · subst hc
      by_cases hs : s' = 4
      · subst hs; simp [tellP, turnH, arrM]; omega
      · simp [tellP, turnH, arrM, hs]; omega
    · have hc' : ¬ r = c' := fun e => hc e.symm
      simp [tellP, turnH, arrM, hc, hc']; omega
theorem ev_same (s c s' c' : Int) (ls : Tri) (k i : Int) (h : DOk s c s' c' ls) : happenP (s, c, s', c', ls) k i = doE (s, c, s', c', ls) k i := by
  have hl := h.2.2.2.2.2.2.1
  have hs1 := h.2.2.2.1
  have hs2 := h.2.1
  have h01 := h.1
  have h02 := h.2.2.1
  have hc := h.2.2.2.2.1
  by_cases k1 : k = 1
  · subst k1
    by_cases i0 : i = 0
    · subst i0
      by_cases s0 : s = 0
      · subst s0
        by_cases hcc : c < 1000
        · have hcn : ¬ 1000 ≤ c := by omega
          by_cases hL : ls.length = 40
          · simp [happenP, halfP, tellP, turnH, doE, doM, hcc, hcn, hL]
          · have hL2 : ls.length ≤ 39 := by omega
            simp [happenP, halfP, tellP, turnH, doE, doM, hcc, hcn, hL, hL2]
        · have hcn : 1000 ≤ c := by omega
          simp [happenP, halfP, tellP, turnH, doE, doM, hcc, hcn]
      · simp [happenP, halfP, tellP, turnH, doE, doM, s0]
    · simp [happenP, halfP, doE, doM, i0]
  by_cases k2 : k = 2
  · subst k2
    by_cases i0 : i = 0
    · subst i0
      by_cases s0 : s' = 2
      · subst s0
        by_cases hL : ls.length = 40
        · simp [happenP, halfP, tellP, turnH, doE, doM, hL]
        · have hL2 : ls.length ≤ 39 := by omega
          simp [happenP, halfP, tellP, turnH, doE, doM, hL, hL2]
      · simp [happenP, halfP, tellP, turnH, doE, doM, s0]
    · simp [happenP, halfP, doE, doM, i0]
  by_cases k3 : k = 3
  · subst k3
    by_cases i0 : i = 0
    · subst i0
      by_cases s0 : s = 0
      · subst s0; simp [happenP, halfP, tellP, turnH, doE, doM, clrM]
      by_cases s4 : s = 4
      · subst s4; simp [happenP, halfP, tellP, turnH, doE, doM, clrM]
      by_cases hL : ls.length = 40
      · simp [happenP, halfP, tellP, turnH, doE, doM, clrM, s0, s4, hL]
      · have hL2 : ls.length ≤ 39 := by omega
        simp [happenP, halfP, tellP, turnH, doE, doM, clrM, s0, s4, hL, hL2]
    by_cases i1 : i = 1
    · subst i1
      by_cases s0 : s' = 0
      · subst s0; simp [happenP, halfP, tellP, turnH, doE, doM, clrM]
      by_cases s4 : s' = 4
      · subst s4; simp [happenP, halfP, tellP, turnH, doE, doM, clrM]
      by_cases hL : ls.length = 40
      · simp [happenP, halfP, tellP, turnH, doE, doM, clrM, s0, s4, hL]
      · have hL2 : ls.length ≤ 39 := by omega
        simp [happenP, halfP, tellP, turnH, doE, doM, clrM, s0, s4, hL, hL2]
    · have hi : ¬ (0 ≤ i ∧ i ≤ 1) := by omega
      simp only [happenP, halfP, doE, doM]
      simp [hi]
  by_cases k4 : k = 4
  · subst k4
    by_cases i0 : i = 0
    · subst i0
      by_cases hL : ls.length = 40
      · by_cases s1 : s = 1
        · subst s1; simp [happenP, halfP, tellP, turnH, doE, doM, timM, hL]
        by_cases s4 : s = 4
        · subst s4; simp [happenP, halfP, tellP, turnH, doE, doM, timM, hL]
        simp [happenP, halfP, tellP, turnH, doE, doM, timM, s1, s4, hl]
      · have hL2 : ls.length ≤ 39 := by omega
        by_cases s1 : s = 1
        · subst s1; simp [happenP, halfP, tellP, turnH, doE, doM, timM, hL, hL2]
        by_cases s4 : s = 4
        · subst s4; simp [happenP, halfP, tellP, turnH, doE, doM, timM, hL, hL2]
        simp [happenP, halfP, tellP, turnH, doE, doM, timM, s1, s4, hl]
    by_cases i1 : i = 1
    · subst i1
      by_cases hL : ls.length = 40
      · by_cases s4 : s' = 4
        · subst s4; simp [happenP, halfP, tellP, turnH, doE, doM, timM, hL]
        simp [happenP, halfP, tellP, turnH, doE, doM, timM, hs1, s4, hl]
      · have hL2 : ls.length ≤ 39 := by omega
        by_cases s4 : s' = 4
        · subst s4; simp [happenP, halfP, tellP, turnH, doE, doM, timM, hL, hL2]
        simp [happenP, halfP, tellP, turnH, doE, doM, timM, hs1, s4, hl]
    · have hi : ¬ (0 ≤ i ∧ i ≤ 1) := by omega
      simp only [happenP, halfP, doE, doM]
      simp [hi]
  by_cases k567 : k = 5 ∨ k = 6 ∨ k = 7
  case neg =>
    have h5 : ¬ k = 5 := fun e => k567 (.inl e)
    have h6 : ¬ k = 6 := fun e => k567 (.inr (.inl e))
    have h7 : ¬ k = 7 := fun e => k567 (.inr (.inr e))
    simp [happenP, halfP, doE, doM, k1, k2, k3, k4, h5, h6, h7]
  have e1 : happenP (s, c, s', c', ls) k i = wayP (s, c, s', c', ls) k i := by simp only [happenP]; rw [if_pos k567]
  by_cases hin : 0 ≤ i ∧ i ≤ (ls.length : Int) - 1
  case neg =>
    have hw : wayP (s, c, s', c', ls) k i = ((s, c, s', c', ls), false) := wayP_out (show i < 0 ∨ (ls.length : Int) ≤ i by omega)
    rw [e1, hw]
    simp only [doE, doM]
    simp [k1, k2, k3, k4, k567, hin]
  obtain ⟨j, rfl⟩ : ∃ j : Nat, i = (j : Int) := ⟨i.toNat, by omega⟩
  have hjl : j < ls.length := by omega
  have hnot : ¬ ((j : Int) < 0 ∨ (ls.length : Int) ≤ (j : Int)) := by omega
  have hG : ls.getD j (0, 0, 0) = ls[j] := by rw [List.getD_eq_getElem?_getD, List.getElem?_eq_getElem hjl]; rfl
  have hsg := h.2.2.2.2.2.2.2 j hjl
  have hle : (ls.eraseIdx j).length ≤ 39 := by rw [List.length_eraseIdx, if_pos hjl]; omega
  have hD : doM (s, c, s', c', ls) k (j : Int) = (wayM (s, c, s', c', ls) k j, true) := by
    simp only [doM]
    rw [if_neg k1, if_neg k2, if_neg k3, if_neg k4, if_pos k567, if_pos hin, Int.toNat_natCast]
  have hW : wayP (s, c, s', c', ls) k (j : Int) = if k = 7 then sendP (s, c, s', c', ls) (ls.getD (j : Int).toNat (0, 0, 0)) else if k = 6 then ((s, c, s', c', ls.eraseIdx (j : Int).toNat), true) else tellP (s, c, s', c', ls.eraseIdx (j : Int).toNat) (ls.getD (j : Int).toNat (0, 0, 0)).1 5 (ls.getD (j : Int).toNat (0, 0, 0)) := if_neg hnot
  rw [e1, hW, Int.toNat_natCast, hG]
  simp only [doE, hD]
  obtain ⟨⟨p, q, r⟩, hx⟩ : ∃ x, ls[j] = x := ⟨_, rfl⟩
  rw [hx] at hsg hG ⊢
  rcases k567 with rfl | rfl | rfl
  · simp only [wayM, hG]
    have hp := hsg.1
    have hq := hsg.2.1
    simp at hp hq
    rcases (show p = 0 ∨ p = 1 by omega) with rfl | rfl
    · obtain ⟨a1, a2⟩ := arr_same0 s c s' c' (ls.eraseIdx j) q r hle hq.1 hq.2
      simp only [a1]
      simp [a2]
    · obtain ⟨a1, a2⟩ := arr_same1 s c s' c' (ls.eraseIdx j) q r hs1 hle hq.1 hq.2
      simp only [a1]
      simp [a2]
  · have : (ls.eraseIdx j).length ≤ 40 := by omega
    simp [wayM, this]
  · simp only [wayM, hG]
    by_cases hL : ls.length = 40
    · simp [sendP, hL]
    · have hL2 : ls.length ≤ 39 := by omega
      simp [sendP, hL, hL2]
end Go.Proofs.Ytljejjfhlpjlfaa

/- Events one behind the other: the duo stays right; no condition; no condition. -/
import Derived.Test.YtljejjfhlpjlfaaSeA
namespace Go.Proofs.Ytljejjfhlpjlfaa
open Go.RowKit Go.ChangeShapes Go.WideShapes Go.ChangeAt
set_option linter.unusedVariables false
set_option linter.unusedSimpArgs false
set_option maxRecDepth 8000
theorem dok_sn {s c s' c' : Int} {ls : Tri} {x : Int × Int × Int} (a1 : 0 ≤ s ∧ s ≤ 4) (a2 : s ≠ 2) (a3 : 0 ≤ s' ∧ s' ≤ 4) (a4 : s' ≠ 1) (a5 : 0 ≤ c ∧ c ≤ 1000) (a6 : 0 ≤ c' ∧ c' ≤ c) (hl : (ls ++ [x]).length ≤ 40) (hm : ∀ y ∈ ls, SgOk c y) (hx : SgOk c x) : DOk s c s' c' (ls ++ [x]) :=
  ⟨a1, a2, a3, a4, a5, a6, hl, mem_ok.2 fun y hy => by
    rcases List.mem_append.1 hy with h1 | h1
    · exact hm y h1
    · simp at h1; subst h1; exact hx⟩
theorem dok_clr {d : Dt} (h : DOt d) (i : Int) (hl : (clrM d i).1.2.2.2.2.length ≤ 40) : DOt (clrM d i).1 := by
  obtain ⟨s, c, s', c', ls⟩ := d
  have h' : DOk s c s' c' ls := h
  obtain ⟨a1, a2, a3, a4, a5, a6, a7, a8⟩ := h
  have hm := dok_mem h'
  simp only at a1 a2 a3 a4 a5 a6 a7
  unfold clrM at hl ⊢
  simp only at hl ⊢
  split at hl <;> rename_i hi
  · rw [if_pos hi]
    split at hl <;> rename_i h1
    · rw [if_pos h1]; exact h'
    · rw [if_neg h1]; show DOk 4 c s' c' _; exact dok_sn (by omega) (by omega) a3 a4 a5 a6 hl hm ⟨by simp, by simp, a5.1, Int.le_refl _⟩
  · rw [if_neg hi]
    split at hl <;> rename_i h1
    · rw [if_pos h1]; exact h'
    · rw [if_neg h1]; show DOk s c 4 c' _; exact dok_sn a1 a2 (by omega) (by omega) a5 a6 hl hm ⟨by simp, by simp, a6⟩
theorem dok_tim2 {d : Dt} (h : DOt d) (i : Int) (hl : (timM d i).2.2.2.2.length ≤ 40) : DOt (timM d i) := by
  obtain ⟨s, c, s', c', ls⟩ := d
  have h' : DOk s c s' c' ls := h
  obtain ⟨a1, a2, a3, a4, a5, a6, a7, a8⟩ := h
  have hm := dok_mem h'
  simp only at a1 a2 a3 a4 a5 a6 a7
  unfold timM at hl ⊢
  simp only at hl ⊢
  by_cases hi : i = 0
  · simp only [if_pos hi] at hl ⊢
    by_cases h1 : s = 1
    · simp only [if_pos h1] at hl ⊢; exact dok_sn a1 a2 a3 a4 a5 a6 hl hm ⟨by simp, by simp, a5.1, Int.le_refl _⟩
    simp only [if_neg h1] at hl ⊢
    by_cases h2 : s = 4
    · simp only [if_pos h2] at hl ⊢; exact dok_sn a1 a2 a3 a4 a5 a6 hl hm ⟨by simp, by simp, a5.1, Int.le_refl _⟩
    · simp only [if_neg h2]; exact h'
  · simp only [if_neg hi] at hl ⊢
    by_cases h1 : s' = 1
    · exact absurd h1 a4
    simp only [if_neg h1] at hl ⊢
    by_cases h2 : s' = 4
    · simp only [if_pos h2] at hl ⊢; exact dok_sn a1 a2 a3 a4 a5 a6 hl hm ⟨by simp, by simp, a6⟩
    · simp only [if_neg h2]; exact h'
theorem dok_way {d : Dt} (h : DOt d) (k : Int) (j : Nat) (hj : j < d.2.2.2.2.length) (hl : (wayM d k j).2.2.2.2.length ≤ 40) : DOt (wayM d k j) := by
  obtain ⟨s, c, s', c', ls⟩ := d
  have h' : DOk s c s' c' ls := h
  obtain ⟨a1, a2, a3, a4, a5, a6, a7, a8⟩ := h
  have hm := dok_mem h'
  simp only at a1 a2 a3 a4 a5 a6 a7 hj
  have hg : SgOk c (ls.getD j (0, 0, 0)) := by
    have e : ls.getD j (0, 0, 0) = ls[j] := by simp [List.getD, List.getElem?_eq_getElem hj]
    rw [e]; exact hm _ (List.getElem_mem hj)
  unfold wayM at hl ⊢
  simp only at hl ⊢
  split at hl <;> rename_i h1
  · rw [if_pos h1]; exact dok_sn a1 a2 a3 a4 a5 a6 hl hm hg
  rw [if_neg h1]
  split at hl <;> rename_i h2
  · rw [if_pos h2]
    exact dok_arr (dok_erase h' j) (by rw [List.length_eraseIdx_of_lt hj]; omega) hg
  · rw [if_neg h2]; exact dok_erase h' j
theorem dok_doE {d : Dt} (h : DOt d) (k i : Int) : DOt (doE d k i).1 := by
  unfold doE
  split
  case isFalse => exact h
  case isTrue hh =>
  obtain ⟨ht, hl⟩ := hh
  show DOt (doM d k i).1
  obtain ⟨s, c, s', c', ls⟩ := d
  have h' : DOk s c s' c' ls := h
  obtain ⟨a1, a2, a3, a4, a5, a6, a7, a8⟩ := h'
  have h' : DOk s c s' c' ls := h
  have hm := dok_mem h'
  unfold doM at ht hl ⊢
  split at hl <;> rename_i e1
  · simp only [if_pos e1] at ht ⊢
    split at hl <;> rename_i h1
    · simp only [if_pos h1]; exact h
    · simp only [if_neg h1]
      have h3 : c < 1000 := by simp only at h1; omega
      show DOk 1 (c + 1) s' c' _
      exact dok_sn (by simp) (by simp) a3 a4 ⟨by omega, by omega⟩ ⟨a6.1, by have := a6.2; omega⟩ hl (fun y hy => ⟨(hm y hy).1, (hm y hy).2.1, (hm y hy).2.2.1, by have := (hm y hy).2.2.2; omega⟩) ⟨by simp, by simp, by simp only; omega, Int.le_refl _⟩
  simp only [if_neg e1] at ht ⊢
  split at hl <;> rename_i e2
  · simp only [if_pos e2] at ht ⊢
    split at hl <;> rename_i h1
    · simp only [if_pos h1]; exact h
    · simp only [if_neg h1]
      show DOk s c 3 c' _
      exact dok_sn a1 a2 (by simp) (by simp) a5 a6 hl hm ⟨by simp, by simp, a6⟩
  simp only [if_neg e2] at ht ⊢
  split at hl <;> rename_i e3
  · simp only [if_pos e3] at ht ⊢
    split at hl <;> rename_i h1
    · simp only [if_pos h1]; exact dok_clr h i hl
    · simp only [if_neg h1]; exact h
  simp only [if_neg e3] at ht ⊢
  split at hl <;> rename_i e4
  · simp only [if_pos e4] at ht ⊢
    split at hl <;> rename_i h1
    · simp only [if_pos h1]; exact dok_tim2 h i hl
    · simp only [if_neg h1]; exact h
  simp only [if_neg e4] at ht ⊢
  split at hl <;> rename_i e5
  · simp only [if_pos e5] at ht ⊢
    split at hl <;> rename_i h1
    · simp only [if_pos h1]; exact dok_way h k _ (by simp only at h1 ⊢; omega) hl
    · simp only [if_neg h1]; exact h
  · simp only [if_neg e5]; exact h
/-- events one behind the other -/
def evL (es : List (Int × Int)) (d : Dt) : Dt := es.foldl (fun d x => (doE d x.1 x.2).1) d
theorem evL_snoc (es : List (Int × Int)) (x : Int × Int) (d : Dt) : evL (es ++ [x]) d = (doE (evL es d) x.1 x.2).1 := by simp [evL]
theorem evL_take (es : List (Int × Int)) (j : Nat) (h : j < es.length) (d : Dt) : evL (es.take (j + 1)) d = (doE (evL (es.take j) d) es[j].1 es[j].2).1 := by
  rw [List.take_succ_eq_append_getElem h, evL_snoc]
/-- what RunDuo is to tell -/
def RuR (d : Dt) (es : List (Int × Int)) (w : World) (e : Ending) (w' : World) : Prop := ∃ d', (es.length ≤ 300 → DOt d → d' = evL es d) ∧ (es.length ≤ 300 → ¬ DOt d → d' = d) ∧ (300 < es.length → d' = (0, 0, 0, 0, [])) ∧ DuS w.heap.size w (.slice none 0 0) d' e w'
end Go.Proofs.Ytljejjfhlpjlfaa

/- Two halves from the start: what they and the signals are to one another; no condition; no condition. -/
import Derived.Test.YtljejjfhlpjlfaaRuA
namespace Go.Proofs.Ytljejjfhlpjlfaa
open Go.RowKit Go.ChangeShapes Go.WideShapes Go.ChangeAt
set_option linter.unusedVariables false
set_option linter.unusedSimpArgs false
set_option maxRecDepth 8000
/-- what a signal on the way tells of the halves -/
def SgI (s c s' c' p q r : Int) : Prop :=
  (p = 0 → q ≠ 1) ∧ (p = 1 → q ≠ 2) ∧
  (p = 0 → q = 2 → r ≤ c' ∧ (r = c' → s' ≠ 2)) ∧
  (p = 0 → q = 3 → r ≤ c' ∧ (r = c' → s' = 4 ∨ s' = 0)) ∧
  (p = 0 → q = 4 → r ≤ c' ∧ (r = c → (s = 4 ∨ s = 0) ∧ s' = 0)) ∧
  (p = 1 → q = 3 → r = c → s = 4 ∨ s = 0) ∧
  (p = 1 → q = 4 → r = c → s = 0)
/-- what the halves are to one another -/
def HvI (s c s' c' : Int) : Prop := (s = 3 → c' = c ∧ (s' = 3 ∨ s' = 4)) ∧ (s = 1 → c' = c → s' ≠ 0) ∧ (s = 0 → c' = c ∧ (s' = 0 ∨ s' = 4))
def WyI (s c s' c' : Int) (ls : Tri) : Prop := ∀ x ∈ ls, SgI s c s' c' x.1 x.2.1 x.2.2
def InI (d : Dt) : Prop := DOt d ∧ HvI d.1 d.2.1 d.2.2.1 d.2.2.2.1 ∧ WyI d.1 d.2.1 d.2.2.1 d.2.2.2.1 d.2.2.2.2
theorem WyI.snoc {s c s' c' : Int} {ls : Tri} {p q r : Int} (h : WyI s c s' c' ls) (hx : SgI s c s' c' p q r) : WyI s c s' c' (ls ++ [(p, q, r)]) := fun y hy => by
  rcases List.mem_append.1 hy with h1 | h1
  · exact h y h1
  · simp at h1; subst h1; exact hx
theorem WyI.erase {s c s' c' : Int} {ls : Tri} (h : WyI s c s' c' ls) (j : Nat) : WyI s c s' c' (ls.eraseIdx j) := fun y hy => h y (List.mem_of_mem_eraseIdx hy)
/-- where the halves move on, the signals still tell the truth -/
theorem WyI.keep {s c s' c' t e t' e' : Int} {ls : Tri} (h : WyI s c s' c' ls) (hk : ∀ p q r, SgI s c s' c' p q r → SgI t e t' e' p q r) : WyI t e t' e' ls := fun y hy => hk _ _ _ (h y hy)
theorem wyM {s c s' c' t e t' e' : Int} {ls : Tri} (h : WyI s c s' c' ls) (hm : ∀ x ∈ ls, SgOk c x) (hk : ∀ p q r, SgOk c (p, q, r) → SgI s c s' c' p q r → SgI t e t' e' p q r) : WyI t e t' e' ls := fun y hy => hk _ _ _ (hm y hy) (h y hy)
set_option maxHeartbeats 3200000 in
theorem inv_arr {s c s' c' : Int} {ls : Tri} {p q r : Int} (h : DOk s c s' c' ls) (hv : HvI s c s' c') (hw : WyI s c s' c' ls) (hx : SgOk c (p, q, r)) (hi : SgI s c s' c' p q r) :
    HvI (arrM (s, c, s', c', ls) p q r).1 (arrM (s, c, s', c', ls) p q r).2.1 (arrM (s, c, s', c', ls) p q r).2.2.1 (arrM (s, c, s', c', ls) p q r).2.2.2.1 ∧ WyI (arrM (s, c, s', c', ls) p q r).1 (arrM (s, c, s', c', ls) p q r).2.1 (arrM (s, c, s', c', ls) p q r).2.2.1 (arrM (s, c, s', c', ls) p q r).2.2.2.1 (arrM (s, c, s', c', ls) p q r).2.2.2.2 := by
  obtain ⟨a1, a2, a3, a4, a5, a6, a7, a8⟩ := h
  have h : DOk s c s' c' ls := ⟨a1, a2, a3, a4, a5, a6, a7, a8⟩
  have hm := dok_mem h
  clear h a7 a8
  obtain ⟨hp, hq, hr⟩ := hx
  simp only at hp hq hr
  obtain ⟨i1, i2, i3, i4, i5, i6, i7⟩ := hi
  obtain ⟨v1, v2, v3⟩ := hv
  have hv' : HvI s c s' c' := ⟨v1, v2, v3⟩
  unfold arrM
  simp only
  split
  · rename_i q1
    clear i1 i2 i3 i4 i5 i6 i7
    unfold seizM
    simp only
    split
    · exact ⟨hv', hw⟩
    rename_i p0
    split
    · rename_i h1
      try dsimp only
      refine ⟨⟨fun e => by have := v1 e; omega, fun e1 e2 => by simp, fun e => by have := v3 e; omega⟩, wyM hw hm fun p2 q2 r2 g1 g2 => ?_⟩
      clear v1 v2 v3
      obtain ⟨-, -, g3⟩ := g1
      simp only at g3
      obtain ⟨g4, g5, g6, g7, g8, g9, g10⟩ := g2
      refine ⟨g4, g5, fun e1 e2 => ?_, fun e1 e2 => ?_, fun e1 e2 => ?_, fun e1 e2 e3 => ?_, fun e1 e2 e3 => ?_⟩
      · have k := g6 e1 e2; clear g4 g5 g6 g7 g8 g9 g10; omega
      · have k := g7 e1 e2; clear g4 g5 g6 g7 g8 g9 g10; omega
      · have k := g8 e1 e2; clear g4 g5 g6 g7 g8 g9 g10; omega
      · have k := g9 e1 e2; clear g4 g5 g6 g7 g8 g9 g10; omega
      · have k := g10 e1 e2; clear g4 g5 g6 g7 g8 g9 g10; omega
    split
    · exact ⟨hv', hw⟩
    split
    · exact ⟨hv', hw.snoc (by clear v1 v2 v3; refine ⟨by simp, by simp, fun e1 e2 => ?_, fun e1 e2 => ?_, fun e1 e2 => ?_, fun e1 e2 e3 => ?_, fun e1 e2 e3 => ?_⟩ <;> omega)⟩
    split
    · exact ⟨hv', hw.snoc (by clear v1 v2 v3; refine ⟨by simp, by simp, fun e1 e2 => ?_, fun e1 e2 => ?_, fun e1 e2 => ?_, fun e1 e2 e3 => ?_, fun e1 e2 e3 => ?_⟩ <;> omega)⟩
    · exact ⟨hv', hw⟩
  split
  · rename_i q1 q2'
    split
    · rename_i h1
      have hx := i3 h1.1.1 q2'
      clear i1 i2 i3 i4 i5 i6 i7
      try dsimp only
      refine ⟨⟨fun _ => by have := v2 h1.2; clear v1 v2 v3; omega, fun e => by simp at e, fun e => by simp at e⟩, wyM hw hm fun p2 q2 r2 g1 g2 => ?_⟩
      clear v1 v2 v3
      obtain ⟨-, -, g3⟩ := g1
      simp only at g3
      obtain ⟨g4, g5, g6, g7, g8, g9, g10⟩ := g2
      refine ⟨g4, g5, fun e1 e2 => ?_, fun e1 e2 => ?_, fun e1 e2 => ?_, fun e1 e2 e3 => ?_, fun e1 e2 e3 => ?_⟩
      · have k := g6 e1 e2; clear g4 g5 g6 g7 g8 g9 g10; omega
      · have k := g7 e1 e2; clear g4 g5 g6 g7 g8 g9 g10; omega
      · have k := g8 e1 e2; clear g4 g5 g6 g7 g8 g9 g10; omega
      · have k := g9 e1 e2; clear g4 g5 g6 g7 g8 g9 g10; omega
      · have k := g10 e1 e2; clear g4 g5 g6 g7 g8 g9 g10; omega
    · exact ⟨hv', hw⟩
  split
  · rename_i q1 q2' q3
    split
    · rename_i p0
      have hx := i4 p0 q3
      clear i1 i2 i3 i4 i5 i6 i7
      split
      · rename_i h1
        obtain rfl : r = c := by omega
        try dsimp only
        refine ⟨⟨fun e => by simp at e, fun e => by simp at e, fun _ => by clear v1 v2 v3; omega⟩, WyI.snoc (wyM hw hm fun p2 q2 r2 g1 g2 => ?_) (by clear v1 v2 v3; refine ⟨by simp, by simp, fun e1 e2 => ?_, fun e1 e2 => ?_, fun e1 e2 => ?_, fun e1 e2 e3 => ?_, fun e1 e2 e3 => ?_⟩ <;> omega)⟩
        clear v1 v2 v3
        obtain ⟨-, -, g3⟩ := g1
        simp only at g3
        obtain ⟨g4, g5, g6, g7, g8, g9, g10⟩ := g2
        refine ⟨g4, g5, fun e1 e2 => ?_, fun e1 e2 => ?_, fun e1 e2 => ?_, fun e1 e2 e3 => ?_, fun e1 e2 e3 => ?_⟩
        · have k := g6 e1 e2; clear g4 g5 g6 g7 g8 g9 g10; omega
        · have k := g7 e1 e2; clear g4 g5 g6 g7 g8 g9 g10; omega
        · have k := g8 e1 e2; clear g4 g5 g6 g7 g8 g9 g10; omega
        · have k := g9 e1 e2; clear g4 g5 g6 g7 g8 g9 g10; omega
        · have k := g10 e1 e2; clear g4 g5 g6 g7 g8 g9 g10; omega
      · exact ⟨hv', hw.snoc (by clear v1 v2 v3; refine ⟨by simp, by simp, fun e1 e2 => ?_, fun e1 e2 => ?_, fun e1 e2 => ?_, fun e1 e2 e3 => ?_, fun e1 e2 e3 => ?_⟩ <;> omega)⟩
    · rename_i p0
      have hx := i6 (by omega) q3
      clear i1 i2 i3 i4 i5 i6 i7
      split
      · try dsimp only
        refine ⟨⟨fun e => by have := v1 e; clear v1 v2 v3; omega, fun e1 e2 => by clear v1 v2 v3; omega, fun e => by have := v3 e; clear v1 v2 v3; omega⟩, WyI.snoc (wyM hw hm fun p2 q2 r2 g1 g2 => ?_) (by clear v1 v2 v3; refine ⟨by simp, by simp, fun e1 e2 => ?_, fun e1 e2 => ?_, fun e1 e2 => ?_, fun e1 e2 e3 => ?_, fun e1 e2 e3 => ?_⟩ <;> omega)⟩
        clear v1 v2 v3
        obtain ⟨-, -, g3⟩ := g1
        simp only at g3
        obtain ⟨g4, g5, g6, g7, g8, g9, g10⟩ := g2
        refine ⟨g4, g5, fun e1 e2 => ?_, fun e1 e2 => ?_, fun e1 e2 => ?_, fun e1 e2 e3 => ?_, fun e1 e2 e3 => ?_⟩
        · have k := g6 e1 e2; clear g4 g5 g6 g7 g8 g9 g10; omega
        · have k := g7 e1 e2; clear g4 g5 g6 g7 g8 g9 g10; omega
        · have k := g8 e1 e2; clear g4 g5 g6 g7 g8 g9 g10; omega
        · have k := g9 e1 e2; clear g4 g5 g6 g7 g8 g9 g10; omega
        · have k := g10 e1 e2; clear g4 g5 g6 g7 g8 g9 g10; omega
      · exact ⟨hv', hw.snoc (by clear v1 v2 v3; refine ⟨by simp, by simp, fun e1 e2 => ?_, fun e1 e2 => ?_, fun e1 e2 => ?_, fun e1 e2 e3 => ?_, fun e1 e2 e3 => ?_⟩ <;> omega)⟩
  split
  · rename_i q1 q2' q3 p0
    split
    · rename_i h1
      have hx := i5 p0 (by omega)
      clear i1 i2 i3 i4 i5 i6 i7
      try dsimp only
      refine ⟨⟨fun e => by simp at e, fun e => by simp at e, fun _ => by clear v1 v2 v3; omega⟩, wyM hw hm fun p2 q2 r2 g1 g2 => ?_⟩
      clear v1 v2 v3
      obtain ⟨-, -, g3⟩ := g1
      simp only at g3
      obtain ⟨g4, g5, g6, g7, g8, g9, g10⟩ := g2
      refine ⟨g4, g5, fun e1 e2 => ?_, fun e1 e2 => ?_, fun e1 e2 => ?_, fun e1 e2 e3 => ?_, fun e1 e2 e3 => ?_⟩
      · have k := g6 e1 e2; clear g4 g5 g6 g7 g8 g9 g10; omega
      · have k := g7 e1 e2; clear g4 g5 g6 g7 g8 g9 g10; omega
      · have k := g8 e1 e2; clear g4 g5 g6 g7 g8 g9 g10; omega
      · have k := g9 e1 e2; clear g4 g5 g6 g7 g8 g9 g10; omega
      · have k := g10 e1 e2; clear g4 g5 g6 g7 g8 g9 g10; omega
    · exact ⟨hv', hw⟩
  · rename_i q1 q2' q3 p0
    split
    · rename_i h1
      have hx := i7 (by omega) (by omega)
      clear i1 i2 i3 i4 i5 i6 i7
      try dsimp only
      refine ⟨⟨fun e => by have := v1 e; clear v1 v2 v3; omega, fun e1 e2 => by clear v1 v2 v3; omega, fun e => by have := v3 e; clear v1 v2 v3; omega⟩, wyM hw hm fun p2 q2 r2 g1 g2 => ?_⟩
      clear v1 v2 v3
      obtain ⟨-, -, g3⟩ := g1
      simp only at g3
      obtain ⟨g4, g5, g6, g7, g8, g9, g10⟩ := g2
      refine ⟨g4, g5, fun e1 e2 => ?_, fun e1 e2 => ?_, fun e1 e2 => ?_, fun e1 e2 e3 => ?_, fun e1 e2 e3 => ?_⟩
      · have k := g6 e1 e2; clear g4 g5 g6 g7 g8 g9 g10; omega
      · have k := g7 e1 e2; clear g4 g5 g6 g7 g8 g9 g10; omega
      · have k := g8 e1 e2; clear g4 g5 g6 g7 g8 g9 g10; omega
      · have k := g9 e1 e2; clear g4 g5 g6 g7 g8 g9 g10; omega
      · have k := g10 e1 e2; clear g4 g5 g6 g7 g8 g9 g10; omega
    · exact ⟨hv', hw⟩
end Go.Proofs.Ytljejjfhlpjlfaa
namespace Go.Proofs.Ytljejjfhlpjlfaa
open Go.RowKit Go.ChangeShapes Go.WideShapes Go.ChangeAt
set_option linter.unusedVariables false
set_option linter.unusedSimpArgs false
set_option maxRecDepth 8000
/-- halves and signals alone -/
def HwI (d : Dt) : Prop := HvI d.1 d.2.1 d.2.2.1 d.2.2.2.1 ∧ WyI d.1 d.2.1 d.2.2.1 d.2.2.2.1 d.2.2.2.2
theorem hw_clr {d : Dt} (h : DOt d) (hw : HwI d) (i : Int) : HwI (clrM d i).1 := by
  obtain ⟨s, c, s', c', ls⟩ := d
  have hm := dok_mem (show DOk s c s' c' ls from h)
  obtain ⟨a1, a2, a3, a4, a5, a6, a7, a8⟩ := h
  obtain ⟨hv, hw⟩ := hw
  simp only at a1 a2 a3 a4 a5 a6 hv hw
  have hvw : HwI (s, c, s', c', ls) := ⟨hv, hw⟩
  obtain ⟨v1, v2, v3⟩ := hv
  clear a7 a8
  unfold clrM
  simp only
  split
  · split
    · exact hvw
    · rename_i h1
      refine ⟨⟨fun e => by simp at e, fun e => by simp at e, fun e => by simp at e⟩, WyI.snoc (wyM hw hm fun p2 q2 r2 g1 g2 => ?_) ?_⟩
      · dsimp only
        clear v1 v2 v3
        obtain ⟨g4, g5, g6, g7, g8, g9, g10⟩ := g2
        refine ⟨g4, g5, g6, g7, fun e1 e2 => ?_, fun e1 e2 e3 => .inl rfl, fun e1 e2 e3 => ?_⟩
        · have k := g8 e1 e2; clear g4 g5 g6 g7 g8 g9 g10; omega
        · have k := g10 e1 e2 e3; clear g4 g5 g6 g7 g8 g9 g10; omega
      · dsimp only
        clear v1 v2 v3
        refine ⟨by simp, by simp, fun e1 e2 => ?_, fun e1 e2 => ?_, fun e1 e2 => ?_, fun e1 e2 e3 => ?_, fun e1 e2 e3 => ?_⟩ <;> omega
  · split
    · exact hvw
    · rename_i h1
      refine ⟨⟨fun e => ?_, fun e1 e2 => by simp, fun e => ?_⟩, WyI.snoc (wyM hw hm fun p2 q2 r2 g1 g2 => ?_) ?_⟩
      · dsimp only at e ⊢; have := v1 e; clear v1 v2 v3; omega
      · dsimp only at e ⊢; have := v3 e; clear v1 v2 v3; omega
      · dsimp only
        clear v1 v2 v3
        obtain ⟨g4, g5, g6, g7, g8, g9, g10⟩ := g2
        refine ⟨g4, g5, fun e1 e2 => ?_, fun e1 e2 => ?_, fun e1 e2 => ?_, g9, g10⟩
        · have k := g6 e1 e2; clear g4 g5 g6 g7 g8 g9 g10; omega
        · have k := g7 e1 e2; clear g4 g5 g6 g7 g8 g9 g10; omega
        · have k := g8 e1 e2; clear g4 g5 g6 g7 g8 g9 g10; omega
      · dsimp only
        clear v1 v2 v3
        refine ⟨by simp, by simp, fun e1 e2 => ?_, fun e1 e2 => ?_, fun e1 e2 => ?_, fun e1 e2 e3 => ?_, fun e1 e2 e3 => ?_⟩ <;> omega
theorem hw_tim {d : Dt} (h : DOt d) (hw : HwI d) (i : Int) : HwI (timM d i) := by
  obtain ⟨s, c, s', c', ls⟩ := d
  obtain ⟨a1, a2, a3, a4, a5, a6, a7, a8⟩ := h
  obtain ⟨hv, hw⟩ := hw
  simp only at a1 a2 a3 a4 a5 a6 hv hw
  have hvw : HwI (s, c, s', c', ls) := ⟨hv, hw⟩
  clear a7 a8
  unfold timM
  simp only
  by_cases hi : i = 0
  · simp only [if_pos hi]
    by_cases h1 : s = 1
    · simp only [if_pos h1]
      refine ⟨hv, hw.snoc ?_⟩
      try dsimp only
      refine ⟨by simp, by simp, fun e1 e2 => ?_, fun e1 e2 => ?_, fun e1 e2 => ?_, fun e1 e2 e3 => ?_, fun e1 e2 e3 => ?_⟩ <;> omega
    simp only [if_neg h1]
    by_cases h2 : s = 4
    · simp only [if_pos h2]
      refine ⟨hv, hw.snoc ?_⟩
      try dsimp only
      refine ⟨by simp, by simp, fun e1 e2 => ?_, fun e1 e2 => ?_, fun e1 e2 => ?_, fun e1 e2 e3 => ?_, fun e1 e2 e3 => ?_⟩ <;> omega
    · simp only [if_neg h2]; exact hvw
  · simp only [if_neg hi]
    by_cases h1 : s' = 1
    · exact absurd h1 a4
    simp only [if_neg h1]
    by_cases h2 : s' = 4
    · simp only [if_pos h2]
      refine ⟨hv, hw.snoc ?_⟩
      try dsimp only
      refine ⟨by simp, by simp, fun e1 e2 => ?_, fun e1 e2 => ?_, fun e1 e2 => ?_, fun e1 e2 e3 => ?_, fun e1 e2 e3 => ?_⟩ <;> omega
    · simp only [if_neg h2]; exact hvw
theorem hw_way {d : Dt} (h : DOt d) (hw : HwI d) (k : Int) (j : Nat) (hj : j < d.2.2.2.2.length) : HwI (wayM d k j) := by
  obtain ⟨s, c, s', c', ls⟩ := d
  have h' : DOk s c s' c' ls := h
  have hm := dok_mem h'
  obtain ⟨hv, hw⟩ := hw
  simp only at hv hw hj
  have e : ls.getD j (0, 0, 0) = ls[j] := by simp [List.getD, List.getElem?_eq_getElem hj]
  have hg : SgOk c (ls.getD j (0, 0, 0)) := by rw [e]; exact hm _ (List.getElem_mem hj)
  have hi : SgI s c s' c' (ls.getD j (0, 0, 0)).1 (ls.getD j (0, 0, 0)).2.1 (ls.getD j (0, 0, 0)).2.2 := by rw [e]; exact hw _ (List.getElem_mem hj)
  unfold wayM
  simp only
  split
  · exact ⟨hv, hw.snoc hi⟩
  split
  · exact inv_arr (dok_erase h' j) hv (hw.erase j) hg hi
  · exact ⟨hv, hw.erase j⟩
theorem hw_do {d : Dt} (h : DOt d) (hw : HwI d) (k i : Int) : HwI (doM d k i).1 := by
  obtain ⟨s, c, s', c', ls⟩ := d
  have h' : DOk s c s' c' ls := h
  have hm := dok_mem h'
  obtain ⟨a1, a2, a3, a4, a5, a6, a7, a8⟩ := h'
  have hvw := hw
  obtain ⟨hv, hw⟩ := hw
  simp only at hv hw
  unfold doM
  split
  · split
    · exact hvw
    · rename_i h1
      obtain ⟨v1, v2, v3⟩ := hv
      simp only at h1
      have h0 : s = 0 := by omega
      have hc := v3 h0
      refine ⟨⟨fun e => by simp at e, fun e1 e2 => ?_, fun e => by simp at e⟩, WyI.snoc (wyM hw hm fun p2 q2 r2 g1 g2 => ?_) ?_⟩
      · dsimp only at e2; exfalso; clear v1 v2 v3; omega
      · dsimp only
        clear v1 v2 v3
        obtain ⟨-, -, g3⟩ := g1
        simp only at g3
        obtain ⟨g4, g5, g6, g7, g8, g9, g10⟩ := g2
        refine ⟨g4, g5, g6, g7, fun e1 e2 => ?_, fun e1 e2 e3 => ?_, fun e1 e2 e3 => ?_⟩
        · have k := g8 e1 e2; clear g4 g5 g6 g7 g8 g9 g10; omega
        · clear g4 g5 g6 g7 g8 g9 g10; omega
        · clear g4 g5 g6 g7 g8 g9 g10; omega
      · dsimp only
        clear v1 v2 v3
        refine ⟨by simp, by simp, fun e1 e2 => ?_, fun e1 e2 => ?_, fun e1 e2 => ?_, fun e1 e2 e3 => ?_, fun e1 e2 e3 => ?_⟩ <;> omega
  split
  · split
    · exact hvw
    · rename_i h1
      obtain ⟨v1, v2, v3⟩ := hv
      simp only at h1
      have h0 : s' = 2 := by omega
      refine ⟨⟨fun e => ?_, fun e1 e2 => by simp, fun e => ?_⟩, WyI.snoc (wyM hw hm fun p2 q2 r2 g1 g2 => ?_) ?_⟩
      · dsimp only at e ⊢; have := v1 e; clear v1 v2 v3; omega
      · dsimp only at e ⊢; have := v3 e; clear v1 v2 v3; omega
      · dsimp only
        clear v1 v2 v3
        obtain ⟨g4, g5, g6, g7, g8, g9, g10⟩ := g2
        refine ⟨g4, g5, fun e1 e2 => ?_, fun e1 e2 => ?_, fun e1 e2 => ?_, g9, g10⟩
        · have k := g6 e1 e2; clear g4 g5 g6 g7 g8 g9 g10; omega
        · have k := g7 e1 e2; clear g4 g5 g6 g7 g8 g9 g10; omega
        · have k := g8 e1 e2; clear g4 g5 g6 g7 g8 g9 g10; omega
      · dsimp only
        clear v1 v2 v3
        refine ⟨by simp, by simp, fun e1 e2 => ?_, fun e1 e2 => ?_, fun e1 e2 => ?_, fun e1 e2 e3 => ?_, fun e1 e2 e3 => ?_⟩ <;> omega
  split
  · split
    · exact hw_clr h hvw i
    · exact hvw
  split
  · split
    · exact hw_tim h hvw i
    · exact hvw
  split
  · split
    · rename_i h1; exact hw_way h hvw k _ (by simp only at h1 ⊢; omega)
    · exact hvw
  · exact hvw
theorem hw_doE {d : Dt} (h : DOt d) (hw : HwI d) (k i : Int) : HwI (doE d k i).1 := by
  unfold doE
  split
  · exact hw_do h hw k i
  · exact hw
/-- whatever happens to two halves that begin -/
theorem hw_evL (es : List (Int × Int)) : ∀ {d : Dt}, DOt d → HwI d → DOt (evL es d) ∧ HwI (evL es d) := by
  induction es with
  | nil => exact fun h hw => ⟨h, hw⟩
  | cons x r ih => exact fun h hw => ih (dok_doE h x.1 x.2) (hw_doE h hw x.1 x.2)
theorem hw_zero : DOt (0, 0, 0, 0, []) ∧ HwI (0, 0, 0, 0, []) := by
  refine ⟨⟨by simp, by simp, by simp, by simp, by simp, by simp, by simp, fun k h => by simp at h⟩, ⟨by simp, by simp, by simp⟩, fun x hx => by simp at hx⟩
end Go.Proofs.Ytljejjfhlpjlfaa
namespace Go.Proofs.Ytljejjfhlpjlfaa
open Go.RowKit Go.ChangeShapes Go.WideShapes Go.ChangeAt
set_option linter.unusedVariables false
set_option linter.unusedSimpArgs false
set_option maxRecDepth 8000
theorem itN_in : ∀ (m : Nat) (d : Dt), itN (m + 1) d = itN m (wayM d 5 0)
  | 0, d => rfl
  | m + 1, d => by rw [itN, itN_in m d]; rfl
theorem Car.nil {s c s' c' : Int} {d' : Dt} (h : Car (s, c, s', c', []) d') : d' = (s, c, s', c', []) := by
  obtain ⟨h1, m, h2, h3⟩ := h
  cases m with
  | zero => exact h2.symm
  | succ m => exact absurd rfl (h3 0 (by omega))
theorem Car.step {s c s' c' p q r : Int} {ls : Tri} {d' : Dt} (h : Car (s, c, s', c', (p, q, r) :: ls) d') : Car (arrM (s, c, s', c', ls) p q r) d' := by
  obtain ⟨h1, m, h2, h3⟩ := h
  cases m with
  | zero => rw [← h2] at h1; simp [itN] at h1
  | succ m =>
    rw [itN_in, way0] at h2
    refine ⟨h1, m, h2, fun j hj => ?_⟩
    have := h3 (j + 1) (by omega)
    rw [itN_in, way0] at this
    exact this
theorem arr_call {s c s' c' : Int} {ls : Tri} {p q r : Int} (hr : r ≤ c) : (arrM (s, c, s', c', ls) p q r).2.1 = c := by
  unfold arrM seizM
  simp only
  repeat' split
  all_goals first | rfl | (simp only; omega)
/-- signals carried: what holds goes on, and the caller's number stays -/
theorem car_keep {d d' : Dt} (h : DOt d) (hw : HwI d) (hc : Car d d') : DOt d' ∧ HwI d' ∧ d'.2.1 = d.2.1 ∧ d'.2.2.2.2 = [] := by
  obtain ⟨h1, m, h2, h3⟩ := hc
  have key : ∀ j, j ≤ m → DOt (itN j d) ∧ HwI (itN j d) ∧ (itN j d).2.1 = d.2.1 := by
    intro j
    induction j with
    | zero => exact fun _ => ⟨h, hw, rfl⟩
    | succ j ih =>
      intro hj
      obtain ⟨k1, k2, k3⟩ := ih (by omega)
      have hne := h3 j (by omega)
      rw [itN]
      generalize itN j d = e at k1 k2 k3 hne ⊢
      obtain ⟨s, c, s', c', ls⟩ := e
      cases ls with
      | nil => exact absurd rfl hne
      | cons x r =>
        have hx := dok_mem (show DOk s c s' c' (x :: r) from k1) x (by simp)
        refine ⟨(dok_way0 k1).1, hw_way k1 k2 5 0 (by simp), ?_⟩
        rw [way0, arr_call hx.2.2.2]; exact k3
  obtain ⟨k1, k2, k3⟩ := key m (Nat.le_refl _)
  rw [h2] at k1 k2 k3
  exact ⟨k1, k2, k3, h1⟩
/-- timers at both, and all carried: both halves agree -/
theorem round_agrees {s c s' c' : Int} {d' : Dt} (h : DOt (s, c, s', c', [])) (hw : HwI (s, c, s', c', [])) (hc : Car (timM (timM (s, c, s', c', []) 0) 1) d') :
    d' = (0, c, 0, c, []) ∨ d' = (1, c, 2, c, []) ∨ d' = (3, c, 3, c, []) := by
  obtain ⟨a1, a2, a3, a4, a5, a6, -, -⟩ := h
  obtain ⟨⟨v1, v2, v3⟩, -⟩ := hw
  simp only at a1 a2 a3 a4 a5 a6 v1 v2 v3
  rcases (show s = 0 ∨ s = 1 ∨ s = 3 ∨ s = 4 by omega) with rfl | rfl | rfl | rfl
  · obtain ⟨rfl, h1⟩ := v3 rfl
    rcases h1 with rfl | rfl
    · simp [timM] at hc
      exact .inl hc.nil
    · simp [timM] at hc
      have h1 := hc.step
      simp [arrM] at h1
      have h2 := h1.step
      simp [arrM] at h2
      exact .inl h2.nil
  · clear v1 v3
    by_cases hlt : c' < c
    · have hne : ¬ c' = c := by omega
      have hne2 : ¬ c = c' := by omega
      have hnl : ¬ c ≤ c' := by omega
      by_cases h4 : s' = 4
      · subst h4
        simp [timM] at hc
        have h1 := hc.step
        simp [arrM, seizM, hlt] at h1
        have h2 := h1.step
        simp [arrM, hnl] at h2
        have h3 := h2.step
        simp [arrM, hne2] at h3
        exact .inr (.inl h3.nil)
      · simp [timM, h4, a4] at hc
        have h1 := hc.step
        simp [arrM, seizM, hlt] at h1
        exact .inr (.inl h1.nil)
    · obtain rfl : c' = c := by omega
      have h0 := v2 rfl rfl
      rcases (show s' = 2 ∨ s' = 3 ∨ s' = 4 by omega) with rfl | rfl | rfl
      · simp [timM] at hc
        have h1 := hc.step
        simp [arrM, seizM] at h1
        exact .inr (.inl h1.nil)
      · simp [timM] at hc
        have h1 := hc.step
        simp [arrM, seizM] at h1
        have h2 := h1.step
        simp [arrM] at h2
        exact .inr (.inr h2.nil)
      · simp [timM] at hc
        have h1 := hc.step
        simp [arrM, seizM] at h1
        have h2 := h1.step
        simp [arrM] at h2
        have h3 := h2.step
        simp [arrM] at h3
        have h4 := h3.step
        simp [arrM] at h4
        have h5 := h4.step
        simp [arrM] at h5
        exact .inl h5.nil
  · obtain ⟨rfl, h1⟩ := v1 rfl
    rcases h1 with rfl | rfl
    · simp [timM] at hc
      exact .inr (.inr hc.nil)
    · simp [timM] at hc
      have h1 := hc.step
      simp [arrM] at h1
      have h2 := h1.step
      simp [arrM] at h2
      exact .inl h2.nil
  · clear v1 v2 v3
    have hle : c' ≤ c := a6.2
    by_cases h4 : s' = 4
    · subst h4
      simp [timM] at hc
      have h1 := hc.step
      simp [arrM, hle] at h1
      have h2 := h1.step
      by_cases he : c ≤ c'
      · obtain rfl : c' = c := by omega
        simp [arrM] at h2
        have h3 := h2.step
        simp [arrM] at h3
        have h5 := h3.step
        simp [arrM] at h5
        exact .inl h5.nil
      · simp [arrM, he] at h2
        have h3 := h2.step
        simp [arrM] at h3
        have h5 := h3.step
        simp [arrM] at h5
        exact .inl h5.nil
    · simp [timM, h4, a4] at hc
      have h1 := hc.step
      simp [arrM, hle] at h1
      have h2 := h1.step
      simp [arrM] at h2
      exact .inl h2.nil
end Go.Proofs.Ytljejjfhlpjlfaa
namespace Go.Proofs.Ytljejjfhlpjlfaa
open Go.RowKit Go.ChangeShapes Go.WideShapes Go.ChangeAt
set_option linter.unusedVariables false
set_option linter.unusedSimpArgs false
set_option maxRecDepth 8000
theorem tim_call (d : Dt) (i : Int) : (timM d i).2.1 = d.2.1 := by
  obtain ⟨s, c, s', c', ls⟩ := d
  unfold timM
  repeat' split
  all_goals rfl
/-- so many rounds, begun at two halves from the start -/
theorem set_keep : ∀ (n : Nat) {d d' : Dt}, DOt d → HwI d → SetN n d d' → DOt d' ∧ HwI d' ∧ d'.2.1 = d.2.1
  | 0, d, d', h, hw, hs => by obtain rfl : d = d' := hs; exact ⟨h, hw, rfl⟩
  | n + 1, d, d', h, hw, ⟨d1, d2, h1, h2, h3⟩ => by
    obtain ⟨k1, k2, k3⟩ := set_keep n h hw h1
    obtain ⟨k4, k5, k6, k7⟩ := car_keep k1 k2 h2
    have e0 := dok_tim k4 (by rw [k7]; simp) 0 (.inl rfl)
    have hl : (timM d2 0).2.2.2.2.length ≤ 1 := by have := e0.2; rw [k7] at this; simpa using this
    have e1 := dok_tim e0.1 (by omega) 1 (.inr rfl)
    subst h3
    exact ⟨e1.1, hw_tim e0.1 (hw_tim k4 k5 0) 1, by rw [tim_call, tim_call, k6, k3]⟩
/-- one round or more, and all carried: both halves agree, nothing is on the way, the caller's number is what it was -/
theorem settle_agrees {n : Nat} {d d1 d' : Dt} (h : DOt d) (hw : HwI d) (hs : SetN (n + 1) d d1) (hc : Car d1 d') :
    (d' = (0, d.2.1, 0, d.2.1, []) ∨ d' = (1, d.2.1, 2, d.2.1, []) ∨ d' = (3, d.2.1, 3, d.2.1, [])) ∧ DOt d' := by
  obtain ⟨d0, d2, h1, h2, h3⟩ := hs
  obtain ⟨k1, k2, k3⟩ := set_keep n h hw h1
  obtain ⟨k4, k5, k6, k7⟩ := car_keep k1 k2 h2
  have g := set_keep (n + 1) h hw ⟨d0, d2, h1, h2, h3⟩
  have gd := (car_keep g.1 g.2.1 hc).1
  obtain ⟨s, c, s', c', ls⟩ := d2
  obtain rfl : ls = [] := k7
  have hcc : c = d.2.1 := k6.trans k3
  subst h3
  have := round_agrees k4 k5 hc
  rw [hcc] at this
  exact ⟨this, gd⟩
end Go.Proofs.Ytljejjfhlpjlfaa
namespace Go.Proofs.Ytljejjfhlpjlfaa
open Go.RowKit Go.ChangeShapes Go.WideShapes Go.ChangeAt
set_option linter.unusedVariables false
set_option linter.unusedSimpArgs false
set_option maxRecDepth 8000
/-- the caller's call is being cleared, or over -/
def ClI (d : Dt) : Prop := d.1 = 4 ∨ d.1 = 0 ∨ (d.2.2.2.1 = d.2.1 ∧ (d.2.2.1 = 4 ∨ d.2.2.1 = 0))
set_option maxHeartbeats 3200000 in
theorem cl_arr {s c s' c' : Int} {ls : Tri} {p q r : Int} (h : DOk s c s' c' ls) (hv : HvI s c s' c') (hx : SgOk c (p, q, r)) (hi : SgI s c s' c' p q r) (hc : ClI (s, c, s', c', ls)) : ClI (arrM (s, c, s', c', ls) p q r) := by
  obtain ⟨a1, a2, a3, a4, a5, a6, -, -⟩ := h
  obtain ⟨hp, hq, hr⟩ := hx
  simp only at hp hq hr
  obtain ⟨i1, i2, i3, i4, i5, i6, i7⟩ := hi
  obtain ⟨v1, v2, v3⟩ := hv
  unfold ClI at hc ⊢
  simp only at hc
  unfold arrM seizM
  simp only
  clear i1 i2 i3 i4 i5 v1 v2 v3
  repeat' split
  all_goals (try simp only)
  all_goals first
    | exact hc
    | (clear i6 i7; omega)
    | (have k6 := i6 (by omega) (by omega); clear i6 i7; omega)
    | (have k7 := i7 (by omega) (by omega); clear i6 i7; omega)
    | exact .inr (.inl trivial)
theorem cl_tim {d : Dt} (i : Int) (hc : ClI d) : ClI (timM d i) := by
  obtain ⟨s, c, s', c', ls⟩ := d
  unfold timM
  repeat' split
  all_goals exact hc
theorem cl_car {d d' : Dt} (h : DOt d) (hw : HwI d) (hl : ClI d) (hc : Car d d') : ClI d' := by
  obtain ⟨h1, m, h2, h3⟩ := hc
  have key : ∀ j, j ≤ m → DOt (itN j d) ∧ HwI (itN j d) ∧ ClI (itN j d) := by
    intro j
    induction j with
    | zero => exact fun _ => ⟨h, hw, hl⟩
    | succ j ih =>
      intro hj
      obtain ⟨k1, k2, k3⟩ := ih (by omega)
      have hne := h3 j (by omega)
      rw [itN]
      generalize itN j d = e at k1 k2 k3 hne ⊢
      obtain ⟨s, c, s', c', ls⟩ := e
      cases ls with
      | nil => exact absurd rfl hne
      | cons x r =>
        have hx := dok_mem (show DOk s c s' c' (x :: r) from k1) x (by simp)
        refine ⟨(dok_way0 k1).1, hw_way k1 k2 5 0 (by simp), ?_⟩
        obtain ⟨p, q, y⟩ := x
        rw [way0]
        have k1' : DOk s c s' c' ((p, q, y) :: r) := k1
        have hk : DOk s c s' c' r := by
          obtain ⟨b1, b2, b3, b4, b5, b6, b7, b8⟩ := k1'
          exact ⟨b1, b2, b3, b4, b5, b6, by simp at b7; omega, fun k hk => b8 (k + 1) (by simp; omega)⟩
        exact cl_arr hk k2.1 hx (k2.2 (p, q, y) (by simp)) k3
  have := (key m (Nat.le_refl _)).2.2
  rw [h2] at this
  exact this
theorem cl_set : ∀ (n : Nat) {d d' : Dt}, DOt d → HwI d → ClI d → SetN n d d' → ClI d'
  | 0, d, d', h, hw, hl, hs => by obtain rfl : d = d' := hs; exact hl
  | n + 1, d, d', h, hw, hl, ⟨d1, d2, h1, h2, h3⟩ => by
    obtain ⟨k1, k2, k3⟩ := set_keep n h hw h1
    have := cl_car k1 k2 (cl_set n h hw hl h1) h2
    subst h3
    exact cl_tim 1 (cl_tim 0 this)
/-- what is being cleared is over behind the rounds -/
theorem settle_cleared {n : Nat} {d d1 d' : Dt} (h : DOt d) (hw : HwI d) (hl : ClI d) (hs : SetN (n + 1) d d1) (hc : Car d1 d') : d' = (0, d.2.1, 0, d.2.1, []) := by
  have g := set_keep (n + 1) h hw hs
  have hcl := cl_car g.1 g.2.1 (cl_set (n + 1) h hw hl hs) hc
  rcases (settle_agrees h hw hs hc).1 with e | e | e
  · exact e
  · rw [e] at hcl; unfold ClI at hcl; simp at hcl
  · rw [e] at hcl; unfold ClI at hcl; simp at hcl
/-- a half that clears -/
theorem cl_clear {d : Dt} {i : Int} (hi : i = 0 ∨ i = 1) (h : (doE d 3 i).2 = true) : (i = 0 → ClI (doE d 3 i).1) ∧ (i = 1 → (doE d 3 i).1.2.2.2.1 = (doE d 3 i).1.2.1 → ClI (doE d 3 i).1) := by
  obtain ⟨s, c, s', c', ls⟩ := d
  unfold doE at h ⊢
  split at h
  · rename_i h0
    rw [if_pos h0]
    obtain ⟨h1, -⟩ := h0
    unfold doM at h1 ⊢
    rcases hi with rfl | rfl
    · simp [clrM] at h1 ⊢
      split at h1
      · cases h1
      · rename_i hn
        rw [if_neg hn]; exact .inl rfl
    · simp [clrM] at h1 ⊢
      split at h1
      · cases h1
      · rename_i hn
        rw [if_neg hn]; exact fun e => .inr (.inr ⟨e, .inl rfl⟩)
  · cases h
end Go.Proofs.Ytljejjfhlpjlfaa

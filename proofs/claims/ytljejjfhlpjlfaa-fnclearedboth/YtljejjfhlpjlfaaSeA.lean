/- Rounds of Settle: what they are to tell; no condition. -/
import Derived.Test.YtljejjfhlpjlfaaCaC
namespace Go.Proofs.Ytljejjfhlpjlfaa
open Go.RowKit Go.ChangeShapes Go.WideShapes Go.ChangeAt
set_option linter.unusedVariables false
set_option linter.unusedSimpArgs false
set_option maxRecDepth 8000

theorem dok_tim {d : Dt} (h : DOt d) (hl : d.2.2.2.2.length ≤ 39) (i : Int) (hi : i = 0 ∨ i = 1) : DOt (timM d i) ∧ (timM d i).2.2.2.2.length ≤ d.2.2.2.2.length + 1 := by
  obtain ⟨s, c, s', c', ls⟩ := d
  simp only at hl
  have h' : DOk s c s' c' ls := h
  have a5 := h'.2.2.2.2.1
  have a6 := h'.2.2.2.2.2.1
  unfold timM
  simp only
  split
  · split
    · exact ⟨dok_snoc h' hl ⟨by simp, by simp, a5.1, Int.le_refl _⟩, by simp⟩
    split
    · exact ⟨dok_snoc h' hl ⟨by simp, by simp, a5.1, Int.le_refl _⟩, by simp⟩
    · exact ⟨h, by simp⟩
  · split
    · exact ⟨dok_snoc h' hl ⟨by simp, by simp, a6⟩, by simp⟩
    split
    · exact ⟨dok_snoc h' hl ⟨by simp, by simp, a6⟩, by simp⟩
    · exact ⟨h, by simp⟩
theorem happenT {d : Dt} (h : DOt d) (hl : d.2.2.2.2.length ≤ 39) (i : Int) (hi : i = 0 ∨ i = 1) : happenP d 4 i = (timM d i, true) := by
  have h2 := dok_tim h hl i hi
  obtain ⟨s, c, s', c', ls⟩ := d
  rw [ev_same _ _ _ _ _ _ _ h]
  have hin : 0 ≤ i ∧ i ≤ 1 := by omega
  have hD : doM (s, c, s', c', ls) 4 i = (timM (s, c, s', c', ls) i, true) := by simp [doM, hin]
  simp only [doE, hD]
  have h3 := h2.2
  simp only at h3 hl
  rw [if_pos ⟨trivial, by omega⟩]
/-- so many rounds -/
def SetN : Nat → Dt → Dt → Prop
  | 0, d, d' => d = d'
  | n + 1, d, d' => ∃ d1 d2, SetN n d d1 ∧ Car d1 d2 ∧ d' = timM (timM d2 0) 1
theorem SetN.same : ∀ (n : Nat) {d a b : Dt}, SetN n d a → SetN n d b → a = b
  | 0, d, a, b, h, h' => h.symm.trans h'
  | n + 1, d, a, b, ⟨x, y, h1, h2, h3⟩, ⟨x', y', h1', h2', h3'⟩ => by
    have e1 := SetN.same n h1 h1'
    subst e1
    have e2 := Car.same h2 h2'
    subst e2
    rw [h3, h3']
def SeR (d : Dt) (n : Int) (w : World) (e : Ending) (w' : World) : Prop := ∃ d', ((DOt d ∧ 0 ≤ n ∧ n ≤ 20) → ∃ d1, SetN n.toNat d d1 ∧ Car d1 d') ∧ (¬ (DOt d ∧ 0 ≤ n ∧ n ≤ 20) → d' = (0, 0, 0, 0, [])) ∧ d'.2.2.2.2 = [] ∧ DuS w.heap.size w (.slice none 0 0) d' e w'
theorem zeroD {w W : World} {r : Nat} (hb : Below w.heap.size w W) (kr : Blk W r (D5 0 0 0 0 (.slice none 0 0)) 31) (hr : w.heap.size ≤ r) : ∀ W5, st5 W r 0 0 0 0 (.slice none 0 0) = W5 → Blk W5 r (D5 0 0 0 0 (.slice none 0 0)) 31 ∧ DuS w.heap.size w (.slice none 0 0) (0, 0, 0, 0, []) (.returned (.agg (D5 0 0 0 0 (.slice none 0 0)))) W5 := by
  rintro _ rfl
  have hb2 : Below w.heap.size w (st5 W r 0 0 0 0 (.slice none 0 0)) := hb.trans (grown_below (grown_put5 ..) hb.size (fun k e => by cases e; exact hr))
  exact ⟨put5 kr _ _ _ _ _, _, rfl, Ot.nil _ _, ⟨hb2.os, hb2.tape, hb2.output, hb2.size, fun j hj _ => hb2.block j hj⟩, Nxt.refl _ _⟩

end Go.Proofs.Ytljejjfhlpjlfaa

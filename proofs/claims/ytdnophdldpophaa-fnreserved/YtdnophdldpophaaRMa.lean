/- The mathematics of rates; no condition. -/
import Derived.Test.YtdnophdldpophaaTB
namespace Go.Proofs.Ytdnophdldpophaa
open Go.RowKit Go.ChangeShapes Go.WideShapes Go.ChangeAt
set_option linter.unusedVariables false
set_option linter.unusedSimpArgs false
set_option maxRecDepth 8000
/-- the tariff that holds -/
def tfA (ls : List Tf) (z t : Int) : Tf := ls.getD (hoF ls z t).toNat (0, 0, 0, 0, 0)
/-- steps are counted up to e, as long as all costs no more than r -/
def cN (ls : List Tf) (z e r : Int) : Nat → Int → Int → Int → Int × Int × Int
  | 0, t, s, c => (t, s, c)
  | f + 1, t, s, c => if e ≤ t ∨ r < c + (tfA ls z t).2.2.2.1 then (t, s, c) else cN ls z e r f (t + (tfA ls z t).2.2.1) (s + 1) (c + (tfA ls z t).2.2.2.1)
theorem cN_stop (ls : List Tf) (z e r : Int) (f : Nat) (t s c : Int) (h : e ≤ t ∨ r < c + (tfA ls z t).2.2.2.1) : cN ls z e r f t s c = (t, s, c) := by
  cases f with
  | zero => rfl
  | succ f => rw [cN, if_pos h]
theorem cN_step (ls : List Tf) (z e r : Int) (f : Nat) (t s c : Int) (h : ¬ (e ≤ t ∨ r < c + (tfA ls z t).2.2.2.1)) : cN ls z e r (f + 1) t s c = cN ls z e r f (t + (tfA ls z t).2.2.1) (s + 1) (c + (tfA ls z t).2.2.2.1) := by rw [cN, if_neg h]
/-- the zone has a tariff -/
def HasZ (ls : List Tf) (z : Int) : Prop := ∃ i, ∃ h : i < ls.length, ls[i].1 = z
theorem hoF_neg {ls : List Tf} {z t : Int} (h : HasZ ls z) : ∃ i : Nat, hoF ls z t = i ∧ ∃ h : i < ls.length, ls[i].1 = z := by
  rcases hoF_s ls z t with ⟨-, h2⟩ | ⟨i, h2, hi, hz, -⟩
  · obtain ⟨i, hi, hz⟩ := h
    exact absurd hz (h2 i hi)
  · exact ⟨i, h2, hi, hz⟩
theorem hasZ_of {ls : List Tf} {z t : Int} (h : 0 ≤ hoF ls z t) : HasZ ls z := by
  rcases hoF_s ls z t with ⟨h2, -⟩ | ⟨i, h2, hi, hz, -⟩
  · omega
  · exact ⟨i, hi, hz⟩
theorem tfA_at {ls : List Tf} {z t : Int} {i : Nat} (h : hoF ls z t = i) (hi : i < ls.length) : tfA ls z t = ls[i] := by
  rw [tfA, h]; simp [hi]
theorem tfA_bd {ls : List Tf} {z : Int} (ok : TfOk ls) (hz : HasZ ls z) (t : Int) : 1 ≤ (tfA ls z t).2.2.1 ∧ (tfA ls z t).2.2.1 ≤ 10000 ∧ 0 ≤ (tfA ls z t).2.2.2.1 ∧ (tfA ls z t).2.2.2.1 ≤ 100000 ∧ 0 ≤ (tfA ls z t).2.2.2.2 ∧ (tfA ls z t).2.2.2.2 ≤ 100000 := by
  obtain ⟨i, h1, hi, -⟩ := hoF_neg (t := t) hz
  rw [tfA_at h1 hi]
  have := ok.tf i hi
  omega
/-- what a meter may show behind some steps -/
structure MtOk (b t s c : Int) : Prop where
  s0 : 0 ≤ s
  st : s ≤ t - b
  c0 : 0 ≤ c
  cs : c ≤ 100000 + 100000 * s
theorem MtOk.step {ls : List Tf} {z b t s c : Int} (h : MtOk b t s c) (ok : TfOk ls) (hz : HasZ ls z) : MtOk b (t + (tfA ls z t).2.2.1) (s + 1) (c + (tfA ls z t).2.2.2.1) := by
  have h1 := tfA_bd ok hz t
  have h2 := h.s0
  have h3 := h.st
  have h4 := h.c0
  have h5 := h.cs
  exact ⟨by omega, by omega, by omega, by omega⟩
theorem cN_bd {ls : List Tf} {z b e r : Int} (ok : TfOk ls) (hz : HasZ ls z) : ∀ (f : Nat) (t s c : Int), MtOk b t s c → MtOk b (cN ls z e r f t s c).1 (cN ls z e r f t s c).2.1 (cN ls z e r f t s c).2.2
  | 0, t, s, c, h => h
  | f + 1, t, s, c, h => by
    rw [cN]
    split
    · exact h
    · exact cN_bd ok hz f _ _ _ (h.step ok hz)
/-- enough fuel is enough -/
theorem cN_fuel {ls : List Tf} {z e r : Int} (ok : TfOk ls) (hz : HasZ ls z) : ∀ (f g : Nat) (t s c : Int), e - t ≤ f → e - t ≤ g → cN ls z e r f t s c = cN ls z e r g t s c
  | 0, g, t, s, c, h, _ => (cN_stop ls z e r g t s c (.inl (by omega))).symm
  | f + 1, 0, t, s, c, _, h => cN_stop ls z e r (f + 1) t s c (.inl (by omega))
  | f + 1, g + 1, t, s, c, h, h' => by
    by_cases hc : e ≤ t ∨ r < c + (tfA ls z t).2.2.2.1
    · rw [cN_stop _ _ _ _ _ _ _ _ hc, cN_stop _ _ _ _ _ _ _ _ hc]
    · rw [cN_step _ _ _ _ _ _ _ _ hc, cN_step _ _ _ _ _ _ _ _ hc]
      have := tfA_bd ok hz t
      exact cN_fuel ok hz f g _ _ _ (by omega) (by omega)
/-- what Rate reckons -/
def rtF (ls : List Tf) (z b e r : Int) : Int × Int × Int := cN ls z e r (e - b).toNat b 0 (tfA ls z b).2.2.2.2
theorem MtOk.zero {ls : List Tf} {z b : Int} (ok : TfOk ls) (hz : HasZ ls z) : MtOk b b 0 (tfA ls z b).2.2.2.2 := by
  have := tfA_bd ok hz b
  exact ⟨by omega, by omega, by omega, by omega⟩
end Go.Proofs.Ytdnophdldpophaa

/- What Overlap is to tell; no condition. -/
import Derived.Test.YtpnglbnebkggkaaPrO
import Derived.Test.YtpnglbnebkggkaaDiP
namespace Go.Proofs.Ytpnglbnebkggkaa
open Go.RowKit Go.ChangeShapes Go.WideShapes Go.ChangeAt
set_option linter.unusedVariables false
set_option linter.unusedSimpArgs false
set_option maxRecDepth 8000
theorem dg_app {a b : ByteArray} (ha : DgOk a) (hb : DgOk b) (h : a.size + b.size ≤ 20) : DgOk (a ++ b) := by
  refine ⟨by rw [ByteArray.size_append]; exact h, fun i hi hx => ?_⟩
  by_cases hl : i < a.size
  · rw [ByteArray.getElem_append_left hl]
    exact ha.2 i hl hl
  · have hi' := hi
    rw [ByteArray.size_append] at hi'
    rw [ByteArray.getElem_append_right (by omega)]
    exact hb.2 _ (by omega) (by omega)
/-- the first j digits of presses; the tick that the timer ends at behind them -/
def dgs (ps : Prs) : Nat → ByteArray
  | 0 => ⟨#[]⟩
  | j + 1 => match ps[j]? with
    | none => dgs ps j
    | some p => dgs ps j ++ p.di
theorem dgs_succ {ps : Prs} {j : Nat} (h : j < ps.length) : dgs ps (j + 1) = dgs ps j ++ ps[j].di := by rw [dgs, List.getElem?_eq_getElem h]
def enT (ps : Prs) (wt : Int) : Nat → Int
  | 0 => wt
  | j + 1 => match ps[j]? with
    | none => wt
    | some p => p.ti + wt
theorem enT_succ {ps : Prs} {wt : Int} {j : Nat} (h : j < ps.length) : enT ps wt (j + 1) = ps[j].ti + wt := by rw [enT, List.getElem?_eq_getElem h]
theorem dgs_ok {ps : Prs} (h : PsOk ps) : ∀ j, j ≤ ps.length → (dgs ps j).size = j ∧ DgOk (dgs ps j)
  | 0, _ => ⟨rfl, by show (0 : Nat) ≤ 20; omega, fun i hi => absurd hi (Nat.not_lt_zero i)⟩
  | j + 1, hj => by
    have hl : j < ps.length := by omega
    obtain ⟨h1, h2⟩ := dgs_ok h j (by omega)
    have hp := (h.2 j hl hl).1
    have h20 := h.1
    rw [dgs_succ hl]
    exact ⟨by rw [ByteArray.size_append, h1, hp.2.1], dg_app h2 hp.2.2 (by rw [h1, hp.2.1]; omega)⟩
abbrev Told := Int × Int × ByteArray × Int
/-- what is told behind j presses -/
def Tl (ls : Rls) (ps : Prs) (j : Nat) (x : Told) : Prop := (j = 0 ∧ NoS 0 x) ∨ (0 < j ∧ DialS ls (dgs ps j) x)
theorem Tl.same {ls : Rls} {ps : Prs} {j : Nat} {x y : Told} (h : Tl ls ps j x) (h' : Tl ls ps j y) : x = y := by
  rcases h with ⟨h1, h2⟩ | ⟨h1, h2⟩ <;> rcases h' with ⟨g1, g2⟩ | ⟨g1, g2⟩
  · exact h2.trans g2.symm
  · omega
  · omega
  · exact h2.same g2
def LateP (ps : Prs) (wt : Int) (j : Nat) : Prop := 0 < j ∧ ∃ h : j < ps.length, enT ps wt j < ps[j].ti
def FinP (ls : Rls) (ps : Prs) (j : Nat) (x : Told) : Prop := Tl ls ps j x ∧ (x.1 = 2 ∨ x.1 = 3)
/-- no round ahead of the j-th was the last -/
def OnP (ls : Rls) (ps : Prs) (wt : Int) (j : Nat) : Prop := ∀ i, i < j → i < ps.length ∧ ¬ LateP ps wt i ∧ ∀ x, ¬ FinP ls ps (i + 1) x
theorem OnP.zero {ls : Rls} {ps : Prs} {wt : Int} : OnP ls ps wt 0 := fun i h => by omega
theorem OnP.succ {ls : Rls} {ps : Prs} {wt : Int} {j : Nat} (h : OnP ls ps wt j) (hj : j < ps.length) (h1 : ¬ LateP ps wt j) (h2 : ∀ x, ¬ FinP ls ps (j + 1) x) : OnP ls ps wt (j + 1) := fun i hi => by
  by_cases e : i < j
  · exact h i e
  · obtain rfl : i = j := by omega
    exact ⟨hj, h1, h2⟩
/-- the two ends -/
def EndA (ls : Rls) (ps : Prs) (wt : Int) (j : Nat) (x : Told) (t : Int) : Prop := ∃ h : j < ps.length, ¬ LateP ps wt j ∧ FinP ls ps (j + 1) x ∧ t = ps[j].ti
def EndB (ls : Rls) (ps : Prs) (wt : Int) (j : Nat) (x : Told) (t : Int) : Prop := (j = ps.length ∨ LateP ps wt j) ∧ t = enT ps wt j ∧ ∃ y, Tl ls ps j y ∧ ((y.1 = 1 ∧ x = (2, y.2)) ∨ (¬ (y.1 = 1) ∧ NoS 4 x))
def OvOk (ls : Rls) (ps : Prs) (wt : Int) : Prop := RsOk ls ∧ PsOk ps ∧ 1 ≤ wt ∧ wt ≤ 1000
def OvS (ls : Rls) (ps : Prs) (wt : Int) (x : Told) (t : Int) : Prop := (¬ OvOk ls ps wt ∧ NoS 5 x ∧ t = -1) ∨ (OvOk ls ps wt ∧ ∃ j, j ≤ ps.length ∧ OnP ls ps wt j ∧ (EndA ls ps wt j x t ∨ EndB ls ps wt j x t))
theorem ends_not {ls : Rls} {ps : Prs} {wt : Int} {j : Nat} {x : Told} {t : Int} (h : EndA ls ps wt j x t ∨ EndB ls ps wt j x t) (g : j < ps.length ∧ ¬ LateP ps wt j ∧ ∀ x, ¬ FinP ls ps (j + 1) x) : False := by
  rcases h with ⟨_, _, h, _⟩ | ⟨h | h, _⟩
  · exact g.2.2 _ h
  · omega
  · exact g.2.1 h
theorem OvS.same {ls : Rls} {ps : Prs} {wt : Int} {x y : Told} {t u : Int} (h : OvS ls ps wt x t) (h' : OvS ls ps wt y u) : x = y ∧ t = u := by
  rcases h with ⟨h1, h2, h3⟩ | ⟨h1, j, hj, ho, he⟩ <;> rcases h' with ⟨g1, g2, g3⟩ | ⟨g1, k, hk, go, ge⟩
  · exact ⟨h2.trans g2.symm, h3.trans g3.symm⟩
  · exact absurd g1 h1
  · exact absurd h1 g1
  · obtain rfl : j = k := by
      rcases Nat.lt_trichotomy j k with h | h | h
      · exact (ends_not he (go j h)).elim
      · exact h
      · exact (ends_not ge (ho k h)).elim
    rcases he with ⟨hl, a1, a2, a3⟩ | ⟨a1, a2, z, a3, a4⟩ <;> rcases ge with ⟨gl, b1, b2, b3⟩ | ⟨b1, b2, z', b3, b4⟩
    · exact ⟨a2.1.same b2.1, a3.trans b3.symm⟩
    · rcases b1 with b1 | b1
      · omega
      · exact absurd b1 a1
    · rcases a1 with a1 | a1
      · omega
      · exact absurd a1 b1
    · obtain rfl := a3.same b3
      refine ⟨?_, a2.trans b2.symm⟩
      rcases a4 with ⟨a5, a6⟩ | ⟨a5, a6⟩ <;> rcases b4 with ⟨b5, b6⟩ | ⟨b5, b6⟩
      · exact a6.trans b6.symm
      · exact absurd a5 b5
      · exact absurd b5 a5
      · exact a6.trans b6.symm
end Go.Proofs.Ytpnglbnebkggkaa

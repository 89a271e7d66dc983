/- Adding a talk to a book: the mathematics; no condition. -/
import Derived.Test.YtmfmlbiplagmiaaDoorFai
import Derived.Test.YtmfmlbiplagmiaaDoorHfr
import Derived.Test.YtmfmlbiplagmiaaDoorFmx
import Derived.Test.YtmfmlbiplagmiaaDoorRst
namespace Go.Proofs.YtmfmlbiplagmiaaDoor
open Go.RowKit Go.ChangeShapes Go.WideShapes Go.ChangeAt
set_option linter.unusedVariables false
set_option linter.unusedSimpArgs false
set_option maxRecDepth 8000

/-- the talk's numbers lie in the book -/
def inT (ls cs : List Int) (t : Tk) : Bool := decide (0 ≤ t.1 ∧ t.1 ≤ (ls.length : Int) - 1) && (decide (0 ≤ t.2.1 ∧ t.2.1 ≤ (ls.length : Int) - 1) && decide (-1 ≤ t.2.2 ∧ t.2.2 ≤ (cs.length : Int) - 1))
/-- whether Add18 puts the talk in -/
def adB (ts : List Tk) (ls cs : List Int) (t : Tk) : Bool := decide (faL ts ls cs = []) && (decide (ts.length < 30) && (inT ls cs t && okT ts t))
def adT (ts : List Tk) (ls cs : List Int) (t : Tk) : List Tk := if adB ts ls cs t then ts ++ [t] else ts
def adL (ts : List Tk) (ls cs : List Int) (t : Tk) : List Int := if adB ts ls cs t then wr18 hasL ls.length (ts ++ [t]) else ls
def adC (ts : List Tk) (ls cs : List Int) (t : Tk) : List Int := if adB ts ls cs t then wr18 hasC cs.length (ts ++ [t]) else cs
theorem fw_nil {k : Int} {p : Nat → Bool} : ∀ {n : Nat}, fw k p n = [] → ∀ i, i < n → p i = false
  | 0, _, i, hi => absurd hi (by omega)
  | n + 1, h, i, hi => by
    cases hp : p n with
    | true => rw [fw_yes hp] at h; simp at h
    | false =>
      rw [fw_no hp] at h
      rcases Nat.lt_or_ge i n with h' | h'
      · exact fw_nil h i h'
      · obtain rfl : i = n := by omega
        exact hp
theorem nuF_nil {k1 k2 : Int} {zs fs : List Int} (h : nuF k1 k2 zs fs = []) (hl : fs.length = zs.length) : zs = fs := by
  unfold nuF at h
  rw [List.append_eq_nil_iff] at h
  refine List.ext_getElem hl.symm fun i h1 h2 => ?_
  have a := fw_nil h.1 i h1
  have b := fw_nil h.2 i h1
  unfold wrB at a
  unfold frB' at b
  have e1 : zs.getD i 0 = zs[i] := by simp [List.getD, h1]
  have e2 : fs.getD i 0 = fs[i] := by simp [List.getD, h2]
  rw [e1, e2] at a b
  by_cases hf : fs[i] = -1
  · simp [hf] at b; omega
  · simp [hf] at a; omega
/-- a book with no faults may be read, and its numbers are those that its talks write -/
theorem fa_nil {ts : List Tk} {ls cs : List Int} (h : faL ts ls cs = []) : bkB ts ls cs = true ∧ ls = wr18 hasL ls.length ts ∧ cs = wr18 hasC cs.length ts := by
  cases hb : bkB ts ls cs with
  | false => rw [faL_no hb] at h; simp at h
  | true =>
    rw [faL_yes hb] at h
    unfold ftL at h
    rw [List.append_eq_nil_iff, List.append_eq_nil_iff] at h
    exact ⟨rfl, nuF_nil h.1.2 (wr18_len _ _ _), nuF_nil h.2 (wr18_len _ _ _)⟩
theorem fr_in {ls cs : List Int} {t : Tk} (h : frB ls cs t = true) : inT ls cs t = true := by
  unfold frB isF at h
  unfold inT
  simp only [Bool.and_eq_true, Bool.or_eq_true, decide_eq_true_eq] at h ⊢
  obtain ⟨-, ⟨h1, -⟩, ⟨h2, -⟩, h3⟩ := h
  refine ⟨h1, h2, ?_⟩
  rcases h3 with h3 | ⟨h3, -⟩
  · omega
  · omega
theorem fr_ok {ts : List Tk} {ls cs : List Int} (t : Tk) (h : faL ts ls cs = []) : frB ls cs t = (inT ls cs t && okT ts t) := by
  obtain ⟨-, h1, h2⟩ := fa_nil h
  cases hi : inT ls cs t with
  | true =>
    rw [Bool.true_and]
    unfold inT at hi
    simp only [Bool.and_eq_true, decide_eq_true_eq] at hi
    have := frB_ok ts ls.length cs.length t hi.1 hi.2.1 hi.2.2
    rw [← h1, ← h2] at this
    exact this
  | false =>
    rw [Bool.false_and]
    cases hf : frB ls cs t with
    | false => rfl
    | true => rw [fr_in hf] at hi; exact absurd hi (by simp)
theorem ad_no {ts : List Tk} {ls cs : List Int} {t : Tk} (h : adB ts ls cs t = false) : adT ts ls cs t = ts ∧ adL ts ls cs t = ls ∧ adC ts ls cs t = cs := by
  unfold adT adL adC; rw [h]; exact ⟨rfl, rfl, rfl⟩
theorem ad_yes {ts : List Tk} {ls cs : List Int} {t : Tk} (h : adB ts ls cs t = true) : adT ts ls cs t = ts ++ [t] ∧ adL ts ls cs t = wr18 hasL ls.length (ts ++ [t]) ∧ adC ts ls cs t = wr18 hasC cs.length (ts ++ [t]) := by
  unfold adT adL adC; rw [h]; exact ⟨rfl, rfl, rfl⟩
/-- what enter writes is what the book with the talk writes -/
theorem ad_put {ts : List Tk} {ls cs : List Int} {t : Tk} (h : adB ts ls cs t = true) : (ls.set t.1.toNat ts.length).set t.2.1.toNat ts.length = adL ts ls cs t ∧ (if t.2.2 = -1 then cs else cs.set t.2.2.toNat ts.length) = adC ts ls cs t ∧ ts ++ [t] = adT ts ls cs t ∧ (0 ≤ t.1 ∧ t.1 ≤ (ls.length : Int) - 1) ∧ (0 ≤ t.2.1 ∧ t.2.1 ≤ (ls.length : Int) - 1) ∧ (-1 ≤ t.2.2 ∧ t.2.2 ≤ (cs.length : Int) - 1) ∧ ts.length < 30 := by
  obtain ⟨e1, e2, e3⟩ := ad_yes h
  unfold adB inT at h
  simp only [Bool.and_eq_true, decide_eq_true_eq] at h
  obtain ⟨hf, hn, ⟨b1, b2, b3⟩, ho⟩ := h
  obtain ⟨-, h1, h2⟩ := fa_nil hf
  rw [okT_eq ts _ b3.1] at ho
  simp only [Bool.and_eq_true, Bool.not_eq_true', decide_eq_true_eq] at ho
  obtain ⟨-, o1, o2, o3⟩ := ho
  refine ⟨?_, ?_, e1.symm, b1, b2, b3, hn⟩
  · rw [e2, wrL_push _ ts t o1 o2 b1 b2, ← h1]
  · rw [e3]
    by_cases hc : t.2.2 = -1
    · rw [if_pos hc, wrC_none _ ts t hc, ← h2]
    · rw [if_neg hc]
      rw [decide_eq_false hc, Bool.false_or] at o3
      rw [wrC_push _ ts t (by simpa using o3) ⟨by omega, b3.2⟩, ← h2]

end Go.Proofs.YtmfmlbiplagmiaaDoor

/- What becomes of a desk; no condition. -/
import Derived.Test.YtpmmgbinogokfaaSrv
namespace Go.Proofs.Ytpmmgbinogokfaa
open Go.RowKit Go.ChangeShapes Go.WideShapes Go.ChangeAt
set_option linter.unusedVariables false
set_option linter.unusedSimpArgs false
set_option maxRecDepth 8000
/-- can a caller be given -/
def goB (gs : List Ag) (q : Wt) : Bool := (taker gs q.2.1).isSome
/-- who is given next -/
def nxt (gs : List Ag) (qs : List Wt) : Option Nat := best (goB gs) cmpW qs
def setA (gs : List Ag) (a : Nat) (c t : Int) : List Ag := match gs[a]? with
  | some x => gs.set a (x.1, c, t)
  | none => gs
/-- one caller is given: the agents, the queue, the call -/
def giveOne (t : Int) (gs : List Ag) (qs : List Wt) : Option (List Ag × List Wt × Int) := match nxt gs qs with
  | none => none
  | some p => match qs[p]? with
    | none => none
    | some q => match taker gs q.2.1 with
      | none => none
      | some a => some (setA gs a q.1 t, qs.eraseIdx p, q.1)
def giveN (t : Int) : Nat → List Ag → List Wt → List Ag × List Wt × List Int
  | 0, gs, qs => (gs, qs, [])
  | f + 1, gs, qs => match giveOne t gs qs with
    | none => (gs, qs, [])
    | some (gs', qs', c) => ((giveN t f gs' qs').1, (giveN t f gs' qs').2.1, c :: (giveN t f gs' qs').2.2)
theorem giveN_none {t : Int} {gs : List Ag} {qs : List Wt} (h : giveOne t gs qs = none) : ∀ f, giveN t f gs qs = (gs, qs, [])
  | 0 => rfl
  | f + 1 => by rw [giveN, h]
theorem bstTo_fit {α : Type} {fit : α → Bool} {cmp : α → α → Int} {ls : List α} : ∀ {j p : Nat}, bstTo fit cmp ls j = some p → ∃ x, ls[p]? = some x ∧ fit x = true
  | 0, p, h => by simp [bstTo] at h
  | j + 1, p, h => by
    rw [bstTo] at h
    split at h
    · exact bstTo_fit h
    · rename_i x hx
      split at h
      · rename_i hf
        split at h
        · simp at h; subst h; exact ⟨x, hx, hf⟩
        · rename_i b hb
          split at h
          · simp at h; subst h; exact ⟨x, hx, hf⟩
          · split at h
            · simp at h; subst h; exact ⟨x, hx, hf⟩
            · simp at h; subst h; exact bstTo_fit hb
      · exact bstTo_fit h
theorem bstTo_none {α : Type} {fit : α → Bool} {cmp : α → α → Int} {ls : List α} : ∀ {j : Nat}, bstTo fit cmp ls j = none → ∀ i (h : i < ls.length), i < j → fit ls[i] = false
  | 0, h, i, hi, hij => by omega
  | j + 1, h, i, hi, hij => by
    rw [bstTo] at h
    split at h
    · rename_i hx
      have hl := List.getElem?_eq_none_iff.1 hx
      exact bstTo_none h i hi (by omega)
    · rename_i x hx
      split at h
      · split at h
        · cases h
        · split at h
          · cases h
          · split at h <;> cases h
      · rename_i hf
        by_cases e : i < j
        · exact bstTo_none h i hi e
        · obtain rfl : i = j := by omega
          rw [List.getElem?_eq_getElem hi] at hx
          cases hx; simpa using hf
theorem taker_lt {gs : List Ag} {k : Int} {a : Nat} (h : taker gs k = some a) : a < gs.length := bstTo_lt h
theorem taker_fit {gs : List Ag} {k : Int} {a : Nat} (h : taker gs k = some a) : ∃ x, gs[a]? = some x ∧ fitB k x = true := bstTo_fit h
theorem nxt_lt {gs : List Ag} {qs : List Wt} {p : Nat} (h : nxt gs qs = some p) : p < qs.length := bstTo_lt h
theorem nxt_go {gs : List Ag} {qs : List Wt} {p : Nat} (h : nxt gs qs = some p) : ∃ q a, qs[p]? = some q ∧ taker gs q.2.1 = some a := by
  obtain ⟨q, h1, h2⟩ := bstTo_fit h
  obtain ⟨a, ha⟩ := Option.isSome_iff_exists.1 h2
  exact ⟨q, a, h1, ha⟩
theorem setA_len (gs : List Ag) (a : Nat) (c t : Int) : (setA gs a c t).length = gs.length := by
  unfold setA; split <;> simp
/-- agents that talk to nobody -/
def free (gs : List Ag) : Nat := (gs.filter fun a => a.2.1 == -1).length
theorem free_le (gs : List Ag) : free gs ≤ gs.length := List.length_filter_le ..
theorem free_set : ∀ (gs : List Ag) (a : Nat) (x : Ag) (c t : Int), gs[a]? = some x → x.2.1 = -1 → c ≠ -1 → free (gs.set a (x.1, c, t)) + 1 = free gs
  | [], a, x, c, t, h, _, _ => by simp at h
  | y :: r, 0, x, c, t, h, h1, h2 => by
    simp at h; subst h
    simp [free, h1, h2]
  | y :: r, a + 1, x, c, t, h, h1, h2 => by
    have := free_set r a x c t (by simpa using h) h1 h2
    simp only [free, List.set_cons_succ, List.filter_cons] at this ⊢
    by_cases hy : (y.2.1 == -1) = true
    · rw [if_pos hy, if_pos hy]; simp only [List.length_cons]; omega
    · rw [if_neg hy, if_neg hy]; exact this
/-- callers whose numbers are none of -1 -/
def CaOk (qs : List Wt) : Prop := ∀ q ∈ qs, 0 ≤ q.1
theorem giveOne_free {t : Int} {gs gs' : List Ag} {qs qs' : List Wt} {c : Int} (hc : CaOk qs) (h : giveOne t gs qs = some (gs', qs', c)) : free gs' + 1 = free gs ∧ gs'.length = gs.length ∧ qs'.length + 1 = qs.length ∧ CaOk qs' := by
  unfold giveOne at h
  split at h
  · cases h
  · rename_i p hp
    obtain ⟨q, a, h1, h2⟩ := nxt_go hp
    simp only [h1, h2, Option.some.injEq, Prod.mk.injEq] at h
    obtain ⟨rfl, rfl, rfl⟩ := h
    obtain ⟨x, hx, hf⟩ := taker_fit h2
    have hx1 : x.2.1 = -1 := by simp [fitB] at hf; exact hf.1
    have hpl := nxt_lt hp
    have hq0 : 0 ≤ q.1 := by
      rw [List.getElem?_eq_getElem hpl] at h1; cases h1
      exact hc _ (List.getElem_mem hpl)
    refine ⟨?_, setA_len .., by rw [List.length_eraseIdx_of_lt hpl]; omega, fun y hy => hc y (List.mem_of_mem_eraseIdx hy)⟩
    simp only [setA, hx]
    exact free_set gs a x q.1 t hx hx1 (by omega)
theorem giveOne_free0 {t : Int} {gs : List Ag} {qs : List Wt} (h : free gs = 0) : giveOne t gs qs = none := by
  unfold giveOne
  split
  · rfl
  · rename_i p hp
    obtain ⟨q, a, h1, h2⟩ := nxt_go hp
    obtain ⟨x, hx, hf⟩ := taker_fit h2
    have hx1 : x.2.1 = -1 := by simp [fitB] at hf; exact hf.1
    have := free_set gs a x 0 0 hx hx1 (by decide)
    omega
theorem SkOk.set {gs : List Ag} (h : SkOk gs) (a : Nat) (c t : Int) : SkOk (setA gs a c t) := by
  unfold setA
  split
  · rename_i x hx
    intro y hy
    rcases List.mem_or_eq_of_mem_set hy with h1 | h1
    · exact h y h1
    · subst h1
      have ha := (List.getElem?_eq_some_iff.1 hx)
      obtain ⟨h1, h2⟩ := ha
      exact h x (h2 ▸ List.getElem_mem h1)
  · exact h
theorem BzOk.set {gs : List Ag} (h : BzOk gs) (a : Nat) (c t : Int) (hc : -1 ≤ c) : BzOk (setA gs a c t) := by
  unfold setA
  split
  · intro y hy
    rcases List.mem_or_eq_of_mem_set hy with h1 | h1
    · exact h y h1
    · subst h1; exact hc
  · exact h
theorem giveOne_sk {t : Int} {gs gs' : List Ag} {qs qs' : List Wt} {c : Int} (hs : SkOk gs) (h : giveOne t gs qs = some (gs', qs', c)) : SkOk gs' := by
  unfold giveOne at h
  split at h
  · cases h
  · split at h
    · cases h
    · split at h
      · cases h
      · simp only [Option.some.injEq, Prod.mk.injEq] at h
        obtain ⟨rfl, rfl, rfl⟩ := h
        exact hs.set _ _ _
theorem giveOne_bz {t : Int} {gs gs' : List Ag} {qs qs' : List Wt} {c : Int} (hb : BzOk gs) (hc : CaOk qs) (h : giveOne t gs qs = some (gs', qs', c)) : BzOk gs' := by
  unfold giveOne at h
  split at h
  · cases h
  · split at h
    · cases h
    · rename_i q hq
      split at h
      · cases h
      · simp only [Option.some.injEq, Prod.mk.injEq] at h
        obtain ⟨rfl, rfl, rfl⟩ := h
        obtain ⟨h1, h2⟩ := List.getElem?_eq_some_iff.1 hq
        have := hc q (h2 ▸ List.getElem_mem h1)
        exact hb.set _ _ _ (by omega)
/-- what an op itself does, ahead of giving -/
def beg (t : Int) (gs : List Ag) (qs : List Wt) (k a s p : Int) : Option (List Ag × List Wt) :=
  if k = 1 then some (gs, qs ++ [(a, s, p, t)])
  else if k = 2 then (match qs.findIdx? (fun x => x.1 == a) with
    | none => none
    | some i => some (gs, qs.eraseIdx i))
  else if 0 ≤ a ∧ a < gs.length then (match gs[a.toNat]? with
    | none => none
    | some x => if k = 3 then (if x.2.1 = -1 then none else some (gs.set a.toNat (x.1, -1, t), qs)) else some (gs.set a.toNat (s, x.2.1, x.2.2), qs))
  else none
def opB (n : Int) (gs : List Ag) (qs : List Wt) (k t a s p : Int) : Bool :=
  tkB t && decide (n ≤ t) && (if k = 1 then wtB t (a, s, p, t) && (gs.findIdx? fun x => x.2.1 == a).isNone && (qs.findIdx? fun x => x.1 == a).isNone
    else if k = 2 ∨ k = 3 then decide (s = 0 ∧ p = 0) else if k = 4 then decide (0 ≤ s ∧ s ≤ 255) && decide (p = 0) else false)
/-- what DoDesk tells: the desk, the calls, the code -/
def doF (n g : Int) (gs : List Ag) (qs : List Wt) (k t a s p : Int) : (Int × Int × List Ag × List Wt) × List Int × Int :=
  if DkOk n g gs qs ∧ opB n gs qs k t a s p = true then (match beg t gs qs k a s p with
    | none => ((n, g, gs, qs), [], 3)
    | some (gs1, qs1) => if 40 < (giveN t gs.length gs1 qs1).2.1.length ∨ 1000000 < g + (giveN t gs.length gs1 qs1).2.2.length then ((n, g, gs, qs), [], 2)
      else ((t, g + (giveN t gs.length gs1 qs1).2.2.length, (giveN t gs.length gs1 qs1).1, (giveN t gs.length gs1 qs1).2.1), (giveN t gs.length gs1 qs1).2.2, 0))
  else ((n, g, gs, qs), [], 1)
end Go.Proofs.Ytpmmgbinogokfaa

/- The chain of moves, as mathematics: it ends; no condition. -/
import Derived.Test.YtikhfeafbckjlaaDoorFVal
namespace Go.Proofs.YtikhfeafbckjlaaDoor
open Go.RowKit Go.ChangeShapes Go.WideShapes Go.ChangeAt
set_option linter.unusedVariables false
set_option linter.unusedSimpArgs false
set_option maxRecDepth 8000
theorem nodup_len : ∀ (n : Nat) (l : List Int), l.Nodup → (∀ x ∈ l, 0 ≤ x ∧ x < (n : Int)) → l.length ≤ n
  | 0, l, _, h => by
    cases l with
    | nil => simp
    | cons x r => have := h x (by simp); omega
  | n + 1, l, hn, h => by
    have h1 : ∀ x ∈ l.filter (fun x => x != (n : Int)), 0 ≤ x ∧ x < (n : Int) := fun x hx => by
      rw [List.mem_filter] at hx
      have := h x hx.1
      have h2 : x ≠ (n : Int) := by simpa using hx.2
      omega
    have h3 := nodup_len n _ (hn.filter _) h1
    have h4 : l.length ≤ (l.filter (fun x => x != (n : Int))).length + 1 := by
      clear h h1 h3
      induction l with
      | nil => simp
      | cons x r ih =>
        rw [List.nodup_cons] at hn
        by_cases hx : x = (n : Int)
        · subst hx
          have : r.filter (fun x => x != (n : Int)) = r := by
            rw [List.filter_eq_self]
            intro y hy
            have : y ≠ (n : Int) := fun e => hn.1 (e ▸ hy)
            simpa using this
          simp [this]
        · have := ih hn.2
          simp [hx]; omega
    omega
/-- one or the other, turn by turn -/
def par {α : Type} (k : Nat) (x y : α) : α := if k % 2 = 0 then x else y
theorem par_succ {α : Type} (k : Nat) (x y : α) : par (k + 1) x y = par k y x := by
  unfold par
  by_cases h : k % 2 = 0
  · rw [if_pos h, if_neg (by omega)]
  · rw [if_neg h, if_pos (by omega)]
/-- the path at a place -/
def pAt (ps : Tri) (c : Int) : Int × Int × Int := ps.getD c.toNat (-1, -1, -1)
theorem pAt_eq {ps : Tri} {c : Int} (h : c.toNat < ps.length) : pAt ps c = ps[c.toNat] := by simp [pAt, List.getElem?_eq_getElem h]
/-- the path that a move would clash with -/
def nxt (p : Int) (ps : Tri) (o : Bool) (th : Int) (x : Int × Int × Int) : Int := if o then ixV (inQ p (x.1 / p) th) ps else ixV (outQ p (x.2.1 / p) th) ps
/-- where the chain stands behind k moves -/
def stt (p : Int) (ps : Tri) (h t : Int) (o : Bool) (c0 : Int) : Nat → Int
  | 0 => c0
  | k + 1 => if stt p ps h t o c0 k < 0 then -1 else nxt p ps (par k o (!o)) (par k t h) (pAt ps (stt p ps h t o c0 k))
/-- its first k moves -/
def mvL (p : Int) (ps : Tri) (h t : Int) (o : Bool) (c0 : Int) (k : Nat) : List (Int × Int) := (List.range k).map fun i => ((pAt ps (stt p ps h t o c0 i)).1, par i t h)
theorem mvL_succ (p : Int) (ps : Tri) (h t : Int) (o : Bool) (c0 : Int) (k : Nat) : mvL p ps h t o c0 (k + 1) = mvL p ps h t o c0 k ++ [((pAt ps (stt p ps h t o c0 k)).1, par k t h)] := by
  simp [mvL, List.range_succ]
theorem mvL_len (p : Int) (ps : Tri) (h t : Int) (o : Bool) (c0 : Int) (k : Nat) : (mvL p ps h t o c0 k).length = k := by simp [mvL]
theorem ixV_pos {q : Int × Int × Int → Bool} {ps : Tri} (h : 0 ≤ ixV q ps) : (ixV q ps).toNat < ps.length ∧ q (pAt ps (ixV q ps)) = true := by
  rw [ixV] at h ⊢
  cases hf : ps.findIdx? q with
  | none => rw [hf] at h; simp at h
  | some k =>
    rw [List.findIdx?_eq_some_iff_getElem] at hf
    obtain ⟨h1, h2, -⟩ := hf
    refine ⟨by simpa using h1, ?_⟩
    rw [pAt_eq (by simpa using h1)]
    simpa using h2
theorem ixV_ge (q : Int × Int × Int → Bool) (ps : Tri) : -1 ≤ ixV q ps := by
  rw [ixV]; cases ps.findIdx? q with
  | none => simp
  | some k => dsimp only; omega
/-- where a chain may begin -/
structure ChOk (p : Int) (ps : Tri) (h t : Int) (o : Bool) (c0 : Int) : Prop where
  ne : h ≠ t
  uniq : ∀ i j (hi : i < ps.length) (hj : j < ps.length), ps[i].2.2 = ps[j].2.2 → (ps[i].1 / p = ps[j].1 / p ∨ ps[i].2.1 / p = ps[j].2.1 / p) → i = j
  start : 0 ≤ c0 → c0.toNat < ps.length ∧ (pAt ps c0).2.2 = h ∧ (o = true → ps.any (outQ p ((pAt ps c0).2.1 / p) t) = false) ∧ (o = false → ps.any (inQ p ((pAt ps c0).1 / p) t) = false)
section
variable {p : Int} {ps : Tri} {h t : Int} {o : Bool} {c0 : Int}
theorem stt_prev {k : Nat} (hk : 0 ≤ stt p ps h t o c0 (k + 1)) : 0 ≤ stt p ps h t o c0 k := by
  rw [stt] at hk
  split at hk
  · omega
  · omega
theorem stt_nxt {k : Nat} (hk : 0 ≤ stt p ps h t o c0 k) : stt p ps h t o c0 (k + 1) = nxt p ps (par k o (!o)) (par k t h) (pAt ps (stt p ps h t o c0 k)) := by
  rw [stt, if_neg (by omega)]
theorem nxt_pos {o : Bool} {th : Int} {x : Int × Int × Int} (hk : 0 ≤ nxt p ps o th x) : (nxt p ps o th x).toNat < ps.length ∧ (pAt ps (nxt p ps o th x)).2.2 = th ∧ (o = true → (pAt ps (nxt p ps o th x)).1 / p = x.1 / p) ∧ (o = false → (pAt ps (nxt p ps o th x)).2.1 / p = x.2.1 / p) := by
  cases o with
  | true =>
    have e : nxt p ps true th x = ixV (inQ p (x.1 / p) th) ps := rfl
    rw [e] at hk ⊢
    obtain ⟨h1, h2⟩ := ixV_pos hk
    simp only [inQ, Bool.and_eq_true, beq_iff_eq] at h2
    exact ⟨h1, h2.2, fun _ => h2.1, fun e => by cases e⟩
  | false =>
    have e : nxt p ps false th x = ixV (outQ p (x.2.1 / p) th) ps := rfl
    rw [e] at hk ⊢
    obtain ⟨h1, h2⟩ := ixV_pos hk
    simp only [outQ, Bool.and_eq_true, beq_iff_eq] at h2
    exact ⟨h1, h2.2, (fun e => by cases e), fun _ => h2.1⟩
theorem stt_in (H : ChOk p ps h t o c0) (k : Nat) (hk : 0 ≤ stt p ps h t o c0 k) : (stt p ps h t o c0 k).toNat < ps.length ∧ (pAt ps (stt p ps h t o c0 k)).2.2 = par k h t := by
  cases k with
  | zero => exact ⟨(H.start hk).1, (H.start hk).2.1⟩
  | succ k =>
    have e := stt_nxt (stt_prev hk)
    rw [e] at hk ⊢
    obtain ⟨h1, h2, -⟩ := nxt_pos hk
    exact ⟨h1, by rw [h2, par_succ]⟩
theorem par_inj {i j : Nat} {x y : Int} (hne : x ≠ y) (e : par i x y = par j x y) : i % 2 = j % 2 := by
  unfold par at e
  by_cases h1 : i % 2 = 0 <;> by_cases h2 : j % 2 = 0
  · omega
  · rw [if_pos h1, if_neg h2] at e; exact absurd e hne
  · rw [if_neg h1, if_pos h2] at e; exact absurd e.symm hne
  · omega
theorem par_mod {α : Type} {i j : Nat} {x y : α} (e : i % 2 = j % 2) : par i x y = par j x y := by unfold par; rw [e]
theorem stt_inj (H : ChOk p ps h t o c0) : ∀ i j, i < j → 0 ≤ stt p ps h t o c0 j → stt p ps h t o c0 i ≠ stt p ps h t o c0 j
  | 0, j, hij, hj, he => by
    obtain ⟨j', rfl⟩ : ∃ j', j = j' + 1 := ⟨j - 1, by omega⟩
    have hj' := stt_prev hj
    obtain ⟨m1, m2⟩ := stt_in H _ hj
    obtain ⟨n1, n2⟩ := stt_in H _ hj'
    have h0 : 0 ≤ stt p ps h t o c0 0 := by rw [he]; exact hj
    obtain ⟨-, s2⟩ := stt_in H _ h0
    have hp := par_inj H.ne (by rw [← s2, ← m2, he] : par 0 h t = par (j' + 1) h t)
    have hodd : ¬ j' % 2 = 0 := by omega
    have e := stt_nxt hj'
    have l := nxt_pos (e ▸ hj)
    rw [← e] at l
    have po : par j' o (!o) = !o := by unfold par; rw [if_neg hodd]
    have pt : par j' h t = t := by unfold par; rw [if_neg hodd]
    rw [po] at l
    rw [pt] at n2
    have s := (H.start h0).2.2
    have hc : c0 = stt p ps h t o c0 (j' + 1) := he
    rw [pAt_eq n1] at n2
    cases o with
    | true =>
      have s1 := s.1 rfl
      rw [hc] at s1
      have l2 := l.2.2.2 rfl
      rw [← hc] at s1 l2
      rw [pAt_eq n1] at l2
      rw [List.any_eq_false] at s1
      have := s1 _ (List.getElem_mem n1)
      simp only [outQ, Bool.and_eq_true, beq_iff_eq, not_and] at this
      exact this l2.symm n2
    | false =>
      have s1 := s.2 rfl
      have l2 := l.2.2.1 rfl
      rw [← hc] at l2
      rw [pAt_eq n1] at l2
      rw [List.any_eq_false] at s1
      have := s1 _ (List.getElem_mem n1)
      simp only [inQ, Bool.and_eq_true, beq_iff_eq, not_and] at this
      exact this l2.symm n2
  | i + 1, j, hij, hj, he => by
    obtain ⟨j', rfl⟩ : ∃ j', j = j' + 1 := ⟨j - 1, by omega⟩
    have hj' := stt_prev hj
    have hi : 0 ≤ stt p ps h t o c0 (i + 1) := by rw [he]; exact hj
    have hi' := stt_prev hi
    obtain ⟨m1, m2⟩ := stt_in H _ hj
    obtain ⟨n1, n2⟩ := stt_in H _ hj'
    obtain ⟨r1, r2⟩ := stt_in H _ hi
    obtain ⟨s1, s2⟩ := stt_in H _ hi'
    have hp := par_inj H.ne (by rw [← r2, ← m2, he] : par (i + 1) h t = par (j' + 1) h t)
    have hq : i % 2 = j' % 2 := by omega
    have ei := stt_nxt hi'
    have ej := stt_nxt hj'
    have li := nxt_pos (ei ▸ hi)
    have lj := nxt_pos (ej ▸ hj)
    rw [← ei, he] at li
    rw [← ej] at lj
    have hm : (pAt ps (stt p ps h t o c0 i)).2.2 = (pAt ps (stt p ps h t o c0 j')).2.2 := by rw [s2, n2, par_mod hq]
    rw [pAt_eq s1, pAt_eq n1] at hm
    have hu := H.uniq _ _ s1 n1 hm (by
      cases ho : par j' o (!o) with
      | true =>
        have a := li.2.2.1 ((par_mod hq).trans ho)
        have b := lj.2.2.1 ho
        rw [pAt_eq s1] at a
        rw [pAt_eq n1] at b
        exact .inl (a.symm.trans b)
      | false =>
        have a := li.2.2.2 ((par_mod hq).trans ho)
        have b := lj.2.2.2 ho
        rw [pAt_eq s1] at a
        rw [pAt_eq n1] at b
        exact .inr (a.symm.trans b))
    exact stt_inj H i j' (by omega) hj' (by omega)
theorem stt_ge (H : ChOk p ps h t o c0) {k i : Nat} (hk : 0 ≤ stt p ps h t o c0 k) (hi : i ≤ k) : 0 ≤ stt p ps h t o c0 i := by
  induction k with
  | zero => obtain rfl : i = 0 := by omega
            exact hk
  | succ k ih =>
    by_cases e : i = k + 1
    · rw [e]; exact hk
    · exact ih (stt_prev hk) (by omega)
/-- the chain ends -/
theorem stt_bound (H : ChOk p ps h t o c0) (k : Nat) (hk : 0 ≤ stt p ps h t o c0 k) : k < ps.length := by
  have hl : ((List.range (k + 1)).map (stt p ps h t o c0)).length ≤ ps.length := by
    refine nodup_len ps.length _ ?_ ?_
    · rw [List.nodup_iff_pairwise_ne, List.pairwise_map]
      refine List.Pairwise.imp_of_mem ?_ (List.pairwise_lt_range)
      intro a b ha hb hab
      exact stt_inj H a b hab (stt_ge H hk (by have := List.mem_range.1 hb; omega))
    · intro x hx
      obtain ⟨i, hi, rfl⟩ := List.mem_map.1 hx
      have hi' := stt_ge H hk (show i ≤ k by have := List.mem_range.1 hi; omega)
      have := (stt_in H i hi').1
      omega
  simp at hl
  omega
end
end Go.Proofs.YtikhfeafbckjlaaDoor

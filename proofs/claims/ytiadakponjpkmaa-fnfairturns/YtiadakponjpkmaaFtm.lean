/- What is served, in turns; rows of rows that are made; no condition. -/
import Derived.Test.YtiadakponjpkmaaFrm
import Derived.Test.YtiadakponjpkmaaGnd
namespace Go.Proofs.Ytiadakponjpkmaa
open Go.RowKit Go.ChangeShapes Go.WideShapes Go.ChangeAt
set_option linter.unusedVariables false
set_option linter.unusedSimpArgs false
set_option maxRecDepth 8000

theorem gS_congr {N T : Nat} {ln ln' : Nat → Nat} (hN : 0 < N) (h : ∀ q, q < N → ln q = ln' q) : ∀ t, gS N T ln t = gS N T ln' t
  | 0 => rfl
  | t + 1 => by rw [gS, gS, gS_congr hN h t, h _ (Nat.mod_lt _ hN)]
theorem gS_pre {N T : Nat} {ln : Nat → Nat} (t : Nat) : ∀ k, ∃ r, gS N T ln (t + k) = gS N T ln t ++ r
  | 0 => ⟨[], by simp⟩
  | k + 1 => by
    obtain ⟨r, hr⟩ := gS_pre (N := N) (T := T) (ln := ln) t k
    rw [← Nat.add_assoc, gS]
    split
    · exact ⟨r ++ [t + k], by rw [hr, List.append_assoc]⟩
    · exact ⟨r, hr⟩
theorem gS_get {N T : Nat} {ln : Nat → Nat} {t u i : Nat} (h : t ≤ u) (hi : i < (gS N T ln t).length) : (gS N T ln u).getD i 0 = (gS N T ln t).getD i 0 := by
  obtain ⟨k, rfl⟩ : ∃ k, u = t + k := ⟨u - t, by omega⟩
  obtain ⟨r, hr⟩ := gS_pre (N := N) (T := T) (ln := ln) t k
  rw [hr, List.getD_eq_getElem?_getD, List.getElem?_append_left hi, ← List.getD_eq_getElem?_getD]
theorem gS_lenle {N T : Nat} {ln : Nat → Nat} {t u : Nat} (h : t ≤ u) : (gS N T ln t).length ≤ (gS N T ln u).length := by
  obtain ⟨k, rfl⟩ : ∃ k, u = t + k := ⟨u - t, by omega⟩
  obtain ⟨r, hr⟩ := gS_pre (N := N) (T := T) (ln := ln) t k
  rw [hr]; simp
/-- the next step at which something is served -/
theorem next_step {ls : List (List Int)} {T : Nat} (hN : 0 < ls.length) {E : Nat} : ∀ (n t : Nat), E = t + n → (gS ls.length T (lnA ls) t).length < (gS ls.length T (lnA ls) E).length →
    ∃ s, t ≤ s ∧ s < E ∧ gS ls.length T (lnA ls) s = gS ls.length T (lnA ls) t ∧ atL ls s = atL ls t ∧ s / ls.length < lnA ls (s % ls.length) ∧ (gS ls.length T (lnA ls) s).length < T ∧ (gS ls.length T (lnA ls) E).getD (gS ls.length T (lnA ls) t).length 0 = s
  | 0, t, hE, h => by
    rw [hE] at h; simp at h
  | n + 1, t, hE, h => by
    have hT : (gS ls.length T (lnA ls) t).length < T := Nat.lt_of_lt_of_le h (gS_len E)
    by_cases hs : t / ls.length < lnA ls (t % ls.length)
    · refine ⟨t, Nat.le_refl _, by omega, rfl, rfl, hs, hT, ?_⟩
      have e := gS_yes hs hT
      rw [gS_get (t := t + 1) (by omega) (by rw [e]; simp), e, List.getD_eq_getElem?_getD, List.getElem?_append_right (Nat.le_refl _)]
      simp
    · have e := gS_no (T := T) (ln := lnA ls) (fun h' => hs h'.1)
      obtain ⟨s, h1, h2, h3, h4, h5, h6, h7⟩ := next_step (T := T) (E := E) hN n (t + 1) (by omega) (by rw [e]; exact h)
      exact ⟨s, Nat.le_of_succ_le h1, h2, h3.trans e, h4.trans (at_no hN hs).1, h5, h6, by rw [← e]; exact h7⟩
def nmL (ls : List (List Int)) (n : Nat) : List (List Int) := (List.range n).map fun i => List.replicate (lnA ls i) (i : Int)
theorem nmL_len (ls : List (List Int)) (n : Nat) : (nmL ls n).length = n := by simp [nmL]
theorem nmL_at (ls : List (List Int)) {n q : Nat} (h : q < n) : (nmL ls n).getD q [] = List.replicate (lnA ls q) (q : Int) := by simp [nmL, List.getElem?_map, List.getElem?_range h]
theorem nmL_succ (ls : List (List Int)) (n : Nat) : nmL ls (n + 1) = nmL ls n ++ [List.replicate (lnA ls n) (n : Int)] := by simp [nmL, List.range_succ]
theorem nmL_ln (ls : List (List Int)) {q : Nat} (h : q < ls.length) : lnA (nmL ls ls.length) q = lnA ls q := by rw [lnA, nmL_at ls h]; simp
theorem nmL_qk (ls : List (List Int)) : qkB (nmL ls ls.length) = qkB ls := by
  by_cases h : ∀ k, k < ls.length → (ls.getD k []).length ≤ 60
  · rw [qkB_yes h, qkB_yes (ls := nmL ls ls.length) (fun k hk => by rw [nmL_len] at hk; have := nmL_ln ls hk; unfold lnA at this; rw [this]; exact h k hk), nmL_len]
  · obtain ⟨k, hk⟩ := Classical.not_forall.1 h
    obtain ⟨hk1, hk2⟩ := Classical.not_imp.1 hk
    rw [qkB_no k hk1 hk2, qkB_no (ls := nmL ls ls.length) k (by rw [nmL_len]; exact hk1) (by have := nmL_ln ls hk1; unfold lnA at this; rw [this]; exact hk2)]
theorem nmL_fa (ls : List (List Int)) (t : Int) : faB (nmL ls ls.length) t = faB ls t := by unfold faB; rw [nmL_qk]
/-- what the law asks of the i-th that is served -/
theorem fair_at {ls : List (List Int)} {t : Int} (h : faB ls t = true) {i u : Nat} (hu : (gS ls.length t.toNat (lnA ls) u).length = i) (hE : u ≤ ls.length * 60) (hi : i < (faR ls t).length) :
    ∃ q p s : Nat, q < ls.length ∧ (faR (nmL ls ls.length) t).getD i 0 = (q : Int) ∧ p < (ls.getD q []).length ∧ (atL ls u).getD q 0 = (p : Int) ∧ (ls.getD q []).getD p 0 = (faR ls t).getD i 0 ∧ atL ls (s + 1) = (atL ls u).set q ((p : Int) + 1) ∧ s + 1 ≤ ls.length * 60 ∧ (gS ls.length t.toNat (lnA ls) (s + 1)).length = i + 1 ∧ p ≤ 60 ∧
      ∀ o, o < ls.length → ∃ c : Nat, (atL ls (s + 1)).getD o 0 = (c : Int) ∧ c ≤ 60 ∧ (p ≤ c ∨ (ls.getD o []).length ≤ c) := by
  have hq : qkB ls = true := by unfold faB at h; rw [Bool.and_eq_true] at h; exact h.1
  have hN : 0 < ls.length := (qkB_len hq).1
  rw [faR_yes h, frO_len] at hi
  obtain ⟨s, h1, h2, h3, h4, h5, h6, h7⟩ := next_step (T := t.toNat) hN (E := ls.length * 60) (ls.length * 60 - u) u (by omega) (by rw [hu]; exact hi)
  rw [hu] at h7
  have hr : s % ls.length < ls.length := Nat.mod_lt _ hN
  obtain ⟨a1, a2, a3⟩ := at_yes hN h5
  have hl := qkB_at hq _ hr
  refine ⟨s % ls.length, s / ls.length, s, hr, ?_, h5, by rw [← h4]; exact a2, ?_, by rw [← h4]; exact a1, h2, ?_, by unfold lnA at h5; omega, fun o ho => ?_⟩
  · rw [faR_yes (by rw [nmL_fa]; exact h), frO, nmL_len, gS_congr hN (fun q hq => nmL_ln ls hq), List.getD_eq_getElem?_getD, List.getElem?_map]
    have : (gS ls.length t.toNat (lnA ls) (ls.length * 60))[i]? = some s := by
      rw [List.getD_eq_getElem?_getD, List.getElem?_eq_getElem hi] at h7
      rw [List.getElem?_eq_getElem hi]; simpa using h7
    rw [this]
    simp only [Option.map_some, Option.getD_some, frV, nmL_len]
    rw [nmL_at ls hr]
    simp [List.getElem?_replicate, h5]
  · rw [faR_yes h, frO, List.getD_eq_getElem?_getD (l := List.map _ _), List.getElem?_map]
    have : (gS ls.length t.toNat (lnA ls) (ls.length * 60))[i]? = some s := by
      rw [List.getD_eq_getElem?_getD, List.getElem?_eq_getElem hi] at h7
      rw [List.getElem?_eq_getElem hi]; simpa using h7
    rw [this]; rfl
  · rw [gS_yes h5 h6, List.length_append, h3, hu]; rfl
  · refine ⟨atF ls (s + 1) o, atL_at ho, ?_, ?_⟩
    · have := qkB_at hq o ho
      unfold atF lnA; omega
    · have h8 := cnt_ge (t := s + 1) hN ho
      have h9 : s / ls.length ≤ (s + 1) / ls.length := Nat.div_le_div_right (by omega)
      unfold atF
      rcases Nat.lt_or_ge (cnt ls.length (s + 1) o) (lnA ls o) with h10 | h10
      · left; omega
      · right; unfold lnA at h10 ⊢; omega
theorem nm_len (ls : List (List Int)) (t : Int) : (faR (nmL ls ls.length) t).length = (faR ls t).length := by
  cases h : faB ls t with
  | false => rw [faR_no h, faR_no (by rw [nmL_fa]; exact h)]
  | true =>
    have hq : qkB ls = true := by unfold faB at h; rw [Bool.and_eq_true] at h; exact h.1
    have hN : 0 < ls.length := (qkB_len hq).1
    rw [faR_yes h, faR_yes (by rw [nmL_fa]; exact h), frO_len, frO_len, nmL_len, gS_congr hN (fun q hq => nmL_ln ls hq)]

/-- rows of one's own in a row of one's own, while they are made -/
structure Ge (w1 W : World) (v : Value) (us : List Value) (ls : List (List Int)) : Prop where
  len : us.length = ls.length
  row : W.ownsRow w1.heap.size 35 1 v us.length us
  own : ∀ i, i < ls.length → Ow .i64 3 w1.heap.size W (us.getD i vN) (ls.getD i [])
  ne : ∀ i, i < ls.length → ∀ k, (us.getD i vN).ownBlock = some k → v.ownBlock ≠ some k
  ap : ∀ i j, i < j → j < ls.length → ∀ k, (us.getD i vN).ownBlock = some k → (us.getD j vN).ownBlock ≠ some k
  bl : Below w1.heap.size w1 W
theorem Ge.below {w1 W W' : World} {v : Value} {us : List Value} {ls : List (List Int)} (h : Ge w1 W v us ls) (hb : Below W.heap.size W W') : Ge w1 W' v us ls :=
  ⟨h.len, World.ownsRow.kept (row := none) h.row ⟨hb.os, hb.tape, hb.output, hb.size, fun j hj _ => hb.block j hj⟩ (by cases v.ownBlock <;> simp), fun i hi => (h.own i hi).below hb, h.ne, h.ap, belowCall h.bl hb h.bl.size⟩
theorem Ge.size {w1 W : World} {v : Value} {us : List Value} {ls : List (List Int)} (h : Ge w1 W v us ls) : w1.heap.size ≤ W.heap.size := h.bl.size
theorem Ge.rd {w1 W : World} {v : Value} {us : List Value} {ls : List (List Int)} (h : Ge w1 W v us ls) : Rn W v ls := by
  have hl := h.len
  rcases h.row.2 with ⟨rfl, hn⟩ | ⟨b, cap, cur, rfl, hb, hgb, hnc, hcm, hcs, ht⟩
  · exact ⟨none, 0, by rw [show ls.length = 0 by omega], by omega, by simp, .inl (List.eq_nil_of_length_eq_zero (by omega))⟩
  · refine ⟨_, cap, by rw [h.len], by have := h.len; omega, hcm, .inr ⟨b, 0, rfl, fun i hi => ⟨us.getD i vN, ?_, Ow.rd (k := .i64) (e := 3) (base := w1.heap.size) (h.own i hi)⟩⟩⟩
    have := World.ownsRow.cellAt h.row i (by have := h.len; omega)
    rw [Nat.zero_add, this, List.getD_eq_getElem?_getD, List.getElem?_eq_getElem (by rw [h.len]; exact hi)]
    rfl
/-- one row more: W0 is where it began -/
theorem Ge.push {w1 W W1 W' : World} {v vr v' : Value} {us : List Value} {ls : List (List Int)} {rs : List Int} {B : Nat} (h : Ge w1 W v us ls) (hB1 : w1.heap.size ≤ B) (hBl : ∀ i, i < ls.length → ∀ k, (us.getD i vN).ownBlock = some k → k < B) (hBv : ∀ k, v.ownBlock = some k → k < B) (ho : Ow .i64 3 B W vr rs) (hb : Below W.heap.size W W1)
    (hr : W'.ownsRow w1.heap.size 35 1 v' (us ++ [vr]).length (us ++ [vr])) (hg : W1.grownBy W' v.ownBlock) (hbk : v'.ownBlock = v.ownBlock ∨ v'.ownBlock = some W1.heap.size) : Ge w1 W' v' (us ++ [vr]) (ls ++ [rs]) := by
  have h1 := h.below hb
  have ho1 := ho.below hb
  have e1 : ∀ i, i < ls.length → (us ++ [vr]).getD i vN = us.getD i vN := fun i hi => by simp [List.getElem?_append_left (show i < us.length by rw [h.len]; exact hi)]
  have e2 : ∀ i, i < ls.length → (ls ++ [rs]).getD i [] = ls.getD i [] := fun i hi => by simp [List.getElem?_append_left hi]
  have e3 : (us ++ [vr]).getD ls.length vN = vr := by rw [List.getD_eq_getElem?_getD, List.getElem?_append_right (by rw [h.len]; exact Nat.le_refl _)]; simp [h.len]
  have e4 : (ls ++ [rs]).getD ls.length [] = rs := by rw [List.getD_eq_getElem?_getD, List.getElem?_append_right (Nat.le_refl _)]; simp
  have kp : ∀ {u : Value} {zs : List Int}, Ow .i64 3 w1.heap.size W1 u zs → (∀ k, u.ownBlock = some k → v.ownBlock ≠ some k) → Ow .i64 3 w1.heap.size W' u zs := fun {u zs} hu hn => World.ownsRow.kept hu hg (by
    cases hv : u.ownBlock with
    | none => exact .inl rfl
    | some k => exact .inr (fun e => hn k hv e.symm))
  have nr : ∀ k, vr.ownBlock = some k → v.ownBlock ≠ some k := fun k e e' => by
    have := (World.ownsRow.lt ho k e).1; have := hBv k e'; omega
  have nw : ∀ {u : Value} {zs : List Int}, Ow .i64 3 w1.heap.size W1 u zs → (∀ k, u.ownBlock = some k → v.ownBlock ≠ some k) → ∀ k, u.ownBlock = some k → v'.ownBlock ≠ some k := fun {u zs} hu hn k e e' => by
    rcases hbk with h | h
    · exact hn k e (h ▸ e')
    · rw [h] at e'; cases e'
      have := (World.ownsRow.lt hu _ e).2; omega
  refine ⟨by simp [h.len], hr, fun i hi => ?_, fun i hi k e => ?_, fun i j hij hj k e e' => ?_, h1.bl.trans (grown_below hg h1.bl.size (fun k e => (World.ownsRow.lt h1.row k e).1))⟩
  · simp at hi
    rcases Nat.lt_or_ge i ls.length with hlt | hge
    · rw [e1 i hlt, e2 i hlt]; exact kp (h1.own i hlt) (h.ne i hlt)
    · obtain rfl : i = ls.length := by omega
      rw [e3, e4]; exact kp (ho1.mono hB1) nr
  · simp at hi
    rcases Nat.lt_or_ge i ls.length with hlt | hge
    · rw [e1 i hlt] at e; exact nw (h1.own i hlt) (h.ne i hlt) k e
    · obtain rfl : i = ls.length := by omega
      rw [e3] at e; exact nw (ho1.mono hB1) nr k e
  · simp at hj
    rcases Nat.lt_or_ge j ls.length with hlt | hge
    · rw [e1 i (by omega)] at e; rw [e1 j hlt] at e'; exact h.ap i j hij hlt k e e'
    · obtain rfl : j = ls.length := by omega
      rw [e1 i hij] at e; rw [e3] at e'
      have := hBl i hij k e
      have := (World.ownsRow.lt ho k e').1
      omega
theorem Ge.blt {w1 W : World} {v : Value} {us : List Value} {ls : List (List Int)} (h : Ge w1 W v us ls) : (∀ i, i < ls.length → ∀ k, (us.getD i vN).ownBlock = some k → k < W.heap.size) ∧ ∀ k, v.ownBlock = some k → k < W.heap.size :=
  ⟨fun i hi k e => (World.ownsRow.lt (h.own i hi) k e).2, fun k e => (World.ownsRow.lt h.row k e).2⟩

end Go.Proofs.Ytiadakponjpkmaa

/- no agent is idle: the mathematics; no condition. -/
import Derived.Test.YtpmmgbinogokfaaRnA
namespace Go.Proofs.Ytpmmgbinogokfaa
open Go.RowKit Go.ChangeShapes Go.WideShapes Go.ChangeAt
set_option linter.unusedVariables false
set_option linter.unusedSimpArgs false
set_option maxRecDepth 8000
/-- a desk that is right but for those who could be given -/
structure Jn (t : Int) (gs : List Ag) (qs : List Wt) : Prop where
  a1 : ∀ x ∈ gs, agB t x = true
  a2 : ∀ i j (hi : i < gs.length) (hj : j < gs.length), i < j → 0 ≤ gs[j].2.1 → gs[i].2.1 ≠ gs[j].2.1
  q1 : ∀ q ∈ qs, wtB t q = true
  q2 : (cl qs).Nodup
  x : ∀ x ∈ gs, ∀ q ∈ qs, x.2.1 ≠ q.1
theorem agB_mono {n t : Int} {x : Ag} (h : agB n x = true) (hn : n ≤ t) : agB t x = true := by
  simp only [agB, Bool.and_eq_true, decide_eq_true_eq] at h ⊢
  exact ⟨h.1, h.2.1, Int.le_trans h.2.2 hn⟩
theorem wtB_mono {n t : Int} {q : Wt} (h : wtB n q = true) (hn : n ≤ t) : wtB t q = true := by
  simp only [wtB, Bool.and_eq_true, decide_eq_true_eq] at h ⊢
  exact ⟨h.1, h.2.1, Int.le_trans h.2.2 hn⟩
theorem wtB_call {n : Int} {q : Wt} (h : wtB n q = true) : 0 ≤ q.1 ∧ q.1 ≤ 1000000000 := by
  simp [wtB, tkB] at h; omega
theorem Jn.later {n t : Int} {gs : List Ag} {qs : List Wt} (h : Jn n gs qs) (hn : n ≤ t) : Jn t gs qs := ⟨fun x hx => agB_mono (h.a1 x hx) hn, h.a2, fun q hq => wtB_mono (h.q1 q hq) hn, h.q2, h.x⟩
theorem cl_at {qs : List Wt} (h : (cl qs).Nodup) (i j : Nat) (hi : i < qs.length) (hj : j < qs.length) (hne : i ≠ j) : qs[i].1 ≠ qs[j].1 := by
  rw [List.Nodup, cl, List.pairwise_map, List.pairwise_iff_getElem] at h
  rcases Nat.lt_or_gt_of_ne hne with h1 | h1
  · exact h i j hi hj h1
  · exact fun e => h j i hj hi h1 e.symm
theorem Jn.erase {t : Int} {gs : List Ag} {qs : List Wt} (h : Jn t gs qs) (p : Nat) : Jn t gs (qs.eraseIdx p) := by
  refine ⟨h.a1, h.a2, fun q hq => h.q1 q (List.mem_of_mem_eraseIdx hq), ?_, fun x hx q hq => h.x x hx q (List.mem_of_mem_eraseIdx hq)⟩
  have : (cl (qs.eraseIdx p)).Sublist (cl qs) := List.Sublist.map _ (List.eraseIdx_sublist qs p)
  exact List.Pairwise.sublist this h.q2
theorem Jn.set {t : Int} {gs : List Ag} {qs : List Wt} (h : Jn t gs qs) (a : Nat) (y : Ag) (h1 : agB t y = true) (h2 : 0 ≤ y.2.1 → ∀ i (hi : i < gs.length), i ≠ a → gs[i].2.1 ≠ y.2.1) (h3 : ∀ q ∈ qs, y.2.1 ≠ q.1) : Jn t (gs.set a y) qs := by
  refine ⟨fun x hx => ?_, fun i j hi hj hij h0 => ?_, h.q1, h.q2, fun x hx q hq => ?_⟩
  · rcases List.mem_or_eq_of_mem_set hx with hx | rfl
    · exact h.a1 x hx
    · exact h1
  · simp only [List.length_set] at hi hj
    rw [List.getElem_set, List.getElem_set] at *
    by_cases e1 : a = i
    · have e2 : a ≠ j := by omega
      rw [if_pos e1, if_neg e2] at *
      intro e
      exact h2 (by rw [e]; exact h0) j hj (fun e => e2 e.symm) e.symm
    · by_cases e2 : a = j
      · rw [if_neg e1, if_pos e2] at *
        exact h2 h0 i hi (fun e => e1 e.symm)
      · rw [if_neg e1, if_neg e2] at *
        exact h.a2 i j hi hj hij h0
  · rcases List.mem_or_eq_of_mem_set hx with hx | rfl
    · exact h.x x hx q hq
    · exact h3 q hq
theorem Jn.one {t : Int} {gs gs' : List Ag} {qs qs' : List Wt} {c : Int} (h : Jn t gs qs) (ht : 0 ≤ t) (hg : giveOne t gs qs = some (gs', qs', c)) :
    Jn t gs' qs' ∧ (∃ x ∈ gs', x.2.1 = c) ∧ (0 ≤ c ∧ c ≤ 1000000000) ∧ ∀ d, 0 ≤ d → (∃ x ∈ gs, x.2.1 = d) → ∃ x ∈ gs', x.2.1 = d := by
  unfold giveOne at hg
  cases hp : nxt gs qs with
  | none => rw [hp] at hg; cases hg
  | some p =>
    rw [hp] at hg
    obtain ⟨q, a, hq, ha⟩ := nxt_go hp
    simp only [hq, ha, Option.some.injEq, Prod.mk.injEq] at hg
    obtain ⟨rfl, rfl, rfl⟩ := hg
    obtain ⟨hpl, rfl⟩ := List.getElem?_eq_some_iff.1 hq
    obtain ⟨x, hx, hfit⟩ := taker_fit ha
    obtain ⟨hal, hxe⟩ := List.getElem?_eq_some_iff.1 hx
    have hb : x.2.1 = -1 := by simp [fitB] at hfit; exact hfit.1
    have hqm := List.getElem_mem hpl
    have hc := wtB_call (h.q1 _ hqm)
    have hax := h.a1 x (hxe ▸ List.getElem_mem hal)
    have hset : setA gs a qs[p].1 t = gs.set a (x.1, qs[p].1, t) := by rw [setA, hx]
    rw [hset]
    have hj : Jn t (gs.set a (x.1, qs[p].1, t)) (qs.eraseIdx p) := by
      refine (h.erase p).set a _ ?_ ?_ ?_
      · simp [agB, tkB] at hax ⊢; omega
      · intro _ i hi hne
        exact h.x _ (List.getElem_mem hi) _ hqm
      · intro q' hq'
        obtain ⟨i, hi, hne, rfl⟩ := List.mem_eraseIdx_iff_getElem.1 hq'
        exact cl_at h.q2 p i hpl hi (fun e => hne e.symm)
    refine ⟨hj, ⟨(x.1, qs[p].1, t), List.mem_iff_getElem.2 ⟨a, by simpa using hal, by simp⟩, rfl⟩, hc, ?_⟩
    rintro d hd ⟨y, hy, rfl⟩
    obtain ⟨i, hi, rfl⟩ := List.getElem_of_mem hy
    have hne : a ≠ i := by rintro rfl; rw [hxe] at hd; omega
    exact ⟨gs[i], List.mem_iff_getElem.2 ⟨i, by simpa using hi, by rw [List.getElem_set, if_neg hne]⟩, rfl⟩
theorem Jn.all {t : Int} (ht : 0 ≤ t) : ∀ (f : Nat) (gs : List Ag) (qs : List Wt), Jn t gs qs → free gs ≤ f →
    Jn t (giveN t f gs qs).1 (giveN t f gs qs).2.1 ∧ giveOne t (giveN t f gs qs).1 (giveN t f gs qs).2.1 = none ∧ (∀ c ∈ (giveN t f gs qs).2.2, (∃ x ∈ (giveN t f gs qs).1, x.2.1 = c) ∧ 0 ≤ c ∧ c ≤ 1000000000) ∧ ∀ d, 0 ≤ d → (∃ x ∈ gs, x.2.1 = d) → ∃ x ∈ (giveN t f gs qs).1, x.2.1 = d
  | 0, gs, qs, h, hf => by
    have h0 := giveOne_free0 (t := t) (qs := qs) (show free gs = 0 by omega)
    simp only [giveN]
    exact ⟨h, h0, by simp, fun d _ hd => hd⟩
  | f + 1, gs, qs, h, hf => by
    cases hg : giveOne t gs qs with
    | none =>
      rw [giveN_none hg]
      exact ⟨h, hg, by simp, fun d _ hd => hd⟩
    | some r =>
      obtain ⟨gs', qs', c⟩ := r
      have h1 := h.one ht hg
      have h2 := giveOne_free (fun q hq => (wtB_call (h.q1 q hq)).1) hg
      have ih := Jn.all ht f gs' qs' h1.1 (by omega)
      simp only [giveN, hg]
      refine ⟨ih.1, ih.2.1, fun d hd => ?_, fun d hd he => ih.2.2.2 d hd (h1.2.2.2 d hd he)⟩
      rcases List.mem_cons.1 hd with rfl | hd
      · exact ⟨ih.2.2.2 _ h1.2.2.1.1 h1.2.1, h1.2.2.1⟩
      · exact ih.2.2.1 d hd
end Go.Proofs.Ytpmmgbinogokfaa

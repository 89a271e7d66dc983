/- An op keeps a right desk right; no condition. -/
import Derived.Test.YtpmmgbinogokfaaNiM
import Derived.Test.YtpmmgbinogokfaaDoD
namespace Go.Proofs.Ytpmmgbinogokfaa
open Go.RowKit Go.ChangeShapes Go.WideShapes Go.ChangeAt
set_option linter.unusedVariables false
set_option linter.unusedSimpArgs false
set_option maxRecDepth 8000
theorem jn_of {n g : Int} {gs : List Ag} {qs : List Wt} (h : DkOk n g gs qs) : Jn n gs qs := by
  have ha := (ags_iff n gs).1 h.2.2.2.2.1
  have hq := (qs_iff n gs qs).1 h.2.2.2.2.2
  exact ⟨ha.1, (bz_nodup gs).1 ha.2, fun q hq' => (hq.1 q hq').1, hq.2.1, hq.2.2⟩
theorem giveOne_go {t : Int} {gs : List Ag} {qs : List Wt} (h : giveOne t gs qs = none) : ∀ q ∈ qs, taker gs q.2.1 = none := by
  intro q hq
  cases hn : nxt gs qs with
  | some p =>
    obtain ⟨q', a, h1, h2⟩ := nxt_go hn
    simp [giveOne, hn, h1, h2] at h
  | none =>
    obtain ⟨i, hi, rfl⟩ := List.getElem_of_mem hq
    have := bstTo_none hn i hi hi
    simp [goB] at this
    exact this
theorem dk_of {n g : Int} {gs : List Ag} {qs : List Wt} (h1 : 1 ≤ gs.length ∧ gs.length ≤ 12) (h2 : qs.length ≤ 40) (h3 : tkB n = true) (h4 : 0 ≤ g ∧ g ≤ 1000000) (h : Jn n gs qs) (hg : ∀ q ∈ qs, taker gs q.2.1 = none) : DkOk n g gs qs :=
  ⟨h1, h2, h3, h4, (ags_iff n gs).2 ⟨h.a1, (bz_nodup gs).2 h.a2⟩, (qs_iff n gs qs).2 ⟨fun q hq => ⟨h.q1 q hq, hg q hq⟩, h.q2, h.x⟩⟩
theorem Jn.op {n t : Int} {gs gs1 : List Ag} {qs qs1 : List Wt} {k a s p : Int} (h : Jn n gs qs) (ho : opB n gs qs k t a s p = true) (hb : beg t gs qs k a s p = some (gs1, qs1)) : Jn t gs1 qs1 ∧ gs1.length = gs.length := by
  simp only [opB, Bool.and_eq_true, decide_eq_true_eq] at ho
  obtain ⟨⟨htk, hnt⟩, ho⟩ := ho
  have h' := h.later hnt
  have ht : 0 ≤ t := by simp [tkB] at htk; omega
  by_cases k1 : k = 1
  · rw [if_pos k1] at ho
    simp only [beg, if_pos k1, Option.some.injEq, Prod.mk.injEq] at hb
    obtain ⟨rfl, rfl⟩ := hb
    simp only [Bool.and_eq_true, Option.isNone_iff_eq_none, List.findIdx?_eq_none_iff] at ho
    obtain ⟨⟨o1, o2⟩, o3⟩ := ho
    refine ⟨⟨h'.a1, h'.a2, fun q hq => ?_, ?_, fun x hx q hq => ?_⟩, rfl⟩
    · rcases List.mem_append.1 hq with hq | hq
      · exact h'.q1 q hq
      · rw [List.mem_singleton.1 hq]; exact o1
    · rw [cl, List.map_append, List.nodup_append]
      refine ⟨h'.q2, by simp, fun x hx y hy => ?_⟩
      obtain ⟨q, hq, rfl⟩ := List.mem_map.1 hx
      have := o3 q hq
      simp at this hy
      rw [hy]; exact this
    · rcases List.mem_append.1 hq with hq | hq
      · exact h'.x x hx q hq
      · rw [List.mem_singleton.1 hq]
        have := o2 x hx
        simpa using this
  rw [if_neg k1] at ho
  by_cases k2 : k = 2
  · simp only [beg, if_neg k1, if_pos k2] at hb
    split at hb
    · cases hb
    · simp only [Option.some.injEq, Prod.mk.injEq] at hb
      obtain ⟨rfl, rfl⟩ := hb
      exact ⟨h'.erase _, rfl⟩
  simp only [beg, if_neg k1, if_neg k2] at hb
  by_cases ha : 0 ≤ a ∧ a < gs.length
  · rw [if_pos ha] at hb
    split at hb
    · cases hb
    · rename_i x hx
      have hl : a.toNat < gs.length := by omega
      rw [List.getElem?_eq_getElem hl, Option.some.injEq] at hx
      have hxm : x ∈ gs := hx ▸ List.getElem_mem hl
      have hx1 := h'.a1 x hxm
      simp only [agB, Bool.and_eq_true, decide_eq_true_eq] at hx1
      by_cases k3 : k = 3
      · rw [if_pos k3] at hb
        split at hb
        · cases hb
        · simp only [Option.some.injEq, Prod.mk.injEq] at hb
          obtain ⟨rfl, rfl⟩ := hb
          refine ⟨h'.set _ _ ?_ ?_ ?_, by simp⟩
          · simp only [agB, Bool.and_eq_true, decide_eq_true_eq]
            exact ⟨⟨hx1.1.1, by simp⟩, ht, Int.le_refl _⟩
          · intro h0; simp at h0
          · intro q hq
            have := (wtB_call (h'.q1 q hq)).1
            show (-1 : Int) ≠ q.1
            omega
      · rw [if_neg k3] at hb
        simp only [Option.some.injEq, Prod.mk.injEq] at hb
        obtain ⟨rfl, rfl⟩ := hb
        rw [if_neg (by omega)] at ho
        by_cases k4 : k = 4
        · rw [if_pos k4] at ho
          simp only [Bool.and_eq_true, decide_eq_true_eq] at ho
          refine ⟨h'.set _ _ ?_ ?_ ?_, by simp⟩
          · simp only [agB, Bool.and_eq_true, decide_eq_true_eq]
            exact ⟨⟨ho.1, hx1.1.2⟩, hx1.2⟩
          · intro h0 i hi hne
            show gs[i].2.1 ≠ x.2.1
            have h0' : 0 ≤ x.2.1 := h0
            rcases Nat.lt_or_gt_of_ne hne with hlt | hgt
            · have := h'.a2 i a.toNat hi hl hlt (by rw [hx]; exact h0')
              rw [hx] at this; exact this
            · intro e
              have := h'.a2 a.toNat i hl hi hgt (by rw [e]; exact h0')
              rw [hx] at this; exact this e.symm
          · intro q hq; exact h'.x x hxm q hq
        · rw [if_neg k4] at ho; cases ho
  · rw [if_neg ha] at hb; cases hb
/-- an op keeps a right desk right; as many are given as are told; who is given is busy -/
theorem doF_ok {n g : Int} {gs : List Ag} {qs : List Wt} (h : DkOk n g gs qs) (k t a s p : Int) :
    DkOk (doF n g gs qs k t a s p).1.1 (doF n g gs qs k t a s p).1.2.1 (doF n g gs qs k t a s p).1.2.2.1 (doF n g gs qs k t a s p).1.2.2.2 ∧ (doF n g gs qs k t a s p).1.2.1 = g + (doF n g gs qs k t a s p).2.1.length ∧ ∀ c ∈ (doF n g gs qs k t a s p).2.1, (∃ x ∈ (doF n g gs qs k t a s p).1.2.2.1, x.2.1 = c) ∧ 0 ≤ c ∧ c ≤ 1000000000 := by
  rw [doF]
  by_cases ho : opB n gs qs k t a s p = true
  · rw [if_pos ⟨h, ho⟩]
    have htk : tkB t = true := by
      simp only [opB, Bool.and_eq_true, decide_eq_true_eq] at ho; exact ho.1.1
    have ht : 0 ≤ t := by simp [tkB] at htk; omega
    split
    · exact ⟨h, by simp, by simp⟩
    · rename_i gs1 qs1 hb
      have hj := (jn_of h).op ho hb
      have hc : CaOk qs1 := fun q hq => (wtB_call (hj.1.q1 q hq)).1
      have hl := giveN_len t gs.length gs1 qs1 hc
      have hal := Jn.all ht gs.length gs1 qs1 hj.1 (by have := free_le gs1; omega)
      split
      · exact ⟨h, by simp, by simp⟩
      · rename_i hn
        have hg := h.2.2.2.1
        have hgl := h.1
        refine ⟨dk_of ⟨?_, ?_⟩ ?_ htk ⟨?_, ?_⟩ hal.1 (giveOne_go hal.2.1), rfl, hal.2.2.1⟩ <;> dsimp only <;> omega
  · rw [if_neg (fun e => ho e.2)]
    exact ⟨h, by simp, by simp⟩
end Go.Proofs.Ytpmmgbinogokfaa

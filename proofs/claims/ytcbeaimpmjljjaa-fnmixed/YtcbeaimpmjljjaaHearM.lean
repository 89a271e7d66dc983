/- Who hears whom in a right panel: the same lines by the legs' order and ascending; no condition. -/
import Derived.Test.YtcbeaimpmjljjaaHear
namespace Go.Proofs.Ytcbeaimpmjljjaa
set_option linter.unusedVariables false
set_option linter.unusedSimpArgs false
/-- one line, one leg -/
theorem uniq_lt {n : Int} {cs : Calls2} (h : POk n cs) {i k i' k' : Nat} (hi : i < cs.length) (hk : k < cs[i].2.length) (hi' : i' < cs.length) (hk' : k' < cs[i'].2.length) (hlt : i < i' ∨ (i = i' ∧ k < k')) : cs[i].2[k].1 ≠ cs[i'].2[k'].1 := by
  intro e
  obtain ⟨r, hr⟩ := seen_pre cs i' k' hi' hk'
  have hn := h.2.2.2.2
  rw [hr, List.append_assoc, List.nodup_append] at hn
  refine hn.2.2 cs[i].2[k].1 ?_ cs[i'].2[k'].1 (by simp) e
  rw [List.mem_append]
  rcases hlt with hlt | ⟨rfl, hlt⟩
  · left
    rw [linesTo, List.mem_flatMap]
    exact ⟨cs[i], by rw [List.mem_take_iff_getElem]; exact ⟨i, by omega, rfl⟩, List.mem_map.2 ⟨_, List.getElem_mem hk, rfl⟩⟩
  · right
    rw [List.mem_map]
    exact ⟨cs[i].2[k], by rw [List.mem_take_iff_getElem]; exact ⟨k, by omega, rfl⟩, rfl⟩
theorem uniq {n : Int} {cs : Calls2} (h : POk n cs) {i k i' k' : Nat} (hi : i < cs.length) (hk : k < cs[i].2.length) (hi' : i' < cs.length) (hk' : k' < cs[i'].2.length) (e : cs[i].2[k].1 = cs[i'].2[k'].1) : i = i' ∧ k = k' := by
  rcases Nat.lt_trichotomy i i' with hl | hl | hl
  · exact absurd e (uniq_lt h hi hk hi' hk' (.inl hl))
  · subst hl
    rcases Nat.lt_trichotomy k k' with hl | hl | hl
    · exact absurd e (uniq_lt h hi hk hi' hk' (.inr ⟨rfl, hl⟩))
    · exact ⟨rfl, hl⟩
    · exact absurd e.symm (uniq_lt h hi' hk' hi hk (.inr ⟨rfl, hl⟩))
  · exact absurd e.symm (uniq_lt h hi' hk' hi hk (.inl hl))
theorem leg_of {n : Int} {cs : Calls2} (h : POk n cs) {i k : Nat} (hi : i < cs.length) (hk : k < cs[i].2.length) : legAt cs[i].2 cs[i].2[k].1 = some k ∧ callAt cs cs[i].2[k].1 = some i := by
  have h1 : legAt cs[i].2 cs[i].2[k].1 = some k := legAt_take hk rfl fun t ht htk e => by have := (uniq h hi ht hi hk e).2; omega
  refine ⟨h1, callAt_take hi (by rw [plc, h1]; simp) fun t ht hti => ?_⟩
  rw [plc, legAt_all fun b hb e => by have := (uniq h ht hb hi hk e).1; omega]
  decide
/-- the line l hears x, told by the calls -/
theorem mem_hears {n : Int} {cs : Calls2} (h : POk n cs) {l x : Int} {i : Nat} (hc : callAt cs l = some i) (hi : i < cs.length) (hp : cs[i].1 = false) (hh : heldAt cs[i].2 l = false) :
    x ∈ hears cs l ↔ x ≠ l ∧ callAt cs x = some i ∧ heldAt cs[i].2 x = false := by
  have hg : cs.getD i (false, []) = cs[i] := by simp [List.getElem?_eq_getElem hi]
  simp only [hears, hc, hg, hp, hh, Bool.or_self, Bool.false_eq_true, if_false, others, List.mem_map, List.mem_filter, Bool.and_eq_true, Bool.not_eq_true', beq_eq_false_iff_ne]
  constructor
  · rintro ⟨y, ⟨hy, h1, h2⟩, rfl⟩
    obtain ⟨k, hk, rfl⟩ := List.getElem_of_mem hy
    obtain ⟨e1, e2⟩ := leg_of h hi hk
    refine ⟨h1, e2, ?_⟩
    rw [heldAt, e1]
    simpa [List.getElem?_eq_getElem hk] using h2
  · rintro ⟨h1, h2, h3⟩
    rw [callAt, List.findIdx?_eq_some_iff_getElem] at h2
    obtain ⟨_, h4, _⟩ := h2
    obtain ⟨k, hk⟩ := Option.isSome_iff_exists.1 h4
    obtain ⟨hkl, hke⟩ := legAt_some hk
    refine ⟨cs[i].2[k], ⟨List.getElem_mem hkl, by rw [hke]; exact h1, ?_⟩, hke⟩
    rw [heldAt, hk] at h3
    simpa [List.getElem?_eq_getElem hkl] using h3
theorem legs_nodup {n : Int} {cs : Calls2} (h : POk n cs) {i : Nat} (hi : i < cs.length) : (cs[i].2.map (·.1)).Nodup := by
  rw [List.Nodup, List.pairwise_iff_getElem]
  intro a b ha hb hab
  simp only [List.getElem_map]
  intro e
  have := (uniq h hi (by simpa using ha) hi (by simpa using hb) e).2
  omega
theorem hears_nodup {n : Int} {cs : Calls2} (h : POk n cs) (l : Int) : (hears cs l).Nodup := by
  unfold hears
  split
  · exact List.nodup_nil
  · rename_i i hc
    split
    · exact List.nodup_nil
    · have hi : i < cs.length := by
        rw [callAt, List.findIdx?_eq_some_iff_getElem] at hc
        exact hc.1
      have hg : cs.getD i (false, []) = cs[i] := by simp [List.getElem?_eq_getElem hi]
      rw [hg, others]
      exact List.Nodup.sublist (List.Sublist.map _ List.filter_sublist) (legs_nodup h hi)
theorem hears_range {n : Int} {cs : Calls2} (h : POk n cs) (l : Int) : ∀ x ∈ hears cs l, 0 ≤ x ∧ x < n := by
  intro x hx
  unfold hears at hx
  split at hx
  · simp at hx
  · rename_i i hc
    split at hx
    · simp at hx
    · have hi : i < cs.length := by
        rw [callAt, List.findIdx?_eq_some_iff_getElem] at hc
        exact hc.1
      have hg : cs.getD i (false, []) = cs[i] := by simp [List.getElem?_eq_getElem hi]
      rw [hg, others, List.mem_map] at hx
      obtain ⟨y, hy, rfl⟩ := hx
      refine h.2.2.2.1 y.1 ?_
      rw [linesTo_all, List.mem_flatMap]
      exact ⟨_, List.getElem_mem hi, List.mem_map.2 ⟨y, (List.mem_filter.1 hy).1, rfl⟩⟩
/-- those of the first n numbers that are in a list -/
def asc (n : Nat) (l : List Int) : List Int := ((List.range n).map fun i : Nat => (i : Int)).filter fun x => decide (x ∈ l)
theorem asc_succ (n : Nat) (l : List Int) : asc (n + 1) l = asc n l ++ (if (n : Int) ∈ l then [(n : Int)] else []) := by
  rw [asc, asc, List.range_succ, List.map_append, List.filter_append]
  congr 1
  simp [List.filter_cons]
theorem asc_nodup (n : Nat) (l : List Int) : (asc n l).Nodup := by
  rw [asc]
  refine List.Nodup.sublist List.filter_sublist ?_
  rw [List.Nodup, List.pairwise_map]
  refine List.Pairwise.imp ?_ List.nodup_range
  intro a b hab e
  exact hab (by omega)
theorem mem_asc {n : Nat} {l : List Int} (h : ∀ x ∈ l, 0 ≤ x ∧ x < n) (x : Int) : x ∈ asc n l ↔ x ∈ l := by
  rw [asc, List.mem_filter, List.mem_map]
  simp only [List.mem_range, decide_eq_true_eq]
  constructor
  · rintro ⟨_, h⟩; exact h
  · intro hx
    have := h x hx
    exact ⟨⟨x.toNat, by omega, by omega⟩, hx⟩
theorem perm_of_mem {a b : List Int} (ha : a.Nodup) (hb : b.Nodup) (h : ∀ x, x ∈ a ↔ x ∈ b) : a.Perm b := by
  rw [List.perm_iff_count]
  intro x
  by_cases hx : x ∈ a
  · rw [ha.count, hb.count]; simp [hx, (h x).1 hx]
  · rw [List.count_eq_zero.2 hx, List.count_eq_zero.2 (fun hb => hx ((h x).2 hb))]
theorem asc_perm {n : Nat} {l : List Int} (hn : l.Nodup) (h : ∀ x ∈ l, 0 ≤ x ∧ x < n) : (asc n l).Perm l := perm_of_mem (asc_nodup n l) hn (mem_asc h)
end Go.Proofs.Ytcbeaimpmjljjaa

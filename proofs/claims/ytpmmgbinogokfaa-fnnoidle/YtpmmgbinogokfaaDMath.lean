/- What right desks are, told twice; no condition. -/
import Derived.Test.YtpmmgbinogokfaaMdA
import Derived.Test.YtpmmgbinogokfaaApp
namespace Go.Proofs.Ytpmmgbinogokfaa
open Go.RowKit Go.ChangeShapes Go.WideShapes Go.ChangeAt
set_option linter.unusedVariables false
set_option linter.unusedSimpArgs false
set_option maxRecDepth 8000
def bzF (a : Ag) : Option Int := if 0 ≤ a.2.1 then some a.2.1 else none
/-- the calls that agents talk to -/
def bz (gs : List Ag) : List Int := gs.filterMap bzF
def cl (qs : List Wt) : List Int := qs.map (·.1)
theorem bz_snoc (gs : List Ag) (j : Nat) (h : j < gs.length) : bz (gs.take (j + 1)) = bz (gs.take j) ++ (if 0 ≤ gs[j].2.1 then [gs[j].2.1] else []) := by
  rw [List.take_succ_eq_append_getElem h, bz, List.filterMap_append, bz]
  congr 1
  simp only [List.filterMap_cons, List.filterMap_nil, bzF]
  split <;> rename_i h1 <;> split at h1 <;> simp_all
theorem cl_snoc (qs : List Wt) (j : Nat) (h : j < qs.length) : cl (qs.take (j + 1)) = cl (qs.take j) ++ [qs[j].1] := by
  rw [List.take_succ_eq_append_getElem h, cl, List.map_append]; rfl
theorem bz_len (gs : List Ag) : (bz gs).length ≤ gs.length := List.length_filterMap_le ..
theorem nodup_take (zs : List Int) : zs.Nodup ↔ ∀ i (h : i < zs.length), zs[i] ∉ zs.take i := by
  rw [List.Nodup, List.pairwise_iff_getElem]
  constructor
  · intro h i hi hm
    obtain ⟨j, hj, e⟩ := List.getElem_of_mem hm
    have hji : j < i := by simp at hj; omega
    rw [List.getElem_take] at e
    exact h j i (by omega) hi hji e
  · intro h i j hi hj hij e
    exact h j hj (by rw [← e]; exact List.mem_take_iff_getElem.2 ⟨i, by omega, rfl⟩)
theorem fi_none {α : Type} (ls : List α) (j : Nat) (hj : j ≤ ls.length) (f : α → Bool) : ((ls.take j).findIdx? f) = none ↔ ∀ i (h : i < ls.length), i < j → f ls[i] = false := by
  rw [List.findIdx?_eq_none_iff]
  constructor
  · intro h i hi hij
    exact h _ (List.mem_take_iff_getElem.2 ⟨i, by omega, rfl⟩)
  · intro h x hx
    obtain ⟨i, hi, rfl⟩ := List.getElem_of_mem hx
    rw [List.getElem_take]
    exact h i (by simp at hi; omega) (by simp at hi; omega)
theorem fa_none {α : Type} (ls : List α) (f : α → Bool) : (ls.findIdx? f) = none ↔ ∀ x ∈ ls, f x = false := List.findIdx?_eq_none_iff
theorem bz_nodup (gs : List Ag) : (bz gs).Nodup ↔ ∀ i j (hi : i < gs.length) (hj : j < gs.length), i < j → 0 ≤ gs[j].2.1 → gs[i].2.1 ≠ gs[j].2.1 := by
  rw [List.Nodup, bz, List.pairwise_filterMap, List.pairwise_iff_getElem]
  constructor
  · intro h i j hi hj hij h0 e
    exact h i j hi hj hij gs[i].2.1 (by simp [bzF]; omega) gs[j].2.1 (by simp [bzF]; omega) e
  · intro h i j hi hj hij x hx y hy e
    simp only [bzF] at hx hy
    split at hx
    · split at hy
      · cases hx; cases hy
        exact h i j hi hj hij (by assumption) e
      · cases hy
    · cases hx
theorem agB_bz {n : Int} {a : Ag} (h : agB n a = true) : -1 ≤ a.2.1 ∧ (a.2.1 ≠ -1 → 0 ≤ a.2.1) := by
  simp [agB, tkB] at h
  omega
theorem ags_iff (n : Int) (gs : List Ag) : AgsOk n gs ↔ (∀ a ∈ gs, agB n a = true) ∧ (bz gs).Nodup := by
  rw [bz_nodup]
  constructor
  · intro h
    refine ⟨fun a ha => ?_, fun i j hi hj hij h0 => ?_⟩
    · obtain ⟨i, hi, rfl⟩ := List.getElem_of_mem ha
      exact (h i hi hi).1
    · rcases (h j hj hj).2 with h1 | h1
      · omega
      · rw [fi_none gs j (by omega)] at h1
        have := h1 i hi hij
        simpa using this
  · rintro ⟨h1, h2⟩ i hi _
    refine ⟨h1 _ (List.getElem_mem hi), ?_⟩
    by_cases hb : gs[i].2.1 = -1
    · exact .inl hb
    · refine .inr ((fi_none gs i (by omega) _).2 fun k hk hki => ?_)
      have := h2 k i hk hi hki ((agB_bz (h1 _ (List.getElem_mem hi))).2 hb)
      simpa using this
theorem qs_iff (n : Int) (gs : List Ag) (qs : List Wt) : QsOk n gs qs ↔ (∀ q ∈ qs, wtB n q = true ∧ taker gs q.2.1 = none) ∧ (cl qs).Nodup ∧ ∀ a ∈ gs, ∀ q ∈ qs, a.2.1 ≠ q.1 := by
  constructor
  · intro h
    refine ⟨fun q hq => ?_, ?_, fun a ha q hq => ?_⟩
    · obtain ⟨i, hi, rfl⟩ := List.getElem_of_mem hq
      exact ⟨(h i hi hi).1, (h i hi hi).2.2.2⟩
    · rw [List.Nodup, cl, List.pairwise_map, List.pairwise_iff_getElem]
      intro i j hi hj hij
      have := (fi_none qs j (by omega) _).1 (h j hj hj).2.2.1 i hi hij
      simpa using this
    · obtain ⟨i, hi, rfl⟩ := List.getElem_of_mem hq
      have := (fa_none gs _).1 (h i hi hi).2.1 a ha
      simpa using this
  · rintro ⟨h1, h2, h3⟩ i hi _
    rw [List.Nodup, cl, List.pairwise_map, List.pairwise_iff_getElem] at h2
    refine ⟨(h1 _ (List.getElem_mem hi)).1, (fa_none gs _).2 fun a ha => ?_, (fi_none qs i (by omega) _).2 fun k hk hki => ?_, (h1 _ (List.getElem_mem hi)).2⟩
    · have := h3 a ha _ (List.getElem_mem hi); simpa using this
    · have := h2 k i hk hi hki; simpa using this
def DkM (n g : Int) (gs : List Ag) (qs : List Wt) : Prop := (1 ≤ gs.length ∧ gs.length ≤ 12) ∧ qs.length ≤ 40 ∧ tkB n = true ∧ (0 ≤ g ∧ g ≤ 1000000) ∧ (∀ a ∈ gs, agB n a = true) ∧ (∀ q ∈ qs, wtB n q = true ∧ taker gs q.2.1 = none) ∧ (bz gs ++ cl qs).Nodup
theorem dk_iff (n g : Int) (gs : List Ag) (qs : List Wt) : DkM n g gs qs ↔ DkOk n g gs qs := by
  rw [DkM, DkOk, ags_iff, qs_iff, List.nodup_append]
  constructor
  · rintro ⟨h1, h2, h3, h4, h5, h6, h7, h8, h9⟩
    refine ⟨h1, h2, h3, h4, ⟨h5, h7⟩, h6, h8, fun a ha q hq e => ?_⟩
    have hw := (h6 q hq).1
    have hq0 : 0 ≤ q.1 := by simp [wtB, tkB] at hw; omega
    exact h9 a.2.1 (List.mem_filterMap.2 ⟨a, ha, by simp [bzF]; omega⟩) q.1 (List.mem_map.2 ⟨q, hq, rfl⟩) e
  · rintro ⟨h1, h2, h3, h4, ⟨h5, h7⟩, h6, h8, h9⟩
    refine ⟨h1, h2, h3, h4, h5, h6, h7, h8, fun x hx y hy => ?_⟩
    obtain ⟨a, ha, e1⟩ := List.mem_filterMap.1 hx
    obtain ⟨q, hq, rfl⟩ := List.mem_map.1 hy
    simp only [bzF] at e1
    split at e1
    · cases e1; exact h9 a ha q hq
    · cases e1
end Go.Proofs.Ytpmmgbinogokfaa

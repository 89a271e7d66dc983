/- A right panel has at most forty calls of at most eight legs; no condition. -/
import Derived.Test.YtcbeaimpmjljjaaRunM
namespace Go.Proofs.Ytcbeaimpmjljjaa
open Go.RowKit Go.ChangeShapes Go.WideShapes Go.ChangeAt
set_option linter.unusedVariables false
set_option linter.unusedSimpArgs false
theorem nodup_len : ∀ (n : Nat) (l : List Int), l.Nodup → (∀ x ∈ l, 0 ≤ x ∧ x < (n : Int)) → l.length ≤ n
  | 0, l, _, h => by
    cases l with
    | nil => simp
    | cons x r => have := h x (by simp); omega
  | n + 1, l, hn, h => by
    have h1 : ∀ x ∈ l.filter (fun x => x != (n : Int)), 0 ≤ x ∧ x < (n : Int) := fun x hx => by
      rw [List.mem_filter] at hx
      have := h x hx.1
      have h2 : x ≠ (n : Int) := by simpa using hx.2
      omega
    have h3 := nodup_len n _ (hn.filter _) h1
    have h4 : l.length ≤ (l.filter (fun x => x != (n : Int))).length + 1 := by
      clear h h1 h3
      induction l with
      | nil => simp
      | cons x r ih =>
        rw [List.nodup_cons] at hn
        by_cases hx : x = (n : Int)
        · subst hx
          have : r.filter (fun x => x != (n : Int)) = r := by
            rw [List.filter_eq_self]
            intro y hy
            have : y ≠ (n : Int) := fun e => hn.1 (e ▸ hy)
            simpa using this
          simp [this]
        · have := ih hn.2
          simp [hx]; omega
    omega
theorem flat_len : ∀ cs : Calls2, (∀ c ∈ cs, 1 ≤ c.2.length) → cs.length ≤ (cs.flatMap fun c => c.2.map (·.1)).length
  | [], _ => by simp
  | c :: r, h => by
    have h1 := flat_len r (fun d hd => h d (by simp [hd]))
    have h2 := h c (by simp)
    simp only [List.flatMap_cons, List.length_append, List.length_map, List.length_cons]
    omega
theorem POk.len {n : Int} {cs : Calls2} (h : POk n cs) : cs.length ≤ 40 ∧ ∀ c ∈ cs, c.2.length ≤ 8 := by
  obtain ⟨h1, h2, h3, h4, h5⟩ := h
  have hc : ∀ c ∈ cs, CallOk c := fun c hc => by
    obtain ⟨t, ht, rfl⟩ := List.getElem_of_mem hc
    exact h3 t ht
  have e : linesTo cs cs.length = cs.flatMap fun c => c.2.map (·.1) := linesTo_all cs
  rw [e] at h4 h5
  have h6 := flat_len cs (fun c hm => (hc c hm).1)
  have h7 := nodup_len n.toNat _ h5 (fun x hx => by have := h4 x hx; omega)
  exact ⟨by omega, fun c hm => (hc c hm).2.1⟩
end Go.Proofs.Ytcbeaimpmjljjaa

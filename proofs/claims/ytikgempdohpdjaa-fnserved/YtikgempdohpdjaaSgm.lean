/- Who is served, and its changes, by numbers; no condition. -/
import Derived.Test.YtikgempdohpdjaaSva
import Derived.Test.YtikgempdohpdjaaChn
namespace Go.Proofs.Ytikgempdohpdjaa
open Go.RowKit Go.ChangeShapes Go.WideShapes Go.ChangeAt
set_option linter.unusedVariables false
set_option linter.unusedSimpArgs false
set_option maxRecDepth 8000

theorem tk_ow {rs : List (List Int)} {mg : Int} {c : Nat} : ∀ k, tkF rs mg c k = c ∨ owB rs (tkF rs mg c k) c mg = true
  | 0 => .inl rfl
  | k + 1 => by
    rw [tkF]
    split
    · rename_i h; exact .inr h.2
    · exact tk_ow k
/-- who serves then: the same, and all as it was; or another one, stronger then, and not too soon -/
theorem sv_step {ms : List (List Int)} {mg : Int} {dw : Nat} (hd : 1 ≤ dw) (t : Nat) :
    svN ms mg dw (t + 1) = svN ms mg dw t ∨ ((svN ms mg dw (t + 1)).1 ≠ (svN ms mg dw t).1 ∧ (svN ms mg dw (t + 1)).2 = t + 1 ∧ (svN ms mg dw t).2 + dw ≤ t + 1 ∧
      max mg 1 ≤ (ms.getD (t + 1) []).getD (svN ms mg dw (t + 1)).1 0 - (ms.getD (t + 1) []).getD (svN ms mg dw t).1 0) := by
  have e : svN ms mg dw (t + 1) = if (svN ms mg dw t).2 + dw ≤ t + 1 ∧ tkF (wn ms (t + 1 + 1 - dw) dw) mg (svN ms mg dw t).1 (ms.getD 0 []).length ≠ (svN ms mg dw t).1 then (tkF (wn ms (t + 1 + 1 - dw) dw) mg (svN ms mg dw t).1 (ms.getD 0 []).length, t + 1) else svN ms mg dw t := rfl
  by_cases h : (svN ms mg dw t).2 + dw ≤ t + 1 ∧ tkF (wn ms (t + 1 + 1 - dw) dw) mg (svN ms mg dw t).1 (ms.getD 0 []).length ≠ (svN ms mg dw t).1
  · rw [if_pos h] at e
    rw [e]
    refine .inr ⟨h.2, rfl, h.1, ?_⟩
    rcases tk_ow (rs := wn ms (t + 1 + 1 - dw) dw) (mg := mg) (c := (svN ms mg dw t).1) (ms.getD 0 []).length with h1 | h1
    · exact absurd h1 h.2
    · have h2 := owB_at h1 (dw - 1) (by rw [wn_len]; omega)
      rw [wn_at _ _ _ _ (by omega)] at h2
      have e3 : t + 1 + 1 - dw + (dw - 1) = t + 1 := by omega
      rw [e3] at h2
      exact h2
  · rw [if_neg h] at e
    exact .inl e
theorem svL_ne {ms : List (List Int)} {mg : Int} {dw t : Nat} (ht : t + 1 < ms.length) : (svL ms mg dw).getD (t + 1) 0 = (svL ms mg dw).getD t 0 ↔ (svN ms mg dw (t + 1)).1 = (svN ms mg dw t).1 := by
  rw [svL_at _ _ _ _ ht, svL_at _ _ _ _ (by omega)]
  omega
structure ChI (ms : List (List Int)) (mg : Int) (dw j : Nat) : Prop where
  la : chT (svL ms mg dw) j ≠ [] → laT (chT (svL ms mg dw) j) = ((svN ms mg dw (j - 1)).2 : Int)
  no : (chT (svL ms mg dw) j).length < 2 → fwT (chT (svL ms mg dw) j) (chT (svL ms mg dw) j).length = 0
  two : 2 ≤ (chT (svL ms mg dw) j).length → (dw : Int) ≤ fwT (chT (svL ms mg dw) j) (chT (svL ms mg dw) j).length
theorem ch_inv {ms : List (List Int)} {mg : Int} {dw : Nat} (hd : 1 ≤ dw) : ∀ j, 1 ≤ j → j ≤ ms.length → ChI ms mg dw j
  | 0, h, _ => by omega
  | 1, _, _ => ⟨fun h => absurd rfl h, fun _ => rfl, fun h => by simp [chT] at h⟩
  | j + 2, _, hj => by
    have ih := ch_inv (ms := ms) (mg := mg) hd (j + 1) (by omega) (by omega)
    have hs := chT_step (zs := svL ms mg dw) (j := j + 1) (by omega)
    have e1 : j + 1 - 1 = j := by omega
    have e2 : j + 2 - 1 = j + 1 := by omega
    rw [e1] at hs
    by_cases hq : (svL ms mg dw).getD (j + 1) 0 = (svL ms mg dw).getD j 0
    · rw [if_pos hq] at hs
      have hsv : svN ms mg dw (j + 1) = svN ms mg dw j := by
        rcases sv_step hd (ms := ms) (mg := mg) j with h | h
        · exact h
        · exact absurd ((svL_ne (ms := ms) (mg := mg) (dw := dw) (t := j) (by omega)).1 hq) h.1
      have ih' := ih.la
      rw [e1] at ih'
      refine ⟨?_, ?_, ?_⟩
      · rw [hs, e2, hsv]; exact ih'
      · rw [hs]; exact ih.no
      · rw [hs]; exact ih.two
    · rw [if_neg hq] at hs
      rcases sv_step hd (ms := ms) (mg := mg) j with h | h
      · exact absurd ((svL_ne (ms := ms) (mg := mg) (dw := dw) (t := j) (by omega)).2 (by rw [h])) hq
      obtain ⟨-, h2, h3, -⟩ := h
      have hla := ih.la
      rw [e1] at hla
      generalize hT : chT (svL ms mg dw) (j + 1) = T at *
      have hb : ∀ y ∈ T, y < ((j + 1 : Nat) : Int) := fun y hy => by rw [← hT] at hy; exact (chT_bd (svL ms mg dw) (j + 1) y hy).2
      have ha : Asc T := by rw [← hT]; exact chT_asc (svL ms mg dw) (j + 1)
      have hm := fw_more (x := ((j + 1 : Nat) : Int)) ha hb
      have hlen : (T ++ [((j + 1 : Nat) : Int)]).length = T.length + 1 := by simp
      have hno := ih.no
      have htwo := ih.two
      rw [hT] at hno htwo
      refine ⟨fun _ => ?_, fun hl => ?_, fun hl => ?_⟩
      · rw [hs, e2, laT_app, h2]
      · rw [hs] at hl ⊢
        rw [hlen] at hl ⊢
        rw [hm, if_neg (by omega)]
        exact hno (by omega)
      · rw [hs] at hl ⊢
        rw [hlen] at hl ⊢
        have hne : T ≠ [] := by intro e; rw [e] at hl; simp at hl
        have hl2 := hla hne
        rw [hm]
        split
        · rw [hl2]; omega
        · rename_i hc
          have h5 : ¬ T.length < 2 := by
            intro h6
            exact hc ⟨by omega, .inl (hno h6)⟩
          exact htwo (by omega)

end Go.Proofs.Ytikgempdohpdjaa

/- What Fair tells; queuesOk; no condition. -/
import Derived.Test.YtiadakponjpkmaaNst
namespace Go.Proofs.Ytiadakponjpkmaa
open Go.RowKit Go.ChangeShapes Go.WideShapes Go.ChangeAt
set_option linter.unusedVariables false
set_option linter.unusedSimpArgs false
set_option maxRecDepth 8000

/-- the steps at which something is served: round t / N, queue t % N; ln: how long each queue is -/
def gS (N T : Nat) (ln : Nat → Nat) : Nat → List Nat
  | 0 => []
  | t + 1 => if t / N < ln (t % N) ∧ (gS N T ln t).length < T then gS N T ln t ++ [t] else gS N T ln t
def lnA (ls : List (List Int)) (q : Nat) : Nat := (ls.getD q []).length
def frV (ls : List (List Int)) (s : Nat) : Int := (ls.getD (s % ls.length) []).getD (s / ls.length) 0
def frO (ls : List (List Int)) (T t : Nat) : List Int := (gS ls.length T (lnA ls) t).map (frV ls)
theorem gS_yes {N T : Nat} {ln : Nat → Nat} {t : Nat} (h : t / N < ln (t % N)) (h' : (gS N T ln t).length < T) : gS N T ln (t + 1) = gS N T ln t ++ [t] := by rw [gS, if_pos ⟨h, h'⟩]
theorem gS_no {N T : Nat} {ln : Nat → Nat} {t : Nat} (h : ¬ (t / N < ln (t % N) ∧ (gS N T ln t).length < T)) : gS N T ln (t + 1) = gS N T ln t := by rw [gS, if_neg h]
theorem gS_len {N T : Nat} {ln : Nat → Nat} : ∀ t, (gS N T ln t).length ≤ T
  | 0 => by simp [gS]
  | t + 1 => by rw [gS]; have := gS_len (N := N) (T := T) (ln := ln) t; split <;> simp <;> omega
theorem frO_len (ls : List (List Int)) (T t : Nat) : (frO ls T t).length = (gS ls.length T (lnA ls) t).length := by simp [frO]
theorem frO_yes {ls : List (List Int)} {T p q : Nat} (hq : q < ls.length) (h : p < (ls.getD q []).length) (h' : (frO ls T (ls.length * p + q)).length < T) : frO ls T (ls.length * p + (q + 1)) = frO ls T (ls.length * p + q) ++ [(ls.getD q []).getD p 0] := by
  have e1 : (ls.length * p + q) / ls.length = p := by rw [Nat.mul_add_div (by omega), Nat.div_eq_of_lt hq]; rfl
  have e2 : (ls.length * p + q) % ls.length = q := by rw [Nat.mul_add_mod, Nat.mod_eq_of_lt hq]
  rw [frO_len] at h'
  rw [frO, ← Nat.add_assoc, gS_yes (by rw [e1, e2]; exact h) h', List.map_append]
  simp [frO, frV, e1, e2]
theorem frO_no {ls : List (List Int)} {T p q : Nat} (hq : q < ls.length) (h : ¬ (p < (ls.getD q []).length ∧ (frO ls T (ls.length * p + q)).length < T)) : frO ls T (ls.length * p + (q + 1)) = frO ls T (ls.length * p + q) := by
  have e1 : (ls.length * p + q) / ls.length = p := by rw [Nat.mul_add_div (by omega), Nat.div_eq_of_lt hq]; rfl
  have e2 : (ls.length * p + q) % ls.length = q := by rw [Nat.mul_add_mod, Nat.mod_eq_of_lt hq]
  rw [frO_len] at h
  rw [frO, ← Nat.add_assoc, gS_no (by rw [e1, e2]; exact h), ← frO]
def qkB (ls : List (List Int)) : Bool := decide (1 ≤ (ls.length : Int) ∧ (ls.length : Int) ≤ 8) && ls.all fun r => decide (r.length ≤ 60)
theorem qkB_no {ls : List (List Int)} (k : Nat) (hk : k < ls.length) (h : ¬ (ls.getD k []).length ≤ 60) : qkB ls = false := by
  unfold qkB
  have : (ls.all fun r => decide (r.length ≤ 60)) = false := by
    rw [List.all_eq_false]
    refine ⟨ls.getD k [], ?_, by simpa using h⟩
    rw [List.getD_eq_getElem?_getD, List.getElem?_eq_getElem hk]; exact List.getElem_mem hk
  rw [this]; simp
theorem qkB_yes {ls : List (List Int)} (h : ∀ k, k < ls.length → (ls.getD k []).length ≤ 60) : qkB ls = decide (1 ≤ (ls.length : Int) ∧ (ls.length : Int) ≤ 8) := by
  unfold qkB
  have : (ls.all fun r => decide (r.length ≤ 60)) = true := by
    rw [List.all_eq_true]
    intro r hr
    obtain ⟨k, hk, rfl⟩ := List.getElem_of_mem hr
    have := h k hk
    rw [List.getD_eq_getElem?_getD, List.getElem?_eq_getElem hk] at this
    simpa using this
  rw [this]; simp
theorem qkB_len {ls : List (List Int)} (h : qkB ls = true) : 1 ≤ ls.length ∧ ls.length ≤ 8 := by unfold qkB at h; rw [Bool.and_eq_true, decide_eq_true_eq] at h; omega
theorem qkB_at {ls : List (List Int)} (h : qkB ls = true) (k : Nat) (hk : k < ls.length) : (ls.getD k []).length ≤ 60 := by
  rcases Nat.lt_or_ge 60 (ls.getD k []).length with h1 | h1
  · rw [qkB_no k hk (by omega)] at h; cases h
  · exact h1
def faB (ls : List (List Int)) (t : Int) : Bool := qkB ls && decide (0 ≤ t ∧ t ≤ 500)
def faR (ls : List (List Int)) (t : Int) : List Int := if faB ls t = true then frO ls t.toNat (ls.length * 60) else []
theorem faR_no {ls : List (List Int)} {t : Int} (h : faB ls t = false) : faR ls t = [] := by unfold faR; rw [h]; rfl
theorem faR_yes {ls : List (List Int)} {t : Int} (h : faB ls t = true) : faR ls t = frO ls t.toNat (ls.length * 60) := by unfold faR; rw [if_pos h]
def FaR (ls : List (List Int)) (t : Int) (w : World) (e : Ending) (w' : World) : Prop := ∃ v, e = .returned (.tuple #[v, .bool (faB ls t)]) ∧ Ow .i64 3 w.heap.size w' v (faR ls t) ∧ Below w.heap.size w w'
set_option maxHeartbeats 3200000 in
theorem queues_c (v : Value) (ls : List (List Int)) (w : World) (h : Rn w v ls) : Calls Try.prog 67 #[v] w fun e w' => e = .returned (.bool (qkB ls)) ∧ w' = w := by
  obtain ⟨a, cap, rfl, h1, h2, -⟩ := id h
  unfold maxLen at h2
  have HC : Hid (∀ W j, j < ls.length → Below w.heap.size w W → ∃ (bo : Nat × Nat) (u : Value), a = some ⟨bo.1, bo.2, none⟩ ∧ bo.1 < w.heap.size ∧ W.cell? ⟨bo.1, bo.2 + j, none⟩ = some u ∧ Rd .i64 w u (ls.getD j [])) := rnc h
  have HNO : Hid (∀ k, k < ls.length → ¬ (ls.getD k []).length ≤ 60 → qkB ls = false) := fun k hk hn => qkB_no k hk hn
  have HYE : Hid ((∀ k, k < ls.length → (ls.getD k []).length ≤ 60) → qkB ls = decide (1 ≤ (ls.length : Int) ∧ (ls.length : Int) ≤ 8)) := qkB_yes
  have HN0 : Hid (¬ (1 ≤ (ls.length : Int) ∧ (ls.length : Int) ≤ 8) → qkB ls = false) := fun h => by unfold qkB; rw [decide_eq_false h]; rfl
  obtain ⟨L, hL⟩ : ∃ L, ls.length = L := ⟨_, rfl⟩
  rw [hL] at h1 HC HNO HYE HN0 ⊢
  obtain ⟨B, hB⟩ : ∃ B, qkB ls = B := ⟨_, rfl⟩
  rw [hB] at HNO HYE HN0 ⊢
  clear hL h hB
  go_enter Try.func67, Try.ntmps67
  go_wp2_with (fail)
  refine (within_c (L : Int) 1 8 _).mono ?_
  rintro e w1 ⟨rfl, hw⟩
  rw [hw]
  clear hw w1
  by_cases hl : 1 ≤ (L : Int) ∧ (L : Int) ≤ 8
  case neg =>
    have HF : Hid (B = false) := HN0.out hl
    rw [decide_eq_false hl]
    clear hl
    go_wp2
    go_ret
    exact ⟨by rw [HF.out]; rfl, rfl⟩
  rw [decide_eq_true hl]
  have HYE2 : Hid ((∀ k, k < L → (ls.getD k []).length ≤ 60) → B = true) := fun h => by rw [HYE.out h, decide_eq_true hl]
  clear hl HN0 HYE
  go_wp2
  go_loop [11] (fun i => ∃ j : Nat, j ≤ L ∧ i = .int .i64 j ∧ Hid (∀ k, k < j → (ls.getD k []).length ≤ 60)) (fun i => L - (intOf i).toNat)
  case atStart => exact ⟨0, Nat.zero_le _, rfl, fun k hk => by omega⟩
  case round =>
    obtain ⟨j, hj, rfl, hA⟩ := hrel
    by_cases hlt : j < L
    case neg =>
      obtain rfl : j = L := by omega
      have HT : Hid (B = true) := HYE2.out hA.out
      clear hlt hj
      go_wp2
      go_ret
      exact ⟨by rw [HT.out]; rfl, rfl⟩
    case pos =>
    obtain ⟨⟨b, off⟩, u, rfl, hbl, hc0, hr0⟩ := HC.out w j hlt (Below.refl _ _)
    dsimp only at hc0 hbl
    obtain ⟨x0, k0, rfl, hr1, hr2, -⟩ := hr0
    have HN := HNO.out j hlt
    have HS : Hid ((ls.getD j []).length ≤ 60 → ∀ k, k < j + 1 → (ls.getD k []).length ≤ 60) := fun hq k hk => by
      rcases Nat.lt_or_ge k j with h | h
      · exact hA.out k h
      · obtain rfl : k = j := by omega
        exact hq
    obtain ⟨x, hx⟩ : ∃ x, (ls.getD j []).length = x := ⟨_, rfl⟩
    rw [hx] at hc0 HN HS hr1
    have HN : Hid (¬ x ≤ 60 → B = false) := HN
    have hi0 : (0 : Int) ≤ (j : Int) := by omega
    have hi1 : (j : Int) < (L : Int) := by omega
    clear hx hr1 hr2
    by_cases hq : x ≤ 60
    case pos =>
      have HS2 : Hid (∀ k, k < j + 1 → (ls.getD k []).length ≤ 60) := HS.out hq
      have hq' : ¬ ((60 : Int) < (x : Int)) := by omega
      clear hq HS
      go_wp2
      go_round
      case rel => exact ⟨j + 1, by omega, by go_num, HS2.out⟩
      case measure => simp [intOf]; omega
    case neg =>
    have HF : Hid (B = false) := HN.out hq
    have hq' : ((60 : Int) < (x : Int)) := by omega
    clear hq HS
    go_wp2
    go_ret
    exact ⟨by rw [HF.out]; rfl, rfl⟩

end Go.Proofs.Ytiadakponjpkmaa

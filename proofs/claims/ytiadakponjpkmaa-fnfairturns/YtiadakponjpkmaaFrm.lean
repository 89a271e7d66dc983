/- The steps of Fair, as the model goes them; no condition. -/
import Derived.Test.YtiadakponjpkmaaFra
namespace Go.Proofs.Ytiadakponjpkmaa
open Go.RowKit Go.ChangeShapes Go.WideShapes Go.ChangeAt
set_option linter.unusedVariables false
set_option linter.unusedSimpArgs false
set_option maxRecDepth 8000

def cnt (N : Nat) : Nat → Nat → Nat
  | 0, _ => 0
  | t + 1, q => if q = t % N then cnt N t q + 1 else cnt N t q
theorem step_mod {N t : Nat} (hN : 0 < N) : (t % N + 1 = N ∧ (t + 1) / N = t / N + 1 ∧ (t + 1) % N = 0) ∨ (t % N + 1 < N ∧ (t + 1) / N = t / N ∧ (t + 1) % N = t % N + 1) := by
  have hr : t % N < N := Nat.mod_lt _ hN
  have ht : N * (t / N) + t % N = t := Nat.div_add_mod t N
  obtain ⟨p, hp⟩ : ∃ p, t / N = p := ⟨_, rfl⟩
  obtain ⟨r, hr'⟩ : ∃ r, t % N = r := ⟨_, rfl⟩
  rw [hp, hr'] at ht
  rw [hr'] at hr
  rw [hp, hr', ← ht]
  rcases Nat.lt_or_ge (r + 1) N with h | h
  · right
    refine ⟨h, ?_, ?_⟩
    · rw [Nat.add_assoc, Nat.mul_add_div hN, Nat.div_eq_of_lt h]; rfl
    · rw [Nat.add_assoc, Nat.mul_add_mod, Nat.mod_eq_of_lt h]
  · left
    have e : r + 1 = N := by omega
    refine ⟨e, ?_, ?_⟩
    · rw [Nat.add_assoc, e, Nat.mul_add_div hN, Nat.div_self hN]
    · rw [Nat.add_assoc, e, Nat.mul_add_mod, Nat.mod_self]
theorem cnt_eq {N : Nat} (hN : 0 < N) : ∀ t q, q < N → cnt N t q = t / N + (if q < t % N then 1 else 0)
  | 0, q, _ => by simp [cnt]
  | t + 1, q, hq => by
    have ih := cnt_eq hN t q hq
    rw [cnt, ih]
    rcases step_mod (t := t) hN with ⟨h1, h2, h3⟩ | ⟨h1, h2, h3⟩ <;> rw [h2, h3]
    · rcases Nat.lt_trichotomy q (t % N) with h | h | h
      · rw [if_neg (by omega), if_pos h, if_neg (by omega)]
      · rw [if_pos h, if_neg (by omega), if_neg (by omega)]
      · omega
    · rcases Nat.lt_trichotomy q (t % N) with h | h | h
      · rw [if_neg (by omega), if_pos h, if_pos (by omega)]
      · rw [if_pos h, if_neg (by omega), if_pos (by omega)]
      · rw [if_neg (by omega), if_neg (by omega), if_neg (by omega)]
theorem cnt_at {N t : Nat} (hN : 0 < N) : cnt N t (t % N) = t / N := by rw [cnt_eq hN t _ (Nat.mod_lt _ hN), if_neg (by omega)]; rfl
theorem cnt_ge {N t q : Nat} (hN : 0 < N) (hq : q < N) : t / N ≤ cnt N t q := by rw [cnt_eq hN t q hq]; omega
theorem cnt_mono {N q : Nat} : ∀ t k, cnt N t q ≤ cnt N (t + k) q
  | t, 0 => Nat.le_refl _
  | t, k + 1 => by
    refine Nat.le_trans (cnt_mono t k) ?_
    rw [← Nat.add_assoc, cnt]
    split <;> omega
def sumN (f : Nat → Nat) : Nat → Nat
  | 0 => 0
  | n + 1 => sumN f n + f n
theorem sumN_congr {f g : Nat → Nat} : ∀ n, (∀ q, q < n → f q = g q) → sumN f n = sumN g n
  | 0, _ => rfl
  | n + 1, h => by rw [sumN, sumN, sumN_congr n (fun q hq => h q (by omega)), h n (by omega)]
theorem sumN_upd {f g : Nat → Nat} {k : Nat} : ∀ n, k < n → (∀ q, q < n → q ≠ k → f q = g q) → f k = g k + 1 → sumN f n = sumN g n + 1
  | 0, h, _, _ => by omega
  | n + 1, h, hc, hk => by
    rw [sumN, sumN]
    rcases Nat.lt_or_ge k n with h1 | h1
    · rw [sumN_upd n h1 (fun q hq hne => hc q (by omega) hne) hk, hc n (by omega) (by omega)]; omega
    · obtain rfl : k = n := by omega
      rw [sumN_congr k (fun q hq => hc q (by omega) (by omega)), hk]; omega
theorem sumN_zero {f : Nat → Nat} : ∀ n, sumN f n = 0 → ∀ q, q < n → f q = 0
  | 0, _, q, hq => by omega
  | n + 1, h, q, hq => by
    rw [sumN] at h
    rcases Nat.lt_or_ge q n with h1 | h1
    · exact sumN_zero n (by omega) q h1
    · obtain rfl : q = n := by omega
      omega
theorem sumN_pos {f : Nat → Nat} : ∀ n, 0 < sumN f n → ∃ q, q < n ∧ 0 < f q
  | 0, h => by simp [sumN] at h
  | n + 1, h => by
    rw [sumN] at h
    rcases Nat.eq_zero_or_pos (f n) with h1 | h1
    · have h2 : 0 < sumN f n := by omega
      obtain ⟨q, hq, hf⟩ := sumN_pos n h2
      exact ⟨q, Nat.lt_succ_of_lt hq, hf⟩
    · exact ⟨n, Nat.lt_succ_self n, h1⟩
theorem smL_sum (ls : List (List Int)) : ∀ n, smL ls n = sumN (lnA ls) n
  | 0 => rfl
  | n + 1 => by rw [smL, sumN, smL_sum ls n]; rfl
theorem smL_bd {ls : List (List Int)} (h : ∀ k, k < ls.length → (ls.getD k []).length ≤ 60) : ∀ n, n ≤ ls.length → smL ls n ≤ 60 * n
  | 0, _ => by simp [smL]
  | n + 1, hn => by have := smL_bd h n (by omega); have := h n (by omega); rw [smL]; omega
/-- what is left behind t steps; how far each queue is -/
def rmN (ls : List (List Int)) (t : Nat) : Nat := sumN (fun q => lnA ls q - cnt ls.length t q) ls.length
def atF (ls : List (List Int)) (t q : Nat) : Nat := min (cnt ls.length t q) (lnA ls q)
def atL (ls : List (List Int)) (t : Nat) : List Int := (List.range ls.length).map fun q => (atF ls t q : Int)
theorem atL_len (ls : List (List Int)) (t : Nat) : (atL ls t).length = ls.length := by simp [atL]
theorem atL_at {ls : List (List Int)} {t q : Nat} (h : q < ls.length) : (atL ls t).getD q 0 = (atF ls t q : Int) := by simp [atL, List.getElem?_map, List.getElem?_range h]
theorem atL_zero (ls : List (List Int)) : atL ls 0 = List.replicate ls.length 0 := by
  apply List.ext_getElem
  · simp [atL]
  · intro i h1 h2; simp [atL, atF, cnt]
theorem rmN_zero (ls : List (List Int)) : rmN ls 0 = smL ls ls.length := by rw [rmN, smL_sum]; exact sumN_congr _ fun q hq => by simp [cnt]
theorem at_yes {ls : List (List Int)} {t : Nat} (hN : 0 < ls.length) (h : t / ls.length < lnA ls (t % ls.length)) : atL ls (t + 1) = (atL ls t).set (t % ls.length) ((t / ls.length : Nat) + 1 : Int) ∧ (atL ls t).getD (t % ls.length) 0 = (t / ls.length : Nat) ∧ rmN ls t = rmN ls (t + 1) + 1 := by
  have hr : t % ls.length < ls.length := Nat.mod_lt _ hN
  have hc := cnt_at (t := t) hN
  refine ⟨?_, ?_, ?_⟩
  · apply List.ext_getElem
    · simp [atL]
    · intro i h1 h2
      rw [List.getElem_set]
      simp only [atL, List.getElem_map, List.getElem_range]
      by_cases hi : t % ls.length = i
      · rw [if_pos hi, ← hi, atF, cnt, if_pos rfl, hc]; omega
      · rw [if_neg hi, atF, cnt, if_neg (by omega)]; rfl
  · rw [atL_at hr, atF, hc]; omega
  · refine sumN_upd (k := t % ls.length) _ hr (fun q hq hne => by rw [cnt, if_neg hne]) ?_
    rw [cnt, if_pos rfl, hc]; omega
theorem at_no {ls : List (List Int)} {t : Nat} (hN : 0 < ls.length) (h : ¬ t / ls.length < lnA ls (t % ls.length)) : atL ls (t + 1) = atL ls t ∧ (atL ls t).getD (t % ls.length) 0 = (lnA ls (t % ls.length) : Int) ∧ rmN ls t = rmN ls (t + 1) := by
  have hr : t % ls.length < ls.length := Nat.mod_lt _ hN
  have hc := cnt_at (t := t) hN
  refine ⟨?_, ?_, ?_⟩
  · apply List.ext_getElem
    · simp [atL]
    · intro i h1 h2
      simp only [atL, List.getElem_map, List.getElem_range]
      by_cases hi : t % ls.length = i
      · rw [← hi, atF, atF, cnt, if_pos rfl, hc]; omega
      · rw [atF, atF, cnt, if_neg (by omega)]
  · rw [atL_at hr, atF, hc]; omega
  · refine sumN_congr _ fun q hq => ?_
    rw [cnt]
    by_cases hi : q = t % ls.length
    · rw [if_pos hi, hi, hc]; omega
    · rw [if_neg hi]
theorem rm_lt {ls : List (List Int)} {t : Nat} (hN : 0 < ls.length) (hl : ∀ k, k < ls.length → (ls.getD k []).length ≤ 60) (h : 0 < rmN ls t) : t < ls.length * 60 := by
  obtain ⟨q, hq, hp⟩ := sumN_pos _ h
  have h1 := hl q hq
  have h2 := cnt_ge (t := t) hN hq
  have h3 : t / ls.length < 60 := by unfold lnA at hp; omega
  rw [Nat.div_lt_iff_lt_mul hN] at h3
  rw [Nat.mul_comm]; exact h3
theorem gS_stay {N T : Nat} {ln : Nat → Nat} {t : Nat} (h : T ≤ (gS N T ln t).length) : ∀ k, gS N T ln (t + k) = gS N T ln t
  | 0 => rfl
  | k + 1 => by rw [← Nat.add_assoc, gS_no (by rw [gS_stay h k]; omega), gS_stay h k]
theorem gS_done {ls : List (List Int)} {T t : Nat} (hN : 0 < ls.length) (h : rmN ls t = 0) : ∀ k, gS ls.length T (lnA ls) (t + k) = gS ls.length T (lnA ls) t
  | 0 => rfl
  | k + 1 => by
    rw [← Nat.add_assoc, gS_no ?_, gS_done hN h k]
    have hr : (t + k) % ls.length < ls.length := Nat.mod_lt _ hN
    have h1 := sumN_zero _ h _ hr
    have h2 := cnt_mono (N := ls.length) (q := (t + k) % ls.length) t k
    rw [cnt_at hN] at h2
    intro h3
    omega
theorem fr_stay {ls : List (List Int)} {T t : Nat} (h : T ≤ (frO ls T t).length) {u : Nat} (hu : t ≤ u) : frO ls T u = frO ls T t := by
  rw [frO_len] at h
  obtain ⟨k, rfl⟩ : ∃ k, u = t + k := ⟨u - t, by omega⟩
  rw [frO, gS_stay h k, ← frO]
theorem fr_done {ls : List (List Int)} {T t : Nat} (hN : 0 < ls.length) (h : rmN ls t = 0) {u : Nat} (hu : t ≤ u) : frO ls T u = frO ls T t := by
  obtain ⟨k, rfl⟩ : ∃ k, u = t + k := ⟨u - t, by omega⟩
  rw [frO, gS_done hN h k, ← frO]
/-- a step of the model's -/
theorem fm_step {ls : List (List Int)} {T t : Nat} (hN : 0 < ls.length) (hT : (frO ls T t).length < T) : ∃ r p : Nat, t % ls.length = r ∧ r < ls.length ∧ ((r + 1) % ls.length = (t + 1) % ls.length) ∧
    ((p < (ls.getD r []).length ∧ (atL ls t).getD r 0 = (p : Int) ∧ atL ls (t + 1) = (atL ls t).set r ((p : Int) + 1) ∧ rmN ls t = rmN ls (t + 1) + 1 ∧ frO ls T (t + 1) = frO ls T t ++ [(ls.getD r []).getD p 0]) ∨
     ((atL ls t).getD r 0 = ((ls.getD r []).length : Int) ∧ atL ls (t + 1) = atL ls t ∧ rmN ls t = rmN ls (t + 1) ∧ frO ls T (t + 1) = frO ls T t)) := by
  have hr : t % ls.length < ls.length := Nat.mod_lt _ hN
  refine ⟨t % ls.length, t / ls.length, rfl, hr, by rw [Nat.add_mod t 1, Nat.add_mod (t % ls.length) 1, Nat.mod_mod], ?_⟩
  rw [frO_len] at hT
  by_cases h : t / ls.length < lnA ls (t % ls.length)
  · left
    obtain ⟨h1, h2, h3⟩ := at_yes hN h
    refine ⟨h, h2, h1, h3, ?_⟩
    rw [frO, gS_yes h hT, List.map_append]; rfl
  · right
    obtain ⟨h1, h2, h3⟩ := at_no hN h
    refine ⟨h2, h1, h3, ?_⟩
    rw [frO, gS_no (fun h' => h h'.1), ← frO]

end Go.Proofs.Ytiadakponjpkmaa

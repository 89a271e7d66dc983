/- Products of waves; no condition. -/
import Derived.Test.YtgdejlofkjdkoaaDoorFna
namespace Go.Proofs.YtgdejlofkjdkoaaDoor
open Go.RowKit Go.ChangeShapes Go.WideShapes Go.ChangeAt
set_option linter.unusedVariables false
set_option linter.unusedSimpArgs false
set_option maxRecDepth 8000

theorem chkB_at (l : List Int) : ∀ (n : Nat) (xs : List Int) (k : Nat), chkB l n xs = true → k < n → ∃ x, xs[k]? = some x ∧ chkA x l ((l ++ l).drop (256 - (n - k))) ((l ++ l).drop (n - k)) = true
  | n + 1, xs, 0, h, _ => by
    simp only [chkB, Bool.and_eq_true] at h
    match xs, h with
    | x :: _, h => exact ⟨x, rfl, h.1⟩
  | n + 1, xs, k + 1, h, hk => by
    simp only [chkB, Bool.and_eq_true] at h
    obtain ⟨x, hx, hc⟩ := chkB_at l n xs.tail k h.2 (by omega)
    refine ⟨x, ?_, ?_⟩
    · match xs, hx with
      | _ :: _, hx => simpa using hx
      | [], hx => simp at hx
    · have e : n + 1 - (k + 1) = n - k := by omega
      rw [e]; exact hc
theorem dbl_at (a b : Nat) (ha : a ≤ 256) (hb : b < 256) : ((tw ++ tw).drop a).getD b 0 = waveN ((a + b) % 256) := by
  rw [List.getD_eq_getElem?_getD, List.getElem?_drop]
  by_cases h : a + b < 256
  · rw [List.getElem?_append_left (by rw [tw_len]; exact h), ← List.getD_eq_getElem?_getD, tw_at _ h, Nat.mod_eq_of_lt h]
  · rw [List.getElem?_append_right (by rw [tw_len]; omega), tw_len, ← List.getD_eq_getElem?_getD]
    by_cases h2 : a + b - 256 < 256
    · rw [tw_at _ h2]; congr 1; omega
    · omega
theorem add_n (a b : Nat) (ha : a < 256) (hb : b < 256) : okA (waveN a) (waveN b) (waveN ((a + b) % 256)) (waveN ((256 - a + b) % 256)) = true := by
  obtain ⟨x, hx, hc⟩ := chkB_at tw 256 tw a all_ok ha
  have hxa : x = waveN a := by
    have := tw_at a ha
    rw [List.getD_eq_getElem?_getD, hx] at this
    exact this
  have := chkA_at x _ _ _ b hc (by rw [tw_len]; exact hb) (by simp [tw_len]; omega) (by simp [tw_len]; omega)
  rw [tw_at b hb, dbl_at _ b (by omega) hb, dbl_at _ b (by omega) hb, hxa] at this
  have e : 256 - (256 - a) = a := by omega
  rw [e] at this
  exact this
theorem add_f (a b : Int) : -549755813888 ≤ 2 * (wave a * wave b) - 1073741824 * (wave (a + b) + wave (a - b)) ∧ 2 * (wave a * wave b) - 1073741824 * (wave (a + b) + wave (a - b)) ≤ 549755813888 := by
  have h := add_n (a % 256).toNat (b % 256).toNat (by omega) (by omega)
  have e1 : wave (a + b) = waveN (((a % 256).toNat + (b % 256).toNat) % 256) := by unfold wave; congr 1; omega
  have e2 : wave (a - b) = waveN ((256 - (a % 256).toNat + (b % 256).toNat) % 256) := by
    rw [← wave_even (a - b)]; unfold wave; congr 1; omega
  simp only [okA, Bool.and_eq_true, decide_eq_true_eq] at h
  rw [e1, e2]
  exact h
/-- the sum of products of the wave of a tone and of a step -/
theorem prod_sum (t r s o : Int) (h1 q1 : Nat) (hq1 : 2 * h1 * q1 = 128) (hm1 : ((h1 : Int) * (r + s)) % 256 = 128) (Z : Int) (hZ : sm (fun i => wave (t + o + i * (r - s))) 128 = Z) :
    -70368744177664 ≤ 2 * sm (fun i => wave (t + i * r) * wave (i * s - o)) 128 - 1073741824 * Z ∧ 2 * sm (fun i => wave (t + i * r) * wave (i * s - o)) 128 - 1073741824 * Z ≤ 70368744177664 := by
  have z1 := zero_sum (t - o) (r + s) h1 q1 hq1 hm1
  have e : 2 * sm (fun i => wave (t + i * r) * wave (i * s - o)) 128 - 1073741824 * Z = sm (fun i : Nat => 2 * (wave (t + i * r) * wave (i * s - o)) + -(1073741824 * (wave (t - o + i * (r + s)) + wave (t + o + i * (r - s))))) 128 := by
    rw [sm_add, sm_mul, sm_neg, sm_mul, sm_add, z1, hZ]
    omega
  rw [e]
  have := sm_bd (B := 549755813888) (f := fun i : Nat => 2 * (wave (t + i * r) * wave (i * s - o)) + -(1073741824 * (wave (t - o + i * (r + s)) + wave (t + o + i * (r - s))))) 128 (fun i _ => by
    have h := add_f (t + i * r) (i * s - o)
    have x1 : t + (i : Int) * r + (i * s - o) = t - o + i * (r + s) := by rw [Int.mul_add]; omega
    have x2 : t + (i : Int) * r - (i * s - o) = t + o + i * (r - s) := by rw [Int.mul_sub]; omega
    rw [x1, x2] at h
    exact ⟨by omega, by omega⟩)
  simpa using this

end Go.Proofs.YtgdejlofkjdkoaaDoor

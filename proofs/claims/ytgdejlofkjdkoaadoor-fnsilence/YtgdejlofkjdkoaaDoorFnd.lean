/- A tone with a little noise: powers and squares; no condition. -/
import Derived.Test.YtgdejlofkjdkoaaDoorFnc
namespace Go.Proofs.YtgdejlofkjdkoaaDoor
open Go.RowKit Go.ChangeShapes Go.WideShapes Go.ChangeAt
set_option linter.unusedVariables false
set_option linter.unusedSimpArgs false
set_option maxRecDepth 8000

theorem mm4 (a b c d : Int) : a * b * (c * d) = a * c * (b * d) := by rw [Int.mul_assoc, Int.mul_left_comm b, ← Int.mul_assoc]
theorem sq_nn (x : Int) : 0 ≤ x * x := by
  rcases Int.le_total 0 x with h0 | h0
  · exact Int.mul_nonneg h0 h0
  · exact Int.mul_nonneg_of_nonpos_of_nonpos h0 h0
theorem sq_le {a A : Int} (h : -A ≤ a ∧ a ≤ A) : a * a ≤ A * A := (mul_bd h h).2
theorem sq5 (a : Int) : (5 * a) * (5 * a) = 25 * (a * a) := by rw [mm4]; rfl
theorem sqW (a : Int) : (1073741824 * a) * (1073741824 * a) = 1152921504606846976 * (a * a) := by rw [mm4]; rfl
theorem sq37 (a : Int) : (37 * (1073741824 * a)) * (37 * (1073741824 * a)) = 1369 * (1152921504606846976 * (a * a)) := by rw [mm4, sqW]; rfl
theorem sq64 (a : Int) : (64 * a) * (64 * a) = 4096 * (a * a) := by rw [mm4]; rfl
/-- a square near another one, from below and from above -/
theorem sq_near (u r : Int) : 5 * (u * u) ≤ 6 * ((u + r) * (u + r)) + 30 * (r * r) ∧ 6 * ((u + r) * (u + r)) ≤ 7 * (u * u) + 42 * (r * r) := by
  have e : (u + r) * (u + r) = u * u + 2 * (u * r) + r * r := by rw [Int.add_mul, Int.mul_add, Int.mul_add, Int.mul_comm r u]; omega
  have e1 : (u + 6 * r) * (u + 6 * r) = u * u + 12 * (u * r) + 36 * (r * r) := by
    rw [Int.add_mul, Int.mul_add, Int.mul_add, Int.mul_left_comm, Int.mul_assoc, Int.mul_comm r u, mm4]; omega
  have e2 : (u - 6 * r) * (u - 6 * r) = u * u - 12 * (u * r) + 36 * (r * r) := by
    rw [Int.sub_mul, Int.mul_sub, Int.mul_sub, Int.mul_left_comm, Int.mul_assoc, Int.mul_comm r u, mm4]; omega
  have n1 := sq_nn (u + 6 * r)
  have n2 := sq_nn (u - 6 * r)
  rw [e1] at n1
  rw [e2] at n2
  rw [e]
  omega
theorem sq_near16 (u r : Int) : 16 * ((u + r) * (u + r)) ≤ 17 * (u * u) + 272 * (r * r) := by
  have e : (u + r) * (u + r) = u * u + 2 * (u * r) + r * r := by rw [Int.add_mul, Int.mul_add, Int.mul_add, Int.mul_comm r u]; omega
  have e2 : (u - 16 * r) * (u - 16 * r) = u * u - 32 * (u * r) + 256 * (r * r) := by
    rw [Int.sub_mul, Int.mul_sub, Int.mul_sub, Int.mul_left_comm, Int.mul_assoc, Int.mul_comm r u, mm4]; omega
  have n2 := sq_nn (u - 16 * r)
  rw [e2] at n2
  rw [e]
  omega
theorem Tn.other {zs : List Int} {sz ph r c : Int} (h : Tn zs sz ph r c) (s : Int) (hs : StOk s) (h1 : r ≠ s) (h2 : c ≠ s) : 25 * pw zs s ≤ 2738 * (sz * sz) := by
  have x := h.x s 0 hs
  have y := h.x s 64 hs
  have hp : ∀ w, pt r c s w = 0 := fun w => by unfold pt; rw [if_neg (by omega)]
  rw [hp, Int.mul_zero] at x y
  unfold pw
  obtain ⟨X, hX⟩ : ∃ X, sX zs s 0 zs.length / 1073741824 = X := ⟨_, rfl⟩
  obtain ⟨Y, hY⟩ : ∃ X, sX zs s 64 zs.length / 1073741824 = X := ⟨_, rfl⟩
  rw [hX] at x ⊢
  rw [hY] at y ⊢
  have a1 : -(37 * sz) ≤ 5 * X ∧ 5 * X ≤ 37 * sz := by omega
  have a2 : -(37 * sz) ≤ 5 * Y ∧ 5 * Y ≤ 37 * sz := by omega
  have b1 := sq_le a1
  have b2 := sq_le a2
  have e : (37 * sz) * (37 * sz) = 1369 * (sz * sz) := by rw [mm4]; rfl
  rw [sq5, e] at b1 b2
  omega
theorem Tn.main {zs : List Int} {sz ph r c : Int} (h : Tn zs sz ph r c) (s : Int) (hs : StOk s) (h1 : r = s ∨ c = s) : 2860 * (sz * sz) ≤ pw zs s ∧ pw zs s ≤ 5560 * (sz * sz) := by
  have x := h.x s 0 hs
  have y := h.x s 64 hs
  have hp : ∀ w, pt r c s w = w := fun w => by unfold pt; rw [if_pos h1]
  have py := pyth (ph * s)
  rw [hp, Int.add_zero] at x
  rw [hp] at y
  unfold pw
  obtain ⟨X, hX⟩ : ∃ X, sX zs s 0 zs.length / 1073741824 = X := ⟨_, rfl⟩
  obtain ⟨Y, hY⟩ : ∃ X, sX zs s 64 zs.length / 1073741824 = X := ⟨_, rfl⟩
  obtain ⟨a, ha⟩ : ∃ a, wave (ph * s) = a := ⟨_, rfl⟩
  obtain ⟨b, hb⟩ : ∃ a, wave (ph * s + 64) = a := ⟨_, rfl⟩
  rw [hX] at x ⊢
  rw [hY] at y ⊢
  rw [ha] at x py
  rw [hb] at y py
  obtain ⟨R1, hR1⟩ : ∃ R, 1073741824 * X - 64 * (sz * a) = R := ⟨_, rfl⟩
  obtain ⟨R2, hR2⟩ : ∃ R, 1073741824 * Y - 64 * (sz * b) = R := ⟨_, rfl⟩
  rw [hR1] at x
  rw [hR2] at y
  have q1 := sq_near (64 * (sz * a)) R1
  have q2 := sq_near (64 * (sz * b)) R2
  have e1 : 64 * (sz * a) + R1 = 1073741824 * X := by omega
  have e2 : 64 * (sz * b) + R2 = 1073741824 * Y := by omega
  rw [e1, sqW, sq64] at q1
  rw [e2, sqW, sq64] at q2
  have r1 := sq_le x
  have r2 := sq_le y
  rw [sq5, sq37] at r1 r2
  have m1 : (sz * a) * (sz * a) = (sz * sz) * (a * a) := mm4 _ _ _ _
  have m2 : (sz * b) * (sz * b) = (sz * sz) * (b * b) := mm4 _ _ _ _
  rw [m1] at q1
  rw [m2] at q2
  have s0 := sq_nn sz
  have u1 : (sz * sz) * (1152921504606846976 - 549755813888) ≤ (sz * sz) * (a * a + b * b) := Int.mul_le_mul_of_nonneg_left (by omega) s0
  have u2 : (sz * sz) * (a * a + b * b) ≤ (sz * sz) * (1152921504606846976 + 549755813888) := Int.mul_le_mul_of_nonneg_left (by omega) s0
  rw [Int.mul_add (sz * sz) (a * a)] at u1 u2
  obtain ⟨s2, hs2⟩ : ∃ s, sz * sz = s := ⟨_, rfl⟩
  obtain ⟨A, hA⟩ : ∃ A, s2 * (a * a) = A := ⟨_, rfl⟩
  obtain ⟨C, hC⟩ : ∃ A, s2 * (b * b) = A := ⟨_, rfl⟩
  rw [hs2] at q1 q2 r1 r2 u1 u2 s0 ⊢
  rw [hA] at q1 u1 u2
  rw [hC] at q2 u1 u2
  clear x y hp hR1 hR2 e1 e2 m1 m2 hA hC py
  omega
theorem Tn.en {zs : List Int} {sz ph r c : Int} (h : Tn zs sz ph r c) : 128 * enF zs 128 ≤ 18400 * (sz * sz) := by
  have hsz := h.hs
  have s0 := sq_nn sz
  have a1 := tone_sum (ph * r) r r (-(ph * r)) h.hr h.hr
  have a2 := tone_sum (ph * c) c c (-(ph * c)) h.hc h.hc
  have a3 := tone_sum (ph * r) r c (-(ph * c)) h.hr h.hc
  rw [if_pos rfl, show wave (ph * r + -(ph * r)) = 1073741824 by rw [Int.add_right_neg]; decide +kernel] at a1
  rw [if_pos rfl, show wave (ph * c + -(ph * c)) = 1073741824 by rw [Int.add_right_neg]; decide +kernel] at a2
  rw [if_neg h.hne] at a3
  obtain ⟨f, hf⟩ : ∃ f : Nat → Int, ∀ i, f i = wave ((ph + i) * r) := ⟨_, fun _ => rfl⟩
  obtain ⟨g, hg⟩ : ∃ f : Nat → Int, ∀ i, f i = wave ((ph + i) * c) := ⟨_, fun _ => rfl⟩
  have k1 : sm (fun i => wave (ph * r + i * r) * wave (i * r - -(ph * r))) 128 = sm (fun i => f i * f i) 128 := sm_congr 128 fun i _ => by
    rw [hf, Int.add_mul, show (i : Int) * r - -(ph * r) = ph * r + i * r by omega]
  have k2 : sm (fun i => wave (ph * c + i * c) * wave (i * c - -(ph * c))) 128 = sm (fun i => g i * g i) 128 := sm_congr 128 fun i _ => by
    rw [hg, Int.add_mul, show (i : Int) * c - -(ph * c) = ph * c + i * c by omega]
  have k3 : sm (fun i => wave (ph * r + i * r) * wave (i * c - -(ph * c))) 128 = sm (fun i => f i * g i) 128 := sm_congr 128 fun i _ => by
    rw [hf, hg, Int.add_mul, Int.add_mul, show (i : Int) * c - -(ph * c) = ph * c + i * c by omega]
  rw [k1] at a1
  rw [k2] at a2
  rw [k3] at a3
  obtain ⟨E, hE⟩ : ∃ E : Nat → Int, ∀ i, E i = 1073741824 * zs.getD i 0 - sz * (f i + g i) := ⟨_, fun _ => rfl⟩
  have bE : ∀ i, i < 128 → 160000 * (E i * E i) ≤ 529 * (1152921504606846976 * (sz * sz)) := fun i hi => by
    have := h.he i hi
    rw [← hf, ← hg, ← hE] at this
    have h2 : -(23 * (1073741824 * sz)) ≤ 400 * E i ∧ 400 * E i ≤ 23 * (1073741824 * sz) := by omega
    have h3 := sq_le h2
    rw [mm4, mm4 23, sqW] at h3
    omega
  have step : 16 * (1152921504606846976 * enF zs 128) ≤ 17 * ((sz * sz) * (sm (fun i => f i * f i) 128 + sm (fun i => g i * g i) 128 + 2 * sm (fun i => f i * g i) 128)) + 272 * sm (fun i => E i * E i) 128 := by
    rw [enF_sm, ← sm_mul 1152921504606846976, ← sm_mul 16, ← sm_mul 2, ← sm_add, ← sm_add, ← sm_mul (sz * sz), ← sm_mul 17, ← sm_mul 272, ← sm_add]
    refine sm_le 128 fun i _ => ?_
    have n := sq_near16 (sz * (f i + g i)) (E i)
    have e1 : sz * (f i + g i) + E i = 1073741824 * zs.getD i 0 := by rw [hE]; omega
    have e2 : (sz * (f i + g i)) * (sz * (f i + g i)) = (sz * sz) * (f i * f i + g i * g i + 2 * (f i * g i)) := by
      rw [mm4]
      congr 1
      rw [Int.add_mul, Int.mul_add, Int.mul_add, Int.mul_comm (g i) (f i)]; omega
    rw [e1, sqW, e2] at n
    exact n
  have bS : 160000 * sm (fun i => E i * E i) 128 ≤ 529 * (1152921504606846976 * (sz * sz)) * 128 := by
    rw [← sm_mul]
    have := sm_le (f := fun i => 160000 * (E i * E i)) (g := fun _ => 529 * (1152921504606846976 * (sz * sz))) 128 bE
    rw [sm_const] at this
    simpa using this
  obtain ⟨A, hA⟩ : ∃ A, sm (fun i => f i * f i) 128 = A := ⟨_, rfl⟩
  obtain ⟨C, hC⟩ : ∃ A, sm (fun i => g i * g i) 128 = A := ⟨_, rfl⟩
  obtain ⟨D, hD⟩ : ∃ A, sm (fun i => f i * g i) 128 = A := ⟨_, rfl⟩
  obtain ⟨F, hF⟩ : ∃ A, sm (fun i => E i * E i) 128 = A := ⟨_, rfl⟩
  rw [hA] at a1 step
  rw [hC] at a2 step
  rw [hD] at a3 step
  rw [hF] at step bS
  have u : (sz * sz) * (A + C + 2 * D) ≤ (sz * sz) * (147573952589676412928 + 140737488355328) := Int.mul_le_mul_of_nonneg_left (by omega) s0
  obtain ⟨s2, hs2⟩ : ∃ s, sz * sz = s := ⟨_, rfl⟩
  rw [hs2] at step bS u s0 ⊢
  obtain ⟨G, hG⟩ : ∃ s, s2 * (A + C + 2 * D) = s := ⟨_, rfl⟩
  rw [hG] at step u
  clear bE a1 a2 a3 k1 k2 k3 hG
  omega

end Go.Proofs.YtgdejlofkjdkoaaDoor

/- Powers of a tone; no condition. -/
import Derived.Test.YtgdejlofkjdkoaaDoorFnb
namespace Go.Proofs.YtgdejlofkjdkoaaDoor
open Go.RowKit Go.ChangeShapes Go.WideShapes Go.ChangeAt
set_option linter.unusedVariables false
set_option linter.unusedSimpArgs false
set_option maxRecDepth 8000

theorem hf_ok (m : Int) (h2 : m % 2 = 0) (h0 : m % 256 ≠ 0) : ∃ h q : Nat, 2 * h * q = 128 ∧ ((h : Int) * m) % 256 = 128 := by
  by_cases c1 : m % 4 = 0
  case neg => exact ⟨64, 1, rfl, by omega⟩
  by_cases c2 : m % 8 = 0
  case neg => exact ⟨32, 2, rfl, by omega⟩
  by_cases c3 : m % 16 = 0
  case neg => exact ⟨16, 4, rfl, by omega⟩
  by_cases c4 : m % 32 = 0
  case neg => exact ⟨8, 8, rfl, by omega⟩
  by_cases c5 : m % 64 = 0
  case neg => exact ⟨4, 16, rfl, by omega⟩
  by_cases c6 : m % 128 = 0
  case neg => exact ⟨2, 32, rfl, by omega⟩
  exact ⟨1, 64, rfl, by omega⟩
/-- an even step of a row or a column -/
def StOk (r : Int) : Prop := 0 < r ∧ r ≤ 34 ∧ r % 2 = 0
theorem tone_sum (t r s o : Int) (hr : StOk r) (hs : StOk s) :
    -70368744177664 ≤ 2 * sm (fun i => wave (t + i * r) * wave (i * s - o)) 128 - 1073741824 * (if r = s then 128 * wave (t + o) else 0) ∧ 2 * sm (fun i => wave (t + i * r) * wave (i * s - o)) 128 - 1073741824 * (if r = s then 128 * wave (t + o) else 0) ≤ 70368744177664 := by
  obtain ⟨a1, a2, a3⟩ := hr
  obtain ⟨b1, b2, b3⟩ := hs
  obtain ⟨h1, q1, e1, m1⟩ := hf_ok (r + s) (by omega) (by omega)
  refine prod_sum t r s o h1 q1 e1 m1 _ ?_
  by_cases c : r = s
  · subst c
    rw [if_pos rfl, sm_congr 128 (g := fun _ => wave (t + o)) (fun i _ => by rw [Int.sub_self, Int.mul_zero, Int.add_zero]), sm_const]
    simp; omega
  · rw [if_neg c]
    obtain ⟨h2, q2, e2, m2⟩ := hf_ok (r - s) (by omega) (by omega)
    exact zero_sum (t + o) (r - s) h2 q2 e2 m2
theorem pyth (a : Int) : -549755813888 ≤ wave a * wave a + wave (a + 64) * wave (a + 64) - 1152921504606846976 ∧ wave a * wave a + wave (a + 64) * wave (a + 64) - 1152921504606846976 ≤ 549755813888 := by
  have h1 := add_f a a
  have h2 := add_f (a + 64) (a + 64)
  have e1 : wave (a - a) = 1073741824 := by rw [Int.sub_self]; decide +kernel
  have e2 : wave (a + 64 - (a + 64)) = 1073741824 := by rw [Int.sub_self]; decide +kernel
  have e3 : wave (a + 64 + (a + 64)) = -wave (a + a) := by rw [← wave_half (a + a)]; congr 1; omega
  rw [e1] at h1
  rw [e2, e3] at h2
  omega
theorem sX_sm (zs : List Int) (st o : Int) : ∀ j, sX zs st o j = sm (fun i => zs.getD i 0 * wave (i * st - o)) j
  | 0 => rfl
  | j + 1 => by simp only [sX, sm]; rw [sX_sm zs st o j]
theorem enF_sm (zs : List Int) : ∀ j, enF zs j = sm (fun i => zs.getD i 0 * zs.getD i 0) j
  | 0 => rfl
  | j + 1 => by simp only [enF, sm]; rw [enF_sm zs j]
/-- levels that are those of two tones, with a little noise -/
structure Tn (zs : List Int) (sz ph r c : Int) : Prop where
  hl : zs.length = 128
  hs : 200 ≤ sz
  hr : StOk r
  hc : StOk c
  hne : r ≠ c
  he : ∀ i : Nat, i < 128 → -(1073741824 * (sz + 30)) ≤ 20 * (1073741824 * zs.getD i 0 - sz * (wave ((ph + i) * r) + wave ((ph + i) * c))) ∧ 20 * (1073741824 * zs.getD i 0 - sz * (wave ((ph + i) * r) + wave ((ph + i) * c))) ≤ 1073741824 * (sz + 30)
/-- the part of a step that a tone has -/
def pt (r c s : Int) (w : Int) : Int := if r = s ∨ c = s then w else 0
theorem Tn.x {zs : List Int} {sz ph r c : Int} (h : Tn zs sz ph r c) (s o : Int) (hs : StOk s) :
    -(37 * (1073741824 * sz)) ≤ 5 * (1073741824 * (sX zs s o zs.length / 1073741824) - 64 * (sz * pt r c s (wave (ph * s + o)))) ∧ 5 * (1073741824 * (sX zs s o zs.length / 1073741824) - 64 * (sz * pt r c s (wave (ph * s + o)))) ≤ 37 * (1073741824 * sz) := by
  have hsz := h.hs
  have t1 := tone_sum (ph * r) r s o h.hr hs
  have t2 := tone_sum (ph * c) c s o h.hc hs
  obtain ⟨P1, hP1⟩ : ∃ P, sm (fun i => wave (ph * r + i * r) * wave (i * s - o)) 128 = P := ⟨_, rfl⟩
  obtain ⟨P2, hP2⟩ : ∃ P, sm (fun i => wave (ph * c + i * c) * wave (i * s - o)) 128 = P := ⟨_, rfl⟩
  obtain ⟨N, hN⟩ : ∃ N, sm (fun i => (20 * (1073741824 * zs.getD i 0 - sz * (wave ((ph + i) * r) + wave ((ph + i) * c)))) * wave (i * s - o)) 128 = N := ⟨_, rfl⟩
  have bN : -(1073741824 * (sz + 30) * 1073741824 * 128) ≤ N ∧ N ≤ 1073741824 * (sz + 30) * 1073741824 * 128 := by
    have := sm_bd (f := fun i : Nat => (20 * (1073741824 * zs.getD i 0 - sz * (wave ((ph + i) * r) + wave ((ph + i) * c)))) * wave (i * s - o)) (B := 1073741824 * (sz + 30) * 1073741824) 128 (fun i hi => mul_bd (h.he i hi) (wave_bd _))
    rw [hN] at this
    simpa using this
  have key : 20 * (1073741824 * sX zs s o 128) = 20 * (sz * P1) + 20 * (sz * P2) + N := by
    rw [sX_sm, ← hP1, ← hP2, ← hN, ← sm_mul sz, ← sm_mul sz, ← sm_mul 1073741824, ← sm_mul 20, ← sm_mul 20, ← sm_mul 20, ← sm_add, ← sm_add]
    refine sm_congr 128 fun i _ => ?_
    have e1 : (ph + (i : Int)) * r = ph * r + i * r := Int.add_mul _ _ _
    have e2 : (ph + (i : Int)) * c = ph * c + i * c := Int.add_mul _ _ _
    rw [e1, e2]
    obtain ⟨z, hz⟩ : ∃ z, zs.getD i 0 = z := ⟨_, rfl⟩
    obtain ⟨u, hu⟩ : ∃ z, wave (ph * r + i * r) = z := ⟨_, rfl⟩
    obtain ⟨v, hv⟩ : ∃ z, wave (ph * c + i * c) = z := ⟨_, rfl⟩
    obtain ⟨y, hy⟩ : ∃ z, wave (i * s - o) = z := ⟨_, rfl⟩
    show 20 * (1073741824 * (zs.getD i 0 * wave (i * s - o))) = 20 * (sz * (wave (ph * r + i * r) * wave (i * s - o))) + 20 * (sz * (wave (ph * c + i * c) * wave (i * s - o))) + 20 * (1073741824 * zs.getD i 0 - sz * (wave (ph * r + i * r) + wave (ph * c + i * c))) * wave (i * s - o)
    rw [hz, hu, hv, hy]
    have m1 : 20 * (1073741824 * z - sz * (u + v)) * y = 20 * (1073741824 * (z * y)) - 20 * (sz * (u * y)) - 20 * (sz * (v * y)) := by
      rw [Int.mul_assoc, Int.sub_mul, Int.mul_assoc, Int.mul_assoc, Int.add_mul, Int.mul_add, Int.mul_sub, Int.mul_add]
      omega
    omega
  rw [hP1] at t1
  rw [hP2] at t2
  rw [h.hl]
  obtain ⟨Z1, hZ1⟩ : ∃ Z, (if r = s then 128 * wave (ph * r + o) else 0) = Z := ⟨_, rfl⟩
  obtain ⟨Z2, hZ2⟩ : ∃ Z, (if c = s then 128 * wave (ph * c + o) else 0) = Z := ⟨_, rfl⟩
  have hZ : Z1 + Z2 = 128 * pt r c s (wave (ph * s + o)) := by
    have hne := h.hne
    rw [← hZ1, ← hZ2]
    unfold pt
    by_cases c1 : r = s
    · have c2 : ¬ c = s := by omega
      rw [if_pos c1, if_neg c2, if_pos (.inl c1), c1]; omega
    · by_cases c2 : c = s
      · rw [if_neg c1, if_pos c2, if_pos (.inr c2), c2]; omega
      · rw [if_neg c1, if_neg c2, if_neg (by omega)]; omega
  rw [hZ1] at t1
  rw [hZ2] at t2
  have hs0 : 0 ≤ sz := by omega
  have f1 := mul_bd (a := sz) (A := sz) (b := 2 * P1 - 1073741824 * Z1) (B := 70368744177664) ⟨by omega, by omega⟩ ⟨t1.1, t1.2⟩
  have f2 := mul_bd (a := sz) (A := sz) (b := 2 * P2 - 1073741824 * Z2) (B := 70368744177664) ⟨by omega, by omega⟩ ⟨t2.1, t2.2⟩
  have g1 : sz * (2 * P1 - 1073741824 * Z1) = 2 * (sz * P1) - 1073741824 * (sz * Z1) := by rw [Int.mul_sub, Int.mul_left_comm, Int.mul_left_comm sz 1073741824]
  have g2 : sz * (2 * P2 - 1073741824 * Z2) = 2 * (sz * P2) - 1073741824 * (sz * Z2) := by rw [Int.mul_sub, Int.mul_left_comm, Int.mul_left_comm sz 1073741824]
  have g3 : sz * Z1 + sz * Z2 = 128 * (sz * pt r c s (wave (ph * s + o))) := by rw [← Int.mul_add, hZ, Int.mul_left_comm]
  rw [g1] at f1
  rw [g2] at f2
  obtain ⟨S, hS⟩ : ∃ S, sX zs s o 128 = S := ⟨_, rfl⟩
  obtain ⟨V, hV⟩ : ∃ S, sz * pt r c s (wave (ph * s + o)) = S := ⟨_, rfl⟩
  rw [hS] at key ⊢
  rw [hV] at g3 ⊢
  clear hP1 hP2 hN hS hV t1 t2 hZ1 hZ2 hZ g1 g2
  omega

end Go.Proofs.YtgdejlofkjdkoaaDoor

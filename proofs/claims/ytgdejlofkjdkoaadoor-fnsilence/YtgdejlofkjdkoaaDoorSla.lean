/- Silence, and one tone alone; no condition. -/
import Derived.Test.YtgdejlofkjdkoaaDoorFne
namespace Go.Proofs.YtgdejlofkjdkoaaDoor
open Go.RowKit Go.ChangeShapes Go.WideShapes Go.ChangeAt
set_option linter.unusedVariables false
set_option linter.unusedSimpArgs false
set_option maxRecDepth 8000

theorem quiet_no : dgF (List.replicate 128 0) = -1 := by decide +kernel
/-- one tone alone -/
def alF (ph : Int) (i : Nat) : Int := (wave ((i + ph) * 14)).tdiv 1048576
def alL (ph : Int) (n : Nat) : List Int := (List.range n).map (alF ph)
theorem alL_len (ph : Int) (n : Nat) : (alL ph n).length = n := by simp [alL]
theorem alL_succ (ph : Int) (n : Nat) : alL ph (n + 1) = alL ph n ++ [alF ph n] := by simp [alL, List.range_succ]
theorem alL_at (ph : Int) (n i : Nat) (h : i < n) : (alL ph n).getD i 0 = alF ph i := by simp [alL, h]
theorem tdivM (a : Int) : a.tdiv 1048576 = if 0 ≤ a then a / 1048576 else -((-a) / 1048576) := by
  split
  · exact Int.tdiv_eq_ediv_of_nonneg (by omega)
  · rw [show a = -(-a) by omega, Int.neg_tdiv, Int.tdiv_eq_ediv_of_nonneg (by omega)]; simp
theorem alF_bd (ph : Int) (i : Nat) : (-1048576 ≤ 1048576 * alF ph i - wave ((i + ph) * 14) ∧ 1048576 * alF ph i - wave ((i + ph) * 14) ≤ 1048576) ∧ -1024 ≤ alF ph i ∧ alF ph i ≤ 1024 := by
  have h := wave_bd ((i + ph) * 14)
  unfold alF
  rw [tdivM]
  split <;> omega
theorem alone_x (ph s o : Int) (hs : StOk s) (hne : (14 : Int) ≠ s) : -129 ≤ sX (alL ph 128) s o 128 / 1073741824 ∧ sX (alL ph 128) s o 128 / 1073741824 ≤ 129 := by
  have t := tone_sum (ph * 14) 14 s o ⟨by omega, by omega, by omega⟩ hs
  rw [if_neg hne] at t
  have key : 1048576 * sX (alL ph 128) s o 128 = sm (fun i => wave (ph * 14 + i * 14) * wave (i * s - o)) 128 + sm (fun i => (1048576 * alF ph i - wave ((i + ph) * 14)) * wave (i * s - o)) 128 := by
    rw [sX_sm, ← sm_mul, ← sm_add]
    refine sm_congr 128 fun i hi => ?_
    have e : ((i : Int) + ph) * 14 = ph * 14 + i * 14 := by omega
    show 1048576 * ((alL ph 128).getD i 0 * wave (i * s - o)) = wave (ph * 14 + i * 14) * wave (i * s - o) + (1048576 * alF ph i - wave ((i + ph) * 14)) * wave (i * s - o)
    rw [alL_at ph 128 i hi, e, Int.sub_mul, Int.mul_assoc]
    omega
  have b := sm_bd (f := fun i : Nat => (1048576 * alF ph i - wave ((i + ph) * 14)) * wave (i * s - o)) (B := 1048576 * 1073741824) 128 (fun i _ => mul_bd (alF_bd ph i).1 (wave_bd _))
  obtain ⟨P, hP⟩ : ∃ P, sm (fun i => wave (ph * 14 + i * 14) * wave (i * s - o)) 128 = P := ⟨_, rfl⟩
  obtain ⟨N, hN⟩ : ∃ P, sm (fun i => (1048576 * alF ph i - wave ((i + ph) * 14)) * wave (i * s - o)) 128 = P := ⟨_, rfl⟩
  obtain ⟨S, hS⟩ : ∃ S, sX (alL ph 128) s o 128 = S := ⟨_, rfl⟩
  rw [hP] at t key
  rw [hN] at b key
  rw [hS] at key ⊢
  omega
theorem alone_pw (ph s : Int) (hs : StOk s) (hne : (14 : Int) ≠ s) : pw (alL ph 128) s ≤ 33282 := by
  have x := sq_le (alone_x ph s 0 hs hne)
  have y := sq_le (alone_x ph s 64 hs hne)
  unfold pw
  rw [alL_len]
  omega
theorem alone_no (ph : Int) : dgF (alL ph 128) = -1 := by
  have h4 : bst (clP (alL ph 128)) 4 ≤ 3 := bst_le (clP (alL ph 128)) 3
  obtain ⟨c, hc⟩ : ∃ c, bst (clP (alL ph 128)) 4 = c := ⟨_, rfl⟩
  have hp : clP (alL ph 128) c ≤ 33282 := alone_pw ph (22 + 4 * (c : Int)) ⟨by omega, by omega, by omega⟩ (by omega)
  unfold dgF
  rw [hc, if_neg]
  unfold dgB
  intro hh
  simp only [Bool.and_eq_true, decide_eq_true_eq] at hh
  have := hh.2.1.1.1.2
  omega
theorem tone_6 (ph : Int) : dgF (tnL 6 900 ph 128) = 6 := by
  have hz : ∀ i, i < 128 → (tnL 6 900 ph 128).getD i 0 = tnF 6 900 ph (0 + i) + 0 := fun i hi => by simp [tnL, hi]
  refine found (tnL 6 900 ph 128) 6 (by omega) 900 ph (tn_of _ 6 (by omega) 900 ph (tnL_len _ _ _ _) (by omega) 0 rfl (fun _ => 0) (fun _ _ => by omega) hz) (lvB_at fun t ht => ?_)
  rw [tnL_len] at ht
  have := tnF_bd 6 900 ph (by omega) t
  simp [tnL]
  omega
/-- what a digit tells of its powers -/
theorem dg_pos {zs : List Int} {n : Nat} (h : dgF zs = n) : (zs.length = 128 ∧ lvB zs = true) ∧ 1000000 ≤ pw zs (12 + 2 * (n / 4 : Nat)) ∧ 1000000 ≤ pw zs (22 + 4 * (n % 4 : Nat)) := by
  have h3 : bst (rwP zs) 4 ≤ 3 := bst_le (rwP zs) 3
  have h4 : bst (clP zs) 4 ≤ 3 := bst_le (clP zs) 3
  unfold dgF at h
  split at h
  · rename_i hh
    unfold dgB at hh
    simp only [Bool.and_eq_true, decide_eq_true_eq] at hh
    have e1 : n / 4 = bst (rwP zs) 4 := by omega
    have e2 : n % 4 = bst (clP zs) 4 := by omega
    rw [e1, e2]
    exact ⟨hh.1, hh.2.1.1.1.1.2, hh.2.1.1.1.2⟩
  · omega

end Go.Proofs.YtgdejlofkjdkoaaDoor

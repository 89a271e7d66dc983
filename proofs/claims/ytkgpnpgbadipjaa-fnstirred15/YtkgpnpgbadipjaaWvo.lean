/- May they be woven? no condition. -/
import Derived.Test.YtkgpnpgbadipjaaWva
namespace Go.Proofs.Ytkgpnpgbadipjaa
open Go.RowKit Go.ChangeShapes Go.WideShapes Go.ChangeAt
set_option linter.unusedVariables false
set_option linter.unusedSimpArgs false
set_option maxRecDepth 8000

set_option maxHeartbeats 1600000 in
theorem weaveOkI_c (v : Value) (zs : List Int) (rows : Int) (w : World) (h : Rd .i64 w v zs) : Calls Try.prog 33 #[v, .int .i64 rows] w fun e w' => e = .returned (.bool (wvB zs rows)) ∧ Below w.heap.size w w' := by
  have HR : Hid (Rd .i64 w v zs) := h
  obtain ⟨a, cap, rfl, h1, h2, -⟩ := h
  unfold maxLen at h2
  have HE : Hid (wvB zs rows = (bbB zs && decide (1 ≤ rows ∧ rows ≤ 16) && decide ((zs.length : Int) % rows = 0))) := rfl
  go_enter Try.func33, Try.ntmps33
  go_wp2_with (fail)
  refine (burstBits_c _ zs _ HR.out).mono ?_
  rintro e w1 ⟨rfl, b1⟩
  have HB1 : Hid (Below w.heap.size w w1) := b1
  obtain ⟨q, hq⟩ : ∃ q, bbB zs = q := ⟨_, rfl⟩
  rw [hq]
  have HQ : Hid (bbB zs = q) := hq
  clear b1 hq
  cases q with
  | false =>
    have HF : Hid (wvB zs rows = false) := by show _ = _; rw [HE.out, HQ.out]; rfl
    go_wp2
    go_ret
    exact ⟨by rw [HF.out]; rfl, HB1.out⟩
  | true =>
  go_wp2_with (fail)
  refine (within_c rows _ _ _).mono ?_
  rintro e w2 ⟨rfl, hw⟩
  rw [hw]
  clear hw w2
  by_cases hk : 1 ≤ rows ∧ rows ≤ 16
  case neg =>
    have HF : Hid (wvB zs rows = false) := by show _ = _; rw [HE.out, decide_eq_false hk]; simp
    rw [decide_eq_false hk]
    clear hk
    go_wp2
    go_ret
    exact ⟨by rw [HF.out]; rfl, HB1.out⟩
  rw [decide_eq_true hk]
  have HK : Hid (decide (1 ≤ rows ∧ rows ≤ 16) = true) := decide_eq_true hk
  have hr0 : (rows == 0) = false := by simp; omega
  have hr1 : rows ≠ 0 := by omega
  have hm : (zs.length : Int).tmod rows = (zs.length : Int) % rows := Int.tmod_eq_emod_of_nonneg (by omega)
  have hb0 : 0 ≤ (zs.length : Int) % rows := Int.emod_nonneg _ hr1
  have hb1 : (zs.length : Int) % rows < 16 := by have := Int.emod_lt_of_pos (zs.length : Int) (show 0 < rows by omega); omega
  obtain ⟨x, hx⟩ : ∃ x, (zs.length : Int) % rows = x := ⟨_, rfl⟩
  rw [hx] at hm hb0 hb1
  have HX : Hid ((zs.length : Int) % rows = x) := hx
  have hm1 : rows ≠ -1 := by omega
  clear hk hx
  go_wp2
  go_ret
  refine ⟨?_, HB1.out⟩
  rw [HE.out, HQ.out, HK.out, HX.out]
  first | rfl | (congr 2; simp; done) | (simp; rfl)

set_option maxHeartbeats 1600000 in
theorem weaveOkM_c (v : Value) (zs : List Int) (rows : Int) (w : World) (h : Rd .i64 w v zs) : Calls Try.prog 35 #[v, .int .i64 rows] w fun e w' => e = .returned (.bool (wvB zs rows)) ∧ Below w.heap.size w w' := by
  have HR : Hid (Rd .i64 w v zs) := h
  obtain ⟨a, cap, rfl, h1, h2, -⟩ := h
  unfold maxLen at h2
  have HE : Hid (wvB zs rows = (bbB zs && decide (1 ≤ rows ∧ rows ≤ 16) && decide ((zs.length : Int) % rows = 0))) := rfl
  go_enter Try.func35, Try.ntmps35
  go_wp2_with (fail)
  refine (l1Bits_c _ zs _ HR.out).mono ?_
  rintro e w1 ⟨rfl, b1⟩
  have HB1 : Hid (Below w.heap.size w w1) := b1
  have HBB : Hid (bbB zs = (bsB zs && decide ((zs.length : Int) ≤ 320))) := rfl
  rw [← HBB.out]
  clear HBB
  obtain ⟨q, hq⟩ : ∃ q, bbB zs = q := ⟨_, rfl⟩
  rw [hq]
  have HQ : Hid (bbB zs = q) := hq
  clear b1 hq
  cases q with
  | false =>
    have HF : Hid (wvB zs rows = false) := by show _ = _; rw [HE.out, HQ.out]; rfl
    go_wp2
    go_ret
    exact ⟨by rw [HF.out]; rfl, HB1.out⟩
  | true =>
  go_wp2_with (fail)
  refine (in_c rows _ _ _).mono ?_
  rintro e w2 ⟨rfl, hw⟩
  rw [hw]
  clear hw w2
  by_cases hk : 1 ≤ rows ∧ rows ≤ 16
  case neg =>
    have HF : Hid (wvB zs rows = false) := by show _ = _; rw [HE.out, decide_eq_false hk]; simp
    rw [decide_eq_false hk]
    clear hk
    go_wp2
    go_ret
    exact ⟨by rw [HF.out]; rfl, HB1.out⟩
  rw [decide_eq_true hk]
  have HK : Hid (decide (1 ≤ rows ∧ rows ≤ 16) = true) := decide_eq_true hk
  have hr0 : (rows == 0) = false := by simp; omega
  have hr1 : rows ≠ 0 := by omega
  have hm : (zs.length : Int).tmod rows = (zs.length : Int) % rows := Int.tmod_eq_emod_of_nonneg (by omega)
  have hb0 : 0 ≤ (zs.length : Int) % rows := Int.emod_nonneg _ hr1
  have hb1 : (zs.length : Int) % rows < 16 := by have := Int.emod_lt_of_pos (zs.length : Int) (show 0 < rows by omega); omega
  obtain ⟨x, hx⟩ : ∃ x, (zs.length : Int) % rows = x := ⟨_, rfl⟩
  rw [hx] at hm hb0 hb1
  have HX : Hid ((zs.length : Int) % rows = x) := hx
  have hm1 : rows ≠ -1 := by omega
  clear hk hx
  go_wp2
  go_ret
  refine ⟨?_, HB1.out⟩
  rw [HE.out, HQ.out, HK.out, HX.out]
  first | rfl | (congr 2; simp; done) | (simp; rfl)

end Go.Proofs.Ytkgpnpgbadipjaa

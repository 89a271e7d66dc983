/- Coders that are right, and levels squeezed; no condition. -/
import Derived.Test.YtkjfcebdjnclaaaDoorCbh
import Derived.Test.YtkjfcebdjnclaaaDoorIvs
namespace Go.Proofs.YtkjfcebdjnclaaaDoor
open Go.RowKit Go.ChangeShapes Go.WideShapes Go.ChangeAt
set_option linter.unusedVariables false
set_option linter.unusedSimpArgs false
set_option maxRecDepth 8000
set_option maxHeartbeats 1600000 in
theorem cdI_c (c : Int × Int) (w : World) : Calls Tryd.prog 57 #[.agg (cdA c)] w fun e w' => e = .returned (.bool (decide (COk c))) ∧ Below w.heap.size w w' := by
  obtain ⟨W1, hW1⟩ : ∃ W, w.alloc (Obj.cells (cdA c) 25) = W := ⟨_, rfl⟩
  have HB : Hid (Below w.heap.size w W1) := by rw [← hW1]; exact (Below.refl _ _).alloc (Nat.le_refl _) _
  have K0 : Blk W1 w.heap.size (cdA c) 25 := by rw [← hW1]; exact Blk.new _ _ _
  have x0 := K0.cell 0
  have x1 := K0.cell 1
  simp at x0 x1
  clear K0
  by_cases h1 : -32767 ≤ c.1 ∧ c.1 ≤ 32767
  · have d1 : decide (-32767 ≤ c.1 ∧ c.1 ≤ 32767) = true := by simp only [decide_eq_true_eq]; exact h1
    have HE : Hid (decide (COk c) = decide (0 ≤ c.2 ∧ c.2 ≤ 48)) := by show _ = _; rw [decide_eq_decide]; exact ⟨fun h => h.2, fun h => ⟨h1, h⟩⟩
    clear h1
    go_enter Tryd.func57, Tryd.ntmps57
    go_wp2_with (fail)
    refine (within_c c.1 (-32767) 32767 W1).mono ?_
    rintro e w1 ⟨rfl, hw⟩
    rw [hw, d1]
    clear hw w1 d1
    go_wp2_with (fail)
    refine (within_c c.2 0 48 W1).mono ?_
    rintro e w1 ⟨rfl, hw⟩
    rw [hw]
    clear hw w1
    go_wp2
    go_ret
    exact ⟨by rw [HE.out, Bool.decide_and]; rfl, HB.out⟩
  · have d1 : decide (-32767 ≤ c.1 ∧ c.1 ≤ 32767) = false := by simp only [decide_eq_false_iff_not]; exact h1
    have HE : Hid (decide (COk c) = false) := by show _ = _; rw [decide_eq_false_iff_not]; exact fun h => h1 h.1
    clear h1
    go_enter Tryd.func57, Tryd.ntmps57
    go_wp2_with (fail)
    refine (within_c c.1 (-32767) 32767 W1).mono ?_
    rintro e w1 ⟨rfl, hw⟩
    rw [hw, d1]
    clear hw w1 d1
    go_wp2
    go_ret
    exact ⟨by rw [HE.out]; rfl, HB.out⟩
set_option maxHeartbeats 1600000 in
theorem cdM_c (c : Int × Int) (w : World) : Calls Tryd.prog 61 #[.agg (cdA c)] w fun e w' => e = .returned (.bool (decide (COk c))) ∧ Below w.heap.size w w' := by
  obtain ⟨W1, hW1⟩ : ∃ W, w.alloc (Obj.cells (cdA c) 25) = W := ⟨_, rfl⟩
  have HB : Hid (Below w.heap.size w W1) := by rw [← hW1]; exact (Below.refl _ _).alloc (Nat.le_refl _) _
  have K0 : Blk W1 w.heap.size (cdA c) 25 := by rw [← hW1]; exact Blk.new _ _ _
  have x0 := K0.cell 0
  have x1 := K0.cell 1
  simp at x0 x1
  clear K0
  by_cases h1 : -32767 ≤ c.1 ∧ c.1 ≤ 32767
  · have d1 : decide (-32767 ≤ c.1 ∧ c.1 ≤ 32767) = true := by simp only [decide_eq_true_eq]; exact h1
    have HE : Hid (decide (COk c) = decide (0 ≤ c.2 ∧ c.2 ≤ 48)) := by show _ = _; rw [decide_eq_decide]; exact ⟨fun h => h.2, fun h => ⟨h1, h⟩⟩
    clear h1
    go_enter Tryd.func61, Tryd.ntmps61
    go_wp2_with (fail)
    refine (level_c c.1 W1).mono ?_
    rintro e w1 ⟨rfl, hw⟩
    rw [hw, d1]
    clear hw w1 d1
    go_wp2_with (fail)
    refine (in_c c.2 0 48 W1).mono ?_
    rintro e w1 ⟨rfl, hw⟩
    rw [hw]
    clear hw w1
    go_wp2
    go_ret
    exact ⟨by rw [HE.out, Bool.decide_and]; rfl, HB.out⟩
  · have d1 : decide (-32767 ≤ c.1 ∧ c.1 ≤ 32767) = false := by simp only [decide_eq_false_iff_not]; exact h1
    have HE : Hid (decide (COk c) = false) := by show _ = _; rw [decide_eq_false_iff_not]; exact fun h => h1 h.1
    clear h1
    go_enter Tryd.func61, Tryd.ntmps61
    go_wp2_with (fail)
    refine (level_c c.1 W1).mono ?_
    rintro e w1 ⟨rfl, hw⟩
    rw [hw, d1]
    clear hw w1 d1
    go_wp2
    go_ret
    exact ⟨by rw [HE.out]; rfl, HB.out⟩

/-- numbers of four bits, not too many -/
def FrP (ns : List Int) : Prop := ns.length ≤ 300 ∧ ∀ n ∈ ns, 0 ≤ n ∧ n ≤ 15
set_option maxHeartbeats 1600000 in
theorem fours_c (v : Value) (zs : List Int) (w : World) (h : Rd .i64 w v zs) : Calls Tryd.prog 66 #[v] w fun e w' => ∃ r, e = .returned (.bool r) ∧ (r = true ↔ FrP zs) ∧ Below w.heap.size w w' := by
  obtain ⟨a, cap, rfl, h1, h2, h3⟩ := h
  unfold maxLen at h2
  by_cases hl : (300 : Int) < (zs.length : Int)
  · have HF : Hid (¬ FrP zs) := fun h => by have := h.1; omega
    clear h3
    go_enter Tryd.func66, Tryd.ntmps66
    go_wp2
    go_ret
    exact ⟨_, rfl, ⟨fun h => (by cases h), fun h => absurd h HF.out⟩, Below.refl _ _⟩
  have dl : decide ((300 : Int) < (zs.length : Int)) = false := by simp; omega
  have HL : Hid (zs.length ≤ 300) := by show _ ≤ _; omega
  clear hl
  go_enter Tryd.func66, Tryd.ntmps66
  go_wp2
  go_loopw [10] (fun i wr => ∃ j : Nat, j ≤ zs.length ∧ i = .int .i64 j ∧ Hid (∀ t (ht : t < j) (h : t < zs.length), 0 ≤ zs[t] ∧ zs[t] ≤ 15) ∧ Hid (Below w.heap.size w wr)) (fun i _ => zs.length - (intOf i).toNat)
  case atStart => exact ⟨0, Nat.zero_le _, rfl, fun t ht => by omega, Below.refl _ _⟩
  case round =>
    obtain ⟨j, hj, rfl, hA, hbr⟩ := hrel
    by_cases hlt : j < zs.length
    case neg =>
      obtain rfl : j = zs.length := by omega
      have HN : Hid (FrP zs) := ⟨HL.out, fun n hn => by obtain ⟨t, ht, rfl⟩ := List.getElem_of_mem hn; exact hA.out t ht ht⟩
      clear h3
      go_wp2
      go_ret
      exact ⟨_, rfl, ⟨fun _ => HN.out, fun _ => rfl⟩, hbr.out⟩
    case pos =>
    rcases h3 with h3 | ⟨b, off, rfl, h4⟩
    · subst h3; simp at hlt
    obtain ⟨z, hz⟩ : ∃ z, zs[j] = z := ⟨_, rfl⟩
    have HZ : Hid (zs[j] = z) := hz
    have hc : wr.cell? ⟨b, off + j, none⟩ = some (.int .i64 z) := by
      have := h4 j hlt
      rw [hbr.out.cell (block_lt_of_cell this), this]
      simp [List.getElem?_eq_getElem hlt, hz]
    have hi : (0 : Int) ≤ (j : Int) := by omega
    have hi2 : (j : Int) < (zs.length : Int) := by omega
    clear h4 hz
    go_wp2_with (fail)
    refine (within_c _ _ _ _).mono ?_
    rintro e w1 ⟨rfl, hw⟩
    rw [hw]
    clear hw w1
    by_cases c1 : 0 ≤ z ∧ z ≤ 15
    · have HN : Hid (∀ t (ht : t < j + 1) (h : t < zs.length), 0 ≤ zs[t] ∧ zs[t] ≤ 15) := fun t ht h => by
        by_cases e : t = j
        · subst e; rw [HZ.out]; exact c1
        · exact hA.out t (by omega) h
      have d : decide (0 ≤ z ∧ z ≤ 15) = true := by simp only [decide_eq_true_eq]; exact c1
      rw [d]
      clear c1 d
      go_wp2
      go_roundw
      case rel => exact ⟨j + 1, by omega, by go_num, HN.out, hbr.out⟩
      case measure => simp [intOf]; omega
    · have d : decide (0 ≤ z ∧ z ≤ 15) = false := by simp only [decide_eq_false_iff_not]; exact c1
      have HF : Hid (¬ FrP zs) := fun h => c1 (by have := h.2 _ (List.getElem_mem hlt); rw [HZ.out] at this; exact this)
      rw [d]
      clear c1 d
      go_wp2
      go_ret
      exact ⟨_, rfl, ⟨fun h => (by cases h), fun h => absurd h HF.out⟩, hbr.out⟩
theorem absM_c (x : Int) (h0 : -100000 ≤ x) (h1 : x ≤ 100000) (w : World) : Calls Tryd.prog 63 #[.int .i64 x] w fun e w' => e = .returned (.int .i64 (abI x)) ∧ w' = w := by
  by_cases h : x < 0
  · have HA : Hid (abI x = -x) := by show _ = _; unfold abI; rw [if_pos h]
    go_enter Tryd.func63, Tryd.ntmps63
    go_wp2
    go_ret
    exact ⟨by rw [HA.out]; rfl, rfl⟩
  · have HA : Hid (abI x = x) := by show _ = _; unfold abI; rw [if_neg h]
    have d : decide (x < 0) = false := by simp; omega
    clear h
    go_enter Tryd.func63, Tryd.ntmps63
    go_wp2
    go_ret
    exact ⟨by rw [HA.out]; rfl, rfl⟩
set_option maxHeartbeats 1600000 in
theorem sqI_c (c : Int × Int) (hc : COk c) (x : Int) (hx : -32767 ≤ x ∧ x ≤ 32767) (w : World) : Calls Tryd.prog 59 #[.agg (cdA c), .int .i64 x] w fun e w' => e = .returned (.int .i64 (sqN c x)) ∧ Below w.heap.size w w' := by
  obtain ⟨W1, hW1⟩ : ∃ W, w.alloc (Obj.cells (cdA c) 25) = W := ⟨_, rfl⟩
  have HB : Hid (Below w.heap.size w W1) := by rw [← hW1]; exact (Below.refl _ _).alloc (Nat.le_refl _) _
  have K0 : Blk W1 w.heap.size (cdA c) 25 := by rw [← hW1]; exact Blk.new _ _ _
  have x0 := K0.cell 0
  have x1 := K0.cell 1
  simp at x0 x1
  obtain ⟨s, hs⟩ : ∃ s, ssF c.2 = s := ⟨_, rfl⟩
  have hsb := ssF_bd hc.2
  rw [hs] at hsb
  obtain ⟨s7, s2⟩ := hsb
  have HSZ : Hid (ssF c.2 = s) := hs
  have HCO : Hid (COk c) := hc
  obtain ⟨⟨c0, c1⟩, c2, c3⟩ := hc
  obtain ⟨x2, x3⟩ := hx
  have HQ : Hid (sqN c x = (if x - c.1 < 0 then 8 else 0) + (if 7 < 4 * abI (x - c.1) / s then 7 else 4 * abI (x - c.1) / s)) := by show _ = _; unfold sqN; rw [hs]
  clear K0 hs
  by_cases h : x - c.1 < 0
  · have HA : abI (x - c.1) = -(x - c.1) := by unfold abI; rw [if_pos h]
    rw [HA, if_pos h] at HQ
    clear HA
    obtain ⟨y, hy⟩ : ∃ y, 4 * -(x - c.1) / s = y := ⟨_, rfl⟩
    have hy0 : 0 ≤ y := by rw [← hy]; exact Int.ediv_nonneg (by omega) (by omega)
    have hy1 : y ≤ 300000 := by rw [← hy]; exact Int.le_trans (Int.ediv_le_self _ (by omega)) (by omega)
    have HY : Hid (4 * -(x - c.1) / s = y) := hy
    rw [hy] at HQ
    clear hy
    go_enter Tryd.func59, Tryd.ntmps59
    go_wp2_with (fail)
    refine (sizeF_c _ HCO.out.2 W1).mono ?_
    rintro e w1 ⟨rfl, hw⟩
    rw [hw, HSZ.out]
    clear hw w1
    have sne : ¬ s = 0 := by omega
    go_wp2_with (first | rw [HY.out])
    all_goals
      go_ret
      refine ⟨?_, HB.out⟩
      rw [HQ.out]
      first
        | (rw [if_pos (by assumption)]; rfl)
        | (rw [if_neg (by omega)]; rfl)
  · have HA : abI (x - c.1) = x - c.1 := by unfold abI; rw [if_neg h]
    rw [HA, if_neg h] at HQ
    clear HA
    have hd : decide (x - c.1 < 0) = false := by simp only [decide_eq_false_iff_not]; exact h
    obtain ⟨y, hy⟩ : ∃ y, 4 * (x - c.1) / s = y := ⟨_, rfl⟩
    have hy0 : 0 ≤ y := by rw [← hy]; exact Int.ediv_nonneg (by omega) (by omega)
    have hy1 : y ≤ 300000 := by rw [← hy]; exact Int.le_trans (Int.ediv_le_self _ (by omega)) (by omega)
    have HY : Hid (4 * (x - c.1) / s = y) := hy
    rw [hy, Int.zero_add] at HQ
    have hge : 0 ≤ x - c.1 := by omega
    clear hy h
    go_enter Tryd.func59, Tryd.ntmps59
    go_wp2_with (fail)
    refine (sizeF_c _ HCO.out.2 W1).mono ?_
    rintro e w1 ⟨rfl, hw⟩
    rw [hw, HSZ.out]
    clear hw w1
    have sne : ¬ s = 0 := by omega
    go_wp2_with (first | rw [HY.out])
    all_goals
      go_ret
      refine ⟨?_, HB.out⟩
      rw [HQ.out]
      first
        | (rw [if_pos (by assumption)]; rfl)
        | (rw [if_neg (by omega)]; rfl)

end Go.Proofs.YtkjfcebdjnclaaaDoor

/- Levels, and numbers between two; no condition. -/
import Derived.Test.YtgdejlofkjdkoaaDoorPow
import Derived.Test.YtgdejlofkjdkoaaDoorIvs
namespace Go.Proofs.YtgdejlofkjdkoaaDoor
open Go.RowKit Go.ChangeShapes Go.WideShapes Go.ChangeAt
set_option linter.unusedVariables false
set_option linter.unusedSimpArgs false
set_option maxRecDepth 8000
theorem in_c (n l m : Int) (w : World) : Calls Tryd.prog 45 #[.int .i64 n, .int .i64 l, .int .i64 m] w fun e w' => e = .returned (.bool (decide (l ≤ n ∧ n ≤ m))) ∧ w' = w := by
  by_cases h1 : l ≤ n
  · by_cases h2 : n ≤ m
    · go_enter Tryd.func45, Tryd.ntmps45
      go_wp2
      go_ret
      exact ⟨by simp [h1, h2], rfl⟩
    · go_enter Tryd.func45, Tryd.ntmps45
      go_wp2
      go_ret
      exact ⟨by simp [h1, h2], rfl⟩
  · go_enter Tryd.func45, Tryd.ntmps45
    go_wp2
    go_ret
    exact ⟨by simp; omega, rfl⟩
theorem within_c (n l m : Int) (w : World) : Calls Tryd.prog 23 #[.int .i64 n, .int .i64 l, .int .i64 m] w fun e w' => e = .returned (.bool (decide (l ≤ n ∧ n ≤ m))) ∧ w' = w := by
  by_cases h1 : l ≤ n
  · by_cases h2 : n ≤ m
    · go_enter Tryd.func23, Tryd.ntmps23
      go_wp2
      go_ret
      exact ⟨by simp [h1, h2], rfl⟩
    · go_enter Tryd.func23, Tryd.ntmps23
      go_wp2
      go_ret
      exact ⟨by simp [h1, h2], rfl⟩
  · go_enter Tryd.func23, Tryd.ntmps23
    go_wp2
    go_ret
    exact ⟨by simp; omega, rfl⟩
theorem level_c (x : Int) (w : World) : Calls Tryd.prog 53 #[.int .i64 x] w fun e w' => e = .returned (.bool (decide (-32767 ≤ x ∧ x ≤ 32767))) ∧ w' = w := by
  go_enter Tryd.func53, Tryd.ntmps53
  go_wp2_with (fail)
  refine (in_c _ _ _ _).mono ?_
  rintro e w1 ⟨rfl, rfl⟩
  go_wp2
  go_ret
  exact ⟨by simp, rfl⟩
/-- all of them are levels -/
def lvB (zs : List Int) : Bool := zs.all (fun z => decide (-32767 ≤ z ∧ z ≤ 32767))
theorem lvB_at {zs : List Int} (h : ∀ t (ht : t < zs.length), -32767 ≤ zs[t] ∧ zs[t] ≤ 32767) : lvB zs = true := by
  unfold lvB; rw [List.all_eq_true]; intro z hz; obtain ⟨t, ht, rfl⟩ := List.getElem_of_mem hz; simpa using h t ht
theorem lvB_no {zs : List Int} (t : Nat) (ht : t < zs.length) (h : ¬ (-32767 ≤ zs[t] ∧ zs[t] ≤ 32767)) : lvB zs = false := by
  cases hq : lvB zs with
  | false => rfl
  | true => unfold lvB at hq; rw [List.all_eq_true] at hq; have := hq _ (List.getElem_mem ht); simp at this; omega
set_option maxHeartbeats 1600000 in
theorem levels_c (v : Value) (zs : List Int) (w : World) (h : Rd .i64 w v zs) : Calls Tryd.prog 27 #[v] w fun e w' => e = .returned (.bool (lvB zs)) ∧ Below w.heap.size w w' := by
  obtain ⟨a, cap, rfl, h1, h2, h3⟩ := h
  unfold maxLen at h2
  go_enter Tryd.func27, Tryd.ntmps27
  go_wp2
  go_loopw [7] (fun i wr => ∃ j : Nat, j ≤ zs.length ∧ i = .int .i64 j ∧ Hid (∀ t (ht : t < j) (h : t < zs.length), -32767 ≤ zs[t] ∧ zs[t] ≤ 32767) ∧ Hid (Below w.heap.size w wr)) (fun i _ => zs.length - (intOf i).toNat)
  case atStart => exact ⟨0, Nat.zero_le _, rfl, fun t ht => by omega, Below.refl _ _⟩
  case round =>
    obtain ⟨j, hj, rfl, hA, hbr⟩ := hrel
    by_cases hlt : j < zs.length
    case neg =>
      obtain rfl : j = zs.length := by omega
      have HN : Hid (lvB zs = true) := lvB_at (fun t ht => hA.out t ht ht)
      clear h3
      go_wp2
      go_ret
      exact ⟨by rw [HN.out]; rfl, hbr.out⟩
    case pos =>
    rcases h3 with h3 | ⟨b, off, rfl, h4⟩
    · subst h3; simp at hlt
    obtain ⟨z, hz⟩ : ∃ z, zs[j] = z := ⟨_, rfl⟩
    have HZ : Hid (zs[j] = z) := hz
    have hc : wr.cell? ⟨b, off + j, none⟩ = some (.int .i64 z) := by
      have := h4 j hlt
      rw [hbr.out.cell (block_lt_of_cell this), this]
      simp [List.getElem?_eq_getElem hlt, hz]
    have hi : (0 : Int) ≤ (j : Int) := by omega
    have hi2 : (j : Int) < (zs.length : Int) := by omega
    clear h4 hz
    by_cases c1 : z < -32767
    · have c1d : decide (z < -32767) = true := by simp; omega
      have HN : Hid (lvB zs = false) := lvB_no j hlt (by rw [HZ.out]; omega)
      go_wp2
      go_ret
      exact ⟨by rw [HN.out]; rfl, hbr.out⟩
    · have c1d : decide (z < -32767) = false := by simp; omega
      by_cases c2 : 32767 < z
      · have c2d : decide (32767 < z) = true := by simp; omega
        have HN : Hid (lvB zs = false) := lvB_no j hlt (by rw [HZ.out]; omega)
        clear c1
        go_wp2
        go_ret
        exact ⟨by rw [HN.out]; rfl, hbr.out⟩
      · have c2d : decide (32767 < z) = false := by simp; omega
        have HN : Hid (∀ t (ht : t < j + 1) (h : t < zs.length), -32767 ≤ zs[t] ∧ zs[t] ≤ 32767) := fun t ht h => by
          by_cases e : t = j
          · subst e; rw [HZ.out]; omega
          · exact hA.out t (by omega) h
        clear c1 c2
        go_wp2
        go_roundw
        case rel => exact ⟨j + 1, by omega, by go_num, HN.out, hbr.out⟩
        case measure => simp [intOf]; omega
set_option maxHeartbeats 1600000 in
theorem levelsM_c (v : Value) (zs : List Int) (mo : Nat) (hmo : mo ≤ 100000) (w : World) (h : Rd .i64 w v zs) : Calls Tryd.prog 38 #[v, .int .i64 mo] w fun e w' => e = .returned (.bool (decide (zs.length ≤ mo) && lvB zs)) ∧ Below w.heap.size w w' := by
  obtain ⟨a, cap, rfl, h1, h2, h3⟩ := h
  unfold maxLen at h2
  go_enter Tryd.func38, Tryd.ntmps38
  go_wp2
  go_loopw [5] (fun i wr => ∃ j : Nat, j ≤ zs.length ∧ i = .int .i64 j ∧ Hid (∀ t (ht : t < j) (h : t < zs.length), -32767 ≤ zs[t] ∧ zs[t] ≤ 32767) ∧ Hid (Below w.heap.size w wr)) (fun i _ => zs.length - (intOf i).toNat)
  case atStart => exact ⟨0, Nat.zero_le _, rfl, fun t ht => by omega, Below.refl _ _⟩
  case round =>
    obtain ⟨j, hj, rfl, hA, hbr⟩ := hrel
    by_cases hlt : j < zs.length
    case neg =>
      obtain rfl : j = zs.length := by omega
      have HN : Hid (lvB zs = true) := lvB_at (fun t ht => hA.out t ht ht)
      have HE : Hid (decide (zs.length ≤ mo) = decide ((zs.length : Int) ≤ (mo : Int))) := by show _ = _; rw [decide_eq_decide]; omega
      clear h3
      go_wp2
      go_ret
      exact ⟨by rw [HN.out, HE.out, Bool.and_true]; rfl, hbr.out⟩
    case pos =>
    rcases h3 with h3 | ⟨b, off, rfl, h4⟩
    · subst h3; simp at hlt
    obtain ⟨z, hz⟩ : ∃ z, zs[j] = z := ⟨_, rfl⟩
    have HZ : Hid (zs[j] = z) := hz
    have hc : wr.cell? ⟨b, off + j, none⟩ = some (.int .i64 z) := by
      have := h4 j hlt
      rw [hbr.out.cell (block_lt_of_cell this), this]
      simp [List.getElem?_eq_getElem hlt, hz]
    have hi : (0 : Int) ≤ (j : Int) := by omega
    have hi2 : (j : Int) < (zs.length : Int) := by omega
    clear h4 hz
    go_wp2_with (fail)
    refine (level_c _ _).mono ?_
    rintro e w1 ⟨rfl, hw1⟩
    rw [hw1]
    clear hw1
    by_cases c1 : -32767 ≤ z ∧ z ≤ 32767
    · have HN : Hid (∀ t (ht : t < j + 1) (h : t < zs.length), -32767 ≤ zs[t] ∧ zs[t] ≤ 32767) := fun t ht h => by
          by_cases e : t = j
          · subst e; rw [HZ.out]; omega
          · exact hA.out t (by omega) h
      have c1d : decide (-32767 ≤ z ∧ z ≤ 32767) = true := by simp; omega
      rw [c1d]
      clear c1
      go_wp2
      go_roundw
      case rel => exact ⟨j + 1, by omega, by go_num, HN.out, hbr.out⟩
      case measure => simp [intOf]; omega
    · have c1d : decide (-32767 ≤ z ∧ z ≤ 32767) = false := by simp; omega
      have HN : Hid (lvB zs = false) := lvB_no j hlt (by rw [HZ.out]; omega)
      rw [c1d]
      clear c1
      go_wp2
      go_ret
      exact ⟨by rw [HN.out, Bool.and_false]; rfl, hbr.out⟩

theorem lvB_P {zs : List Int} (h : lvB zs = true) : lvP zs := fun j hj => by
  unfold lvB at h
  rw [List.all_eq_true] at h
  have := h _ (List.getElem_mem hj)
  simp at this
  simpa [List.getElem?_eq_getElem hj] using this

end Go.Proofs.YtgdejlofkjdkoaaDoor

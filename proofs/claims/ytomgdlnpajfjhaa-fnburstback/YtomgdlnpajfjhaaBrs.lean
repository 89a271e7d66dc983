/- What Burst tells; no condition. -/
import Derived.Test.YtomgdlnpajfjhaaIvs
import Derived.Test.YtomgdlnpajfjhaaReg5
import Derived.Test.YtomgdlnpajfjhaaMai
namespace Go.Proofs.Ytomgdlnpajfjhaa
open Go.RowKit Go.ChangeShapes Go.WideShapes Go.ChangeAt
set_option linter.unusedVariables false
set_option linter.unusedSimpArgs false
set_option maxRecDepth 8000

/-- are they bits? -/
def bsB (zs : List Int) : Bool := zs.all fun z => decide (0 ≤ z ∧ z ≤ 1)
theorem bsB_at {zs : List Int} (h : bsB zs = true) (k : Nat) (hk : k < zs.length) : 0 ≤ zs.getD k 0 ∧ zs.getD k 0 ≤ 1 := by
  unfold bsB at h
  rw [List.all_eq_true] at h
  have := h _ (List.getElem_mem hk)
  rw [decide_eq_true_eq] at this
  rw [List.getD_eq_getElem?_getD, List.getElem?_eq_getElem hk, Option.getD_some]; exact this
theorem bsB_no {zs : List Int} (k : Nat) (hk : k < zs.length) (h : ¬ (0 ≤ zs.getD k 0 ∧ zs.getD k 0 ≤ 1)) : bsB zs = false := by
  cases e : bsB zs with
  | false => rfl
  | true => exact absurd (bsB_at e k hk) h
theorem bsB_all {zs : List Int} (h : ∀ k, k < zs.length → 0 ≤ zs.getD k 0 ∧ zs.getD k 0 ≤ 1) : bsB zs = true := by
  unfold bsB
  rw [List.all_eq_true]
  intro z hz
  obtain ⟨k, hk, rfl⟩ := List.getElem_of_mem hz
  have := h k hk
  rw [List.getD_eq_getElem?_getD, List.getElem?_eq_getElem hk, Option.getD_some] at this
  rw [decide_eq_true_eq]; exact this
set_option maxHeartbeats 1600000 in
theorem areBits_c (v : Value) (zs : List Int) (w : World) (h : Rd .i64 w v zs) : Calls Try.prog 47 #[v] w fun e w' => e = .returned (.bool (bsB zs)) ∧ Below w.heap.size w w' := by
  obtain ⟨a, cap, rfl, h1, h2, h3⟩ := h
  unfold maxLen at h2
  go_enter Try.func47, Try.ntmps47
  go_wp2
  go_loopw [7] (fun i wr => ∃ j : Nat, j ≤ zs.length ∧ i = .int .i64 j ∧ Hid (∀ t, t < j → 0 ≤ zs.getD t 0 ∧ zs.getD t 0 ≤ 1) ∧ Hid (Below w.heap.size w wr)) (fun i _ => zs.length - (intOf i).toNat)
  case atStart => exact ⟨0, Nat.zero_le _, rfl, fun t ht => by omega, Below.refl _ _⟩
  case round =>
    obtain ⟨j, hj, rfl, hA, hbr⟩ := hrel
    by_cases hlt : j < zs.length
    case neg =>
      obtain rfl : j = zs.length := by omega
      have HN : Hid (bsB zs = true) := bsB_all hA.out
      clear h3
      go_wp2
      go_ret
      exact ⟨by rw [HN.out]; rfl, hbr.out⟩
    case pos =>
    rcases h3 with h3 | ⟨b, off, rfl, h4⟩
    · subst h3; simp at hlt
    obtain ⟨z, hz⟩ : ∃ z, zs.getD j 0 = z := ⟨_, rfl⟩
    have HZ : Hid (zs.getD j 0 = z) := hz
    have hc : wr.cell? ⟨b, off + j, none⟩ = some (.int .i64 z) := by
      have := h4 j hlt
      rw [hbr.out.cell (block_lt_of_cell this), this, hz]
    have hi : (0 : Int) ≤ (j : Int) := by omega
    have hi2 : (j : Int) < (zs.length : Int) := by omega
    clear h4 hz
    by_cases c1 : 0 ≤ z ∧ z ≤ 1
    · have HN : Hid (∀ t, t < j + 1 → 0 ≤ zs.getD t 0 ∧ zs.getD t 0 ≤ 1) := fun t ht => by
          by_cases e : t = j
          · subst e; rw [HZ.out]; omega
          · exact hA.out t (by omega)
      rcases (show z = 0 ∨ z = 1 by omega) with e | e
      · have e0 : (z != 0) = false := by simp [e]
        clear c1 e
        go_wp2
        go_roundw
        case rel => exact ⟨j + 1, by omega, by go_num, HN.out, hbr.out⟩
        case measure => simp [intOf]; omega
      · have e0 : (z != 0) = true := by simp [e]
        have e1 : (z != 1) = false := by simp [e]
        clear c1 e
        go_wp2
        go_roundw
        case rel => exact ⟨j + 1, by omega, by go_num, HN.out, hbr.out⟩
        case measure => simp [intOf]; omega
    · have e0 : (z != 0) = true := by rw [bne_iff_ne]; omega
      have e1 : (z != 1) = true := by rw [bne_iff_ne]; omega
      have HN : Hid (bsB zs = false) := bsB_no j hlt (by rw [HZ.out]; omega)
      clear c1
      go_wp2
      go_ret
      exact ⟨by rw [HN.out]; rfl, hbr.out⟩
set_option maxHeartbeats 1600000 in
theorem l1Bits_c (v : Value) (zs : List Int) (w : World) (h : Rd .i64 w v zs) : Calls Try.prog 42 #[v, .int .i64 320] w fun e w' => e = .returned (.bool (bsB zs && decide ((zs.length : Int) ≤ 320))) ∧ Below w.heap.size w w' := by
  obtain ⟨a, cap, rfl, h1, h2, h3⟩ := h
  unfold maxLen at h2
  go_enter Try.func42, Try.ntmps42
  go_wp2
  go_loopw [5] (fun i wr => ∃ j : Nat, j ≤ zs.length ∧ i = .int .i64 j ∧ Hid (∀ t, t < j → 0 ≤ zs.getD t 0 ∧ zs.getD t 0 ≤ 1) ∧ Hid (Below w.heap.size w wr)) (fun i _ => zs.length - (intOf i).toNat)
  case atStart => exact ⟨0, Nat.zero_le _, rfl, fun t ht => by omega, Below.refl _ _⟩
  case round =>
    obtain ⟨j, hj, rfl, hA, hbr⟩ := hrel
    by_cases hlt : j < zs.length
    case neg =>
      obtain rfl : j = zs.length := by omega
      have HN : Hid (bsB zs = true) := bsB_all hA.out
      clear h3
      go_wp2
      go_ret
      exact ⟨by rw [HN.out, Bool.true_and]; rfl, hbr.out⟩
    case pos =>
    rcases h3 with h3 | ⟨b, off, rfl, h4⟩
    · subst h3; simp at hlt
    obtain ⟨z, hz⟩ : ∃ z, zs.getD j 0 = z := ⟨_, rfl⟩
    have HZ : Hid (zs.getD j 0 = z) := hz
    have hc : wr.cell? ⟨b, off + j, none⟩ = some (.int .i64 z) := by
      have := h4 j hlt
      rw [hbr.out.cell (block_lt_of_cell this), this, hz]
    have hi : (0 : Int) ≤ (j : Int) := by omega
    have hi2 : (j : Int) < (zs.length : Int) := by omega
    clear h4 hz
    go_wp2_with (fail)
    refine (in_c _ _ _ _).mono ?_
    rintro e w1 ⟨rfl, hw1⟩
    rw [hw1]
    clear hw1
    by_cases c1 : 0 ≤ z ∧ z ≤ 1
    · have HN : Hid (∀ t, t < j + 1 → 0 ≤ zs.getD t 0 ∧ zs.getD t 0 ≤ 1) := fun t ht => by
          by_cases e : t = j
          · subst e; rw [HZ.out]; omega
          · exact hA.out t (by omega)
      rw [decide_eq_true c1.1, decide_eq_true c1.2]
      clear c1
      go_wp2
      go_roundw
      case rel => exact ⟨j + 1, by omega, by go_num, HN.out, hbr.out⟩
      case measure => simp [intOf]; omega
    · have c1d : (decide (0 ≤ z) && decide (z ≤ 1)) = false := by
        rw [← Bool.decide_and]; exact decide_eq_false c1
      have HN : Hid (bsB zs = false) := bsB_no j hlt (by rw [HZ.out]; omega)
      rw [c1d]
      clear c1
      go_wp2
      go_ret
      exact ⟨by rw [HN.out, Bool.false_and]; rfl, hbr.out⟩
/-- may they be a burst? -/
def brB (zs : List Int) : Bool := decide (2 ≤ (zs.length : Int)) && decide ((zs.length : Int) ≤ 320) && decide (zs.length % 2 = 0) && bsB zs
/-- the sample of two bits -/
def brP (zs : List Int) (k : Nat) : Nat × Nat := (sgB (zs.getD (2 * k) 0), sgB (zs.getD (2 * k + 1) 0))
def brS (zs : List Int) : List (Nat × Nat) := mkg (brP zs) (zs.length / 2)
def brL (zs : List Int) : List (Nat × Nat) := if brB zs = true then (brS zs).take (zs.length / 2 / 2) ++ (trL ++ (brS zs).drop (zs.length / 2 / 2)) else []
def BrR (zs : List Int) (w : World) (e : Ending) (w' : World) : Prop := ∃ v, e = .returned (.tuple #[v, .bool (brB zs)]) ∧ Og 2 smC 27 w.heap.size w' v (brL zs) ∧ Below w.heap.size w w'
theorem brS_len (zs : List Int) : (brS zs).length = zs.length / 2 := mkg_len _ _
theorem brS_at (zs : List Int) (k : Nat) (h : k < (brS zs).length) : (brS zs)[k] = brP zs k := mkg_at _ _ _ _
theorem brL_no {zs : List Int} (h : brB zs = false) : brL zs = [] := by unfold brL; rw [h]; rfl

end Go.Proofs.Ytomgdlnpajfjhaa

/- Packets that are right, and how unsteady they are; no condition. -/
import Derived.Test.YtlgogikogmndmaaPlo
namespace Go.Proofs.Ytlgogikogmndmaa
open Go.RowKit Go.ChangeShapes Go.WideShapes Go.ChangeAt
set_option linter.unusedVariables false
set_option linter.unusedSimpArgs false
set_option maxRecDepth 8000

/-- packets that are right -/
def PksP (ls : List Pk) : Prop := (1 ≤ ls.length ∧ ls.length ≤ 60) ∧ ∀ k ∈ ls, pkB k = true
def lag (k : Pk) : Int := k.t - 30 * k.s
def kAt (ls : List Pk) (j : Nat) : Pk := ls.getD j zPk
theorem kAt_eq {ls : List Pk} {j : Nat} (h : j < ls.length) : kAt ls j = ls[j] := by simp [kAt, List.getElem?_eq_getElem h]
def loN (ls : List Pk) : Nat → Int
  | 0 => 0
  | j + 1 => if j = 0 ∨ lag (kAt ls j) < loN ls j then lag (kAt ls j) else loN ls j
def hiN (ls : List Pk) : Nat → Int
  | 0 => 0
  | j + 1 => if j = 0 ∨ hiN ls j < lag (kAt ls j) then lag (kAt ls j) else hiN ls j
/-- whether one of the first j has a number -/
def haB (ls : List Pk) (s : Int) : Nat → Bool
  | 0 => false
  | j + 1 => haB ls s j || (kAt ls j).s == s
def twN (ls : List Pk) : Nat → Int
  | 0 => 0
  | j + 1 => if haB ls (kAt ls j).s j then twN ls j + 1 else twN ls j
theorem twN_bd (ls : List Pk) : ∀ j, 0 ≤ twN ls j ∧ twN ls j ≤ j
  | 0 => by simp [twN]
  | j + 1 => by have := twN_bd ls j; unfold twN; split <;> omega
theorem lag_bd {k : Pk} (h : pkB k = true) : -30000000 ≤ lag k ∧ lag k ≤ 1000000000 := by
  have := (pkB_iff k).1 h; unfold lag; omega
theorem loN_bd {ls : List Pk} (h : ∀ k ∈ ls, pkB k = true) : ∀ j, j ≤ ls.length → -30000000 ≤ loN ls j ∧ loN ls j ≤ 1000000000
  | 0, _ => by simp [loN]
  | j + 1, hj => by
    have h1 := loN_bd h j (by omega)
    have h2 := lag_bd (h _ (List.getElem_mem (show j < ls.length by omega)))
    unfold loN; rw [kAt_eq (by omega)]; split <;> omega
theorem hiN_bd {ls : List Pk} (h : ∀ k ∈ ls, pkB k = true) : ∀ j, j ≤ ls.length → -30000000 ≤ hiN ls j ∧ hiN ls j ≤ 1000000000
  | 0, _ => by simp [hiN]
  | j + 1, hj => by
    have h1 := hiN_bd h j (by omega)
    have h2 := lag_bd (h _ (List.getElem_mem (show j < ls.length by omega)))
    unfold hiN; rw [kAt_eq (by omega)]; split <;> omega
/-- what Steady tells -/
def SdR (ls : List Pk) (w : World) (e : Ending) (w' : World) : Prop := ∃ x y : Int, e = .returned (.tuple #[.int .i64 x, .int .i64 y]) ∧ ((PksP ls ∧ x = hiN ls ls.length - loN ls ls.length ∧ y = twN ls ls.length) ∨ (¬ PksP ls ∧ x = -1 ∧ y = -1)) ∧ Below w.heap.size w w'
set_option maxHeartbeats 3200000 in
theorem pksM_c (v : Value) (ls : List Pk) (w : World) (h : Rg 18 pkC w v ls) : Calls Try.prog 42 #[v] w fun e w' => ∃ r, e = .returned (.bool r) ∧ (r = true ↔ PksP ls) ∧ Below w.heap.size w w' := by
  obtain ⟨a, cap, rfl, h1, h2, h3⟩ := h
  unfold maxLen at h2
  go_enter Try.func42, Try.ntmps42
  go_wp2
  go_loopw [3] (fun i wr => ∃ j : Nat, j ≤ ls.length ∧ i = .int .i64 j ∧ Hid (∀ t (ht : t < ls.length), t < j → pkB ls[t] = true) ∧ Hid (Below w.heap.size w wr)) (fun i _ => ls.length - (intOf i).toNat)
  case atStart => exact ⟨0, Nat.zero_le _, rfl, fun t _ h => by omega, Below.refl _ _⟩
  case round =>
    obtain ⟨j, hj, rfl, hA, hbr⟩ := hrel
    by_cases hlt : j < ls.length
    case neg =>
      obtain rfl : j = ls.length := by omega
      have HAL : Hid (∀ k ∈ ls, pkB k = true) := fun k hk => by
        obtain ⟨i, hi, rfl⟩ := List.getElem_of_mem hk
        exact hA.out i hi hi
      clear h3
      go_wp2_with (fail)
      refine (in_c _ _ _ _).mono ?_
      rintro e w1 ⟨rfl, hw⟩
      rw [hw]
      clear hw w1
      have HD : Hid (decide ((1 : Int) ≤ (ls.length : Int) ∧ (ls.length : Int) ≤ 60) = true ↔ PksP ls) := by
        show _ ↔ _
        rw [decide_eq_true_eq]
        constructor
        · intro h; exact ⟨by omega, HAL.out⟩
        · intro h; have := h.1; omega
      obtain ⟨r, hr⟩ : ∃ r, decide ((1 : Int) ≤ (ls.length : Int) ∧ (ls.length : Int) ≤ 60) = r := ⟨_, rfl⟩
      rw [hr] at HD ⊢
      clear hr
      go_wp2
      go_ret
      exact ⟨_, rfl, HD.out, hbr.out⟩
    case pos =>
    rcases h3 with h3 | ⟨b, off, rfl, h4⟩
    · subst h3; simp at hlt
    have hcb : b < w.heap.size := block_lt_of_cell (h4 j hlt 0 _ rfl)
    obtain ⟨k, hk⟩ : ∃ k, ls[j] = k := ⟨_, rfl⟩
    have HR : Hid (wr.rangeAt b (off + j * 18) (pkC k)) := by rw [← hk]; exact rangeAt_below (h4 j hlt) hbr.out hcb
    have HKJ : Hid (ls[j] = k) := hk
    have hi : (0 : Int) ≤ (j : Int) := by omega
    have hi2 : (j : Int) < (ls.length : Int) := by omega
    clear h4 hk
    go_wp2_with (refine ldM rfl _ rfl b (off + j * 18) rfl k HR.out ?_)
    refine (pkM_c k wr).mono ?_
    rintro e w3 ⟨rfl, b3⟩
    have HB3 : Hid (Below w.heap.size w w3) := belowCall hbr.out b3 hbr.out.size
    clear b3 HR
    cases hc1 : pkB k with
    | false =>
      have HF : Hid (¬ PksP ls) := fun h => by have := h.2 _ (List.getElem_mem hlt); rw [HKJ.out, hc1] at this; cases this
      go_wp2
      go_ret
      exact ⟨_, rfl, ⟨fun h => (by cases h), fun h => absurd h HF.out⟩, HB3.out⟩
    | true =>
      have HN : Hid (∀ t (ht : t < ls.length), t < j + 1 → pkB ls[t] = true) := fun t ht h => by
        by_cases e : t < j
        · exact hA.out t ht e
        · obtain rfl : t = j := by omega
          rw [HKJ.out]; exact hc1
      go_wp2
      go_roundw
      case rel => exact ⟨j + 1, by omega, by go_num, HN.out, HB3.out⟩
      case measure => simp [intOf]; omega
set_option maxHeartbeats 3200000 in
theorem pksI_c (v : Value) (ls : List Pk) (w : World) (h : Rg 18 pkC w v ls) : Calls Try.prog 43 #[v] w fun e w' => ∃ r, e = .returned (.bool r) ∧ (r = true ↔ PksP ls) ∧ Below w.heap.size w w' := by
  obtain ⟨a, cap, rfl, h1, h2, h3⟩ := h
  unfold maxLen at h2
  go_enter Try.func43, Try.ntmps43
  go_wp2_with (fail)
  refine (within_c _ _ _ _).mono ?_
  rintro e w1 ⟨rfl, hw⟩
  rw [hw]
  clear hw w1
  by_cases hl : (1 : Int) ≤ (ls.length : Int) ∧ (ls.length : Int) ≤ 60
  case neg =>
    have d : decide ((1 : Int) ≤ (ls.length : Int) ∧ (ls.length : Int) ≤ 60) = false := by simp only [decide_eq_false_iff_not]; exact hl
    have HF : Hid (¬ PksP ls) := fun h => hl (by have := h.1; omega)
    rw [d]
    clear hl d h3
    go_wp2
    go_ret
    exact ⟨_, rfl, ⟨fun h => (by cases h), fun h => absurd h HF.out⟩, Below.refl _ _⟩
  have d : decide ((1 : Int) ≤ (ls.length : Int) ∧ (ls.length : Int) ≤ 60) = true := by simp only [decide_eq_true_eq]; exact hl
  have HLL : Hid (1 ≤ ls.length ∧ ls.length ≤ 60) := by show _ ∧ _; omega
  rw [d]
  clear hl d
  go_wp2
  go_loopw [11] (fun i wr => ∃ j : Nat, j ≤ ls.length ∧ i = .int .i64 j ∧ Hid (∀ t (ht : t < ls.length), t < j → pkB ls[t] = true) ∧ Hid (Below w.heap.size w wr)) (fun i _ => ls.length - (intOf i).toNat)
  case atStart => exact ⟨0, Nat.zero_le _, rfl, fun t _ h => by omega, Below.refl _ _⟩
  case round =>
    obtain ⟨j, hj, rfl, hA, hbr⟩ := hrel
    by_cases hlt : j < ls.length
    case neg =>
      obtain rfl : j = ls.length := by omega
      have HAL : Hid (PksP ls) := ⟨HLL.out, fun k hk => by
        obtain ⟨i, hi, rfl⟩ := List.getElem_of_mem hk
        exact hA.out i hi hi⟩
      clear h3
      go_wp2
      go_ret
      exact ⟨_, rfl, ⟨fun _ => HAL.out, fun _ => rfl⟩, hbr.out⟩
    case pos =>
    rcases h3 with h3 | ⟨b, off, rfl, h4⟩
    · subst h3; simp at hlt
    have hcb : b < w.heap.size := block_lt_of_cell (h4 j hlt 0 _ rfl)
    obtain ⟨k, hk⟩ : ∃ k, ls[j] = k := ⟨_, rfl⟩
    have HR : Hid (wr.rangeAt b (off + j * 18) (pkC k)) := by rw [← hk]; exact rangeAt_below (h4 j hlt) hbr.out hcb
    obtain ⟨W2, hW2⟩ : ∃ W, bxW wr k = W := ⟨_, rfl⟩
    have k2 : Blk W2 wr.heap.size (pkA k) 38 := by rw [← hW2]; exact bxW_blk wr k
    have b2 : Below wr.heap.size wr W2 := by rw [← hW2]; exact bxW_below wr k
    have HZ : Hid (Blk (wr.alloc (Obj.cells #[.int .i64 0, .int .i64 0, .int .u8 0, .int .u8 0, .int .u8 0, .int .u8 0, .int .u8 0, .int .u8 0, .int .u8 0, .int .u8 0, .int .u8 0, .int .u8 0, .int .u8 0, .int .u8 0, .int .u8 0, .int .u8 0, .int .u8 0, .int .u8 0] 38)) wr.heap.size #[.int .i64 0, .int .i64 0, .int .u8 0, .int .u8 0, .int .u8 0, .int .u8 0, .int .u8 0, .int .u8 0, .int .u8 0, .int .u8 0, .int .u8 0, .int .u8 0, .int .u8 0, .int .u8 0, .int .u8 0, .int .u8 0, .int .u8 0, .int .u8 0] 38) := Blk.new _ _ _
    have HW2 : Hid ((wr.alloc (Obj.cells #[.int .i64 0, .int .i64 0, .int .u8 0, .int .u8 0, .int .u8 0, .int .u8 0, .int .u8 0, .int .u8 0, .int .u8 0, .int .u8 0, .int .u8 0, .int .u8 0, .int .u8 0, .int .u8 0, .int .u8 0, .int .u8 0, .int .u8 0, .int .u8 0] 38)).setRow wr.heap.size (pkA k) = W2) := hW2
    have HK3 : Hid (Blk W2 wr.heap.size (pkA k) 38) := k2
    have HB2 : Hid (Below w.heap.size w W2) := belowCall hbr.out b2 hbr.out.size
    have HKJ : Hid (ls[j] = k) := hk
    have hi : (0 : Int) ≤ (j : Int) := by omega
    have hi2 : (j : Int) < (ls.length : Int) := by omega
    clear h4 hk b2 k2 hW2
    go_wp2_with (first | (rw [HW2.out]; refine ldP rfl _ rfl wr.heap.size rfl 38 k HK3.out ?_) | refine ldM rfl _ rfl b (off + j * 18) rfl k HR.out ?_ | refine stP rfl _ _ rfl wr.heap.size rfl k rfl 38 _ HZ.out rfl ?_)
    refine (pkI_c k W2).mono ?_
    rintro e w3 ⟨rfl, b3⟩
    have HB3 : Hid (Below w.heap.size w w3) := belowCall HB2.out b3 HB2.out.size
    clear b3 HR HZ HW2 HK3 HB2
    cases hc1 : pkB k with
    | false =>
      have HF : Hid (¬ PksP ls) := fun h => by have := h.2 _ (List.getElem_mem hlt); rw [HKJ.out, hc1] at this; cases this
      go_wp2
      go_ret
      exact ⟨_, rfl, ⟨fun h => (by cases h), fun h => absurd h HF.out⟩, HB3.out⟩
    | true =>
      have HN : Hid (∀ t (ht : t < ls.length), t < j + 1 → pkB ls[t] = true) := fun t ht h => by
        by_cases e : t < j
        · exact hA.out t ht e
        · obtain rfl : t = j := by omega
          rw [HKJ.out]; exact hc1
      go_wp2
      go_roundw
      case rel => exact ⟨j + 1, by omega, by go_num, HN.out, HB3.out⟩
      case measure => simp [intOf]; omega

end Go.Proofs.Ytlgogikogmndmaa

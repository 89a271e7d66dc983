/- Packets that are right, and how unsteady they are; no condition. -/
import Derived.Test.YtkjfcebdjnclaaaDoorPlo
import Derived.Test.YtkjfcebdjnclaaaDoorPli
namespace Go.Proofs.YtkjfcebdjnclaaaDoor
open Go.RowKit Go.ChangeShapes Go.WideShapes Go.ChangeAt
set_option linter.unusedVariables false
set_option linter.unusedSimpArgs false
set_option maxRecDepth 8000

/-- packets that are right -/
def PksP (ls : List Pk) : Prop := (1 ≤ ls.length ∧ ls.length ≤ 60) ∧ ∀ k ∈ ls, pkB k = true
def lag (k : Pk) : Int := k.t - 30 * k.s
def kAt (ls : List Pk) (j : Nat) : Pk := ls.getD j zPk
theorem kAt_eq {ls : List Pk} {j : Nat} (h : j < ls.length) : kAt ls j = ls[j] := by simp [kAt, List.getElem?_eq_getElem h]
def loN (ls : List Pk) : Nat → Int
  | 0 => 0
  | j + 1 => if j = 0 ∨ lag (kAt ls j) < loN ls j then lag (kAt ls j) else loN ls j
def hiN (ls : List Pk) : Nat → Int
  | 0 => 0
  | j + 1 => if j = 0 ∨ hiN ls j < lag (kAt ls j) then lag (kAt ls j) else hiN ls j
/-- whether one of the first j has a number -/
def haB (ls : List Pk) (s : Int) : Nat → Bool
  | 0 => false
  | j + 1 => haB ls s j || (kAt ls j).s == s
def twN (ls : List Pk) : Nat → Int
  | 0 => 0
  | j + 1 => if haB ls (kAt ls j).s j then twN ls j + 1 else twN ls j
theorem twN_bd (ls : List Pk) : ∀ j, 0 ≤ twN ls j ∧ twN ls j ≤ j
  | 0 => by simp [twN]
  | j + 1 => by have := twN_bd ls j; unfold twN; split <;> omega
theorem lag_bd {k : Pk} (h : pkB k = true) : -30000000 ≤ lag k ∧ lag k ≤ 1000000000 := by
  have := (pkB_iff k).1 h; unfold lag; omega
theorem loN_bd {ls : List Pk} (h : ∀ k ∈ ls, pkB k = true) : ∀ j, j ≤ ls.length → -30000000 ≤ loN ls j ∧ loN ls j ≤ 1000000000
  | 0, _ => by simp [loN]
  | j + 1, hj => by
    have h1 := loN_bd h j (by omega)
    have h2 := lag_bd (h _ (List.getElem_mem (show j < ls.length by omega)))
    unfold loN; rw [kAt_eq (by omega)]; split <;> omega
theorem hiN_bd {ls : List Pk} (h : ∀ k ∈ ls, pkB k = true) : ∀ j, j ≤ ls.length → -30000000 ≤ hiN ls j ∧ hiN ls j ≤ 1000000000
  | 0, _ => by simp [hiN]
  | j + 1, hj => by
    have h1 := hiN_bd h j (by omega)
    have h2 := lag_bd (h _ (List.getElem_mem (show j < ls.length by omega)))
    unfold hiN; rw [kAt_eq (by omega)]; split <;> omega
/-- what Steady tells -/
def SdR (ls : List Pk) (w : World) (e : Ending) (w' : World) : Prop := ∃ x y : Int, e = .returned (.tuple #[.int .i64 x, .int .i64 y]) ∧ ((PksP ls ∧ x = hiN ls ls.length - loN ls ls.length ∧ y = twN ls ls.length) ∨ (¬ PksP ls ∧ x = -1 ∧ y = -1)) ∧ Below w.heap.size w w'
set_option maxHeartbeats 3200000 in
theorem pksM_c (v : Value) (ls : List Pk) (w : World) (h : Rg 18 pkC w v ls) : Calls Tryd.prog 92 #[v] w fun e w' => ∃ r, e = .returned (.bool r) ∧ (r = true ↔ PksP ls) ∧ Below w.heap.size w w' := by
  obtain ⟨a, cap, rfl, h1, h2, h3⟩ := h
  unfold maxLen at h2
  go_enter Tryd.func92, Tryd.ntmps92
  go_wp2
  go_loopw [3] (fun i wr => ∃ j : Nat, j ≤ ls.length ∧ i = .int .i64 j ∧ Hid (∀ t (ht : t < ls.length), t < j → pkB ls[t] = true) ∧ Hid (Below w.heap.size w wr)) (fun i _ => ls.length - (intOf i).toNat)
  case atStart => exact ⟨0, Nat.zero_le _, rfl, fun t _ h => by omega, Below.refl _ _⟩
  case round =>
    obtain ⟨j, hj, rfl, hA, hbr⟩ := hrel
    by_cases hlt : j < ls.length
    case neg =>
      obtain rfl : j = ls.length := by omega
      have HAL : Hid (∀ k ∈ ls, pkB k = true) := fun k hk => by
        obtain ⟨i, hi, rfl⟩ := List.getElem_of_mem hk
        exact hA.out i hi hi
      clear h3
      go_wp2_with (fail)
      refine (in_c _ _ _ _).mono ?_
      rintro e w1 ⟨rfl, hw⟩
      rw [hw]
      clear hw w1
      have HD : Hid (decide ((1 : Int) ≤ (ls.length : Int) ∧ (ls.length : Int) ≤ 60) = true ↔ PksP ls) := by
        show _ ↔ _
        rw [decide_eq_true_eq]
        constructor
        · intro h; exact ⟨by omega, HAL.out⟩
        · intro h; have := h.1; omega
      obtain ⟨r, hr⟩ : ∃ r, decide ((1 : Int) ≤ (ls.length : Int) ∧ (ls.length : Int) ≤ 60) = r := ⟨_, rfl⟩
      rw [hr] at HD ⊢
      clear hr
      go_wp2
      go_ret
      exact ⟨_, rfl, HD.out, hbr.out⟩
    case pos =>
    rcases h3 with h3 | ⟨b, off, rfl, h4⟩
    · subst h3; simp at hlt
    have hcb : b < w.heap.size := block_lt_of_cell (h4 j hlt 0 _ rfl)
    obtain ⟨k, hk⟩ : ∃ k, ls[j] = k := ⟨_, rfl⟩
    have HR : Hid (wr.rangeAt b (off + j * 18) (pkC k)) := by rw [← hk]; exact rangeAt_below (h4 j hlt) hbr.out hcb
    have HKJ : Hid (ls[j] = k) := hk
    have hi : (0 : Int) ≤ (j : Int) := by omega
    have hi2 : (j : Int) < (ls.length : Int) := by omega
    clear h4 hk
    go_wp2_with (refine ldM rfl _ rfl b (off + j * 18) rfl k HR.out ?_)
    refine (pkM_c k wr).mono ?_
    rintro e w3 ⟨rfl, b3⟩
    have HB3 : Hid (Below w.heap.size w w3) := belowCall hbr.out b3 hbr.out.size
    clear b3 HR
    cases hc1 : pkB k with
    | false =>
      have HF : Hid (¬ PksP ls) := fun h => by have := h.2 _ (List.getElem_mem hlt); rw [HKJ.out, hc1] at this; cases this
      go_wp2
      go_ret
      exact ⟨_, rfl, ⟨fun h => (by cases h), fun h => absurd h HF.out⟩, HB3.out⟩
    | true =>
      have HN : Hid (∀ t (ht : t < ls.length), t < j + 1 → pkB ls[t] = true) := fun t ht h => by
        by_cases e : t < j
        · exact hA.out t ht e
        · obtain rfl : t = j := by omega
          rw [HKJ.out]; exact hc1
      go_wp2
      go_roundw
      case rel => exact ⟨j + 1, by omega, by go_num, HN.out, HB3.out⟩
      case measure => simp [intOf]; omega
set_option maxHeartbeats 3200000 in
theorem pksI_c (v : Value) (ls : List Pk) (w : World) (h : Rg 18 pkC w v ls) : Calls Tryd.prog 70 #[v] w fun e w' => ∃ r, e = .returned (.bool r) ∧ (r = true ↔ PksP ls) ∧ Below w.heap.size w w' := by
  obtain ⟨a, cap, rfl, h1, h2, h3⟩ := h
  unfold maxLen at h2
  go_enter Tryd.func70, Tryd.ntmps70
  go_wp2_with (fail)
  refine (within_c _ _ _ _).mono ?_
  rintro e w1 ⟨rfl, hw⟩
  rw [hw]
  clear hw w1
  by_cases hl : (1 : Int) ≤ (ls.length : Int) ∧ (ls.length : Int) ≤ 60
  case neg =>
    have d : decide ((1 : Int) ≤ (ls.length : Int) ∧ (ls.length : Int) ≤ 60) = false := by simp only [decide_eq_false_iff_not]; exact hl
    have HF : Hid (¬ PksP ls) := fun h => hl (by have := h.1; omega)
    rw [d]
    clear hl d h3
    go_wp2
    go_ret
    exact ⟨_, rfl, ⟨fun h => (by cases h), fun h => absurd h HF.out⟩, Below.refl _ _⟩
  have d : decide ((1 : Int) ≤ (ls.length : Int) ∧ (ls.length : Int) ≤ 60) = true := by simp only [decide_eq_true_eq]; exact hl
  have HLL : Hid (1 ≤ ls.length ∧ ls.length ≤ 60) := by show _ ∧ _; omega
  rw [d]
  clear hl d
  go_wp2
  go_loopw [11] (fun i wr => ∃ j : Nat, j ≤ ls.length ∧ i = .int .i64 j ∧ Hid (∀ t (ht : t < ls.length), t < j → pkB ls[t] = true) ∧ Hid (Below w.heap.size w wr)) (fun i _ => ls.length - (intOf i).toNat)
  case atStart => exact ⟨0, Nat.zero_le _, rfl, fun t _ h => by omega, Below.refl _ _⟩
  case round =>
    obtain ⟨j, hj, rfl, hA, hbr⟩ := hrel
    by_cases hlt : j < ls.length
    case neg =>
      obtain rfl : j = ls.length := by omega
      have HAL : Hid (PksP ls) := ⟨HLL.out, fun k hk => by
        obtain ⟨i, hi, rfl⟩ := List.getElem_of_mem hk
        exact hA.out i hi hi⟩
      clear h3
      go_wp2
      go_ret
      exact ⟨_, rfl, ⟨fun _ => HAL.out, fun _ => rfl⟩, hbr.out⟩
    case pos =>
    rcases h3 with h3 | ⟨b, off, rfl, h4⟩
    · subst h3; simp at hlt
    have hcb : b < w.heap.size := block_lt_of_cell (h4 j hlt 0 _ rfl)
    obtain ⟨k, hk⟩ : ∃ k, ls[j] = k := ⟨_, rfl⟩
    have HR : Hid (wr.rangeAt b (off + j * 18) (pkC k)) := by rw [← hk]; exact rangeAt_below (h4 j hlt) hbr.out hcb
    obtain ⟨W2, hW2⟩ : ∃ W, bxW wr k = W := ⟨_, rfl⟩
    have k2 : Blk W2 wr.heap.size (pkA k) 40 := by rw [← hW2]; exact bxW_blk wr k
    have b2 : Below wr.heap.size wr W2 := by rw [← hW2]; exact bxW_below wr k
    have HZ : Hid (Blk (wr.alloc (Obj.cells #[.int .i64 0, .int .i64 0, .int .u8 0, .int .u8 0, .int .u8 0, .int .u8 0, .int .u8 0, .int .u8 0, .int .u8 0, .int .u8 0, .int .u8 0, .int .u8 0, .int .u8 0, .int .u8 0, .int .u8 0, .int .u8 0, .int .u8 0, .int .u8 0] 40)) wr.heap.size #[.int .i64 0, .int .i64 0, .int .u8 0, .int .u8 0, .int .u8 0, .int .u8 0, .int .u8 0, .int .u8 0, .int .u8 0, .int .u8 0, .int .u8 0, .int .u8 0, .int .u8 0, .int .u8 0, .int .u8 0, .int .u8 0, .int .u8 0, .int .u8 0] 40) := Blk.new _ _ _
    have HW2 : Hid ((wr.alloc (Obj.cells #[.int .i64 0, .int .i64 0, .int .u8 0, .int .u8 0, .int .u8 0, .int .u8 0, .int .u8 0, .int .u8 0, .int .u8 0, .int .u8 0, .int .u8 0, .int .u8 0, .int .u8 0, .int .u8 0, .int .u8 0, .int .u8 0, .int .u8 0, .int .u8 0] 40)).setRow wr.heap.size (pkA k) = W2) := hW2
    have HK3 : Hid (Blk W2 wr.heap.size (pkA k) 40) := k2
    have HB2 : Hid (Below w.heap.size w W2) := belowCall hbr.out b2 hbr.out.size
    have HKJ : Hid (ls[j] = k) := hk
    have hi : (0 : Int) ≤ (j : Int) := by omega
    have hi2 : (j : Int) < (ls.length : Int) := by omega
    clear h4 hk b2 k2 hW2
    go_wp2_with (first | (rw [HW2.out]; refine ldP rfl _ rfl wr.heap.size rfl 40 k HK3.out ?_) | refine ldM rfl _ rfl b (off + j * 18) rfl k HR.out ?_ | refine stP rfl _ _ rfl wr.heap.size rfl k rfl 40 _ HZ.out rfl ?_)
    refine (pkI_c k W2).mono ?_
    rintro e w3 ⟨rfl, b3⟩
    have HB3 : Hid (Below w.heap.size w w3) := belowCall HB2.out b3 HB2.out.size
    clear b3 HR HZ HW2 HK3 HB2
    cases hc1 : pkB k with
    | false =>
      have HF : Hid (¬ PksP ls) := fun h => by have := h.2 _ (List.getElem_mem hlt); rw [HKJ.out, hc1] at this; cases this
      go_wp2
      go_ret
      exact ⟨_, rfl, ⟨fun h => (by cases h), fun h => absurd h HF.out⟩, HB3.out⟩
    | true =>
      have HN : Hid (∀ t (ht : t < ls.length), t < j + 1 → pkB ls[t] = true) := fun t ht h => by
        by_cases e : t < j
        · exact hA.out t ht e
        · obtain rfl : t = j := by omega
          rw [HKJ.out]; exact hc1
      go_wp2
      go_roundw
      case rel => exact ⟨j + 1, by omega, by go_num, HN.out, HB3.out⟩
      case measure => simp [intOf]; omega

end Go.Proofs.YtkjfcebdjnclaaaDoor
namespace Go.Proofs.YtkjfcebdjnclaaaDoor
open Go.RowKit Go.ChangeShapes Go.WideShapes Go.ChangeAt
set_option linter.unusedVariables false
set_option linter.unusedSimpArgs false
set_option maxRecDepth 8000
/-- their ticks never fall -/
def TkP (ls : List Pk) : Prop := ∀ i (h : i < ls.length), 0 < i → ls[i - 1].t ≤ ls[i].t
set_option maxHeartbeats 3200000 in
theorem ticks_c (v : Value) (ls : List Pk) (w : World) (h : Rg 18 pkC w v ls) : Calls Tryd.prog 71 #[v] w fun e w' => ∃ r, e = .returned (.bool r) ∧ (r = true ↔ TkP ls) ∧ Below w.heap.size w w' := by
  obtain ⟨a, cap, rfl, h1, h2, h3⟩ := h
  unfold maxLen at h2
  go_enter Tryd.func71, Tryd.ntmps71
  go_wp2
  go_loopw [7] (fun i wr => ∃ j : Nat, j ≤ ls.length ∧ i = .int .i64 j ∧ Hid (∀ t (ht : t < ls.length), t < j → 0 < t → ls[t - 1].t ≤ ls[t].t) ∧ Hid (Below w.heap.size w wr)) (fun i _ => ls.length - (intOf i).toNat)
  case atStart => exact ⟨0, Nat.zero_le _, rfl, fun t _ h => by omega, Below.refl _ _⟩
  case round =>
    obtain ⟨j, hj, rfl, hA, hbr⟩ := hrel
    by_cases hlt : j < ls.length
    case neg =>
      obtain rfl : j = ls.length := by omega
      clear h3
      go_wp2
      go_ret
      exact ⟨_, rfl, ⟨fun _ i hi h0 => hA.out i hi hi h0, fun _ => rfl⟩, hbr.out⟩
    case pos =>
    rcases h3 with h3 | ⟨b, off, rfl, h4⟩
    · subst h3; simp at hlt
    have hcb : b < w.heap.size := block_lt_of_cell (h4 j hlt 0 _ rfl)
    obtain ⟨k, hk⟩ : ∃ k, ls[j] = k := ⟨_, rfl⟩
    have HR : Hid (wr.rangeAt b (off + j * 18) (pkC k)) := by rw [← hk]; exact rangeAt_below (h4 j hlt) hbr.out hcb
    obtain ⟨W2, hW2⟩ : ∃ W, bxW wr k = W := ⟨_, rfl⟩
    have k2 : Blk W2 wr.heap.size (pkA k) 40 := by rw [← hW2]; exact bxW_blk wr k
    have b2 : Below wr.heap.size wr W2 := by rw [← hW2]; exact bxW_below wr k
    have HZ : Hid (Blk (wr.alloc (Obj.cells #[.int .i64 0, .int .i64 0, .int .u8 0, .int .u8 0, .int .u8 0, .int .u8 0, .int .u8 0, .int .u8 0, .int .u8 0, .int .u8 0, .int .u8 0, .int .u8 0, .int .u8 0, .int .u8 0, .int .u8 0, .int .u8 0, .int .u8 0, .int .u8 0] 40)) wr.heap.size #[.int .i64 0, .int .i64 0, .int .u8 0, .int .u8 0, .int .u8 0, .int .u8 0, .int .u8 0, .int .u8 0, .int .u8 0, .int .u8 0, .int .u8 0, .int .u8 0, .int .u8 0, .int .u8 0, .int .u8 0, .int .u8 0, .int .u8 0, .int .u8 0] 40) := Blk.new _ _ _
    have HW2 : Hid ((wr.alloc (Obj.cells #[.int .i64 0, .int .i64 0, .int .u8 0, .int .u8 0, .int .u8 0, .int .u8 0, .int .u8 0, .int .u8 0, .int .u8 0, .int .u8 0, .int .u8 0, .int .u8 0, .int .u8 0, .int .u8 0, .int .u8 0, .int .u8 0, .int .u8 0, .int .u8 0] 40)).setRow wr.heap.size (pkA k) = W2) := hW2
    have y0 : ∀ W : Ov W2, W.wd.cell? ⟨wr.heap.size, 0, none⟩ = some (.int .i64 k.t) := ov_cell (pk_cell0 k2)
    have HE : Hid (∀ W : Ov W2, Below w.heap.size w W.wd) := fun W => belowCall (belowCall hbr.out b2 hbr.out.size) W.ok (Nat.le_trans hbr.out.size b2.size)
    have ne : Nonempty (Ov W2) := ⟨⟨_, Below.refl _ _⟩⟩
    have HPV : Hid (∀ h0 : 0 < j, ∀ W : Ov W2, W.wd.cell? ⟨b, off + (j - 1) * 18, none⟩ = some (.int .i64 ls[j - 1].t)) := fun h0 => ov_cell (by
      have hr := rangeAt_below (h4 (j - 1) (by omega)) hbr.out hcb
      exact ((rg_mid (rangeAt_below hr b2 (Nat.lt_of_lt_of_le hcb hbr.out.size))).1))
    have hi : (0 : Int) ≤ (j : Int) := by omega
    have hi2 : (j : Int) < (ls.length : Int) := by omega
    have HKJ : Hid (ls[j] = k) := hk
    clear h4 hk b2 k2 hW2
    by_cases hj0 : 0 < j
    case neg =>
      have dj : decide ((0 : Int) < (j : Int)) = false := by simp; omega
      have HN : Hid (∀ t (ht : t < ls.length), t < j + 1 → 0 < t → ls[t - 1].t ≤ ls[t].t) := fun t ht h h0 => by
        by_cases e : t < j
        · exact hA.out t ht e h0
        · obtain rfl : t = j := by omega
          omega
      go_wp2_with (first | refine ldM rfl _ rfl b (off + j * 18) rfl k HR.out ?_ | refine stP rfl _ _ rfl wr.heap.size rfl k rfl 40 _ HZ.out rfl ?_)
      rw [HW2.out]
      refine region_over (by kernel_rfl) (by kernel_rfl) ?_
      simp only [Act.put]
      repeat (go_big_quiet_step (fail))
      refine wpQuiet_nil ?_
      rintro _ ⟨W, rfl⟩
      have HEE : Hid (Below w.heap.size w W.wd) := HE.out W
      clear HE HPV HR HZ HW2 y0
      go_wp2
      go_roundw
      case rel => exact ⟨j + 1, by omega, by go_num, HN.out, HEE.out⟩
      case measure => simp [intOf]; omega
    have dj : decide ((0 : Int) < (j : Int)) = true := by simp; omega
    have yp := HPV.out hj0
    obtain ⟨z, hz⟩ : ∃ z, ls[j - 1].t = z := ⟨_, rfl⟩
    have HZP : Hid (ls[j - 1].t = z) := hz
    rw [hz] at yp
    have e1 : ((j - 1 : Nat) : Int) = (j : Int) - 1 := by omega
    have hj1 : (0 : Int) ≤ (j : Int) - 1 := by omega
    have hj2 : (j : Int) - 1 < (ls.length : Int) := by omega
    clear hz
    by_cases hc4 : k.t < z
    case pos =>
      have d4 : decide (k.t < z) = true := by simp only [decide_eq_true_eq]; exact hc4
      have HF : Hid (¬ TkP ls) := fun h => by have := h j hlt hj0; rw [HKJ.out, HZP.out] at this; omega
      clear hc4
      go_wp2_with (first | refine ldM rfl _ rfl b (off + j * 18) rfl k HR.out ?_ | refine stP rfl _ _ rfl wr.heap.size rfl k rfl 40 _ HZ.out rfl ?_)
      rw [HW2.out]
      refine region_over (by kernel_rfl) (by kernel_rfl) ?_
      simp only [Act.put]
      repeat (go_big_quiet_step (fail))
      refine wpQuiet_nil ?_
      rintro _ ⟨W, rfl⟩
      have HEE : Hid (Below w.heap.size w W.wd) := HE.out W
      clear HE HPV HR HZ HW2 y0
      go_wp2
      go_ret
      exact ⟨_, rfl, ⟨fun h => (by cases h), fun h => absurd h HF.out⟩, HEE.out⟩
    have d4 : decide (k.t < z) = false := by simp only [decide_eq_false_iff_not]; exact hc4
    have HN : Hid (∀ t (ht : t < ls.length), t < j + 1 → 0 < t → ls[t - 1].t ≤ ls[t].t) := fun t ht h h0 => by
      by_cases e : t < j
      · exact hA.out t ht e h0
      · obtain rfl : t = j := by omega
        rw [HKJ.out, HZP.out]; omega
    clear hc4
    go_wp2_with (first | refine ldM rfl _ rfl b (off + j * 18) rfl k HR.out ?_ | refine stP rfl _ _ rfl wr.heap.size rfl k rfl 40 _ HZ.out rfl ?_)
    rw [HW2.out]
    refine region_over (by kernel_rfl) (by kernel_rfl) ?_
    simp only [Act.put]
    repeat (go_big_quiet_step (fail))
    refine wpQuiet_nil ?_
    rintro _ ⟨W, rfl⟩
    have HEE : Hid (Below w.heap.size w W.wd) := HE.out W
    clear HE HPV HR HZ HW2 y0
    go_wp2
    go_roundw
    case rel => exact ⟨j + 1, by omega, by go_num, HN.out, HEE.out⟩
    case measure => simp [intOf]; omega

end Go.Proofs.YtkjfcebdjnclaaaDoor

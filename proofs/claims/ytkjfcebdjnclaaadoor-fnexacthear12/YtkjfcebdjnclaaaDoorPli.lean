/- The program on players that are right; no condition. -/
import Derived.Test.YtkjfcebdjnclaaaDoorPlo
namespace Go.Proofs.YtkjfcebdjnclaaaDoor
open Go.RowKit Go.ChangeShapes Go.WideShapes Go.ChangeAt
set_option linter.unusedVariables false
set_option linter.unusedSimpArgs false
set_option maxRecDepth 8000

set_option maxHeartbeats 1600000 in
theorem storeOf_c (p : Pl) (a : Option Addr) (m c : Nat) (w : World) : Calls Tryd.prog 78 #[.agg (plA p (.slice a m c))] w fun e w' => e = .returned (.agg #[.slice a m c, .int .i64 p.n]) ∧ Below w.heap.size w w' := by
  go_enter Tryd.func78, Tryd.ntmps78
  go_wp2
  have h1 : Blk ((w.alloc (Obj.cells (plA p (.slice a m c)) 42)).alloc (Obj.cells #[.slice a m c, .int .i64 p.n] 94)) (w.heap.size + 1) #[.slice a m c, .int .i64 p.n] 94 := Blk.newAt _ _ _ _ (by simp)
  exact bodyPost_ret (v := .agg #[.slice a m c, .int .i64 p.n]) (results_cell_row rfl _ _ _ 94 _ (0, 0) _ rfl h1 Tryd.underlying94 rfl (by kernel_rfl)) rfl ⟨rfl, ((Below.refl _ _).alloc (Nat.le_refl _) _).alloc (by simp) _⟩
set_option maxHeartbeats 1600000 in
theorem reaches_c (v : Value) (n x : Int) (hn : 0 ≤ n ∧ n ≤ 1000000) (w : World) : Calls Tryd.prog 80 #[.agg #[v, .int .i64 n], .int .i64 x] w fun e w' => e = .returned (.bool (decide (n ≤ x ∧ x ≤ n + 12 - 1))) ∧ Below w.heap.size w w' := by
  have h0 := hn.1
  have h1 := hn.2
  have HB : Hid (Below w.heap.size w (w.alloc (Obj.cells #[v, .int .i64 n] 94))) := (Below.refl _ _).alloc (Nat.le_refl _) _
  clear hn
  go_enter Tryd.func80, Tryd.ntmps80
  go_wp2_with (fail)
  refine (within_c _ _ _ _).mono ?_
  rintro e w1 ⟨rfl, hw⟩
  rw [hw]
  clear hw w1
  go_wp2
  go_ret
  exact ⟨by rw [Bool.decide_and]; rfl, HB.out⟩
/-- their numbers rise -/
def AscP (ls : List Pk) : Prop := ∀ i (h : i < ls.length), 0 < i → ls[i - 1].s < ls[i].s
set_option maxHeartbeats 3200000 in
theorem ascends_c (v : Value) (ls : List Pk) (w : World) (h : Rg 18 pkC w v ls) : Calls Tryd.prog 113 #[v] w fun e w' => ∃ r, e = .returned (.bool r) ∧ (r = true ↔ AscP ls) ∧ Below w.heap.size w w' := by
  obtain ⟨a, cap, rfl, h1, h2, h3⟩ := h
  unfold maxLen at h2
  go_enter Tryd.func113, Tryd.ntmps113
  go_wp2
  go_loopw [7] (fun i wr => ∃ j : Nat, j ≤ ls.length ∧ i = .int .i64 j ∧ Hid (∀ t (ht : t < ls.length), t < j → 0 < t → ls[t - 1].s < ls[t].s) ∧ Hid (Below w.heap.size w wr)) (fun i _ => ls.length - (intOf i).toNat)
  case atStart => exact ⟨0, Nat.zero_le _, rfl, fun t _ h => by omega, Below.refl _ _⟩
  case round =>
    obtain ⟨j, hj, rfl, hA, hbr⟩ := hrel
    by_cases hlt : j < ls.length
    case neg =>
      obtain rfl : j = ls.length := by omega
      clear h3
      go_wp2
      go_ret
      exact ⟨_, rfl, ⟨fun _ i hi h0 => hA.out i hi hi h0, fun _ => rfl⟩, hbr.out⟩
    case pos =>
    rcases h3 with h3 | ⟨b, off, rfl, h4⟩
    · subst h3; simp at hlt
    have hcb : b < w.heap.size := block_lt_of_cell (h4 j hlt 0 _ rfl)
    obtain ⟨k, hk⟩ : ∃ k, ls[j] = k := ⟨_, rfl⟩
    have HR : Hid (wr.rangeAt b (off + j * 18) (pkC k)) := by rw [← hk]; exact rangeAt_below (h4 j hlt) hbr.out hcb
    obtain ⟨W2, hW2⟩ : ∃ W, bxW wr k = W := ⟨_, rfl⟩
    have k2 : Blk W2 wr.heap.size (pkA k) 40 := by rw [← hW2]; exact bxW_blk wr k
    have b2 : Below wr.heap.size wr W2 := by rw [← hW2]; exact bxW_below wr k
    have HZ : Hid (Blk (wr.alloc (Obj.cells #[.int .i64 0, .int .i64 0, .int .u8 0, .int .u8 0, .int .u8 0, .int .u8 0, .int .u8 0, .int .u8 0, .int .u8 0, .int .u8 0, .int .u8 0, .int .u8 0, .int .u8 0, .int .u8 0, .int .u8 0, .int .u8 0, .int .u8 0, .int .u8 0] 40)) wr.heap.size #[.int .i64 0, .int .i64 0, .int .u8 0, .int .u8 0, .int .u8 0, .int .u8 0, .int .u8 0, .int .u8 0, .int .u8 0, .int .u8 0, .int .u8 0, .int .u8 0, .int .u8 0, .int .u8 0, .int .u8 0, .int .u8 0, .int .u8 0, .int .u8 0] 40) := Blk.new _ _ _
    have HW2 : Hid ((wr.alloc (Obj.cells #[.int .i64 0, .int .i64 0, .int .u8 0, .int .u8 0, .int .u8 0, .int .u8 0, .int .u8 0, .int .u8 0, .int .u8 0, .int .u8 0, .int .u8 0, .int .u8 0, .int .u8 0, .int .u8 0, .int .u8 0, .int .u8 0, .int .u8 0, .int .u8 0] 40)).setRow wr.heap.size (pkA k) = W2) := hW2
    have y0 : ∀ W : Ov W2, W.wd.cell? ⟨wr.heap.size, 1, none⟩ = some (.int .i64 k.s) := ov_cell (pk_cell1 k2)
    have HE : Hid (∀ W : Ov W2, Below w.heap.size w W.wd) := fun W => belowCall (belowCall hbr.out b2 hbr.out.size) W.ok (Nat.le_trans hbr.out.size b2.size)
    have ne : Nonempty (Ov W2) := ⟨⟨_, Below.refl _ _⟩⟩
    have HPV : Hid (∀ h0 : 0 < j, ∀ W : Ov W2, W.wd.cell? ⟨b, off + (j - 1) * 18 + 1, none⟩ = some (.int .i64 ls[j - 1].s)) := fun h0 => ov_cell (by
      have hr := rangeAt_below (h4 (j - 1) (by omega)) hbr.out hcb
      exact ((rg_mid (rangeAt_below hr b2 (Nat.lt_of_lt_of_le hcb hbr.out.size))).2.1))
    have hi : (0 : Int) ≤ (j : Int) := by omega
    have hi2 : (j : Int) < (ls.length : Int) := by omega
    have HKJ : Hid (ls[j] = k) := hk
    clear h4 hk b2 k2 hW2
    by_cases hj0 : 0 < j
    case neg =>
      have dj : decide ((0 : Int) < (j : Int)) = false := by simp; omega
      have HN : Hid (∀ t (ht : t < ls.length), t < j + 1 → 0 < t → ls[t - 1].s < ls[t].s) := fun t ht h h0 => by
        by_cases e : t < j
        · exact hA.out t ht e h0
        · obtain rfl : t = j := by omega
          omega
      go_wp2_with (first | refine ldM rfl _ rfl b (off + j * 18) rfl k HR.out ?_ | refine stP rfl _ _ rfl wr.heap.size rfl k rfl 40 _ HZ.out rfl ?_)
      rw [HW2.out]
      refine region_over (by kernel_rfl) (by kernel_rfl) ?_
      simp only [Act.put]
      repeat (go_big_quiet_step (fail))
      refine wpQuiet_nil ?_
      rintro _ ⟨W, rfl⟩
      have HEE : Hid (Below w.heap.size w W.wd) := HE.out W
      clear HE HPV HR HZ HW2 y0
      go_wp2
      go_roundw
      case rel => exact ⟨j + 1, by omega, by go_num, HN.out, HEE.out⟩
      case measure => simp [intOf]; omega
    have dj : decide ((0 : Int) < (j : Int)) = true := by simp; omega
    have yp := HPV.out hj0
    obtain ⟨z, hz⟩ : ∃ z, ls[j - 1].s = z := ⟨_, rfl⟩
    have HZP : Hid (ls[j - 1].s = z) := hz
    rw [hz] at yp
    have e1 : ((j - 1 : Nat) : Int) = (j : Int) - 1 := by omega
    have hj1 : (0 : Int) ≤ (j : Int) - 1 := by omega
    have hj2 : (j : Int) - 1 < (ls.length : Int) := by omega
    clear hz
    by_cases hc4 : k.s ≤ z
    case pos =>
      have d4 : decide (k.s ≤ z) = true := by simp only [decide_eq_true_eq]; exact hc4
      have HF : Hid (¬ AscP ls) := fun h => by have := h j hlt hj0; rw [HKJ.out, HZP.out] at this; omega
      clear hc4
      go_wp2_with (first | refine ldM rfl _ rfl b (off + j * 18) rfl k HR.out ?_ | refine stP rfl _ _ rfl wr.heap.size rfl k rfl 40 _ HZ.out rfl ?_)
      rw [HW2.out]
      refine region_over (by kernel_rfl) (by kernel_rfl) ?_
      simp only [Act.put]
      repeat (go_big_quiet_step (fail))
      refine wpQuiet_nil ?_
      rintro _ ⟨W, rfl⟩
      have HEE : Hid (Below w.heap.size w W.wd) := HE.out W
      clear HE HPV HR HZ HW2 y0
      go_wp2
      go_ret
      exact ⟨_, rfl, ⟨fun h => (by cases h), fun h => absurd h HF.out⟩, HEE.out⟩
    have d4 : decide (k.s ≤ z) = false := by simp only [decide_eq_false_iff_not]; exact hc4
    have HN : Hid (∀ t (ht : t < ls.length), t < j + 1 → 0 < t → ls[t - 1].s < ls[t].s) := fun t ht h h0 => by
      by_cases e : t < j
      · exact hA.out t ht e h0
      · obtain rfl : t = j := by omega
        rw [HKJ.out, HZP.out]; omega
    clear hc4
    go_wp2_with (first | refine ldM rfl _ rfl b (off + j * 18) rfl k HR.out ?_ | refine stP rfl _ _ rfl wr.heap.size rfl k rfl 40 _ HZ.out rfl ?_)
    rw [HW2.out]
    refine region_over (by kernel_rfl) (by kernel_rfl) ?_
    simp only [Act.put]
    repeat (go_big_quiet_step (fail))
    refine wpQuiet_nil ?_
    rintro _ ⟨W, rfl⟩
    have HEE : Hid (Below w.heap.size w W.wd) := HE.out W
    clear HE HPV HR HZ HW2 y0
    go_wp2
    go_roundw
    case rel => exact ⟨j + 1, by omega, by go_num, HN.out, HEE.out⟩
    case measure => simp [intOf]; omega

/-- what a store is, told of its list -/
theorem st_iff (n : Int) (ls : List Pk) : StOk n ls ↔ AscP ls ∧ ∀ i (h : i < ls.length), pkB ls[i] = true ∧ (n ≤ ls[i].s ∧ ls[i].s ≤ n + 12 - 1) := by
  constructor
  · intro h; exact ⟨fun i hi => (h i hi).2.2, fun i hi => ⟨(h i hi).1, (h i hi).2.1⟩⟩
  · rintro ⟨h1, h2⟩ i hi; exact ⟨(h2 i hi).1, (h2 i hi).2, h1 i hi⟩
set_option maxHeartbeats 3200000 in
theorem storeOk_c (v : Value) (n : Int) (hn : 0 ≤ n ∧ n ≤ 1000000) (ls : List Pk) (w : World) (h : Rg 18 pkC w v ls) : Calls Tryd.prog 104 #[.agg #[v, .int .i64 n]] w fun e w' => ∃ r, e = .returned (.bool r) ∧ (r = true ↔ StOk n ls) ∧ Below w.heap.size w w' := by
  have HR0 : Hid (Rg 18 pkC w v ls) := h
  obtain ⟨a, cap, rfl, h1, h2, h3⟩ := h
  unfold maxLen at h2
  obtain ⟨W1, hW1⟩ : ∃ W, w.alloc (Obj.cells #[.slice a ls.length cap, .int .i64 n] 94) = W := ⟨_, rfl⟩
  have K1 : Blk W1 w.heap.size #[.slice a ls.length cap, .int .i64 n] 94 := by rw [← hW1]; exact Blk.new _ _ _
  have B1 : Below w.heap.size w W1 := by rw [← hW1]; exact (Below.refl _ _).alloc (Nat.le_refl _) _
  have HB : Hid (Below w.heap.size w W1) := B1
  have HK : Hid (Blk W1 w.heap.size #[.slice a ls.length cap, .int .i64 n] 94) := K1
  have HNN : Hid (0 ≤ n ∧ n ≤ 1000000) := hn
  have x0 := K1.cell 0
  have x1 := K1.cell 1
  simp at x0 x1
  clear K1 B1 hn
  go_enter Tryd.func104, Tryd.ntmps104
  by_cases hl : (12 : Int) < (ls.length : Int)
  case pos =>
    have dl : decide ((12 : Int) < (ls.length : Int)) = true := by simp; omega
    have HF : Hid (¬ StOk n ls) := fun h => by have := h.len; omega
    clear hl h3
    go_wp2
    go_ret
    exact ⟨_, rfl, ⟨fun h => (by cases h), fun h => absurd h HF.out⟩, HB.out⟩
  have dl : decide ((12 : Int) < (ls.length : Int)) = false := by simp; omega
  clear hl
  go_wp2_with (fail)
  refine (ascends_c _ ls W1 (HR0.out.below HB.out)).mono ?_
  rintro e w2 ⟨r, rfl, hr, b2⟩
  have HA : Hid (r = true ↔ AscP ls) := hr
  have HB2 : Hid (Below w.heap.size w w2) := belowCall HB.out b2 HB.out.size
  have k2 := HK.out.below b2 HK.out.lt
  have HK2 : Hid (Blk w2 w.heap.size #[.slice a ls.length cap, .int .i64 n] 94) := k2
  clear hr b2 x0 x1 hW1
  cases r with
  | false =>
    have HF : Hid (¬ StOk n ls) := fun h => by have := HA.out.2 ((st_iff n ls).1 h).1; cases this
    clear h3 k2
    go_wp2
    go_ret
    exact ⟨_, rfl, ⟨fun h => (by cases h), fun h => absurd h HF.out⟩, HB2.out⟩
  | true =>
  have HAS : Hid (AscP ls) := HA.out.1 rfl
  have x0 := k2.cell 0
  have x1 := k2.cell 1
  simp at x0 x1
  clear HA k2 HK HB
  go_wp2
  go_loopw [18] (fun i wr => ∃ j : Nat, j ≤ ls.length ∧ i = .int .i64 j ∧ Hid (∀ t (ht : t < ls.length), t < j → pkB ls[t] = true ∧ (n ≤ ls[t].s ∧ ls[t].s ≤ n + 12 - 1)) ∧ Hid (Below w2.heap.size w2 wr)) (fun i _ => ls.length - (intOf i).toNat)
  case atStart => exact ⟨0, Nat.zero_le _, rfl, fun t _ h => by omega, Below.refl _ _⟩
  case round =>
    obtain ⟨j, hj, rfl, hA, hbr⟩ := hrel
    have HBW : Hid (Below w.heap.size w wr) := belowCall HB2.out hbr.out HB2.out.size
    have kp := HK2.out.below hbr.out HK2.out.lt
    clear x0 x1
    by_cases hlt : j < ls.length
    case neg =>
      obtain rfl : j = ls.length := by omega
      clear h3 kp
      go_wp2
      go_ret
      exact ⟨_, rfl, ⟨fun _ => (st_iff n ls).2 ⟨HAS.out, fun i hi => hA.out i hi hi⟩, fun _ => rfl⟩, HBW.out⟩
    case pos =>
    rcases h3 with h3 | ⟨b, off, rfl, h4⟩
    · subst h3; simp at hlt
    have hcb : b < w.heap.size := block_lt_of_cell (h4 j hlt 0 _ rfl)
    obtain ⟨k, hk⟩ : ∃ k, ls[j] = k := ⟨_, rfl⟩
    have HR : Hid (wr.rangeAt b (off + j * 18) (pkC k)) := by rw [← hk]; exact rangeAt_below (h4 j hlt) HBW.out hcb
    obtain ⟨W2, hW2⟩ : ∃ W, bxW wr k = W := ⟨_, rfl⟩
    have k2 : Blk W2 wr.heap.size (pkA k) 40 := by rw [← hW2]; exact bxW_blk wr k
    have b2 : Below wr.heap.size wr W2 := by rw [← hW2]; exact bxW_below wr k
    have HZ : Hid (Blk (wr.alloc (Obj.cells #[.int .i64 0, .int .i64 0, .int .u8 0, .int .u8 0, .int .u8 0, .int .u8 0, .int .u8 0, .int .u8 0, .int .u8 0, .int .u8 0, .int .u8 0, .int .u8 0, .int .u8 0, .int .u8 0, .int .u8 0, .int .u8 0, .int .u8 0, .int .u8 0] 40)) wr.heap.size #[.int .i64 0, .int .i64 0, .int .u8 0, .int .u8 0, .int .u8 0, .int .u8 0, .int .u8 0, .int .u8 0, .int .u8 0, .int .u8 0, .int .u8 0, .int .u8 0, .int .u8 0, .int .u8 0, .int .u8 0, .int .u8 0, .int .u8 0, .int .u8 0] 40) := Blk.new _ _ _
    have HW2 : Hid ((wr.alloc (Obj.cells #[.int .i64 0, .int .i64 0, .int .u8 0, .int .u8 0, .int .u8 0, .int .u8 0, .int .u8 0, .int .u8 0, .int .u8 0, .int .u8 0, .int .u8 0, .int .u8 0, .int .u8 0, .int .u8 0, .int .u8 0, .int .u8 0, .int .u8 0, .int .u8 0] 40)).setRow wr.heap.size (pkA k) = W2) := hW2
    have HK3 : Hid (Blk W2 wr.heap.size (pkA k) 40) := k2
    have HP3 : Hid (Blk W2 w.heap.size #[.slice (some ⟨b, off, none⟩) ls.length cap, .int .i64 n] 94) := kp.below b2 kp.lt
    have HB3 : Hid (Below w2.heap.size w2 W2) := belowCall hbr.out b2 hbr.out.size
    have HKJ : Hid (ls[j] = k) := hk
    have hi : (0 : Int) ≤ (j : Int) := by omega
    have hi2 : (j : Int) < (ls.length : Int) := by omega
    clear h4 hk kp b2 k2 hW2
    have HNO : Hid (¬ (pkB k = true ∧ (n ≤ k.s ∧ k.s ≤ n + 12 - 1)) → ¬ StOk n ls) := fun hn h => hn (by have := ((st_iff n ls).1 h).2 j hlt; rw [HKJ.out] at this; exact this)
    go_wp2_with (first | (rw [HW2.out]; refine ldP rfl _ rfl wr.heap.size rfl 40 k HK3.out ?_) | refine ldM rfl _ rfl b (off + j * 18) rfl k HR.out ?_ | refine stP rfl _ _ rfl wr.heap.size rfl k rfl 40 _ HZ.out rfl ?_)
    refine (pkI_c k W2).mono ?_
    rintro e w3 ⟨rfl, b3⟩
    have HB4 : Hid (Below w2.heap.size w2 w3) := belowCall HB3.out b3 HB3.out.size
    have k4 := HK3.out.below b3 HK3.out.lt
    have p4 := HP3.out.below b3 HP3.out.lt
    clear b3 HK3 HP3 HB3 HR HZ HW2
    cases hc1 : pkB k with
    | false =>
      have HF : Hid (¬ StOk n ls) := HNO.out (fun h => by rw [hc1] at h; cases h.1)
      have HBE : Hid (Below w.heap.size w w3) := belowCall HB2.out HB4.out HB2.out.size
      clear k4 p4
      go_wp2
      go_ret
      exact ⟨_, rfl, ⟨fun h => (by cases h), fun h => absurd h HF.out⟩, HBE.out⟩
    | true =>
    have y0 := pk_cell1 k4
    have y1 := p4.cell 0
    have y2 := p4.cell 1
    simp at y1 y2
    clear k4 p4
    go_wp2_with (fail)
    refine (reaches_c _ n k.s HNN.out w3).mono ?_
    rintro e w4 ⟨rfl, b4⟩
    have HB5 : Hid (Below w2.heap.size w2 w4) := belowCall HB4.out b4 HB4.out.size
    have HBE : Hid (Below w.heap.size w w4) := belowCall HB2.out HB5.out HB2.out.size
    clear b4 y0 y1 y2 HB4
    by_cases hc2 : n ≤ k.s ∧ k.s ≤ n + 12 - 1
    case neg =>
      have d2 : decide (n ≤ k.s ∧ k.s ≤ n + 12 - 1) = false := by simp only [decide_eq_false_iff_not]; exact hc2
      have HF : Hid (¬ StOk n ls) := HNO.out (fun h => hc2 h.2)
      rw [d2]
      clear hc2 d2
      go_wp2
      go_ret
      exact ⟨_, rfl, ⟨fun h => (by cases h), fun h => absurd h HF.out⟩, HBE.out⟩
    have d2 : decide (n ≤ k.s ∧ k.s ≤ n + 12 - 1) = true := by simp only [decide_eq_true_eq]; exact hc2
    have HN : Hid (∀ t (ht : t < ls.length), t < j + 1 → pkB ls[t] = true ∧ (n ≤ ls[t].s ∧ ls[t].s ≤ n + 12 - 1)) := fun t ht h => by
      by_cases e : t < j
      · exact hA.out t ht e
      · obtain rfl : t = j := by omega
        rw [HKJ.out]; exact ⟨hc1, hc2⟩
    rw [d2]
    clear hc2 d2
    go_wp2
    go_roundw
    case rel => exact ⟨j + 1, by omega, by go_num, HN.out, HB5.out⟩
    case measure => simp [intOf]; omega
set_option maxHeartbeats 3200000 in
theorem plI_c (p : Pl) (v : Value) (ls : List Pk) (w : World) (h : Rg 18 pkC w v ls) : Calls Tryd.prog 75 #[.agg (plA p v)] w (OkR p ls w) := by
  have HR0 : Hid (Rg 18 pkC w v ls) := h
  obtain ⟨a, cap, rfl, h1, h2, -⟩ := h
  obtain ⟨W1, hW1⟩ : ∃ W, w.alloc (Obj.cells (plA p (.slice a ls.length cap)) 42) = W := ⟨_, rfl⟩
  obtain ⟨K1, B1, s1⟩ := plBox hW1
  have HB : Hid (Below w.heap.size w W1) := B1
  have x0 := K1.cell 0
  have x1 := K1.cell 1
  have x2 := K1.cell 2
  have x3 := K1.cell 3
  have x4 := K1.cell 4
  have x5 := K1.cell 5
  simp at x0 x1 x2 x3 x4 x5
  clear K1 B1
  go_enter Tryd.func75, Tryd.ntmps75
  go_wp2_with (fail)
  refine (within_c p.n (0) 1000000 W1).mono ?_
  rintro e w1 ⟨rfl, hw⟩
  rw [hw]
  clear hw w1
  by_cases c0 : 0 ≤ p.n ∧ p.n ≤ 1000000
  case neg =>
    have d0 : decide (0 ≤ p.n ∧ p.n ≤ 1000000) = false := by simp only [decide_eq_false_iff_not]; exact c0
    have HF : Hid (¬ (PlP p ∧ StOk p.n ls)) := fun h => c0 h.1.1
    rw [d0]
    clear c0
    go_wp2
    go_ret
    exact ⟨_, rfl, ⟨fun h => (by cases h), fun h => absurd h HF.out⟩, HB.out⟩
  have d0 : decide (0 ≤ p.n ∧ p.n ≤ 1000000) = true := by simp only [decide_eq_true_eq]; exact c0
  have HC0 : Hid (0 ≤ p.n ∧ p.n ≤ 1000000) := c0
  rw [d0]
  clear c0 d0
  go_wp2_with (fail)
  refine (within_c p.d (1) 12 W1).mono ?_
  rintro e w1 ⟨rfl, hw⟩
  rw [hw]
  clear hw w1
  by_cases c1 : 1 ≤ p.d ∧ p.d ≤ 12
  case neg =>
    have d1 : decide (1 ≤ p.d ∧ p.d ≤ 12) = false := by simp only [decide_eq_false_iff_not]; exact c1
    have HF : Hid (¬ (PlP p ∧ StOk p.n ls)) := fun h => c1 h.1.2.1
    rw [d1]
    clear c1
    go_wp2
    go_ret
    exact ⟨_, rfl, ⟨fun h => (by cases h), fun h => absurd h HF.out⟩, HB.out⟩
  have d1 : decide (1 ≤ p.d ∧ p.d ≤ 12) = true := by simp only [decide_eq_true_eq]; exact c1
  have HC1 : Hid (1 ≤ p.d ∧ p.d ≤ 12) := c1
  rw [d1]
  clear c1 d1
  go_wp2_with (fail)
  refine (within_c p.l (0) 1000000000 W1).mono ?_
  rintro e w1 ⟨rfl, hw⟩
  rw [hw]
  clear hw w1
  by_cases c2 : 0 ≤ p.l ∧ p.l ≤ 1000000000
  case neg =>
    have d2 : decide (0 ≤ p.l ∧ p.l ≤ 1000000000) = false := by simp only [decide_eq_false_iff_not]; exact c2
    have HF : Hid (¬ (PlP p ∧ StOk p.n ls)) := fun h => c2 h.1.2.2.1
    rw [d2]
    clear c2
    go_wp2
    go_ret
    exact ⟨_, rfl, ⟨fun h => (by cases h), fun h => absurd h HF.out⟩, HB.out⟩
  have d2 : decide (0 ≤ p.l ∧ p.l ≤ 1000000000) = true := by simp only [decide_eq_true_eq]; exact c2
  have HC2 : Hid (0 ≤ p.l ∧ p.l ≤ 1000000000) := c2
  rw [d2]
  clear c2 d2
  go_wp2_with (fail)
  refine (within_c p.g (0) 1000000000 W1).mono ?_
  rintro e w1 ⟨rfl, hw⟩
  rw [hw]
  clear hw w1
  by_cases c3 : 0 ≤ p.g ∧ p.g ≤ 1000000000
  case neg =>
    have d3 : decide (0 ≤ p.g ∧ p.g ≤ 1000000000) = false := by simp only [decide_eq_false_iff_not]; exact c3
    have HF : Hid (¬ (PlP p ∧ StOk p.n ls)) := fun h => c3 h.1.2.2.2.1
    rw [d3]
    clear c3
    go_wp2
    go_ret
    exact ⟨_, rfl, ⟨fun h => (by cases h), fun h => absurd h HF.out⟩, HB.out⟩
  have d3 : decide (0 ≤ p.g ∧ p.g ≤ 1000000000) = true := by simp only [decide_eq_true_eq]; exact c3
  have HC3 : Hid (0 ≤ p.g ∧ p.g ≤ 1000000000) := c3
  rw [d3]
  clear c3 d3
  go_wp2_with (fail)
  refine (within_c p.x (-32767) 32767 W1).mono ?_
  rintro e w1 ⟨rfl, hw⟩
  rw [hw]
  clear hw w1
  by_cases c4 : -32767 ≤ p.x ∧ p.x ≤ 32767
  case neg =>
    have d4 : decide (-32767 ≤ p.x ∧ p.x ≤ 32767) = false := by simp only [decide_eq_false_iff_not]; exact c4
    have HF : Hid (¬ (PlP p ∧ StOk p.n ls)) := fun h => c4 h.1.2.2.2.2
    rw [d4]
    clear c4
    go_wp2
    go_ret
    exact ⟨_, rfl, ⟨fun h => (by cases h), fun h => absurd h HF.out⟩, HB.out⟩
  have d4 : decide (-32767 ≤ p.x ∧ p.x ≤ 32767) = true := by simp only [decide_eq_true_eq]; exact c4
  have HC4 : Hid (-32767 ≤ p.x ∧ p.x ≤ 32767) := c4
  rw [d4]
  clear c4 d4
  have HP : Hid (PlP p) := ⟨HC0.out, HC1.out, HC2.out, HC3.out, HC4.out⟩
  clear HC0 HC1 HC2 HC3 HC4
  go_wp2_with (fail)
  refine (storeOf_c p _ _ _ W1).mono ?_
  rintro e w2 ⟨rfl, b2⟩
  have HB2 : Hid (Below w.heap.size w w2) := belowCall HB.out b2 HB.out.size
  clear b2 hW1
  go_wp2_with (fail)
  refine (storeOk_c _ p.n HP.out.1 ls w2 (HR0.out.below HB2.out)).mono ?_
  rintro e w3 ⟨r, rfl, hr, b3⟩
  have HR : Hid (r = true ↔ StOk p.n ls) := hr
  have HB3 : Hid (Below w.heap.size w w3) := belowCall HB2.out b3 HB2.out.size
  clear hr b3
  cases r
  · go_wp2
    go_ret
    exact ⟨_, rfl, ⟨fun h => (by cases h), fun h => absurd (HR.out.2 h.2) (by simp)⟩, HB3.out⟩
  · go_wp2
    go_ret
    exact ⟨_, rfl, ⟨fun _ => ⟨HP.out, HR.out.1 (by trivial)⟩, fun _ => rfl⟩, HB3.out⟩

end Go.Proofs.YtkjfcebdjnclaaaDoor

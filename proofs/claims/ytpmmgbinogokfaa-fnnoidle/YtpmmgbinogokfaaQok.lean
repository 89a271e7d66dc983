/- Queues and desks that are right; no condition. -/
import Derived.Test.YtpmmgbinogokfaaDok
namespace Go.Proofs.Ytpmmgbinogokfaa
open Go.RowKit Go.ChangeShapes Go.WideShapes Go.ChangeAt
set_option linter.unusedVariables false
set_option linter.unusedSimpArgs false
set_option maxRecDepth 8000
def QTo (n : Int) (gs : List Ag) (qs : List Wt) (j : Nat) : Prop := ∀ i (h : i < qs.length), i < j → wtB n qs[i] = true ∧ (gs.findIdx? fun x => x.2.1 == qs[i].1) = none ∧ ((qs.take i).findIdx? fun x => x.1 == qs[i].1) = none ∧ taker gs qs[i].2.1 = none
def QsOk (n : Int) (gs : List Ag) (qs : List Wt) : Prop := QTo n gs qs qs.length
theorem QTo.succ {n : Int} {gs : List Ag} {qs : List Wt} {j : Nat} (h : QTo n gs qs j) (hj : j < qs.length) (h1 : wtB n qs[j] = true ∧ (gs.findIdx? fun x => x.2.1 == qs[j].1) = none ∧ ((qs.take j).findIdx? fun x => x.1 == qs[j].1) = none ∧ taker gs qs[j].2.1 = none) : QTo n gs qs (j + 1) := by
  intro i hi hij
  by_cases e : i < j
  · exact h i hi e
  · obtain rfl : i = j := by omega
    exact h1
theorem none_of {o : Option Nat} {z : Int} (h : optI o = z) (hz : ¬ 0 ≤ z) : o = none := by
  cases o with
  | none => rfl
  | some y => exact absurd (by rw [← h]; simp [optI]) hz
theorem some_of {o : Option Nat} {z : Int} (h : optI o = z) (hz : 0 ≤ z) : o ≠ none := by
  rw [← optI_iff, h]; exact hz
set_option maxHeartbeats 12800000 in
theorem queueOk_c (n g : Int) (va vq : Value) (gs : List Ag) (qs : List Wt) (w : World) (ha : Rg 3 agC w va gs) (hq : Rg 4 wtC w vq qs) (hs : SkOk gs) : Calls Try.prog 56 #[.agg (D4 n va vq g)] w (BoR (QsOk n gs qs) w) := by
  have HA : Hid (Rg 3 agC w va gs) := ha
  have HSK : Hid (SkOk gs) := hs
  obtain ⟨ga, gcap, rfl, -⟩ := ha
  obtain ⟨gm, hgm⟩ : ∃ m, gs.length = m := ⟨_, rfl⟩
  rw [hgm] at HA ⊢
  obtain ⟨a, cap, rfl, h1, h2, h3⟩ := hq
  have H2m : Hid (cap ≤ maxLen) := h2
  unfold maxLen at h2
  obtain ⟨m, hm⟩ : ∃ m, qs.length = m := ⟨_, rfl⟩
  have HM : Hid (qs.length = m) := hm
  have H3 : Hid (qs = [] ∨ ∃ b off, a = some ⟨b, off, none⟩ ∧ ∀ i (h : i < qs.length), w.rangeAt b (off + i * 4) (wtC qs[i])) := h3
  rw [hm] at h1 ⊢
  obtain ⟨W0, hW0⟩ : ∃ W0, w.alloc (Obj.cells (D4 n (.slice ga gm gcap) (.slice a m cap) g) 27) = W0 := ⟨_, rfl⟩
  have B0 : Hid (Below w.heap.size w W0) := hW0 ▸ (Below.refl _ _).alloc (Nat.le_refl _) _
  have k0 : Blk W0 w.heap.size (D4 n (.slice ga gm gcap) (.slice a m cap) g) 27 := hW0 ▸ Blk.new _ _ _
  have K0 : Hid (Blk W0 w.heap.size (D4 n (.slice ga gm gcap) (.slice a m cap) g) 27) := k0
  have x1 := k0.cell 2
  simp at x1
  clear hm h3 k0 hgm hs
  go_enter Try.func56, Try.ntmps56
  go_wp2
  try rw [hW0]
  clear x1 hW0
  go_loopw [8] (fun i wr => ∃ j : Nat, j ≤ m ∧ i = .int .i64 j ∧ Hid (Below W0.heap.size W0 wr) ∧ Hid (QTo n gs qs j)) (fun i _ => m - (intOf i).toNat)
  case atStart => exact ⟨0, Nat.zero_le _, rfl, Below.refl _ _, fun i _ h => by omega⟩
  case round =>
    obtain ⟨j, hj, rfl, BJ0, hA⟩ := hrel
    have BJ : Hid (Below w.heap.size w wr) := belowCall B0.out BJ0.out B0.out.size
    by_cases hlt : j < m
    case neg =>
      obtain rfl : m = j := by omega
      have HY : Hid (QsOk n gs qs) := by
        show QTo n gs qs qs.length
        rw [HM.out]; exact hA.out
      go_wp2
      go_ret
      exact BoR.yes HY.out BJ.out
    case pos =>
    have hjl : j < qs.length := by rw [HM.out]; exact hlt
    obtain ⟨b, off, rfl, h4⟩ : ∃ b off, a = some ⟨b, off, none⟩ ∧ _ := by
      rcases H3.out with h | h
      · rw [h] at hjl; simp at hjl
      · exact h
    have hcb : b < w.heap.size := block_lt_of_cell (h4 j hjl 0 _ rfl)
    have H4 : Hid (∀ i (h : i < qs.length), w.rangeAt b (off + i * 4) (wtC qs[i])) := h4
    obtain ⟨r, hr⟩ : ∃ r, qs[j] = r := ⟨_, rfl⟩
    have hc := rangeAt_below (h4 j hjl) BJ.out hcb
    rw [hr] at hc
    have e0 : wr.cell? ⟨b, off + j * 4, none⟩ = some (.int .i64 r.1) := hc 0 _ rfl
    have e1 : wr.cell? ⟨b, off + j * 4 + 1, none⟩ = some (.int .i64 r.2.1) := hc 1 _ rfl
    have e2 : wr.cell? ⟨b, off + j * 4 + 2, none⟩ = some (.int .i64 r.2.2.1) := hc 2 _ rfl
    have e3 : wr.cell? ⟨b, off + j * 4 + 3, none⟩ = some (.int .i64 r.2.2.2) := hc 3 _ rfl
    have HR : Hid (qs[j] = r) := hr
    obtain ⟨W1, hW1⟩ : ∃ W1, wr.alloc (Obj.cells #[.int .i64 r.1, .int .i64 r.2.1, .int .i64 r.2.2.1, .int .i64 r.2.2.2] 74) = W1 := ⟨_, rfl⟩
    have bA : Below wr.heap.size wr W1 := hW1 ▸ (Below.refl _ _).alloc (Nat.le_refl _) _
    have B1' : Hid (Below W0.heap.size W0 W1) := belowCall BJ0.out bA BJ0.out.size
    have B1 : Hid (Below w.heap.size w W1) := belowCall B0.out B1'.out B0.out.size
    have k0 := (K0.out.below BJ0.out K0.out.lt)
    have k1 : Blk W1 wr.heap.size #[.int .i64 r.1, .int .i64 r.2.1, .int .i64 r.2.2.1, .int .i64 r.2.2.2] 74 := hW1 ▸ Blk.new _ _ _
    have k0' := k0.below bA k0.lt
    have K1 : Hid (Blk W1 w.heap.size (D4 n (.slice ga gm gcap) (.slice (some ⟨b, off, none⟩) m cap) g) 27 ∧ Blk W1 wr.heap.size #[.int .i64 r.1, .int .i64 r.2.1, .int .i64 r.2.2.1, .int .i64 r.2.2.2] 74) := ⟨k0', k1⟩
    have z0 : ∀ W : Ov W1, W.wd.cell? ⟨wr.heap.size, 0, none⟩ = some (.int .i64 r.1) := ov_cell (k1.cell 0)
    have z1 : ∀ W : Ov W1, W.wd.cell? ⟨wr.heap.size, 1, none⟩ = some (.int .i64 r.2.1) := ov_cell (k1.cell 1)
    have z2 : ∀ W : Ov W1, W.wd.cell? ⟨wr.heap.size, 2, none⟩ = some (.int .i64 r.2.2.1) := ov_cell (k1.cell 2)
    have z3 : ∀ W : Ov W1, W.wd.cell? ⟨wr.heap.size, 3, none⟩ = some (.int .i64 r.2.2.2) := ov_cell (k1.cell 3)
    have y0 : ∀ W : Ov W1, W.wd.cell? ⟨w.heap.size, 0, none⟩ = some (.int .i64 n) := ov_cell (k0'.cell 0)
    have y1 : ∀ W : Ov W1, W.wd.cell? ⟨w.heap.size, 1, none⟩ = some (.slice ga gm gcap) := ov_cell (k0'.cell 1)
    have y2 : ∀ W : Ov W1, W.wd.cell? ⟨w.heap.size, 2, none⟩ = some (.slice (some ⟨b, off, none⟩) m cap) := ov_cell (k0'.cell 2)
    have ne : Nonempty (Ov W1) := ⟨⟨_, Below.refl _ _⟩⟩
    have HW1 : Hid (wr.alloc (Obj.cells #[.int .i64 r.1, .int .i64 r.2.1, .int .i64 r.2.2.1, .int .i64 r.2.2.2] 74) = W1) := hW1
    obtain ⟨q1, hq1⟩ : ∃ q, wtB n r = q := ⟨_, rfl⟩
    obtain ⟨u1, hu1⟩ : ∃ z, optI (gs.findIdx? fun x => x.2.1 == r.1) = z := ⟨_, rfl⟩
    obtain ⟨u2, hu2⟩ : ∃ z, optI ((qs.take j).findIdx? fun x => x.1 == r.1) = z := ⟨_, rfl⟩
    have HC1 : Hid (∀ W : Ov W1, Calls Try.prog 77 #[.agg #[.int .i64 r.1, .int .i64 r.2.1, .int .i64 r.2.2.1, .int .i64 r.2.2.2], .int .i64 n] W.wd fun e w'' => e = .returned (.bool q1) ∧ ∃ W' : Ov W1, w'' = W'.wd) := fun W => ov_call (by rw [← hq1]; exact waitOk_c r n W.wd)
    have HC2 : Hid (∀ W : Ov W1, Calls Try.prog 58 #[.slice ga gm gcap, .int .i64 r.1] W.wd fun e w'' => e = .returned (.int .i64 u1) ∧ ∃ W' : Ov W1, w'' = W'.wd) := fun W => ov_call (by rw [← hu1]; exact agW_c _ gs r.1 W.wd (HA.out.below (belowCall B1.out W.ok B1.out.size)))
    have HC3 : Hid (∀ W : Ov W1, Calls Try.prog 59 #[.slice (some ⟨b, off, none⟩) j cap, .int .i64 r.1] W.wd fun e w'' => e = .returned (.int .i64 u2) ∧ ∃ W' : Ov W1, w'' = W'.wd) := fun W => ov_call (by rw [← hu2]; exact plc_c _ (qs.take j) r.1 W.wd ((Rg.take H4.out (by rw [HM.out]; exact h1) H2m.out j (by omega)).below (belowCall B1.out W.ok B1.out.size)))
    have HQ1 : Hid (wtB n qs[j] = q1) := by show wtB n qs[j] = q1; rw [HR.out]; exact hq1
    have HU1 : Hid (optI (gs.findIdx? fun x => x.2.1 == qs[j].1) = u1) := by show optI (gs.findIdx? fun x => x.2.1 == qs[j].1) = u1; rw [HR.out]; exact hu1
    have HU2 : Hid (optI ((qs.take j).findIdx? fun x => x.1 == qs[j].1) = u2) := by show optI ((qs.take j).findIdx? fun x => x.1 == qs[j].1) = u2; rw [HR.out]; exact hu2
    have hl0 := k0.lt
    clear h4 hc hr hW1 bA k1 k0 k0' hq1 hu1 hu2
    cases q1 with
    | false =>
      have HY : Hid (¬ QsOk n gs qs) := fun h => by
        have := (h j hjl hjl).1
        rw [HQ1.out] at this; cases this
      go_wp2_with (fail)
      rw [HW1.out]
      clear HW1 e0 e1 e2 e3
      refine region_over (by kernel_rfl) (by kernel_rfl) ?_
      repeat (go_big_quiet_step (first | (go_at_call 77; exact HC1.out _)))
      refine wpQuiet_nil ?_
      rintro _ ⟨W, rfl⟩
      have HBW : Hid (Below w.heap.size w W.wd) := belowCall B1.out W.ok B1.out.size
      clear z0 z1 z2 z3 y0 y1 y2
      go_wp2
      go_ret
      exact BoR.no HY.out HBW.out
    | true =>
    by_cases hz1 : 0 ≤ u1
    · have HY : Hid (¬ QsOk n gs qs) := fun h => some_of HU1.out hz1 (h j hjl hjl).2.1
      have hzd : decide (u1 ≥ 0) = true := decide_eq_true hz1
      have hzd' : decide (0 ≤ u1) = true := decide_eq_true hz1
      go_wp2_with (fail)
      rw [HW1.out]
      clear HW1 e0 e1 e2 e3
      refine region_over (by kernel_rfl) (by kernel_rfl) ?_
      repeat (go_big_quiet_step (first | (go_at_call 77; exact HC1.out _) | (go_at_call 58; exact HC2.out _)))
      refine wpQuiet_nil ?_
      rintro _ ⟨W, rfl⟩
      have HBW : Hid (Below w.heap.size w W.wd) := belowCall B1.out W.ok B1.out.size
      clear z0 z1 z2 z3 y0 y1 y2
      go_wp2
      go_ret
      exact BoR.no HY.out HBW.out
    have hzd : decide (u1 ≥ 0) = false := decide_eq_false hz1
    have hzd' : decide (0 ≤ u1) = false := decide_eq_false hz1
    by_cases hz2 : 0 ≤ u2
    · have HY : Hid (¬ QsOk n gs qs) := fun h => some_of HU2.out hz2 (h j hjl hjl).2.2.1
      have hze : decide (u2 ≥ 0) = true := decide_eq_true hz2
      have hze' : decide (0 ≤ u2) = true := decide_eq_true hz2
      go_wp2_with (fail)
      rw [HW1.out]
      clear HW1 e0 e1 e2 e3
      refine region_over (by kernel_rfl) (by kernel_rfl) ?_
      repeat (go_big_quiet_step (first | (go_at_call 77; exact HC1.out _) | (go_at_call 58; exact HC2.out _) | (go_at_call 59; exact HC3.out _)))
      refine wpQuiet_nil ?_
      rintro _ ⟨W, rfl⟩
      have HBW : Hid (Below w.heap.size w W.wd) := belowCall B1.out W.ok B1.out.size
      clear z0 z1 z2 z3 y0 y1 y2
      go_wp2
      go_ret
      exact BoR.no HY.out HBW.out
    have hze : decide (u2 ≥ 0) = false := decide_eq_false hz2
    have hze' : decide (0 ≤ u2) = false := decide_eq_false hz2
    go_wp2_with (fail)
    rw [HW1.out]
    clear HW1 e0 e1 e2 e3
    refine region_over (by kernel_rfl) (by kernel_rfl) ?_
    repeat (go_big_quiet_step (first | (go_at_call 77; exact HC1.out _) | (go_at_call 58; exact HC2.out _) | (go_at_call 59; exact HC3.out _)))
    refine wpQuiet_nil ?_
    rintro _ ⟨W, rfl⟩
    have BW' : Hid (Below W0.heap.size W0 W.wd) := belowCall B1'.out W.ok B1'.out.size
    have BW : Hid (Below w.heap.size w W.wd) := belowCall B1.out W.ok B1.out.size
    have c0 := z0 W
    have c1 := z1 W
    have c2 := z2 W
    have c3 := z3 W
    have d1 := y1 W
    obtain ⟨W2, hW2⟩ : ∃ W2, W.wd = W2 := ⟨_, rfl⟩
    rw [hW2] at BW' BW c0 c1 c2 c3 d1 ⊢
    clear z0 z1 z2 z3 y0 y1 y2 hW2 HC1 HC2 HC3 W ne hzd hzd' hze hze'
    go_wp2_with (fail)
    refine (agentFor_c _ gs r W2 (HA.out.below BW.out) HSK.out).mono ?_
    rintro e w3 ⟨rfl, b3⟩
    have B3' : Hid (Below W0.heap.size W0 w3) := belowCall BW'.out b3 BW'.out.size
    have B3 : Hid (Below w.heap.size w w3) := belowCall B0.out B3'.out B0.out.size
    obtain ⟨u3, hu3⟩ : ∃ z, optI (taker gs r.2.1) = z := ⟨_, rfl⟩
    have HU3 : Hid (optI (taker gs qs[j].2.1) = u3) := by show optI (taker gs qs[j].2.1) = u3; rw [HR.out]; exact hu3
    rw [hu3]
    clear hu3 b3 c0 c1 c2 c3 d1
    by_cases hz3 : 0 ≤ u3
    · have HY : Hid (¬ QsOk n gs qs) := fun h => some_of HU3.out hz3 (h j hjl hjl).2.2.2
      go_wp2
      go_ret
      exact BoR.no HY.out B3.out
    · have HY : Hid (QTo n gs qs (j + 1)) := hA.out.succ hjl ⟨HQ1.out, none_of HU1.out (by omega), none_of HU2.out (by omega), none_of HU3.out (by omega)⟩
      go_wp2
      go_roundw
      case rel => exact ⟨j + 1, by omega, by go_num, B3'.out, HY.out⟩
      case measure => simp [intOf]; omega
def DkOk (n g : Int) (gs : List Ag) (qs : List Wt) : Prop := (1 ≤ gs.length ∧ gs.length ≤ 12) ∧ qs.length ≤ 40 ∧ tkB n = true ∧ (0 ≤ g ∧ g ≤ 1000000) ∧ AgsOk n gs ∧ QsOk n gs qs
theorem AgsOk.sk {n : Int} {gs : List Ag} (h : AgsOk n gs) : SkOk gs := by
  intro a ha
  obtain ⟨i, hi, rfl⟩ := List.getElem_of_mem ha
  have := (h i hi hi).1
  simp [agB] at this
  exact this.1.1
set_option maxHeartbeats 6400000 in
theorem deskI_c (n g : Int) (va vq : Value) (gs : List Ag) (qs : List Wt) (w : World) (ha : Rg 3 agC w va gs) (hq : Rg 4 wtC w vq qs) : Calls Try.prog 16 #[.agg (D4 n va vq g)] w (BoR (DkOk n g gs qs) w) := by
  have HA : Hid (Rg 3 agC w va gs) := ha
  have HQ : Hid (Rg 4 wtC w vq qs) := hq
  obtain ⟨ga, gcap, rfl, -⟩ := ha
  obtain ⟨a, cap, rfl, -⟩ := hq
  obtain ⟨gm, hgm⟩ : ∃ m, gs.length = m := ⟨_, rfl⟩
  obtain ⟨m, hm⟩ : ∃ m, qs.length = m := ⟨_, rfl⟩
  have HM : Hid (gs.length = gm ∧ qs.length = m) := ⟨hgm, hm⟩
  rw [hgm] at HA
  rw [hm] at HQ
  rw [hgm, hm]
  obtain ⟨W0, hW0⟩ : ∃ W0, w.alloc (Obj.cells (D4 n (.slice ga gm gcap) (.slice a m cap) g) 27) = W0 := ⟨_, rfl⟩
  have B0 : Hid (Below w.heap.size w W0) := hW0 ▸ (Below.refl _ _).alloc (Nat.le_refl _) _
  have k0 : Blk W0 w.heap.size (D4 n (.slice ga gm gcap) (.slice a m cap) g) 27 := hW0 ▸ Blk.new _ _ _
  have K0 : Hid (Blk W0 w.heap.size (D4 n (.slice ga gm gcap) (.slice a m cap) g) 27) := k0
  have x0 := k0.cell 0
  have x1 := k0.cell 1
  have x2 := k0.cell 2
  have x3 := k0.cell 3
  simp at x0 x1 x2 x3
  have HW0 : Hid (w.alloc (Obj.cells (D4 n (.slice ga gm gcap) (.slice a m cap) g) 27) = W0) := hW0
  clear k0 hgm hm hW0
  by_cases h1 : 1 ≤ gm ∧ gm ≤ 12 ∧ m ≤ 40
  case neg =>
    have HY : Hid (¬ DkOk n g gs qs) := fun h => h1 ⟨by have := h.1.1; have := HM.out.1; omega, by have := h.1.2; have := HM.out.1; omega, by have := h.2.1; have := HM.out.2; omega⟩
    have HB : Hid (∀ W, w.alloc (Obj.cells (D4 n (.slice ga gm gcap) (.slice a m cap) g) 27) = W → BoR (DkOk n g gs qs) w (.returned (.bool false)) W) := fun W e => BoR.no HY.out (e ▸ (Below.refl _ _).alloc (Nat.le_refl _) _)
    by_cases g1 : 1 ≤ gm
    · by_cases g2 : gm ≤ 12
      · have g3 : ¬ m ≤ 40 := fun h => h1 ⟨g1, g2, h⟩
        clear h1 x0 x1 x2 x3 B0 K0 HW0
        go_enter Try.func16, Try.ntmps16
        go_wp2
        go_ret
        exact HB.out _ rfl
      · clear h1 x0 x1 x2 x3 B0 K0 HW0
        go_enter Try.func16, Try.ntmps16
        go_wp2
        go_ret
        exact HB.out _ rfl
    · clear h1 x0 x1 x2 x3 B0 K0 HW0
      go_enter Try.func16, Try.ntmps16
      go_wp2
      go_ret
      exact HB.out _ rfl
  case pos =>
  obtain ⟨g1, g2, g3⟩ := h1
  have g1' : ¬ (gm : Int) < 1 := by omega
  have g2' : ¬ (gm : Int) > 12 := by omega
  have g3' : ¬ (m : Int) > 40 := by omega
  obtain ⟨t, ht⟩ : ∃ t, tkB n = t := ⟨_, rfl⟩
  have HT : Hid (tkB n = t) := ht
  clear ht
  by_cases h2 : t = true ∧ 0 ≤ g ∧ g ≤ 1000000
  case neg =>
    have HY : Hid (¬ DkOk n g gs qs) := fun h => h2 ⟨HT.out ▸ h.2.2.1, h.2.2.2.1⟩
    cases t with
    | false =>
      go_enter Try.func16, Try.ntmps16
      go_wp2_with (go_at_call 54; refine (tick_c _ _).mono ?_; rintro e w2 ⟨rfl, rfl⟩; rw [HT.out])
      go_ret
      exact BoR.no HY.out ((Below.refl _ _).alloc (Nat.le_refl _) _)
    | true =>
      by_cases h3 : 0 ≤ g
      · have h4 : ¬ g ≤ 1000000 := fun h => h2 ⟨rfl, h3, h⟩
        have h3' : ¬ g < 0 := by omega
        have h4' : g > 1000000 := by omega
        clear h2
        go_enter Try.func16, Try.ntmps16
        go_wp2_with (go_at_call 54; refine (tick_c _ _).mono ?_; rintro e w2 ⟨rfl, rfl⟩; rw [HT.out])
        go_ret
        exact BoR.no HY.out ((Below.refl _ _).alloc (Nat.le_refl _) _)
      · have h3' : g < 0 := by omega
        clear h2
        go_enter Try.func16, Try.ntmps16
        go_wp2_with (go_at_call 54; refine (tick_c _ _).mono ?_; rintro e w2 ⟨rfl, rfl⟩; rw [HT.out])
        go_ret
        exact BoR.no HY.out ((Below.refl _ _).alloc (Nat.le_refl _) _)
  case pos =>
  obtain ⟨rfl, h3, h4⟩ := h2
  have h3' : ¬ g < 0 := by omega
  have h4' : ¬ g > 1000000 := by omega
  have HP : Hid ((1 ≤ gs.length ∧ gs.length ≤ 12) ∧ qs.length ≤ 40 ∧ tkB n = true ∧ (0 ≤ g ∧ g ≤ 1000000)) := ⟨by have := HM.out.1; omega, by have := HM.out.2; omega, HT.out, h3, h4⟩
  go_enter Try.func16, Try.ntmps16
  go_wp2_with (go_at_call 54; refine (tick_c _ _).mono ?_; rintro e w2 ⟨rfl, rfl⟩; rw [HT.out])
  try rw [HW0.out]
  refine (agentsOk_c n g _ _ gs W0 (HA.out.below B0.out) ⟨_, _, _, rfl⟩).mono ?_
  rintro e w2 ⟨r, rfl, hr, b2⟩
  have B2 : Hid (Below w.heap.size w w2) := belowCall B0.out b2 B0.out.size
  have k2 := K0.out.below b2 K0.out.lt
  have u0 := k2.cell 0
  have u1 := k2.cell 1
  have u2 := k2.cell 2
  have u3 := k2.cell 3
  simp at u0 u1 u2 u3
  have HR : Hid (r = true ↔ AgsOk n gs) := hr
  clear hr b2 k2 x0 x1 x2 x3 HW0 K0
  cases r with
  | false =>
    have HY : Hid (¬ DkOk n g gs qs) := fun h => absurd (HR.out.2 h.2.2.2.2.1) (by simp)
    go_wp2
    go_ret
    exact BoR.no HY.out B2.out
  | true =>
    have HAO : Hid (AgsOk n gs) := HR.out.1 rfl
    clear HR
    go_wp2_with (fail)
    refine (queueOk_c n g _ _ gs qs w2 (HA.out.below B2.out) (HQ.out.below B2.out) HAO.out.sk).mono ?_
    rintro e w3 ⟨r, rfl, hr, b3⟩
    have HF : Hid (BoR (DkOk n g gs qs) w (.returned (.bool r)) w3) := ⟨r, rfl, ⟨fun h => ⟨HP.out.1, HP.out.2.1, HP.out.2.2.1, HP.out.2.2.2, HAO.out, hr.1 h⟩, fun h => hr.2 h.2.2.2.2.2⟩, belowCall B2.out b3 B2.out.size⟩
    clear hr b3 u0 u1 u2 u3
    go_wp2
    go_ret
    exact HF.out
end Go.Proofs.Ytpmmgbinogokfaa

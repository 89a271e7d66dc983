/- Key15; no condition. -/
import Derived.Test.YtpkkmlgmdhcehaaKya
namespace Go.Proofs.Ytpkkmlgmdhcehaa
open Go.RowKit Go.ChangeShapes Go.WideShapes Go.ChangeAt
set_option linter.unusedVariables false
set_option linter.unusedSimpArgs false
set_option maxRecDepth 8000

theorem tup_int {a b : Int} (h : a = b) : Ending.returned (.tuple #[.int .i64 a, .bool true]) = .returned (.tuple #[.int .i64 b, .bool true]) := by rw [h]
set_option maxHeartbeats 1600000 in
theorem book_c (v : Value) (zs : List Int) (w : World) (h : Rd .i64 w v zs) : Calls Try.prog 23 #[v] w fun e w' => e = .returned (.bool (kbB zs && decide (1 ≤ (zs.length : Int) ∧ (zs.length : Int) ≤ 64))) ∧ Below w.heap.size w w' := by
  obtain ⟨a, cap, rfl, h1, h2, h3⟩ := h
  unfold maxLen at h2
  go_enter Try.func23, Try.ntmps23
  go_wp2
  go_loopw [7] (fun i wr => ∃ j : Nat, j ≤ zs.length ∧ i = .int .i64 j ∧ Hid (∀ t, t < j → 1 ≤ zs.getD t 0 ∧ zs.getD t 0 ≤ 65535) ∧ Hid (Below w.heap.size w wr)) (fun i _ => zs.length - (intOf i).toNat)
  case atStart => exact ⟨0, Nat.zero_le _, rfl, fun t ht => by omega, Below.refl _ _⟩
  case round =>
    obtain ⟨j, hj, rfl, hA, hbr⟩ := hrel
    by_cases hlt : j < zs.length
    case neg =>
      obtain rfl : j = zs.length := by omega
      have HN : Hid (kbB zs = true) := kbB_all hA.out
      clear h3
      go_wp2_with (fail)
      refine (within_c _ _ _ _).mono ?_
      rintro e w1 ⟨rfl, hw1⟩
      rw [hw1]
      obtain ⟨q, hq⟩ : ∃ q, decide (1 ≤ (zs.length : Int) ∧ (zs.length : Int) ≤ 64) = q := ⟨_, rfl⟩
      rw [hq]
      have HQ : Hid (decide (1 ≤ (zs.length : Int) ∧ (zs.length : Int) ≤ 64) = q) := hq
      clear hw1 hq
      go_wp2
      go_ret
      exact ⟨by rw [HN.out, HQ.out]; rfl, hbr.out⟩
    case pos =>
    rcases h3 with h3 | ⟨b, off, rfl, h4⟩
    · subst h3; simp at hlt
    obtain ⟨z, hz⟩ : ∃ z, zs.getD j 0 = z := ⟨_, rfl⟩
    have HZ : Hid (zs.getD j 0 = z) := hz
    have hc : wr.cell? ⟨b, off + j, none⟩ = some (.int .i64 z) := by
      have := h4 j hlt
      rw [hbr.out.cell (block_lt_of_cell this), this, hz]
    have hi : (0 : Int) ≤ (j : Int) := by omega
    have hi2 : (j : Int) < (zs.length : Int) := by omega
    clear h4 hz
    go_wp2_with (fail)
    refine (key_c _ _).mono ?_
    rintro e w1 ⟨rfl, hw1⟩
    rw [hw1]
    clear hw1
    by_cases c1 : 1 ≤ z ∧ z ≤ 65535
    · have HN : Hid (∀ t, t < j + 1 → 1 ≤ zs.getD t 0 ∧ zs.getD t 0 ≤ 65535) := fun t ht => by
          by_cases e : t = j
          · subst e; rw [HZ.out]; omega
          · exact hA.out t (by omega)
      have c1d : decide (1 ≤ z ∧ z ≤ 65535) = true := by simp; omega
      rw [c1d]
      clear c1
      go_wp2
      go_roundw
      case rel => exact ⟨j + 1, by omega, by go_num, HN.out, hbr.out⟩
      case measure => simp [intOf]; omega
    · have c1d : decide (1 ≤ z ∧ z ≤ 65535) = false := by simp; omega
      have HN : Hid (kbB zs = false) := kbB_no j hlt (by rw [HZ.out]; omega)
      rw [c1d]
      clear c1
      go_wp2
      go_ret
      exact ⟨by rw [HN.out, Bool.false_and]; rfl, hbr.out⟩

set_option maxHeartbeats 3200000 in
theorem keyI_c (v : Value) (zs : List Int) (f : Int) (w : World) (h : Rd .i64 w v zs) : Calls Try.prog 12 #[v, .int .i64 f] w fun e w' => e = .returned (.tuple #[.int .i64 (keyR zs f), .bool (keyB zs f)]) ∧ Below w.heap.size w w' := by
  have HR : Hid (Rd .i64 w v zs) := h
  have HB : Hid (Below w.heap.size w w) := Below.refl _ _
  have HE : Hid (keyB zs f = (decide (0 ≤ f ∧ f ≤ 1000000) && (kbB zs && decide (1 ≤ (zs.length : Int) ∧ (zs.length : Int) ≤ 64)))) := rfl
  have HFF : Hid (keyB zs f = false → Ending.returned (.tuple #[.int .i64 0, .bool false]) = .returned (.tuple #[.int .i64 (keyR zs f), .bool (keyB zs f)])) := fun e => by unfold keyR; rw [if_neg (by rw [e]; simp), e]
  have HTT : Hid (keyB zs f = true → Ending.returned (.tuple #[.int .i64 (if keyX zs f = 0 then 1 else keyX zs f), .bool true]) = .returned (.tuple #[.int .i64 (keyR zs f), .bool (keyB zs f)])) := fun e => by unfold keyR; rw [if_pos e, e]

  go_enter Try.func12, Try.ntmps12
  go_wp2_with (fail)
  refine (frame_c _ _).mono ?_
  rintro e w1 ⟨rfl, hw⟩
  rw [hw]
  clear hw w1
  by_cases c1 : 0 ≤ f ∧ f ≤ 1000000
  case neg =>
    have d : decide (0 ≤ f ∧ f ≤ 1000000) = false := by rw [decide_eq_false_iff_not]; exact c1
    have HF : Hid (keyB zs f = false) := by show _ = _; rw [HE.out, d]; rfl
    rw [d]
    clear c1 d
    go_wp2
    go_ret2
    exact ⟨HFF.out HF.out, HB.out⟩
  have d1 : decide (0 ≤ f ∧ f ≤ 1000000) = true := by rw [decide_eq_true_eq]; exact c1
  rw [d1]
  go_wp2_with (fail)
  refine (book_c _ zs _ HR.out).mono ?_
  rintro e w1 ⟨rfl, b1⟩
  have HB1 : Hid (Below w.heap.size w w1) := b1
  have HRd : Hid (Rd .i64 w1 v zs) := HR.out.below b1
  obtain ⟨q, hq⟩ : ∃ q, (kbB zs && decide (1 ≤ (zs.length : Int) ∧ (zs.length : Int) ≤ 64)) = q := ⟨_, rfl⟩
  rw [hq]
  have HQ : Hid (keyB zs f = q) := by show _ = _; rw [HE.out, d1, hq]; rfl
  clear b1 
  cases q with
  | false =>
    clear hq
    go_wp2
    go_ret2
    exact ⟨HFF.out HQ.out, HB1.out⟩
  | true =>
  have HTr : Hid (keyB zs f = true) := HQ.out
  rw [Bool.and_eq_true, decide_eq_true_eq] at hq
  have l0 := hq.2.1
  have l1 := hq.2.2
  have f0 := c1.1
  have f1 := c1.2
  have hrl := Int.emod_nonneg f (show (zs.length : Int) ≠ 0 by omega)
  have hrn := Int.emod_lt_of_pos f (show 0 < (zs.length : Int) by omega)
  clear hq c1 d1

  obtain ⟨a, cap, rfl, h1, h2, h3⟩ := HRd.out
  unfold maxLen at h2
  rcases h3 with h3 | ⟨b, off, rfl, h4⟩
  · subst h3; simp at l0
  obtain ⟨n, hn⟩ : ∃ n : Nat, zs.length = n := ⟨_, rfl⟩
  rw [hn] at l0 l1 hrl hrn h1 h4 ⊢
  obtain ⟨k, hk⟩ : ∃ k : Nat, (f % (n : Int)).toNat = k := ⟨_, rfl⟩
  have hk1 : k < n := by omega
  have hk2 : f % (n : Int) = (k : Int) := by omega
  obtain ⟨z, hz⟩ : ∃ z, zs.getD k 0 = z := ⟨_, rfl⟩
  have hc := h4 k (by omega)
  rw [hz] at hc
  obtain ⟨y, hy⟩ : ∃ y, xo z (f % 65536) = y := ⟨_, rfl⟩
  have HX : Hid (keyX zs f = y) := by show keyX zs f = y; unfold keyX; rw [hn, hk, hz, hy]
  have hyb := keyX_bd HTr.out
  rw [HX.out] at hyb
  have hy0 := hyb.1
  have hy1 := hyb.2
  have hy' : bits .xor .i64 z (f % 65536) = y := hy
  have hi : (0 : Int) ≤ (k : Int) := by omega
  have hi2 : (k : Int) < (n : Int) := by omega
  have htm : f.tmod (n : Int) = (k : Int) := by rw [Int.tmod_eq_emod_of_nonneg f0, hk2]
  have htm2 : f.tmod 65536 = f % 65536 := Int.tmod_eq_emod_of_nonneg f0
  have hnz : ((n : Int) == 0) = false := by simp; omega
  have HN' : Hid (zs.length = n ∧ (f % (n : Int)).toNat = k ∧ f % (n : Int) = (k : Int) ∧ zs.getD k 0 = z) := ⟨hn, hk, hk2, hz⟩
  clear h4 hyb hy hk hk2 hrl hrn hz hn

  go_wp2
  all_goals
    go_ret2
    exact ⟨(tup_int (by rw [HX.out]; split <;> omega)).trans (HTT.out HTr.out), HB1.out⟩

set_option maxHeartbeats 3200000 in
theorem keyM_c (v : Value) (zs : List Int) (f : Int) (w : World) (h : Rd .i64 w v zs) : Calls Try.prog 13 #[v, .int .i64 f] w fun e w' => e = .returned (.tuple #[.int .i64 (keyR zs f), .bool (keyB zs f)]) ∧ Below w.heap.size w w' := by
  have HR : Hid (Rd .i64 w v zs) := h
  have HB : Hid (Below w.heap.size w w) := Below.refl _ _
  have HE : Hid (keyB zs f = (decide (0 ≤ f ∧ f ≤ 1000000) && (kbB zs && decide (1 ≤ (zs.length : Int) ∧ (zs.length : Int) ≤ 64)))) := rfl
  have HFF : Hid (keyB zs f = false → Ending.returned (.tuple #[.int .i64 0, .bool false]) = .returned (.tuple #[.int .i64 (keyR zs f), .bool (keyB zs f)])) := fun e => by unfold keyR; rw [if_neg (by rw [e]; simp), e]
  have HTT : Hid (keyB zs f = true → Ending.returned (.tuple #[.int .i64 (if keyX zs f = 0 then 1 else keyX zs f), .bool true]) = .returned (.tuple #[.int .i64 (keyR zs f), .bool (keyB zs f)])) := fun e => by unfold keyR; rw [if_pos e, e]

  obtain ⟨a, cap, rfl, h1, h2, h3⟩ := h
  unfold maxLen at h2
  go_enter Try.func13, Try.ntmps13
  go_wp2_with (fail)
  refine (in_c _ _ _ _).mono ?_
  rintro e w1 ⟨rfl, hw⟩
  rw [hw]
  clear hw w1
  by_cases c2 : 1 ≤ (zs.length : Int) ∧ (zs.length : Int) ≤ 64
  case neg =>
    have d : decide (1 ≤ (zs.length : Int) ∧ (zs.length : Int) ≤ 64) = false := by rw [decide_eq_false_iff_not]; exact c2
    have HF : Hid (keyB zs f = false) := by show _ = _; rw [HE.out, d]; simp
    rw [d]
    clear c2 d h3
    go_wp2
    go_ret2
    exact ⟨HFF.out HF.out, HB.out⟩
  have d2 : decide (1 ≤ (zs.length : Int) ∧ (zs.length : Int) ≤ 64) = true := by rw [decide_eq_true_eq]; exact c2
  have HD2 : Hid (decide (1 ≤ (zs.length : Int) ∧ (zs.length : Int) ≤ 64) = true) := d2
  rw [d2]
  clear d2
  have l0 := c2.1
  have l1 := c2.2
  clear c2
  go_wp2_with (fail)
  refine (in_c _ _ _ _).mono ?_
  rintro e w1 ⟨rfl, hw⟩
  rw [hw]
  clear hw w1
  by_cases c1 : 0 ≤ f ∧ f ≤ 1000000
  case neg =>
    have d : decide (0 ≤ f ∧ f ≤ 1000000) = false := by rw [decide_eq_false_iff_not]; exact c1
    have HF : Hid (keyB zs f = false) := by show _ = _; rw [HE.out, d]; rfl
    rw [d]
    clear c1 d h3
    go_wp2
    go_ret2
    exact ⟨HFF.out HF.out, HB.out⟩
  have d1 : decide (0 ≤ f ∧ f ≤ 1000000) = true := by rw [decide_eq_true_eq]; exact c1
  have HD1 : Hid (decide (0 ≤ f ∧ f ≤ 1000000) = true) := d1
  rw [d1]
  clear d1
  have f0 := c1.1
  have f1 := c1.2
  clear c1
  go_wp2
  go_loopw [6] (fun i wr => ∃ j : Nat, j ≤ zs.length ∧ i = .int .i64 j ∧ Hid (∀ t, t < j → 1 ≤ zs.getD t 0 ∧ zs.getD t 0 ≤ 65535) ∧ Hid (Below w.heap.size w wr)) (fun i _ => zs.length - (intOf i).toNat)
  case atStart => exact ⟨0, Nat.zero_le _, rfl, fun t ht => by omega, Below.refl _ _⟩
  case round =>
    obtain ⟨j, hj, rfl, hA, hbr⟩ := hrel
    by_cases hlt : j < zs.length
    case neg =>
      obtain rfl : j = zs.length := by omega
      have HN : Hid (kbB zs = true) := kbB_all hA.out
      have HTr : Hid (keyB zs f = true) := by show _ = _; rw [HE.out, HD1.out, HD2.out, HN.out]; rfl
      have HRd : Hid (Rd .i64 wr (.slice a zs.length cap) zs) := HR.out.below hbr.out
      have hrl := Int.emod_nonneg f (show (zs.length : Int) ≠ 0 by omega)
      have hrn := Int.emod_lt_of_pos f (show 0 < (zs.length : Int) by omega)
      clear h3 hlt hj HE HD1 HD2 h1 h2

      obtain ⟨a1, cap1, he1, h1, h2, h3⟩ := HRd.out
      rw [he1]
      unfold maxLen at h2
      rcases h3 with h3 | ⟨b, off, rfl, h4⟩
      · subst h3; simp at l0
      obtain ⟨n, hn⟩ : ∃ n : Nat, zs.length = n := ⟨_, rfl⟩
      rw [hn] at l0 l1 hrl hrn h1 h4 ⊢
      obtain ⟨k, hk⟩ : ∃ k : Nat, (f % (n : Int)).toNat = k := ⟨_, rfl⟩
      have hk1 : k < n := by omega
      have hk2 : f % (n : Int) = (k : Int) := by omega
      obtain ⟨z, hz⟩ : ∃ z, zs.getD k 0 = z := ⟨_, rfl⟩
      have hc := h4 k (by omega)
      rw [hz] at hc
      obtain ⟨y, hy⟩ : ∃ y, xo z (f % 65536) = y := ⟨_, rfl⟩
      have HX : Hid (keyX zs f = y) := by show keyX zs f = y; unfold keyX; rw [hn, hk, hz, hy]
      have hyb := keyX_bd HTr.out
      rw [HX.out] at hyb
      have hy0 := hyb.1
      have hy1 := hyb.2
      have hy' : bits .xor .i64 z (f % 65536) = y := hy
      have hi : (0 : Int) ≤ (k : Int) := by omega
      have hi2 : (k : Int) < (n : Int) := by omega
      have htm : f.tmod (n : Int) = (k : Int) := by rw [Int.tmod_eq_emod_of_nonneg f0, hk2]
      have htm2 : f.tmod 65536 = f % 65536 := Int.tmod_eq_emod_of_nonneg f0
      have hnz : ((n : Int) == 0) = false := by simp; omega
      have HN' : Hid (zs.length = n ∧ (f % (n : Int)).toNat = k ∧ f % (n : Int) = (k : Int) ∧ zs.getD k 0 = z) := ⟨hn, hk, hk2, hz⟩
      clear h4 hyb hy hk hk2 hrl hrn hz hn

      by_cases cm : y = 0
      · have HM : Hid (y = 0) := cm
        have cb : (y == 0) = true := by simp [cm]
        clear cm
        go_wp2
        go_ret2
        exact ⟨by rw [← HTT.out HTr.out, HX.out, if_pos HM.out]; first | rfl | simp_all, hbr.out⟩
      · have HM : Hid (¬ y = 0) := cm
        have cb : (y == 0) = false := by simp [cm]
        clear cm
        go_wp2
        go_ret2
        exact ⟨by rw [← HTT.out HTr.out, HX.out, if_neg HM.out]; first | rfl | simp_all, hbr.out⟩
    case pos =>
    rcases h3 with h3 | ⟨b, off, rfl, h4⟩
    · subst h3; simp at hlt
    obtain ⟨z, hz⟩ : ∃ z, zs.getD j 0 = z := ⟨_, rfl⟩
    have HZ : Hid (zs.getD j 0 = z) := hz
    have hc : wr.cell? ⟨b, off + j, none⟩ = some (.int .i64 z) := by
      have := h4 j hlt
      rw [hbr.out.cell (block_lt_of_cell this), this, hz]
    have hi : (0 : Int) ≤ (j : Int) := by omega
    have hi2 : (j : Int) < (zs.length : Int) := by omega
    clear h4 hz
    go_wp2_with (fail)
    refine (in_c _ _ _ _).mono ?_
    rintro e w1 ⟨rfl, hw1⟩
    rw [hw1]
    clear hw1
    by_cases c1 : 1 ≤ z ∧ z ≤ 65535
    · have HN : Hid (∀ t, t < j + 1 → 1 ≤ zs.getD t 0 ∧ zs.getD t 0 ≤ 65535) := fun t ht => by
          by_cases e : t = j
          · subst e; rw [HZ.out]; omega
          · exact hA.out t (by omega)
      have c1d : decide (1 ≤ z ∧ z ≤ 65535) = true := by simp; omega
      rw [c1d]
      clear c1
      go_wp2
      go_roundw
      case rel => exact ⟨j + 1, by omega, by go_num, HN.out, hbr.out⟩
      case measure => simp [intOf]; omega
    · have c1d : decide (1 ≤ z ∧ z ≤ 65535) = false := by simp; omega
      have HN : Hid (kbB zs = false) := kbB_no j hlt (by rw [HZ.out]; omega)
      have HF : Hid (keyB zs f = false) := by show _ = _; rw [HE.out, HN.out]; simp
      rw [c1d]
      clear c1
      go_wp2
      go_ret2
      exact ⟨HFF.out HF.out, hbr.out⟩

set_option maxHeartbeats 3200000 in
theorem keyLaw (v : Value) (zs : List Int) (f : Int) (w : World) (h : Rd .i64 w v zs) (hst : (Lit.int .i64 f).wf = true) : Calls Try.prog 4 #[v, .int .i64 f] w fun e w' => e = .returned (.bool true) ∧ Below w.heap.size w w' := by
  have HR : Hid (Rd .i64 w v zs) := h
  have HB : Hid (Below w.heap.size w w) := Below.refl _ _
  obtain ⟨a, cap, rfl, h1, h2, -⟩ := h
  unfold maxLen at h2
  by_cases hl : (1048576 : Int) < (zs.length : Int)
  · go_enter Try.func4, Try.ntmps4
    go_wp2
    go_ret
    exact ⟨rfl, HB.out⟩
  have hl' : zs.length ≤ 1048576 := by omega
  go_enter Try.func4, Try.ntmps4
  go_wp2_with (fail)
  refine (toI _ zs w HR.out hl').mono ?_
  rintro e w1 ⟨v1, rfl, o1, b1⟩
  have HO1 : Hid (Rd .i64 w1 v1 zs) := o1.rd
  have HB1 : Hid (Below w.heap.size w w1) := b1
  clear o1 b1
  go_wp2_with (fail)
  refine (keyM_c v1 zs f w1 HO1.out).mono ?_
  rintro e w2 ⟨rfl, b2⟩
  have HB2 : Hid (Below w.heap.size w w2) := belowCall HB1.out b2 HB1.out.size
  clear b2
  go_wp2_with (fail)
  refine (toI _ zs w2 (HR.out.below HB2.out) hl').mono ?_
  rintro e w3 ⟨v3, rfl, o3, b3⟩
  have HO3 : Hid (Rd .i64 w3 v3 zs) := o3.rd
  have HB3 : Hid (Below w.heap.size w w3) := belowCall HB2.out b3 HB2.out.size
  clear o3 b3
  go_wp2_with (fail)
  refine (keyI_c v3 zs f w3 HO3.out).mono ?_
  rintro e w4 ⟨rfl, b4⟩
  have HO4 : Hid (Rd .i64 w4 v3 zs) := HO3.out.below b4
  have HB4 : Hid (Below w.heap.size w w4) := belowCall HB3.out b4 HB3.out.size
  clear b4
  obtain ⟨p, hp⟩ : ∃ p, keyR zs f = p := ⟨_, rfl⟩
  obtain ⟨q, hq⟩ : ∃ q, keyB zs f = q := ⟨_, rfl⟩
  rw [hp, hq]
  have e1 : (p != p) = false := by simp
  have e2 : (q != q) = false := by simp
  clear hp hq
  go_wp2_with (fail)
  refine (toI _ zs w4 (HR.out.below HB4.out) hl').mono ?_
  rintro e w5 ⟨v5, rfl, o5, b5⟩
  have HO5 : Hid (Rd .i64 w5 v5 zs) := o5.rd
  have HO5' : Hid (Rd .i64 w5 v3 zs) := HO4.out.below b5
  have HB5 : Hid (Below w.heap.size w w5) := belowCall HB4.out b5 HB4.out.size
  clear o5 b5
  go_wp2_with (fail)
  refine (eqIS v3 v5 zs w5 HO5'.out HO5.out).mono ?_
  rintro e w6 ⟨rfl, b6⟩
  have HB6 : Hid (Below w.heap.size w w6) := belowCall HB5.out b6 HB5.out.size
  clear b6
  go_wp2
  go_ret
  exact ⟨rfl, HB6.out⟩

end Go.Proofs.Ytpkkmlgmdhcehaa

/- Right subs, the model's way; no condition. -/
import Derived.Test.YtfaflnhembceoaaSbJ
namespace Go.Proofs.Ytfaflnhembceoaa
open Go.RowKit Go.ChangeShapes Go.WideShapes Go.ChangeAt
set_option linter.unusedVariables false
set_option linter.unusedSimpArgs false
set_option maxRecDepth 8000
theorem points_c (k : Int) (w : World) : Calls Try.prog 71 #[.int .i64 k] w fun e w' => e = .returned (.bool (ptB k)) ∧ w' = w := by
  by_cases h1 : k = 1
  · subst h1; go_enter Try.func71, Try.ntmps71; go_wp2; go_ret; exact ⟨rfl, rfl⟩
  by_cases h2 : k = 2
  · subst h2; go_enter Try.func71, Try.ntmps71; go_wp2; go_ret; exact ⟨rfl, rfl⟩
  by_cases h3 : k = 3
  · subst h3; go_enter Try.func71, Try.ntmps71; go_wp2; go_ret; exact ⟨rfl, rfl⟩
  by_cases h5 : k = 5
  · subst h5; go_enter Try.func71, Try.ntmps71; go_wp2; go_ret; exact ⟨rfl, rfl⟩
  go_enter Try.func71, Try.ntmps71
  go_wp2
  go_ret
  exact ⟨rfl, rfl⟩
theorem ftB_kind {n k o : Int} (h : ¬ (1 ≤ k ∧ k ≤ 7)) : ftB n (k, o) = false := by
  have h1 : ¬ k = 1 := by omega
  have h2 : ¬ k = 2 := by omega
  have h3 : ¬ k = 3 := by omega
  have h4 : ¬ k = 4 := by omega
  have h5 : ¬ k = 5 := by omega
  have h6 : ¬ k = 6 := by omega
  have h7 : ¬ k = 7 := by omega
  simp [ftB, ptB, h1, h2, h3, h4, h5, h6, h7]
theorem ftB_pt {n k o : Int} (h : ptB k = true) : ftB n (k, o) = decide (0 ≤ o ∧ o ≤ n - 1) := by
  rw [ftB]
  show (if ptB k = true then _ else _) = _
  rw [if_pos h, Bool.eq_iff_iff]
  simp only [decide_eq_true_eq]
  omega
theorem ftB_no {n k o : Int} (h : ptB k = false) (hk : 1 ≤ k ∧ k ≤ 7) : ftB n (k, o) = decide (o = 0) := by
  rw [ftB]
  show (if ptB k = true then _ else _) = _
  rw [if_neg (by rw [h]; simp)]
  have h1 : ¬ k = 1 := fun e => by subst e; simp [ptB] at h
  have h2 : ¬ k = 2 := fun e => by subst e; simp [ptB] at h
  have h3 : ¬ k = 3 := fun e => by subst e; simp [ptB] at h
  have h5 : ¬ k = 5 := fun e => by subst e; simp [ptB] at h
  rw [if_pos (by dsimp only; omega)]
theorem any_take_succ {f : Int × Int → Bool} {ls : Fts} {j : Nat} (hj : j < ls.length) (h : (ls.take j).any f = false) (h1 : f ls[j] = false) : (ls.take (j + 1)).any f = false := by
  rw [List.take_succ_eq_append_getElem hj, List.any_append, h]
  simp [h1]
theorem any_take_hit {f : Int × Int → Bool} {ls : Fts} {i j : Nat} (hj : j < ls.length) (hij : j < i) (h1 : f ls[j] = true) : (ls.take i).any f = true := by
  rw [List.any_eq_true]
  exact ⟨ls[j], by rw [List.mem_take_iff_getElem]; exact ⟨j, by omega, rfl⟩, h1⟩
set_option maxHeartbeats 6400000 in
theorem subM_c (p q : Bool) (v : Value) (ls : Fts) (n : Int) (w : World) (h : Rp mf mg w v ls) (hn0 : 0 ≤ n) (hn : n ≤ 1048576) : Calls Try.prog 47 #[.agg (S3 p q v), .int .i64 n] w (BoR (FsOk n ls) w) := by
  obtain ⟨a, cap, rfl, h1, h2, h3⟩ := h
  unfold maxLen at h2
  obtain ⟨m, hm⟩ : ∃ m, ls.length = m := ⟨_, rfl⟩
  have HM : Hid (ls.length = m) := hm
  have H3 : Hid (ls = [] ∨ ∃ b off, a = some ⟨b, off, none⟩ ∧ ∀ i (h : i < ls.length), w.cell? ⟨b, off + i * 2, none⟩ = some (mf ls[i]) ∧ w.cell? ⟨b, off + i * 2 + 1, none⟩ = some (mg ls[i])) := h3
  rw [hm] at h1 ⊢
  obtain ⟨W0, hW0⟩ : ∃ W0, w.alloc (Obj.cells (S3 p q (.slice a m cap)) 35) = W0 := ⟨_, rfl⟩
  have B0 : Hid (Below w.heap.size w W0) := hW0 ▸ (Below.refl _ _).alloc (Nat.le_refl _) _
  have K0 : Hid (Blk W0 w.heap.size (S3 p q (.slice a m cap)) 35) := hW0 ▸ Blk.new _ _ _
  clear hm h3
  go_enter Try.func47, Try.ntmps47
  have HW0 : Hid (w.alloc (Obj.cells (S3 p q (.slice a m cap)) 35) = W0) := hW0
  clear hW0
  go_wp2
  go_loopw [5] (fun i wr => ∃ j : Nat, j ≤ m ∧ i = .int .i64 j ∧ Hid (Below W0.heap.size W0 wr) ∧ Hid (FsTo n ls j)) (fun i _ => m - (intOf i).toNat)
  case atStart => exact ⟨0, Nat.zero_le _, rfl, by rw [HW0.out]; exact Below.refl _ _, fun i _ h => by omega⟩
  case round =>
    obtain ⟨j, hj, rfl, BJ, hA⟩ := hrel
    have k0 := K0.out.below BJ.out K0.out.lt
    have HK : Hid (Blk wr w.heap.size (S3 p q (.slice a m cap)) 35) := k0
    have s2 := k0.cell 2
    simp at s2
    have BW : Hid (Below w.heap.size w wr) := belowCall B0.out BJ.out B0.out.size
    clear k0
    by_cases hlt : j < m
    case neg =>
      obtain rfl : m = j := by omega
      have HY : Hid (FsOk n ls) := by
        show FsTo n ls ls.length
        rw [HM.out]; exact hA.out
      go_wp2
      go_ret
      exact BoR.yes HY.out BW.out
    case pos =>
    have hjl : j < ls.length := by rw [HM.out]; exact hlt
    obtain ⟨b, off, rfl, h4⟩ : ∃ b off, a = some ⟨b, off, none⟩ ∧ _ := by
      rcases H3.out with h | h
      · rw [h] at hjl; simp at hjl
      · exact h
    have hc := h4 j hjl
    have hcb : b < w.heap.size := block_lt_of_cell hc.1
    obtain ⟨k, o, hr⟩ : ∃ k o, ls[j] = (k, o) := ⟨_, _, rfl⟩
    rw [hr] at hc
    have HR : Hid (ls[j] = (k, o)) := hr
    have e0 := (BW.out.cell (p := ⟨b, off + j * 2, none⟩) hcb).trans hc.1
    have e1 := (BW.out.cell (p := ⟨b, off + j * 2 + 1, none⟩) hcb).trans hc.2
    obtain ⟨W1, hW1⟩ : ∃ W1, wr.alloc (Obj.cells (H2 k o) 37) = W1 := ⟨_, rfl⟩
    have bA : Below wr.heap.size wr W1 := hW1 ▸ (Below.refl _ _).alloc (Nat.le_refl _) _
    have B1 : Hid (Below w.heap.size w W1) := belowCall BW.out bA BW.out.size
    have B1' : Hid (Below W0.heap.size W0 W1) := belowCall BJ.out bA BJ.out.size
    have k1 : Blk W1 wr.heap.size (H2 k o) 37 := hW1 ▸ Blk.new _ _ _
    have K1 : Hid (Blk W1 wr.heap.size (H2 k o) 37) := k1
    have KS1 : Hid (Blk W1 w.heap.size (S3 p q (.slice (some ⟨b, off, none⟩) m cap)) 35) := HK.out.below bA HK.out.lt
    have c0 := k1.cell 0
    have c1 := k1.cell 1
    simp at c0 c1
    have H4 : Hid (∀ i (h : i < ls.length), w.cell? ⟨b, off + i * 2, none⟩ = some (mf ls[i]) ∧ w.cell? ⟨b, off + i * 2 + 1, none⟩ = some (mg ls[i])) := h4
    have HFT : Hid (ftB n ls[j] = ftB n (k, o)) := by rw [HR.out]; rfl
    clear h4 hc hr bA k1 HK
    go_wp2_with (fail)
    clear hW1 e0 e1 s2
    refine (in_c k 1 7 W1).mono ?_
    rintro e wq ⟨rfl, hwq⟩
    rw [hwq]
    clear hwq wq
    by_cases hk : 1 ≤ k ∧ k ≤ 7
    case neg =>
      have HY : Hid (¬ FsOk n ls) := fun h => by
        have := (h j hjl hjl).1
        rw [HFT.out, ftB_kind hk] at this; cases this
      rw [decide_eq_false hk]
      go_wp2
      go_ret
      exact BoR.no HY.out B1.out
    rw [decide_eq_true hk]
    go_wp2_with (fail)
    refine (points_c k W1).mono ?_
    rintro e wq ⟨rfl, hwq⟩
    rw [hwq]
    clear hwq wq
    cases hp : ptB k with
    | true =>
      have HF : Hid (ftB n ls[j] = decide (0 ≤ o ∧ o ≤ n - 1)) := by rw [HFT.out]; exact ftB_pt hp
      go_wp2_with (fail)
      refine (in_c o 0 (n - 1) W1).mono ?_
      rintro e wq ⟨rfl, hwq⟩
      rw [hwq]
      clear hwq wq
      by_cases ho : 0 ≤ o ∧ o ≤ n - 1
      case neg =>
        have HY : Hid (¬ FsOk n ls) := fun h => by
          have := (h j hjl hjl).1
          rw [HF.out, decide_eq_false ho] at this; cases this
        rw [decide_eq_false ho]
        go_wp2
        go_ret
        exact BoR.no HY.out B1.out
      have HFO : Hid (ftB n ls[j] = true) := by
        show ftB n ls[j] = true
        rw [HF.out, decide_eq_true ho]
      rw [decide_eq_true ho]
      clear HF ho
      go_wp2_with (fail)
      refine (points_c k W1).mono ?_
      rintro e wq ⟨rfl, hwq⟩
      rw [hwq]
      clear hwq wq
      rw [hp]
      go_wp2
      go_loopw [7] (fun i wx => ∃ t : Nat, t ≤ j ∧ i = .int .i64 t ∧ Hid (Below W1.heap.size W1 wx) ∧ Hid ((ls.take t).any (twB (k, o)) = false)) (fun i _ => j - (intOf i).toNat)
      case atStart => exact ⟨0, Nat.zero_le _, rfl, Below.refl _ _, rfl⟩
      case round =>
        obtain ⟨t, ht, rfl, BT, hT⟩ := hrel
        have BT2 : Hid (Below w.heap.size w wr) := belowCall B1.out BT.out B1.out.size
        have BT3 : Hid (Below W0.heap.size W0 wr) := belowCall B1'.out BT.out B1'.out.size
        by_cases htj : t < j
        case neg =>
          obtain rfl : t = j := by omega
          have HY : Hid (FsTo n ls (t + 1)) := hA.out.succ hjl HFO.out (by rw [HR.out]; exact hT.out)
          clear HFO hT hA
          go_wp2
          go_roundw
          case rel => exact ⟨t + 1, by omega, by go_num, BT3.out, HY.out⟩
          case measure => simp [intOf]; omega
        case pos =>
        have htl : t < ls.length := by rw [HM.out]; omega
        have hc := H4.out t htl
        obtain ⟨k', o', hr'⟩ : ∃ k o, ls[t] = (k, o) := ⟨_, _, rfl⟩
        have HR' : Hid (ls[t] = (k', o')) := hr'
        rw [hr'] at hc
        have e0 := (BT2.out.cell (p := ⟨b, off + t * 2, none⟩) hcb).trans hc.1
        have e1 := (BT2.out.cell (p := ⟨b, off + t * 2 + 1, none⟩) hcb).trans hc.2
        have ks := KS1.out.below BT.out KS1.out.lt
        have s2 := ks.cell 2
        simp at s2
        have kf := K1.out.below BT.out K1.out.lt
        obtain ⟨W2, hW2⟩ : ∃ W2, wr.alloc (Obj.cells (H2 k' o') 37) = W2 := ⟨_, rfl⟩
        have bB : Below wr.heap.size wr W2 := hW2 ▸ (Below.refl _ _).alloc (Nat.le_refl _) _
        have B2 : Hid (Below w.heap.size w W2) := belowCall BT2.out bB BT2.out.size
        have B2' : Hid (Below W1.heap.size W1 W2) := belowCall BT.out bB BT.out.size
        have k2 : Blk W2 wr.heap.size (H2 k' o') 37 := hW2 ▸ Blk.new _ _ _
        have k3 := kf.below bB kf.lt
        have f0 := k2.cell 0
        have f1 := k2.cell 1
        have g0 := k3.cell 0
        have g1 := k3.cell 1
        simp at f0 f1 g0 g1
        have HTW : Hid (twB (k, o) ls[t] = (k' == k && (k != 5 || o' == o))) := by
          show twB (k, o) ls[t] = _
          rw [HR'.out, twB]
          dsimp only
          by_cases h5 : k = 5
          · rw [if_pos h5, Bool.eq_iff_iff]; simp [h5]
          · rw [if_neg h5, Bool.eq_iff_iff]; simp [h5]
        have hS : Hid ((k' == k && (k != 5 || o' == o)) = false → (ls.take (t + 1)).any (twB (k, o)) = false) := fun h => any_take_succ htl hT.out (by rw [HTW.out]; exact h)
        have hN : Hid ((k' == k && (k != 5 || o' == o)) = true → ¬ FsOk n ls) := fun h hF => by
          have := (hF j hjl hjl).2
          rw [HR.out, any_take_hit htl htj (by rw [HTW.out]; exact h)] at this; cases this
        clear hc hr' ks kf bB k2 k3 HTW hT HFO hA HFT c0 c1
        by_cases x1 : k' = k
        case neg =>
          have HY : Hid ((ls.take (t + 1)).any (twB (k, o)) = false) := hS.out (by simp [x1])
          have y1 : (k' == k) = false := by simp [x1]
          clear x1 hS hN
          go_wp2
          go_roundw
          case rel => exact ⟨t + 1, by omega, by go_num, B2'.out, HY.out⟩
          case measure => simp [intOf]; omega
        case pos =>
        have y1 : (k' == k) = true := by simp [x1]
        by_cases x2 : k = 5
        case neg =>
          have HY : Hid (¬ FsOk n ls) := hN.out (by simp [x1, x2])
          have y2 : (k != 5) = true := by simp [x2]
          clear hS hN x1
          go_wp2
          go_ret
          exact BoR.no HY.out B2.out
        case pos =>
        clear x1
        subst x2
        have y2 : ((5 : Int) != 5) = false := by decide
        by_cases x3 : o' = o
        case neg =>
          have HY : Hid ((ls.take (t + 1)).any (twB (5, o)) = false) := hS.out (by simp [x3])
          have y3 : (o' == o) = false := by simp [x3]
          clear x3 hS hN
          go_wp2
          go_roundw
          case rel => exact ⟨t + 1, by omega, by go_num, B2'.out, HY.out⟩
          case measure => simp [intOf]; omega
        case pos =>
          have HY : Hid (¬ FsOk n ls) := hN.out (by rw [y1]; simp [x3])
          have y3 : (o' == o) = true := by simp [x3]
          clear x3 hS hN
          go_wp2
          go_ret
          exact BoR.no HY.out B2.out
    | false =>
      have HF : Hid (ftB n ls[j] = decide (o = 0)) := by rw [HFT.out]; exact ftB_no hp hk
      go_wp2_with (fail)
      refine (points_c k W1).mono ?_
      rintro e wq ⟨rfl, hwq⟩
      rw [hwq]
      clear hwq wq
      rw [hp]
      by_cases ho : o = 0
      case neg =>
        have HY : Hid (¬ FsOk n ls) := fun h => by
          have := (h j hjl hjl).1
          rw [HF.out, decide_eq_false ho] at this; cases this
        have y0 : (o != 0) = true := by simp [ho]
        clear ho
        go_wp2
        go_ret
        exact BoR.no HY.out B1.out
      have HFO : Hid (ftB n ls[j] = true) := by
        show ftB n ls[j] = true
        rw [HF.out, decide_eq_true ho]
      have y0 : (o != 0) = false := by simp [ho]
      clear HF ho
      go_wp2
      go_loopw [7] (fun i wx => ∃ t : Nat, t ≤ j ∧ i = .int .i64 t ∧ Hid (Below W1.heap.size W1 wx) ∧ Hid ((ls.take t).any (twB (k, o)) = false)) (fun i _ => j - (intOf i).toNat)
      case atStart => exact ⟨0, Nat.zero_le _, rfl, Below.refl _ _, rfl⟩
      case round =>
        obtain ⟨t, ht, rfl, BT, hT⟩ := hrel
        have BT2 : Hid (Below w.heap.size w wr) := belowCall B1.out BT.out B1.out.size
        have BT3 : Hid (Below W0.heap.size W0 wr) := belowCall B1'.out BT.out B1'.out.size
        by_cases htj : t < j
        case neg =>
          obtain rfl : t = j := by omega
          have HY : Hid (FsTo n ls (t + 1)) := hA.out.succ hjl HFO.out (by rw [HR.out]; exact hT.out)
          clear HFO hT hA
          go_wp2
          go_roundw
          case rel => exact ⟨t + 1, by omega, by go_num, BT3.out, HY.out⟩
          case measure => simp [intOf]; omega
        case pos =>
        have htl : t < ls.length := by rw [HM.out]; omega
        have hc := H4.out t htl
        obtain ⟨k', o', hr'⟩ : ∃ k o, ls[t] = (k, o) := ⟨_, _, rfl⟩
        have HR' : Hid (ls[t] = (k', o')) := hr'
        rw [hr'] at hc
        have e0 := (BT2.out.cell (p := ⟨b, off + t * 2, none⟩) hcb).trans hc.1
        have e1 := (BT2.out.cell (p := ⟨b, off + t * 2 + 1, none⟩) hcb).trans hc.2
        have ks := KS1.out.below BT.out KS1.out.lt
        have s2 := ks.cell 2
        simp at s2
        have kf := K1.out.below BT.out K1.out.lt
        obtain ⟨W2, hW2⟩ : ∃ W2, wr.alloc (Obj.cells (H2 k' o') 37) = W2 := ⟨_, rfl⟩
        have bB : Below wr.heap.size wr W2 := hW2 ▸ (Below.refl _ _).alloc (Nat.le_refl _) _
        have B2 : Hid (Below w.heap.size w W2) := belowCall BT2.out bB BT2.out.size
        have B2' : Hid (Below W1.heap.size W1 W2) := belowCall BT.out bB BT.out.size
        have k2 : Blk W2 wr.heap.size (H2 k' o') 37 := hW2 ▸ Blk.new _ _ _
        have k3 := kf.below bB kf.lt
        have f0 := k2.cell 0
        have f1 := k2.cell 1
        have g0 := k3.cell 0
        have g1 := k3.cell 1
        simp at f0 f1 g0 g1
        have HTW : Hid (twB (k, o) ls[t] = (k' == k && (k != 5 || o' == o))) := by
          show twB (k, o) ls[t] = _
          rw [HR'.out, twB]
          dsimp only
          by_cases h5 : k = 5
          · rw [if_pos h5, Bool.eq_iff_iff]; simp [h5]
          · rw [if_neg h5, Bool.eq_iff_iff]; simp [h5]
        have hS : Hid ((k' == k && (k != 5 || o' == o)) = false → (ls.take (t + 1)).any (twB (k, o)) = false) := fun h => any_take_succ htl hT.out (by rw [HTW.out]; exact h)
        have hN : Hid ((k' == k && (k != 5 || o' == o)) = true → ¬ FsOk n ls) := fun h hF => by
          have := (hF j hjl hjl).2
          rw [HR.out, any_take_hit htl htj (by rw [HTW.out]; exact h)] at this; cases this
        clear hc hr' ks kf bB k2 k3 HTW hT HFO hA HFT c0 c1
        by_cases x1 : k' = k
        case neg =>
          have HY : Hid ((ls.take (t + 1)).any (twB (k, o)) = false) := hS.out (by simp [x1])
          have y1 : (k' == k) = false := by simp [x1]
          clear x1 hS hN
          go_wp2
          go_roundw
          case rel => exact ⟨t + 1, by omega, by go_num, B2'.out, HY.out⟩
          case measure => simp [intOf]; omega
        case pos =>
        have y1 : (k' == k) = true := by simp [x1]
        by_cases x2 : k = 5
        case neg =>
          have HY : Hid (¬ FsOk n ls) := hN.out (by simp [x1, x2])
          have y2 : (k != 5) = true := by simp [x2]
          clear hS hN x1
          go_wp2
          go_ret
          exact BoR.no HY.out B2.out
        case pos =>
        clear x1
        subst x2
        have y2 : ((5 : Int) != 5) = false := by decide
        by_cases x3 : o' = o
        case neg =>
          have HY : Hid ((ls.take (t + 1)).any (twB (5, o)) = false) := hS.out (by simp [x3])
          have y3 : (o' == o) = false := by simp [x3]
          clear x3 hS hN
          go_wp2
          go_roundw
          case rel => exact ⟨t + 1, by omega, by go_num, B2'.out, HY.out⟩
          case measure => simp [intOf]; omega
        case pos =>
          have HY : Hid (¬ FsOk n ls) := hN.out (by rw [y1]; simp [x3])
          have y3 : (o' == o) = true := by simp [x3]
          clear x3 hS hN
          go_wp2
          go_ret
          exact BoR.no HY.out B2.out
set_option maxHeartbeats 3200000 in
theorem subsM_c (v : Value) (cs : Sbs) (w : World) (h : RdS w v cs) (hn : cs.length ≤ 1048576) : Calls Try.prog 16 #[v] w (BoR (SbOk cs) w) := by
  have HR0 : Hid (RdS w v cs) := h
  obtain ⟨a, cap, rfl, h1, h2⟩ := h.len
  unfold maxLen at h2
  clear h
  obtain ⟨m, hm⟩ : ∃ m, cs.length = m := ⟨_, rfl⟩
  have HM : Hid (cs.length = m) := hm
  rw [hm] at h1 HR0 hn ⊢
  clear hm
  go_enter Try.func16, Try.ntmps16
  go_wp2
  go_loopw [3] (fun i wr => ∃ j : Nat, j ≤ m ∧ i = .int .i64 j ∧ Hid (Below w.heap.size w wr) ∧ Hid (SbTo (m : Int) cs j)) (fun i _ => m - (intOf i).toNat)
  case atStart => exact ⟨0, Nat.zero_le _, rfl, Below.refl _ _, fun i _ h => by omega⟩
  case round =>
    obtain ⟨j, hj, rfl, BJ, hA⟩ := hrel
    by_cases hlt : j < m
    case neg =>
      obtain rfl : m = j := by omega
      have HY : Hid (decide (1 ≤ (m : Int) ∧ (m : Int) ≤ 16) = true ↔ SbOk cs) := by
        refine ⟨fun g => ?_, fun g => ?_⟩
        · have g' := of_decide_eq_true g
          refine ⟨by rw [HM.out]; omega, by rw [HM.out]; omega, fun i hi => ?_⟩
          have := hA.out i hi (by have := HM.out; omega)
          rw [HM.out]; exact this
        · have g1 := g.1
          have g2 := g.2.1
          rw [HM.out] at g1 g2
          exact decide_eq_true ⟨by omega, by omega⟩
      go_wp2_with (fail)
      refine (in_c (m : Int) 1 16 wr).mono ?_
      rintro e wq ⟨rfl, hwq⟩
      rw [hwq]
      clear hwq wq
      obtain ⟨q, hq⟩ : ∃ q, decide (1 ≤ (m : Int) ∧ (m : Int) ≤ 16) = q := ⟨_, rfl⟩
      rw [hq] at HY ⊢
      clear hq
      go_wp2
      go_ret
      exact ⟨_, rfl, HY.out, BJ.out⟩
    case pos =>
    have hjl : j < cs.length := by rw [HM.out]; exact hlt
    obtain ⟨b, off, v2, rfl, hcb, hR, d0, d1, d2⟩ := HR0.out.at j hjl
    obtain ⟨a2, cap2, rfl, -⟩ := id hR
    have e0 := (BJ.out.cell (p := ⟨b, off + j * 3, none⟩) hcb).trans d0
    have e1 := (BJ.out.cell (p := ⟨b, off + j * 3 + 1, none⟩) hcb).trans d1
    have e2 := (BJ.out.cell (p := ⟨b, off + j * 3 + 2, none⟩) hcb).trans d2
    obtain ⟨p, hp⟩ : ∃ p, cs[j].1 = p := ⟨_, rfl⟩
    obtain ⟨q, hq⟩ : ∃ q, cs[j].2.1 = q := ⟨_, rfl⟩
    obtain ⟨L, hL⟩ : ∃ L, cs[j].2.2.length = L := ⟨_, rfl⟩
    rw [hp] at e0
    rw [hq] at e1
    rw [hL] at e2 hR
    have HC : Hid (Calls Try.prog 47 #[.agg (S3 p q (.slice a2 L cap2)), .int .i64 (m : Int)] wr (BoR (FsOk (m : Int) cs[j].2.2) wr)) := subM_c p q _ cs[j].2.2 m wr (hR.below BJ.out) (by omega) (by omega)
    clear d0 d1 d2 hR hp hq hL
    go_wp2_with (fail)
    refine HC.out.mono ?_
    rintro e w2 ⟨r, rfl, hr, b2⟩
    have B2 : Hid (Below w.heap.size w w2) := belowCall BJ.out b2 BJ.out.size
    have HQ : Hid (r = true ↔ FsOk (m : Int) cs[j].2.2) := hr
    clear hr b2 BJ HC e0 e1 e2
    cases r with
    | false =>
      have HY : Hid (¬ SbOk cs) := fun h => by
        have := h.2.2 j hjl
        rw [HM.out] at this
        have := HQ.out.2 this; cases this
      clear HQ
      go_wp2
      go_ret
      exact BoR.no HY.out B2.out
    | true =>
      have HY : Hid (SbTo (m : Int) cs (j + 1)) := hA.out.succ hjl (HQ.out.1 rfl)
      clear HQ hA
      go_wp2
      go_roundw
      case rel => exact ⟨j + 1, by omega, by go_num, B2.out, HY.out⟩
      case measure => simp [intOf]; omega
end Go.Proofs.Ytfaflnhembceoaa

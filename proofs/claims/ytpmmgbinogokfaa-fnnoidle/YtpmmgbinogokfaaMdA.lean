/- Small functions of the model; no condition. -/
import Derived.Test.YtpmmgbinogokfaaQok
namespace Go.Proofs.Ytpmmgbinogokfaa
open Go.RowKit Go.ChangeShapes Go.WideShapes Go.ChangeAt
set_option linter.unusedVariables false
set_option linter.unusedSimpArgs false
set_option maxRecDepth 8000
theorem in_c (x a b : Int) (w : World) : Calls Try.prog 41 #[.int .i64 x, .int .i64 a, .int .i64 b] w fun e w' => e = .returned (.bool (decide (a ≤ x ∧ x ≤ b))) ∧ w' = w := by
  by_cases h0 : a ≤ x <;> by_cases h1 : x ≤ b
  all_goals
    go_enter Try.func41, Try.ntmps41
    go_wp2
    go_ret
    exact ⟨by simp [h0, h1], rfl⟩
theorem tickM_c (x : Int) (w : World) : Calls Try.prog 40 #[.int .i64 x] w fun e w' => e = .returned (.bool (tkB x)) ∧ w' = w := by
  go_enter Try.func40, Try.ntmps40
  go_wp2_with (go_at_call 41; refine (in_c _ _ _ _).mono ?_; rintro e w2 ⟨rfl, rfl⟩)
  go_ret
  exact ⟨by simp [tkB, Bool.decide_and], rfl⟩
theorem skB_small : ∀ m : Nat, m < 256 → (skB (m : Int) = true ↔ m = 1 ∨ m = 2 ∨ m = 4 ∨ m = 8 ∨ m = 16 ∨ m = 32 ∨ m = 64 ∨ m = 128) := by decide +kernel
theorem skB_iff (k : Int) : skB k = true ↔ k = 1 ∨ k = 2 ∨ k = 4 ∨ k = 8 ∨ k = 16 ∨ k = 32 ∨ k = 64 ∨ k = 128 := by
  by_cases h : 0 ≤ k ∧ k < 256
  · obtain ⟨m, rfl⟩ := Int.eq_ofNat_of_zero_le h.1
    rw [skB_small m (by omega)]; omega
  · constructor
    · intro h1; simp [skB] at h1; omega
    · intro h1; omega
set_option maxHeartbeats 3200000 in
theorem skillM_c (k : Int) (w : World) : Calls Try.prog 42 #[.int .i64 k] w fun e w' => e = .returned (.bool (skB k)) ∧ w' = w := by
  by_cases h : k = 1 ∨ k = 2 ∨ k = 4 ∨ k = 8 ∨ k = 16 ∨ k = 32 ∨ k = 64 ∨ k = 128
  · have hs : skB k = true := (skB_iff k).2 h
    rw [hs]
    have HS : Hid (skB k = true) := hs
    clear hs
    rcases h with rfl | rfl | rfl | rfl | rfl | rfl | rfl | rfl
    all_goals
      clear HS
      go_enter Try.func42, Try.ntmps42
      go_wp2
      refine wp_loop_rounds 9 ?_
      repeat (rw [rounds_succ]; go_wp2)
      go_ret
      exact ⟨rfl, rfl⟩
  · have hs : skB k = false := by
      cases hq : skB k with
      | false => rfl
      | true => exact absurd ((skB_iff k).1 hq) h
    rw [hs]
    have n1 : ¬ k = 1 := by omega
    have n2 : ¬ k = 2 := by omega
    have n3 : ¬ k = 4 := by omega
    have n4 : ¬ k = 8 := by omega
    have n5 : ¬ k = 16 := by omega
    have n6 : ¬ k = 32 := by omega
    have n7 : ¬ k = 64 := by omega
    have n8 : ¬ k = 128 := by omega
    clear h hs
    go_enter Try.func42, Try.ntmps42
    go_wp2
    refine wp_loop_rounds 9 ?_
    repeat (rw [rounds_succ]; go_wp2)
    go_ret
    exact ⟨rfl, rfl⟩
theorem onesF_step (f n : Nat) (h : n < 2 ^ (f + 1)) : onesF (f + 1) n = n % 2 + onesF f (n / 2) := rfl
theorem onesF_zero : ∀ f, onesF f 0 = 0
  | 0 => rfl
  | f + 1 => by rw [onesF]; simp [onesF_zero f]
theorem onesF_more : ∀ (f n : Nat), n < 2 ^ f → onesF (f + 1) n = onesF f n
  | 0, n, h => by
    obtain rfl : n = 0 := by simpa using h
    rfl
  | f + 1, n, h => by
    rw [onesF, onesF_more f (n / 2) (by rw [Nat.pow_succ] at h; omega), onesF]
theorem onesF_half (n : Nat) (h : n < 256) : onesF 8 n = n % 2 + onesF 8 (n / 2) := by
  rw [← onesF_more 8 n (by omega), onesF]
set_option maxHeartbeats 1600000 in
theorem onesM_c (x : Int) (h0 : 0 ≤ x) (h1 : x ≤ 255) (w : World) : Calls Try.prog 74 #[.int .i64 x] w fun e w' => e = .returned (.int .i64 (ones x)) ∧ w' = w := by
  obtain ⟨m, rfl⟩ := Int.eq_ofNat_of_zero_le h0
  have hm : m ≤ 255 := by omega
  have HO : Hid (ones (m : Int) = onesF 8 m) := by show ones (m : Int) = onesF 8 m; simp [ones]
  clear h0 h1
  go_enter Try.func74, Try.ntmps74
  go_wp2
  go_loopw [0, 3] (fun y c wr => ∃ j k : Nat, j ≤ 255 ∧ k ≤ 255 ∧ y = .int .i64 j ∧ c = .int .i64 k ∧ Hid (k + onesF 8 j = onesF 8 m) ∧ k + j ≤ 255 ∧ wr = w) (fun y _ _ => (intOf y).toNat)
  case atStart => exact ⟨m, 0, hm, by omega, rfl, rfl, by simp [Hid], by omega, rfl⟩
  case round =>
    obtain ⟨j, k, hj, hk, rfl, rfl, hE, hjk, rfl⟩ := hrel
    by_cases hp : 0 < j
    · have hE2 : Hid (k + j % 2 + onesF 8 (j / 2) = onesF 8 m) := by
        show k + j % 2 + onesF 8 (j / 2) = onesF 8 m
        rw [← hE.out, onesF_half j (by omega)]; omega
      have q1 : (j : Int).tmod 2 = ((j % 2 : Nat) : Int) := by rw [Int.tmod_eq_emod_of_nonneg (by omega)]; omega
      have q2 : (j : Int).tdiv 2 = ((j / 2 : Nat) : Int) := by rw [Int.tdiv_eq_ediv_of_nonneg (by omega)]; omega
      clear hE
      go_wp2
      go_roundw
      case rel => exact ⟨j / 2, k + j % 2, by omega, by omega, by go_num, by go_num, hE2.out, by omega, by first | rfl | trivial⟩
      case measure => simp [intOf]; omega
    · obtain rfl : j = 0 := by omega
      have HK : Hid ((k : Int) = ones (m : Int)) := by
        show (k : Int) = ones (m : Int)
        rw [HO.out, ← hE.out, onesF_zero]; simp
      go_wp2
      go_ret
      exact ⟨by rw [← HK.out]; rfl, rfl⟩
set_option maxHeartbeats 1600000 in
theorem within_c (v : Value) (zs : List Int) (x : Int) (w : World) (h : Rd .i64 w v zs) : Calls Try.prog 44 #[v, .int .i64 x] w fun e w' => e = .returned (.bool (decide (x ∈ zs))) ∧ w' = w := by
  obtain ⟨a, cap, rfl, h1, h2, h3⟩ := h
  unfold maxLen at h2
  go_enter Try.func44, Try.ntmps44
  go_wp2
  go_loopw [5] (fun i wr => ∃ j : Nat, j ≤ zs.length ∧ i = .int .i64 j ∧ Hid (x ∉ zs.take j) ∧ wr = w) (fun i _ => zs.length - (intOf i).toNat)
  case atStart => exact ⟨0, Nat.zero_le _, rfl, by show x ∉ zs.take 0; simp, rfl⟩
  case round =>
    obtain ⟨j, hj, rfl, hA, rfl⟩ := hrel
    by_cases hlt : j < zs.length
    case neg =>
      obtain rfl : j = zs.length := by omega
      have HN : Hid (decide (x ∈ zs) = false) := by
        show decide (x ∈ zs) = false
        have := hA.out
        rw [List.take_length] at this
        exact decide_eq_false this
      clear h3
      go_wp2
      go_ret
      exact ⟨by rw [HN.out]; rfl, rfl⟩
    case pos =>
    rcases h3 with h3 | ⟨b, off, rfl, h4⟩
    · subst h3; simp at hlt
    have hc := h4 j hlt
    obtain ⟨r, hr⟩ : ∃ r, zs.getD j 0 = r := ⟨_, rfl⟩
    have HR : Hid (zs[j] = r) := by show zs[j] = r; rw [← hr]; simp [List.getElem?_eq_getElem hlt]
    rw [hr] at hc
    clear h4 hr
    by_cases ht : r = x
    · have HF : Hid (decide (x ∈ zs) = true) := by
        show decide (x ∈ zs) = true
        exact decide_eq_true (by rw [← ht, ← HR.out]; exact List.getElem_mem hlt)
      subst ht
      go_wp2
      go_ret
      exact ⟨by rw [HF.out]; rfl, rfl⟩
    · have HF : Hid (x ∉ zs.take (j + 1)) := by
        show x ∉ zs.take (j + 1)
        rw [List.take_succ_eq_append_getElem hlt, HR.out, List.mem_append]
        rintro (h | h)
        · exact hA.out h
        · simp at h; exact ht h.symm
      go_wp2
      go_roundw
      case rel => exact ⟨j + 1, by omega, by go_num, HF.out, by first | rfl | trivial⟩
      case measure => simp [intOf]; omega
end Go.Proofs.Ytpmmgbinogokfaa
namespace Go.Proofs.Ytpmmgbinogokfaa
open Go.RowKit Go.ChangeShapes Go.WideShapes Go.ChangeAt
set_option linter.unusedVariables false
set_option linter.unusedSimpArgs false
set_option maxRecDepth 8000
def BzOk (gs : List Ag) : Prop := ∀ a ∈ gs, -1 ≤ a.2.1
theorem cmpA_neg (a b : Ag) : cmpA a b < 0 ↔ ones a.1 < ones b.1 ∨ ones a.1 = ones b.1 ∧ a.2.2 < b.2.2 := by
  unfold cmpA orI cmpI
  repeat' split
  all_goals omega
set_option maxHeartbeats 12800000 in
theorem taker_c (n g : Int) (va vq : Value) (gs : List Ag) (q : Wt) (w : World) (ha : Rg 3 agC w va gs) (hq : ∃ a m c, vq = .slice a m c) (hs : SkOk gs) (hbz : BzOk gs) :
   Calls Try.prog 43 #[.agg (D4 n va vq g), .agg #[.int .i64 q.1, .int .i64 q.2.1, .int .i64 q.2.2.1, .int .i64 q.2.2.2]] w fun e w' => e = .returned (.int .i64 (optI (taker gs q.2.1))) ∧ Below w.heap.size w w' := by
  obtain ⟨qa, qm, qc, rfl⟩ := hq
  obtain ⟨qq1, qq2, qq3, qq4⟩ := q
  simp only
  have HSK : Hid (SkOk gs) := hs
  have HBZ : Hid (BzOk gs) := hbz
  obtain ⟨a, cap, rfl, h1, h2, h3⟩ := ha
  unfold maxLen at h2
  obtain ⟨m, hm⟩ : ∃ m, gs.length = m := ⟨_, rfl⟩
  have HM : Hid (gs.length = m) := hm
  have H3 : Hid (gs = [] ∨ ∃ b off, a = some ⟨b, off, none⟩ ∧ ∀ i (h : i < gs.length), w.rangeAt b (off + i * 3) (agC gs[i])) := h3
  rw [hm] at h1 ⊢
  obtain ⟨W0, hW0⟩ : ∃ W0, (w.alloc (Obj.cells (D4 n (.slice a m cap) (.slice qa qm qc) g) 27)).alloc (Obj.cells #[.int .i64 qq1, .int .i64 qq2, .int .i64 qq3, .int .i64 qq4] 74) = W0 := ⟨_, rfl⟩
  have B0 : Hid (Below w.heap.size w W0) := hW0 ▸ ((Below.refl _ _).alloc (Nat.le_refl _) _).alloc (by simp) _
  have K0 : Hid (Blk W0 w.heap.size (D4 n (.slice a m cap) (.slice qa qm qc) g) 27 ∧ Blk W0 (w.heap.size + 1) #[.int .i64 qq1, .int .i64 qq2, .int .i64 qq3, .int .i64 qq4] 74) := hW0 ▸ ⟨(Blk.new _ _ _).alloc _, Blk.newAt _ (w.heap.size + 1) _ 74 (by simp)⟩
  clear hm h3 hs hbz
  go_enter Try.func43, Try.ntmps43
  go_wp2
  try rw [hW0]
  clear hW0
  go_loopw [5, 6] (fun q i wr => ∃ j : Nat, j ≤ m ∧ i = .int .i64 j ∧ q = .int .i64 (optI (bstTo (fitB qq2) cmpA gs j)) ∧ Hid (Below W0.heap.size W0 wr)) (fun _ i _ => m - (intOf i).toNat)
  case atStart => exact ⟨0, Nat.zero_le _, rfl, rfl, Below.refl _ _⟩
  case round =>
    obtain ⟨j, hj, rfl, rfl, BJ0⟩ := hrel
    have BJ : Hid (Below w.heap.size w wr) := belowCall B0.out BJ0.out B0.out.size
    have k0 := K0.out.1.below BJ0.out K0.out.1.lt
    have k1 := K0.out.2.below BJ0.out K0.out.2.lt
    have x1 := k0.cell 1
    have y1 := k1.cell 1
    simp at x1 y1
    have hl0 := k0.lt
    have hl1 := k1.lt
    by_cases hlt : j < m
    case neg =>
      obtain rfl : m = j := by omega
      have HE : Hid (taker gs qq2 = bstTo (fitB qq2) cmpA gs m) := by
        show taker gs qq2 = bstTo (fitB qq2) cmpA gs m
        rw [taker, best, HM.out]
      clear k0 k1
      go_wp2
      go_ret
      exact ⟨by rw [HE.out]; rfl, BJ.out⟩
    case pos =>
    have hjl : j < gs.length := by rw [HM.out]; exact hlt
    obtain ⟨b, off, rfl, h4⟩ : ∃ b off, a = some ⟨b, off, none⟩ ∧ _ := by
      rcases H3.out with h | h
      · rw [h] at hjl; simp at hjl
      · exact h
    have hcb : b < w.heap.size := block_lt_of_cell (h4 j hjl 0 _ rfl)
    have hcb' : b < wr.heap.size := Nat.lt_of_lt_of_le hcb BJ.out.size
    obtain ⟨r, hr⟩ : ∃ r, gs[j] = r := ⟨_, rfl⟩
    have hc := rangeAt_below (h4 j hjl) BJ.out hcb
    rw [hr] at hc
    have hrm : r ∈ gs := hr ▸ List.getElem_mem hjl
    have hsr := HSK.out r hrm
    have hbr := HBZ.out r hrm
    obtain ⟨r1, r2, r3⟩ := r
    simp only at hsr hbr
    have e0 : wr.cell? ⟨b, off + j * 3, none⟩ = some (.int .i64 r1) := hc 0 _ rfl
    have e1 : wr.cell? ⟨b, off + j * 3 + 1, none⟩ = some (.int .i64 r2) := hc 1 _ rfl
    have e2 : wr.cell? ⟨b, off + j * 3 + 2, none⟩ = some (.int .i64 r3) := hc 2 _ rfl
    have HR : Hid (gs[j]? = some (r1, r2, r3)) := by show gs[j]? = _; rw [List.getElem?_eq_getElem hjl, hr]
    have H4 : Hid (∀ i (h : i < gs.length), w.rangeAt b (off + i * 3) (agC gs[i])) := h4
    have HA0 : Hid (Below W0.heap.size W0 (wr.alloc (Obj.cells #[.int .i64 r1, .int .i64 r2, .int .i64 r3] 36))) := belowCall BJ0.out ((Below.refl _ _).alloc (Nat.le_refl _) _) BJ0.out.size
    by_cases hb0 : 0 ≤ r2
    · have HY : Hid (bstTo (fitB qq2) cmpA gs (j + 1) = bstTo (fitB qq2) cmpA gs j) := by
        show bstTo (fitB qq2) cmpA gs (j + 1) = bstTo (fitB qq2) cmpA gs j
        have : fitB qq2 (r1, r2, r3) = false := by simp [fitB]; omega
        rw [bstTo, HR.out]; simp [this]
      clear h4 hc hr k0 k1 hsr hbr hrm
      go_wp2
      go_roundw
      case rel => exact ⟨j + 1, by omega, by go_num, by rw [HY.out], HA0.out⟩
      case measure => simp [intOf]; omega
    obtain rfl : r2 = -1 := by omega
    have hb1 : ¬ (-1 : Int) ≥ 0 := by decide
    clear hb0 hbr
    by_cases hl : bits BinOp.and IntKind.i64 r1 qq2 = 0
    · have HY : Hid (bstTo (fitB qq2) cmpA gs (j + 1) = bstTo (fitB qq2) cmpA gs j) := by
        show bstTo (fitB qq2) cmpA gs (j + 1) = bstTo (fitB qq2) cmpA gs j
        have : fitB qq2 (r1, -1, r3) = false := by simp [fitB, hl]
        rw [bstTo, HR.out]; simp [this]
      have hle : (bits BinOp.and IntKind.i64 r1 qq2 == 0) = true := by simp [hl]
      clear h4 hc hr k0 k1 hsr hrm hl
      go_wp2
      go_roundw
      case rel => exact ⟨j + 1, by omega, by go_num, by rw [HY.out], HA0.out⟩
      case measure => simp [intOf]; omega
    have HFT : Hid (fitB qq2 (r1, -1, r3) = true) := by show fitB qq2 (r1, -1, r3) = true; simp [fitB, hl]
    have hle : (bits BinOp.and IntKind.i64 r1 qq2 == 0) = false := by simp [hl]
    cases hb : bstTo (fitB qq2) cmpA gs j with
    | none =>
      have HY : Hid (bstTo (fitB qq2) cmpA gs (j + 1) = some j) := by
        show bstTo (fitB qq2) cmpA gs (j + 1) = some j
        rw [bstTo, HR.out]; simp [HFT.out, hb]
      simp only [optI]
      clear h4 hc hr k0 k1 hsr hrm hb hl
      go_wp2
      go_roundw
      case rel => exact ⟨j + 1, by omega, by go_num, (by first | (rw [HY.out]; done) | (rw [HY.out]; rfl)), HA0.out⟩
      case measure => simp [intOf]; omega
    | some p =>
      have hp := bstTo_lt hb
      have hpm : p < m := by omega
      have hpl : p < gs.length := by rw [HM.out]; exact hpm
      obtain ⟨s, hs0⟩ : ∃ s, gs[p] = s := ⟨_, rfl⟩
      have hs := rangeAt_below (h4 p hpl) BJ.out hcb
      rw [hs0] at hs
      have hsm : s ∈ gs := hs0 ▸ List.getElem_mem hpl
      have hss := HSK.out s hsm
      obtain ⟨s1, s2, s3⟩ := s
      simp only at hss
      have HSP : Hid (gs[p]? = some (s1, s2, s3)) := by show gs[p]? = _; rw [List.getElem?_eq_getElem hpl, hs0]
      have f0 : wr.cell? ⟨b, off + p * 3, none⟩ = some (.int .i64 s1) := hs 0 _ rfl
      have f1 : wr.cell? ⟨b, off + p * 3 + 1, none⟩ = some (.int .i64 s2) := hs 1 _ rfl
      have f2 : wr.cell? ⟨b, off + p * 3 + 2, none⟩ = some (.int .i64 s3) := hs 2 _ rfl
      have HY : Hid (bstTo (fitB qq2) cmpA gs (j + 1) = if cmpA (r1, -1, r3) (s1, s2, s3) < 0 then some j else some p) := by
        show bstTo (fitB qq2) cmpA gs (j + 1) = _
        rw [bstTo, HR.out]; simp [HFT.out, hb, HSP.out]
      obtain ⟨W1, hW1⟩ : ∃ W1, (wr.alloc (Obj.cells #[.int .i64 r1, .int .i64 (-1), .int .i64 r3] 36)).alloc (Obj.cells #[.int .i64 s1, .int .i64 s2, .int .i64 s3] 36) = W1 := ⟨_, rfl⟩
      have B1 : Hid (Below W0.heap.size W0 W1) := belowCall BJ0.out (hW1 ▸ ((Below.refl _ _).alloc (Nat.le_refl _) _).alloc (by simp) _) BJ0.out.size
      have kk0 : Blk W1 wr.heap.size #[.int .i64 r1, .int .i64 (-1), .int .i64 r3] 36 := hW1 ▸ (Blk.new _ _ _).alloc _
      have kk1 : Blk W1 (wr.heap.size + 1) #[.int .i64 s1, .int .i64 s2, .int .i64 s3] 36 := hW1 ▸ Blk.newAt _ (wr.heap.size + 1) _ 36 (by simp)
      have z0 : ∀ W : Ov W1, W.wd.cell? ⟨wr.heap.size, 0, none⟩ = some (.int .i64 r1) := ov_cell (kk0.cell 0)
      have z2 : ∀ W : Ov W1, W.wd.cell? ⟨wr.heap.size, 2, none⟩ = some (.int .i64 r3) := ov_cell (kk0.cell 2)
      have u0 : ∀ W : Ov W1, W.wd.cell? ⟨wr.heap.size + 1, 0, none⟩ = some (.int .i64 s1) := ov_cell (kk1.cell 0)
      have u2 : ∀ W : Ov W1, W.wd.cell? ⟨wr.heap.size + 1, 2, none⟩ = some (.int .i64 s3) := ov_cell (kk1.cell 2)
      have ne : Nonempty (Ov W1) := ⟨⟨_, Below.refl _ _⟩⟩
      obtain ⟨o1, ho1⟩ : ∃ o, ones r1 = o := ⟨_, rfl⟩
      obtain ⟨o2, ho2⟩ : ∃ o, ones s1 = o := ⟨_, rfl⟩
      have HC1 : Hid (∀ W : Ov W1, Calls Try.prog 74 #[.int .i64 r1] W.wd fun e w'' => e = .returned (.int .i64 o1) ∧ ∃ W' : Ov W1, w'' = W'.wd) := fun W => (onesM_c r1 hsr.1 hsr.2 W.wd).mono fun e w' h => ⟨by rw [h.1, ho1], W, h.2⟩
      have HC2 : Hid (∀ W : Ov W1, Calls Try.prog 74 #[.int .i64 s1] W.wd fun e w'' => e = .returned (.int .i64 o2) ∧ ∃ W' : Ov W1, w'' = W'.wd) := fun W => (onesM_c s1 hss.1 hss.2 W.wd).mono fun e w' h => ⟨by rw [h.1, ho2], W, h.2⟩
      have HN : Hid (cmpA (r1, -1, r3) (s1, s2, s3) < 0 ↔ o1 < o2 ∨ o1 = o2 ∧ r3 < s3) := by
        show cmpA (r1, -1, r3) (s1, s2, s3) < 0 ↔ _
        rw [cmpA_neg]; simp only [ho1, ho2]
      have HW1 : Hid ((wr.alloc (Obj.cells #[.int .i64 r1, .int .i64 (-1), .int .i64 r3] 36)).alloc (Obj.cells #[.int .i64 s1, .int .i64 s2, .int .i64 s3] 36) = W1) := hW1
      have hp0 : ¬ (p : Int) < 0 := by omega
      simp only [optI]
      clear h4 hc hr k0 k1 hsr hrm hb hl hs hs0 hsm hss hW1 kk0 kk1 ho1 ho2 hp
      go_wp2_with (fail)
      rw [HW1.out]
      clear HW1 e0 e1 e2 f0 f1 f2
      refine region_over (by kernel_rfl) (by kernel_rfl) ?_
      iterate 3 (go_big_quiet_step (first | (go_at_call 74; exact HC1.out _)))
      repeat (go_big_quiet_step (first | (go_at_call 74; exact HC2.out _)))
      refine wpQuiet_nil ?_
      rintro _ ⟨W, rfl⟩
      have BW : Hid (Below W0.heap.size W0 W.wd) := belowCall B1.out W.ok B1.out.size
      have c0 := z0 W
      have c2 := z2 W
      have d0 := u0 W
      have d2 := u2 W
      obtain ⟨W2, hW2⟩ : ∃ W2, W.wd = W2 := ⟨_, rfl⟩
      rw [hW2] at BW c0 c2 d0 d2 ⊢
      clear hW2 z0 z2 u0 u2 HC1 HC2 W ne x1 y1
      by_cases hlt1 : o1 < o2
      · have HY2 : Hid (bstTo (fitB qq2) cmpA gs (j + 1) = some j) := by
          show _ = some j
          rw [HY.out, if_pos (HN.out.2 (.inl hlt1))]
        go_wp2
        go_roundw
        case rel => exact ⟨j + 1, by omega, by go_num, (by first | (rw [HY2.out]; done) | (rw [HY2.out]; rfl)), BW.out⟩
        case measure => simp [intOf]; omega
      · by_cases heq : o1 = o2
        · subst heq
          by_cases hl3 : r3 < s3
          · have HY2 : Hid (bstTo (fitB qq2) cmpA gs (j + 1) = some j) := by
              show _ = some j
              rw [HY.out, if_pos (HN.out.2 (.inr ⟨rfl, hl3⟩))]
            clear HN HY
            go_wp2
            go_roundw
            case rel => exact ⟨j + 1, by omega, by go_num, (by first | (rw [HY2.out]; done) | (rw [HY2.out]; rfl)), BW.out⟩
            case measure => simp [intOf]; omega
          · have HY2 : Hid (bstTo (fitB qq2) cmpA gs (j + 1) = some p) := by
              show _ = some p
              rw [HY.out, if_neg (fun h => by have := HN.out.1 h; omega)]
            clear HN HY
            go_wp2
            go_roundw
            case rel => exact ⟨j + 1, by omega, by go_num, (by first | (rw [HY2.out]; done) | (rw [HY2.out]; rfl)), BW.out⟩
            case measure => simp [intOf]; omega
        · have HY2 : Hid (bstTo (fitB qq2) cmpA gs (j + 1) = some p) := by
            show _ = some p
            rw [HY.out, if_neg (fun h => by have := HN.out.1 h; omega)]
          clear HN HY
          go_wp2
          go_roundw
          case rel => exact ⟨j + 1, by omega, by go_num, (by first | (rw [HY2.out]; done) | (rw [HY2.out]; rfl)), BW.out⟩
          case measure => simp [intOf]; omega
end Go.Proofs.Ytpmmgbinogokfaa

/- Rules, the model's way; no condition. -/
import Derived.Test.YtpnglbnebkggkaaRok
namespace Go.Proofs.Ytpnglbnebkggkaa
open Go.RowKit Go.ChangeShapes Go.WideShapes Go.ChangeAt
set_option linter.unusedVariables false
set_option linter.unusedSimpArgs false
set_option maxRecDepth 8000
theorem l1In_c (x lo hi : Int) (w : World) : Calls Try.prog 35 #[.int .i64 x, .int .i64 lo, .int .i64 hi] w fun e w' => e = .returned (.bool (decide (lo ≤ x ∧ x ≤ hi))) ∧ w' = w := by
  by_cases h1 : lo ≤ x
  · by_cases h2 : x ≤ hi
    · rw [decide_eq_true (show lo ≤ x ∧ x ≤ hi from ⟨h1, h2⟩)]
      go_enter Try.func35, Try.ntmps35
      go_wp2
      go_ret
      exact ⟨rfl, rfl⟩
    · rw [decide_eq_false (show ¬ (lo ≤ x ∧ x ≤ hi) from fun h => h2 h.2)]
      go_enter Try.func35, Try.ntmps35
      go_wp2
      go_ret
      exact ⟨rfl, rfl⟩
  · rw [decide_eq_false (show ¬ (lo ≤ x ∧ x ≤ hi) from fun h => h1 h.1)]
    go_enter Try.func35, Try.ntmps35
    go_wp2
    go_ret
    exact ⟨rfl, rfl⟩
set_option maxHeartbeats 6400000 in
theorem ruleOkM_c (r : Rl) (w : World) (hs1 : r.pre.size ≤ 1048576) (hs2 : r.ad.size ≤ 1048576) : Calls Try.prog 45 #[.agg (R6 r)] w (RuR r w) := by
  obtain ⟨p, l, m, ro, st, ad⟩ := r
  dsimp only at hs1 hs2
  obtain ⟨W1, hW1⟩ : ∃ W1, w.alloc (Obj.cells (R6 ⟨p, l, m, ro, st, ad⟩) 31) = W1 := ⟨_, rfl⟩
  have B1 : Hid (Below w.heap.size w W1) := hW1 ▸ (Below.refl _ _).alloc (Nat.le_refl _) _
  have K1 : Hid (Blk W1 w.heap.size (R6 ⟨p, l, m, ro, st, ad⟩) 31) := hW1 ▸ Blk.new _ _ _
  have HW1 : Hid (w.alloc (Obj.cells (R6 ⟨p, l, m, ro, st, ad⟩) 31) = W1) := hW1
  clear hW1
  go_enter Try.func45, Try.ntmps45
  go_wp2_with (fail)
  rw [HW1.out]
  clear HW1
  refine (l4Digits_c p W1 (by omega)).mono ?_
  rintro e w2 ⟨q, rfl, hq, b2⟩
  have B2 : Hid (Below w.heap.size w w2) := belowCall B1.out b2 B1.out.size
  have K2 : Hid (Blk w2 w.heap.size (R6 ⟨p, l, m, ro, st, ad⟩) 31) := K1.out.below b2 K1.out.lt
  have HQ : Hid (q = true ↔ DgOk p) := hq
  clear hq b2 B1 K1
  cases q with
  | false =>
    have HN : Hid (¬ RuleOk ⟨p, l, m, ro, st, ad⟩) := fun h => by have := HQ.out.2 h.1.1; cases this
    clear HQ
    go_wp2
    go_ret
    exact RuR.no HN.out B2.out
  | true =>
  have HP : Hid (DgOk p) := HQ.out.1 rfl
  clear HQ
  have c0 := K2.out.cell 0
  have c1 := K2.out.cell 1
  have c2 := K2.out.cell 2
  have c3 := K2.out.cell 3
  have c4 := K2.out.cell 4
  simp at c0 c1 c2 c3 c4
  by_cases h0 : (0 : Int) < (p.size : Int)
  case neg =>
    have HN : Hid (¬ RuleOk ⟨p, l, m, ro, st, ad⟩) := fun h => h0 (by have := h.1.2; dsimp only at this; omega)
    go_wp2
    go_ret
    exact RuR.no HN.out B2.out
  by_cases h1 : (p.size : Int) ≤ l
  case neg =>
    have HN : Hid (¬ RuleOk ⟨p, l, m, ro, st, ad⟩) := fun h => h1 h.2.1
    go_wp2
    go_ret
    exact RuR.no HN.out B2.out
  by_cases h2 : l ≤ m
  case neg =>
    have HN : Hid (¬ RuleOk ⟨p, l, m, ro, st, ad⟩) := fun h => h2 h.2.2.1
    go_wp2
    go_ret
    exact RuR.no HN.out B2.out
  by_cases h3 : m ≤ 20
  case neg =>
    have HN : Hid (¬ RuleOk ⟨p, l, m, ro, st, ad⟩) := fun h => h3 h.2.2.2.1
    go_wp2
    go_ret
    exact RuR.no HN.out B2.out
  go_wp2_with (fail)
  refine (l1In_c ro 0 1000 w2).mono ?_
  rintro e w3 ⟨rfl, hw3⟩
  obtain rfl : w2 = w3 := hw3.symm
  by_cases h4 : 0 ≤ ro ∧ ro ≤ 1000
  case neg =>
    rw [decide_eq_false h4]
    have HN : Hid (¬ RuleOk ⟨p, l, m, ro, st, ad⟩) := fun h => h4 h.2.2.2.2.1
    clear h4
    go_wp2
    go_ret
    exact RuR.no HN.out B2.out
  rw [decide_eq_true h4]
  have H4 : Hid (0 ≤ ro ∧ ro ≤ 1000) := h4
  clear h4
  go_wp2_with (fail)
  refine (l1In_c st 0 l w2).mono ?_
  rintro e w3 ⟨rfl, hw3⟩
  obtain rfl : w2 = w3 := hw3.symm
  by_cases h5 : 0 ≤ st ∧ st ≤ l
  case neg =>
    rw [decide_eq_false h5]
    have HN : Hid (¬ RuleOk ⟨p, l, m, ro, st, ad⟩) := fun h => h5 h.2.2.2.2.2.1
    clear h5
    go_wp2
    go_ret
    exact RuR.no HN.out B2.out
  rw [decide_eq_true h5]
  have H5 : Hid (0 ≤ st ∧ st ≤ l) := h5
  have hst1 : 0 ≤ st := h5.1
  have hst2 : st ≤ 20 := by omega
  have hm0 : 0 ≤ m := by omega
  clear h5
  have c5 := K2.out.cell 5
  simp at c5
  go_wp2_with (fail)
  refine (l4Digits_c ad w2 (by omega)).mono ?_
  rintro e w4 ⟨q, rfl, hq, b4⟩
  have B4 : Hid (Below w.heap.size w w4) := belowCall B2.out b4 B2.out.size
  have K4 : Hid (Blk w4 w.heap.size (R6 ⟨p, l, m, ro, st, ad⟩) 31) := K2.out.below b4 K2.out.lt
  have HQ : Hid (q = true ↔ DgOk ad) := hq
  clear hq b4 B2 K2 c0 c1 c2 c3 c4 c5
  cases q with
  | false =>
    have HN : Hid (¬ RuleOk ⟨p, l, m, ro, st, ad⟩) := fun h => by have := HQ.out.2 h.2.2.2.2.2.2.1; cases this
    clear HQ
    go_wp2
    go_ret
    exact RuR.no HN.out B4.out
  | true =>
  have HA : Hid (DgOk ad) := HQ.out.1 rfl
  clear HQ
  have c2 := K4.out.cell 2
  have c4 := K4.out.cell 4
  have c5 := K4.out.cell 5
  simp at c2 c4 c5
  by_cases h6 : (ad.size : Int) + m - st ≤ 20
  · have HY : Hid (RuleOk ⟨p, l, m, ro, st, ad⟩) := ⟨⟨HP.out, by show 0 < p.size; omega⟩, h1, h2, h3, H4.out, H5.out, HA.out, h6⟩
    go_wp2
    go_ret
    exact RuR.yes HY.out B4.out
  · have HN : Hid (¬ RuleOk ⟨p, l, m, ro, st, ad⟩) := fun h => h6 h.2.2.2.2.2.2.2
    have hd6 : decide ((ad.size : Int) + m - st ≤ 20) = false := decide_eq_false h6
    clear h6
    go_wp2
    go_ret
    exact RuR.no HN.out B4.out
/-- right rules -/
def RsTo (ls : Rls) (j : Nat) : Prop := ∀ i (h : i < ls.length), i < j → RuleOk ls[i] ∧ ∀ k (hk : k < i), ¬ (ls[k].pre.toList = ls[i].pre.toList)
def RsOk (ls : Rls) : Prop := ls.length ≤ 60 ∧ RsTo ls ls.length
def Szs (ls : Rls) : Prop := ∀ r ∈ ls, r.pre.size ≤ 1048576 ∧ r.ad.size ≤ 1048576
def RsR (ls : Rls) (w : World) (e : Ending) (w' : World) : Prop := ∃ q, e = .returned (.bool q) ∧ (q = true ↔ RsOk ls) ∧ Below w.heap.size w w'
theorem RsR.no {ls : Rls} {w w' : World} (h : ¬ RsOk ls) (b : Below w.heap.size w w') : RsR ls w (.returned (.bool false)) w' := ⟨_, rfl, ⟨fun h => (by cases h), fun h' => absurd h' h⟩, b⟩
theorem RsR.yes {ls : Rls} {w w' : World} (h : RsOk ls) (b : Below w.heap.size w w') : RsR ls w (.returned (.bool true)) w' := ⟨_, rfl, ⟨fun _ => h, fun _ => rfl⟩, b⟩
theorem RsTo.succ {ls : Rls} {j : Nat} (h : RsTo ls j) (hj : j < ls.length) (h1 : RuleOk ls[j]) (h2 : ∀ k (hk : k < j), ¬ (ls[k].pre.toList = ls[j].pre.toList)) : RsTo ls (j + 1) := fun i hi hij => by
  by_cases e : i < j
  · exact h i hi e
  · obtain rfl : i = j := by omega
    exact ⟨h1, h2⟩
set_option maxHeartbeats 6400000 in
theorem rulesM_c (v : Value) (ls : Rls) (w : World) (h : Rr w v ls) (hz : Szs ls) : Calls Try.prog 17 #[v] w (RsR ls w) := by
  obtain ⟨a, cap, rfl, h1, h2, h3⟩ := h
  unfold maxLen at h2
  have HZ : Hid (Szs ls) := hz
  obtain ⟨n, hn⟩ : ∃ n, ls.length = n := ⟨_, rfl⟩
  have HN : Hid (ls.length = n) := hn
  have H3 : Hid (ls = [] ∨ ∃ b off, a = some ⟨b, off, none⟩ ∧ ∀ i (h : i < ls.length), w.cell? ⟨b, off + i * 6, none⟩ = some (.string ls[i].pre) ∧ w.cell? ⟨b, off + i * 6 + 1, none⟩ = some (.int .i64 ls[i].le) ∧ w.cell? ⟨b, off + i * 6 + 2, none⟩ = some (.int .i64 ls[i].mo) ∧ w.cell? ⟨b, off + i * 6 + 3, none⟩ = some (.int .i64 ls[i].ro) ∧ w.cell? ⟨b, off + i * 6 + 4, none⟩ = some (.int .i64 ls[i].st) ∧ w.cell? ⟨b, off + i * 6 + 5, none⟩ = some (.string ls[i].ad)) := h3
  rw [hn] at h1 ⊢
  clear hn h3 hz
  go_enter Try.func17, Try.ntmps17
  go_wp2
  go_loopw [3] (fun i wr => ∃ j : Nat, j ≤ n ∧ i = .int .i64 j ∧ Hid (Below w.heap.size w wr) ∧ Hid (RsTo ls j)) (fun i _ => n - (intOf i).toNat)
  case atStart => exact ⟨0, Nat.zero_le _, rfl, Below.refl _ _, fun i _ h => by omega⟩
  case round =>
    obtain ⟨j, hj, rfl, BJ, hA⟩ := hrel
    by_cases hlt : j < n
    case neg =>
      obtain rfl : n = j := by omega
      by_cases h60 : n ≤ 60
      · have hI : (n : Int) ≤ 60 := by omega
        have HY : Hid (RsOk ls) := ⟨by rw [HN.out]; exact h60, by rw [HN.out]; exact hA.out⟩
        go_wp2
        go_ret
        exact RsR.yes HY.out BJ.out
      · have hI : ¬ ((n : Int) ≤ 60) := by omega
        have HY : Hid (¬ RsOk ls) := fun h => h60 (by rw [← HN.out]; exact h.1)
        go_wp2
        go_ret
        exact RsR.no HY.out BJ.out
    case pos =>
    have hjl : j < ls.length := by rw [HN.out]; exact hlt
    obtain ⟨b, off, rfl, h4⟩ : ∃ b off, a = some ⟨b, off, none⟩ ∧ _ := by
      rcases H3.out with h | h
      · rw [h] at hjl; simp at hjl
      · exact h
    have H4 : Hid (∀ i (h : i < ls.length), w.cell? ⟨b, off + i * 6, none⟩ = some (.string ls[i].pre) ∧ w.cell? ⟨b, off + i * 6 + 1, none⟩ = some (.int .i64 ls[i].le) ∧ w.cell? ⟨b, off + i * 6 + 2, none⟩ = some (.int .i64 ls[i].mo) ∧ w.cell? ⟨b, off + i * 6 + 3, none⟩ = some (.int .i64 ls[i].ro) ∧ w.cell? ⟨b, off + i * 6 + 4, none⟩ = some (.int .i64 ls[i].st) ∧ w.cell? ⟨b, off + i * 6 + 5, none⟩ = some (.string ls[i].ad)) := h4
    have hc := h4 j hjl
    have hcb : b < w.heap.size := block_lt_of_cell hc.1
    obtain ⟨r, hr⟩ : ∃ r, ls[j] = r := ⟨_, rfl⟩
    rw [hr] at hc
    have hsz := HZ.out _ (List.getElem_mem hjl)
    rw [hr] at hsz
    have HR : Hid (ls[j] = r) := hr
    have e0 := (BJ.out.cell (p := ⟨b, off + j * 6, none⟩) hcb).trans hc.1
    have e1 := (BJ.out.cell (p := ⟨b, off + j * 6 + 1, none⟩) hcb).trans hc.2.1
    have e2 := (BJ.out.cell (p := ⟨b, off + j * 6 + 2, none⟩) hcb).trans hc.2.2.1
    have e3 := (BJ.out.cell (p := ⟨b, off + j * 6 + 3, none⟩) hcb).trans hc.2.2.2.1
    have e4 := (BJ.out.cell (p := ⟨b, off + j * 6 + 4, none⟩) hcb).trans hc.2.2.2.2.1
    have e5 := (BJ.out.cell (p := ⟨b, off + j * 6 + 5, none⟩) hcb).trans hc.2.2.2.2.2
    clear h4 hc hr
    go_wp2_with (fail)
    refine (ruleOkM_c r wr hsz.1 hsz.2).mono ?_
    rintro e w2 ⟨q, rfl, hq, b2⟩
    have B2 : Hid (Below w.heap.size w w2) := belowCall BJ.out b2 BJ.out.size
    have HQ : Hid (q = true ↔ RuleOk r) := hq
    clear hq b2 BJ e0 e1 e2 e3 e4 e5
    cases q with
    | false =>
      have HY : Hid (¬ RsOk ls) := fun h => by
        have := (h.2 j hjl hjl).1
        rw [HR.out] at this
        have := HQ.out.2 this; cases this
      clear HQ
      go_wp2
      go_ret
      exact RsR.no HY.out B2.out
    | true =>
    have HOK : Hid (RuleOk r) := HQ.out.1 rfl
    clear HQ
    go_wp2
    go_loopw [4] (fun i wr => ∃ k : Nat, k ≤ j ∧ i = .int .i64 k ∧ Hid (Below w.heap.size w wr) ∧ Hid (∀ u (hu : u < k) (hul : u < ls.length), ¬ (ls[u].pre.toList = r.pre.toList))) (fun i _ => j - (intOf i).toNat)
    case atStart => exact ⟨0, Nat.zero_le _, rfl, B2.out, fun u hu => by omega⟩
    case round =>
      obtain ⟨k, hk, rfl, BK, hB⟩ := hrel
      clear B2
      by_cases hkj : k < j
      case neg =>
        obtain rfl : j = k := by omega
        have HS : Hid (RsTo ls (j + 1)) := hA.out.succ hjl (by rw [HR.out]; exact HOK.out) (fun u hu => by rw [HR.out]; exact hB.out u hu (by omega))
        go_wp2
        go_roundw
        case rel => exact ⟨j + 1, by omega, by go_num, BK.out, HS.out⟩
        case measure => simp [intOf]; omega
      case pos =>
      have hkl : k < ls.length := by omega
      obtain ⟨r', hr'⟩ : ∃ r, ls[k] = r := ⟨_, rfl⟩
      have HR' : Hid (ls[k] = r') := hr'
      have hck := (H4.out k hkl).1
      have hcj := (H4.out j hjl).1
      rw [hr'] at hck
      rw [HR.out] at hcj
      have yk : ∀ W : Ov wr, W.wd.cell? ⟨b, off + k * 6, none⟩ = some (.string r'.pre) := ov_cell ((BK.out.cell (p := ⟨b, off + k * 6, none⟩) hcb).trans hck)
      have yj : ∀ W : Ov wr, W.wd.cell? ⟨b, off + j * 6, none⟩ = some (.string r.pre) := ov_cell ((BK.out.cell (p := ⟨b, off + j * 6, none⟩) hcb).trans hcj)
      have ne : Nonempty (Ov wr) := ⟨⟨_, Below.refl _ _⟩⟩
      have hkn : k < n := by omega
      have hkI : (k : Int) < (j : Int) := by omega
      clear hck hcj hr'
      by_cases he : r'.pre.toList = r.pre.toList
      · have HY : Hid (¬ RsOk ls) := fun h => by
          have := (h.2 j hjl hjl).2 k hkj
          rw [HR.out, HR'.out] at this
          exact this he
        have hbe : (r'.pre.toList == r.pre.toList) = true := by simpa using he
        clear he
        go_wp2
        refine region_over (by kernel_rfl) (by kernel_rfl) ?_
        repeat (go_big_quiet_step (fail))
        refine wpQuiet_nil ?_
        rintro _ ⟨W, rfl⟩
        have HBW : Hid (Below w.heap.size w W.wd) := belowCall BK.out W.ok BK.out.size
        go_wp2
        go_ret
        exact RsR.no HY.out HBW.out
      · have HX : Hid (∀ u (hu : u < k + 1) (hul : u < ls.length), ¬ (ls[u].pre.toList = r.pre.toList)) := fun u hu hul => by
          by_cases e : u < k
          · exact hB.out u e hul
          · obtain rfl : u = k := by omega
            rw [HR'.out]; exact he
        have hbe : (r'.pre.toList == r.pre.toList) = false := by simpa using he
        clear he hB
        go_wp2
        refine region_over (by kernel_rfl) (by kernel_rfl) ?_
        repeat (go_big_quiet_step (fail))
        refine wpQuiet_nil ?_
        rintro _ ⟨W, rfl⟩
        have HBW : Hid (Below w.heap.size w W.wd) := belowCall BK.out W.ok BK.out.size
        go_wp2
        go_roundw
        case rel => exact ⟨k + 1, by omega, by go_num, HBW.out, HX.out⟩
        case measure => simp [intOf]; omega
end Go.Proofs.Ytpnglbnebkggkaa

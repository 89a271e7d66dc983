/- Right presses, both ways; no condition. -/
import Derived.Test.YtpnglbnebkggkaaPrH
namespace Go.Proofs.Ytpnglbnebkggkaa
open Go.RowKit Go.ChangeShapes Go.WideShapes Go.ChangeAt
set_option linter.unusedVariables false
set_option linter.unusedSimpArgs false
set_option maxRecDepth 8000
def PrOk (p : Pr) : Prop := (0 ≤ p.ti ∧ p.ti ≤ 1000000000) ∧ p.di.size = 1 ∧ DgOk p.di
def PsTo (ls : Prs) (j : Nat) : Prop := ∀ i (h : i < ls.length), i < j → PrOk ls[i] ∧ ∀ k (hk : k + 1 = i), ls[k].ti ≤ ls[i].ti
def PsOk (ls : Prs) : Prop := ls.length ≤ 20 ∧ PsTo ls ls.length
def PsR (ls : Prs) (w : World) (e : Ending) (w' : World) : Prop := ∃ q, e = .returned (.bool q) ∧ (q = true ↔ PsOk ls) ∧ Below w.heap.size w w'
theorem PsR.no {ls : Prs} {w w' : World} (h : ¬ PsOk ls) (b : Below w.heap.size w w') : PsR ls w (.returned (.bool false)) w' := ⟨_, rfl, ⟨fun h => (by cases h), fun h' => absurd h' h⟩, b⟩
theorem PsR.yes {ls : Prs} {w w' : World} (h : PsOk ls) (b : Below w.heap.size w w') : PsR ls w (.returned (.bool true)) w' := ⟨_, rfl, ⟨fun _ => h, fun _ => rfl⟩, b⟩
theorem PsTo.succ {ls : Prs} {j : Nat} (h : PsTo ls j) (hj : j < ls.length) (h1 : PrOk ls[j]) (h2 : ∀ k (hk : k + 1 = j), ls[k].ti ≤ ls[j].ti) : PsTo ls (j + 1) := fun i hi hij => by
  by_cases e : i < j
  · exact h i hi e
  · obtain rfl : i = j := by omega
    exact ⟨h1, h2⟩
theorem PsTo.succ1 {ls : Prs} {i : Nat} (h : PsTo ls (i + 1)) (hj : i + 1 < ls.length) (h1 : PrOk ls[i + 1]) (h2 : ls[i].ti ≤ ls[i + 1].ti) : PsTo ls (i + 1 + 1) := h.succ hj h1 (fun k hk => by
  obtain rfl : k = i := by omega
  exact h2)
theorem PsOk.not1 {ls : Prs} {j : Nat} (hj : j < ls.length) (h : ¬ PrOk ls[j]) : ¬ PsOk ls := fun h' => h (h'.2 j hj hj).1
theorem PsOk.not2 {ls : Prs} {k : Nat} (hj : k + 1 < ls.length) (h : ls[k + 1].ti < ls[k].ti) : ¬ PsOk ls := fun h' => by have := (h'.2 (k + 1) hj hj).2 k rfl; omega
theorem tick_c (x : Int) (w : World) : Calls Try.prog 63 #[.int .i64 x] w fun e w' => e = .returned (.bool (decide (0 ≤ x) && decide (x ≤ 1000000000))) ∧ w' = w := by
  go_enter Try.func63, Try.ntmps63
  go_wp2_with (fail)
  refine (l1In_c x 0 1000000000 w).mono ?_
  rintro e w2 ⟨rfl, hw2⟩
  obtain rfl : w = w2 := hw2.symm
  go_wp2
  go_ret
  exact ⟨rfl, rfl⟩
theorem dg_q (s : ByteArray) : ∃ q : Bool, (q = true ↔ DgOk s) := by
  by_cases h : DgOk s
  · exact ⟨true, fun _ => h, fun _ => rfl⟩
  · exact ⟨false, fun h' => (by cases h'), fun h' => absurd h' h⟩
set_option maxHeartbeats 6400000 in
theorem pressM_c (v : Value) (ls : Prs) (w : World) (h : Rpq w v ls) (hz : Szp ls) : Calls Try.prog 43 #[v] w (PsR ls w) := by
  obtain ⟨a, cap, rfl, h1, h2, h3⟩ := h
  unfold maxLen at h2
  have H3 : Hid (ls = [] ∨ ∃ b off, a = some ⟨b, off, none⟩ ∧ ∀ i (h : i < ls.length), w.cell? ⟨b, off + i * 2, none⟩ = some (.int .i64 ls[i].ti) ∧ w.cell? ⟨b, off + i * 2 + 1, none⟩ = some (.string ls[i].di)) := h3
  have HZ : Hid (Szp ls) := hz
  obtain ⟨n, hn⟩ : ∃ n, ls.length = n := ⟨_, rfl⟩
  have HN : Hid (ls.length = n) := hn
  rw [hn] at h1 ⊢
  clear hn h3 hz
  go_enter Try.func43, Try.ntmps43
  go_wp2
  go_loopw [3] (fun i wr => ∃ j : Nat, j ≤ n ∧ i = .int .i64 j ∧ Hid (Below w.heap.size w wr) ∧ Hid (PsTo ls j)) (fun i _ => n - (intOf i).toNat)
  case atStart => exact ⟨0, Nat.zero_le _, rfl, Below.refl _ _, fun i _ h => by omega⟩
  case round =>
    obtain ⟨j, hj, rfl, BJ, hA⟩ := hrel
    by_cases hlt : j < n
    case neg =>
      obtain rfl : n = j := by omega
      by_cases h20 : (n : Int) ≤ 20
      · have HY : Hid (PsOk ls) := ⟨by rw [HN.out]; omega, by rw [HN.out]; exact hA.out⟩
        go_wp2
        go_ret
        exact PsR.yes HY.out BJ.out
      · have HY : Hid (¬ PsOk ls) := fun h => by have := h.1; have := HN.out; omega
        have h20F : ((n : Int) ≤ 20) = False := eq_false h20
        have h20N : (n ≤ 20) = False := eq_false (by omega)
        clear h20
        go_wp2
        go_ret
        exact PsR.no HY.out BJ.out
    case pos =>
    have hjl : j < ls.length := by rw [HN.out]; exact hlt
    obtain ⟨b0, off, rfl, h4⟩ : ∃ b off, a = some ⟨b, off, none⟩ ∧ _ := by
      rcases H3.out with h | h
      · rw [h] at hjl; simp at hjl
      · exact h
    have hc := h4 j hjl
    have hcb : b0 < w.heap.size := block_lt_of_cell hc.1
    have hds := HZ.out _ (List.getElem_mem hjl)
    obtain ⟨⟨ti, di⟩, hr⟩ : ∃ r, ls[j] = r := ⟨_, rfl⟩
    rw [hr] at hc hds
    dsimp only at hc hds
    have HR : Hid (ls[j] = ⟨ti, di⟩) := hr
    have e0 := (BJ.out.cell (p := ⟨b0, off + j * 2, none⟩) hcb).trans hc.1
    have e1 := (BJ.out.cell (p := ⟨b0, off + j * 2 + 1, none⟩) hcb).trans hc.2
    have HH4 : Hid (∀ i (h : i < ls.length), w.cell? ⟨b0, off + i * 2, none⟩ = some (.int .i64 ls[i].ti) ∧ w.cell? ⟨b0, off + i * 2 + 1, none⟩ = some (.string ls[i].di)) := h4
    clear h4 hc hr H3
    obtain ⟨W1, hW1⟩ : ∃ W1, wr.alloc (Obj.cells #[.int .i64 ti, .string di] 39) = W1 := ⟨_, rfl⟩
    have bA : Below wr.heap.size wr W1 := hW1 ▸ (Below.refl _ _).alloc (Nat.le_refl _) _
    have K1 : Hid (Below w.heap.size w W1 ∧ Blk W1 wr.heap.size #[.int .i64 ti, .string di] 39) := ⟨belowCall BJ.out bA BJ.out.size, hW1 ▸ Blk.new _ _ _⟩
    have HW1 : Hid (wr.alloc (Obj.cells #[.int .i64 ti, .string di] 39) = W1) := hW1
    obtain ⟨g, hg⟩ : ∃ g, wr.heap.size = g := ⟨_, rfl⟩
    rw [hg] at K1
    have HG : Hid (wr.heap.size = g) := hg
    clear bA hW1 hg
    have z0 : ∀ W : Ov W1, W.wd.cell? ⟨g, 0, none⟩ = some (.int .i64 ti) := ov_cell (K1.out.2.cell 0)
    have z1 : ∀ W : Ov W1, W.wd.cell? ⟨g, 1, none⟩ = some (.string di) := ov_cell (K1.out.2.cell 1)
    have ne : Nonempty (Ov W1) := ⟨⟨_, Below.refl _ _⟩⟩
    obtain ⟨qd, hqd⟩ := dg_q di
    obtain ⟨qt, hqt⟩ : ∃ q, (decide (0 ≤ ti) && decide (ti ≤ 1000000000)) = q := ⟨_, rfl⟩
    have HC63 : Hid (∀ W : Ov W1, Calls Try.prog 63 #[.int .i64 ti] W.wd fun e w'' => e = .returned (.bool qt) ∧ ∃ W' : Ov W1, w'' = W'.wd) := fun W => ov_call ((tick_c ti W.wd).mono fun e w' ⟨h1, h2⟩ => ⟨by rw [h1, hqt], by rw [h2]; exact Below.refl _ _⟩)
    have HC32 : Hid (∀ W : Ov W1, Calls Try.prog 32 #[.string di] W.wd fun e w'' => e = .returned (.bool qd) ∧ ∃ W' : Ov W1, w'' = W'.wd) := fun W => ov_call ((l4Digits_c di W.wd (by omega)).mono fun e w' ⟨q, h1, h2, h3⟩ => ⟨by rw [h1, show q = qd by rw [Bool.eq_iff_iff, h2, hqd]], h3⟩)
    have HQD : Hid (qd = true ↔ DgOk di) := hqd
    have HQT : Hid (qt = true ↔ 0 ≤ ti ∧ ti ≤ 1000000000) := by show _ ↔ _; rw [← hqt]; simp
    clear hqd hqt
    cases qt with
    | false =>
      have HNO : Hid (¬ PsOk ls) := PsOk.not1 hjl (by rw [HR.out]; intro h; have := HQT.out.2 h.1; cases this)
      go_wp2
      rw [HW1.out, HG.out]
      refine region_over (by kernel_rfl) (by kernel_rfl) ?_
      repeat (go_big_quiet_step (first | (go_at_call 63; exact HC63.out _) | (go_at_call 32; exact HC32.out _)))
      refine wpQuiet_nil ?_
      rintro _ ⟨W, rfl⟩
      have BN : Hid (Below w.heap.size w W.wd) := belowCall K1.out.1 W.ok K1.out.1.size
      clear z0 z1 ne HC63 HC32
      go_wp2
      go_ret
      exact PsR.no HNO.out BN.out
    | true =>
    have HTI := HQT.out.1 rfl
    by_cases h1 : (di.size : Int) = 1
    case neg =>
      have hb1 : ((di.size : Int) != 1) = true := by simpa using h1
      have HX : Hid (¬ PsOk ls) := PsOk.not1 hjl (by rw [HR.out]; intro h; exact h1 (by have := h.2.1; dsimp only at this; omega))
      clear h1
      have HNO : Hid (¬ PsOk ls) := HX.out
      go_wp2
      rw [HW1.out, HG.out]
      refine region_over (by kernel_rfl) (by kernel_rfl) ?_
      repeat (go_big_quiet_step (first | (go_at_call 63; exact HC63.out _) | (go_at_call 32; exact HC32.out _)))
      refine wpQuiet_nil ?_
      rintro _ ⟨W, rfl⟩
      have BN : Hid (Below w.heap.size w W.wd) := belowCall K1.out.1 W.ok K1.out.1.size
      clear z0 z1 ne HC63 HC32
      go_wp2
      go_ret
      exact PsR.no HNO.out BN.out
    case pos =>
    have hb1 : ((di.size : Int) != 1) = false := by simpa using h1
    have HD1 : Hid (di.size = 1) := by show _ = _; omega
    clear h1
    cases qd with
    | false =>
      have HNO : Hid (¬ PsOk ls) := PsOk.not1 hjl (by rw [HR.out]; intro h; have := HQD.out.2 h.2.2; cases this)
      go_wp2
      rw [HW1.out, HG.out]
      refine region_over (by kernel_rfl) (by kernel_rfl) ?_
      repeat (go_big_quiet_step (first | (go_at_call 63; exact HC63.out _) | (go_at_call 32; exact HC32.out _)))
      refine wpQuiet_nil ?_
      rintro _ ⟨W, rfl⟩
      have BN : Hid (Below w.heap.size w W.wd) := belowCall K1.out.1 W.ok K1.out.1.size
      clear z0 z1 ne HC63 HC32
      go_wp2
      go_ret
      exact PsR.no HNO.out BN.out
    | true =>
    have HP : Hid (PrOk ls[j]) := by show PrOk ls[j]; rw [HR.out]; exact ⟨HTI, HD1.out, HQD.out.1 rfl⟩
    clear HTI
    by_cases h0 : j = 0
    case pos =>
      have hj0 : ((0 : Int) < (j : Int)) = False := eq_false (by omega)
      have hj1 : (0 < j) = False := eq_false (by omega)
      have HS0 : Hid (PsTo ls (j + 1)) := hA.out.succ hjl HP.out (fun k hk => by omega)
      clear h0
      have HT : Hid (PsTo ls (j + 1)) := HS0.out
      go_wp2
      rw [HW1.out, HG.out]
      refine region_over (by kernel_rfl) (by kernel_rfl) ?_
      repeat (go_big_quiet_step (first | (go_at_call 63; exact HC63.out _) | (go_at_call 32; exact HC32.out _)))
      refine wpQuiet_nil ?_
      rintro _ ⟨W, rfl⟩
      have BN : Hid (Below w.heap.size w W.wd) := belowCall K1.out.1 W.ok K1.out.1.size
      clear z0 z1 ne HC63 HC32
      go_wp2
      go_roundw
      case rel => exact ⟨j + 1, by omega, by go_num, BN.out, HT.out⟩
      case measure => simp [intOf]; omega
    case neg =>
    obtain ⟨i, rfl⟩ : ∃ i, j = i + 1 := ⟨j - 1, by omega⟩
    clear h0
    have hil : i < ls.length := by omega
    have hin : i < n := by omega
    have hiI : (i : Int) < (n : Int) := by omega
    have z2 : ∀ W : Ov W1, W.wd.cell? ⟨b0, off + i * 2, none⟩ = some (.int .i64 ls[i].ti) := ov_cell ((K1.out.1.cell (p := ⟨b0, off + i * 2, none⟩) hcb).trans (HH4.out i hil).1)
    obtain ⟨tp, htp⟩ : ∃ x, ls[i].ti = x := ⟨_, rfl⟩
    rw [htp] at z2
    have HTP : Hid (ls[i].ti = tp) := htp
    clear htp
    by_cases hgt : ti < tp
    case pos =>
      have HNO : Hid (¬ PsOk ls) := PsOk.not2 hjl (by rw [HR.out, HTP.out]; exact hgt)
      go_wp2
      rw [HW1.out, HG.out]
      refine region_over (by kernel_rfl) (by kernel_rfl) ?_
      repeat (go_big_quiet_step (first | (go_at_call 63; exact HC63.out _) | (go_at_call 32; exact HC32.out _)))
      refine wpQuiet_nil ?_
      rintro _ ⟨W, rfl⟩
      have BN : Hid (Below w.heap.size w W.wd) := belowCall K1.out.1 W.ok K1.out.1.size
      clear z0 z1 ne HC63 HC32
      go_wp2
      go_ret
      exact PsR.no HNO.out BN.out
    case neg =>
      have hgF : (ti < tp) = False := eq_false hgt
      have HLE : Hid (tp ≤ ti) := by show _ ≤ _; omega
      clear hgt
      have HT : Hid (PsTo ls (i + 1 + 1)) := hA.out.succ1 hjl HP.out (by rw [HTP.out, HR.out]; exact HLE.out)
      go_wp2
      rw [HW1.out, HG.out]
      refine region_over (by kernel_rfl) (by kernel_rfl) ?_
      repeat (go_big_quiet_step (first | (go_at_call 63; exact HC63.out _) | (go_at_call 32; exact HC32.out _)))
      refine wpQuiet_nil ?_
      rintro _ ⟨W, rfl⟩
      have BN : Hid (Below w.heap.size w W.wd) := belowCall K1.out.1 W.ok K1.out.1.size
      clear z0 z1 ne HC63 HC32
      go_wp2
      go_roundw
      case rel => exact ⟨i + 1 + 1, by omega, by go_num, BN.out, HT.out⟩
      case measure => simp [intOf]; omega
/-- the tick ahead of a place, 0 ahead of the first -/
def lastT (ls : Prs) : Nat → Int
  | 0 => 0
  | j + 1 => ((ls[j]?).map fun p => p.ti).getD 0
theorem lastT_succ {ls : Prs} {j : Nat} (h : j < ls.length) : lastT ls (j + 1) = ls[j].ti := by simp [lastT, List.getElem?_eq_getElem h]
theorem last_on {ls : Prs} {j : Nat} (hA : PsTo ls j) (hj : j < ls.length) (h1 : lastT ls j ≤ ls[j].ti) (h2 : ls[j].ti ≤ 1000000000) (h3 : ls[j].di.size = 1) (h4 : DgOk ls[j].di) : PsTo ls (j + 1) := by
  refine hA.succ hj ⟨⟨?_, h2⟩, h3, h4⟩ ?_
  · cases j with
    | zero => simpa [lastT] using h1
    | succ i =>
      rw [lastT_succ (by omega)] at h1
      have := (hA i (by omega) (by omega)).1.1.1
      omega
  · intro k hk
    subst hk
    rw [lastT_succ (by omega)] at h1
    exact h1
theorem last_no {ls : Prs} {j : Nat} (hj : j < ls.length) (h : ls[j].ti < lastT ls j) : ¬ PsOk ls := by
  cases j with
  | zero =>
    refine PsOk.not1 hj (fun h' => ?_)
    have := h'.1.1
    simp [lastT] at h
    omega
  | succ i =>
    rw [lastT_succ (by omega)] at h
    exact PsOk.not2 hj h
set_option maxHeartbeats 6400000 in
theorem pressI_c (v : Value) (ls : Prs) (w : World) (h : Rpq w v ls) (hz : Szp ls) : Calls Try.prog 40 #[v] w (PsR ls w) := by
  obtain ⟨a, cap, rfl, h1, h2, h3⟩ := h
  unfold maxLen at h2
  have H3 : Hid (ls = [] ∨ ∃ b off, a = some ⟨b, off, none⟩ ∧ ∀ i (h : i < ls.length), w.cell? ⟨b, off + i * 2, none⟩ = some (.int .i64 ls[i].ti) ∧ w.cell? ⟨b, off + i * 2 + 1, none⟩ = some (.string ls[i].di)) := h3
  have HZ : Hid (Szp ls) := hz
  obtain ⟨n, hn⟩ : ∃ n, ls.length = n := ⟨_, rfl⟩
  have HN : Hid (ls.length = n) := hn
  rw [hn] at h1 ⊢
  clear hn h3 hz
  by_cases h20 : (20 : Int) < (n : Int)
  · have HY : Hid (¬ PsOk ls) := fun h => by have := h.1; have := HN.out; omega
    go_enter Try.func40, Try.ntmps40
    go_wp2
    go_ret
    exact PsR.no HY.out (Below.refl _ _)
  have h20F : ((20 : Int) < (n : Int)) = False := eq_false h20
  have h20N : (20 < n) = False := eq_false (by omega)
  have H20 : Hid (n ≤ 20) := by show _ ≤ _; omega
  clear h20
  go_enter Try.func40, Try.ntmps40
  go_wp2
  go_loopw [11, 3] (fun i l wr => ∃ j : Nat, j ≤ n ∧ i = .int .i64 j ∧ l = .int .i64 (lastT ls j) ∧ Hid (Below w.heap.size w wr) ∧ Hid (PsTo ls j)) (fun i _ _ => n - (intOf i).toNat)
  case atStart => exact ⟨0, Nat.zero_le _, rfl, rfl, Below.refl _ _, fun i _ h => by omega⟩
  case round =>
    obtain ⟨j, hj, rfl, rfl, BJ, hA⟩ := hrel
    by_cases hlt : j < n
    case neg =>
      obtain rfl : n = j := by omega
      have HY : Hid (PsOk ls) := ⟨by rw [HN.out]; exact H20.out, by rw [HN.out]; exact hA.out⟩
      go_wp2
      go_ret
      exact PsR.yes HY.out BJ.out
    case pos =>
    have hjl : j < ls.length := by rw [HN.out]; exact hlt
    obtain ⟨b0, off, rfl, h4⟩ : ∃ b off, a = some ⟨b, off, none⟩ ∧ _ := by
      rcases H3.out with h | h
      · rw [h] at hjl; simp at hjl
      · exact h
    have hc := h4 j hjl
    have hcb : b0 < w.heap.size := block_lt_of_cell hc.1
    have hds := HZ.out _ (List.getElem_mem hjl)
    obtain ⟨⟨ti, di⟩, hr⟩ : ∃ r, ls[j] = r := ⟨_, rfl⟩
    rw [hr] at hc hds
    dsimp only at hc hds
    have HR : Hid (ls[j] = ⟨ti, di⟩) := hr
    have e0 := (BJ.out.cell (p := ⟨b0, off + j * 2, none⟩) hcb).trans hc.1
    have e1 := (BJ.out.cell (p := ⟨b0, off + j * 2 + 1, none⟩) hcb).trans hc.2
    have HH4 : Hid (∀ i (h : i < ls.length), w.cell? ⟨b0, off + i * 2, none⟩ = some (.int .i64 ls[i].ti) ∧ w.cell? ⟨b0, off + i * 2 + 1, none⟩ = some (.string ls[i].di)) := h4
    clear h4 hc hr H3
    obtain ⟨W1, hW1⟩ : ∃ W1, wr.alloc (Obj.cells #[.int .i64 ti, .string di] 39) = W1 := ⟨_, rfl⟩
    have bA : Below wr.heap.size wr W1 := hW1 ▸ (Below.refl _ _).alloc (Nat.le_refl _) _
    have K1 : Hid (Below w.heap.size w W1 ∧ Blk W1 wr.heap.size #[.int .i64 ti, .string di] 39) := ⟨belowCall BJ.out bA BJ.out.size, hW1 ▸ Blk.new _ _ _⟩
    have HW1 : Hid (wr.alloc (Obj.cells #[.int .i64 ti, .string di] 39) = W1) := hW1
    obtain ⟨g, hg⟩ : ∃ g, wr.heap.size = g := ⟨_, rfl⟩
    rw [hg] at K1
    have HG : Hid (wr.heap.size = g) := hg
    clear bA hW1 hg
    have HON : Hid (lastT ls j ≤ ti → ti ≤ 1000000000 → di.size = 1 → DgOk di → PsTo ls (j + 1)) := fun a b c d => last_on hA.out hjl (by rw [HR.out]; exact a) (by rw [HR.out]; exact b) (by rw [HR.out]; exact c) (by rw [HR.out]; exact d)
    have HNL : Hid (ti < lastT ls j → ¬ PsOk ls) := fun a => last_no hjl (by rw [HR.out]; exact a)
    have HLS : Hid (lastT ls (j + 1) = ti) := by show _ = _; rw [lastT_succ hjl, HR.out]
    obtain ⟨la, hla⟩ : ∃ x, lastT ls j = x := ⟨_, rfl⟩
    rw [hla] at HON HNL ⊢
    clear hla
    have hgs := HG.out
    subst hgs
    clear HG
    by_cases hl : ti < la
    case pos =>
      have HNO : Hid (¬ PsOk ls) := HNL.out hl
      go_wp2
      rw [HW1.out]
      go_ret
      exact PsR.no HNO.out K1.out.1
    case neg =>
    have hlF : (ti < la) = False := eq_false hl
    have HL : Hid (la ≤ ti) := by show _ ≤ _; omega
    clear hl
    by_cases hm : 1000000000 < ti
    case pos =>
      have HNO : Hid (¬ PsOk ls) := PsOk.not1 hjl (by rw [HR.out]; intro h; have := h.1.2; dsimp only at this; omega)
      go_wp2
      rw [HW1.out]
      go_ret
      exact PsR.no HNO.out K1.out.1
    case neg =>
    have hmF : (1000000000 < ti) = False := eq_false hm
    have HM : Hid (ti ≤ 1000000000) := by show _ ≤ _; omega
    clear hm
    by_cases h1 : (di.size : Int) = 1
    case neg =>
      have hb1 : ((di.size : Int) != 1) = true := by simpa using h1
      have HX : Hid (¬ PsOk ls) := PsOk.not1 hjl (by rw [HR.out]; intro h; exact h1 (by have := h.2.1; dsimp only at this; omega))
      clear h1
      have HNO : Hid (¬ PsOk ls) := HX.out
      go_wp2
      rw [HW1.out]
      go_ret
      exact PsR.no HNO.out K1.out.1
    case pos =>
    have hb1 : ((di.size : Int) != 1) = false := by simpa using h1
    have HD1 : Hid (di.size = 1) := by show _ = _; omega
    clear h1
    go_wp2_with (fail)
    rw [HW1.out]
    refine (areDigits_c di W1 (by omega)).mono ?_
    rintro e w2 ⟨q, rfl, hq, b2⟩
    have K2 : Hid (Below w.heap.size w w2 ∧ Blk w2 wr.heap.size #[.int .i64 ti, .string di] 39) := ⟨belowCall K1.out.1 b2 K1.out.1.size, K1.out.2.below b2 K1.out.2.lt⟩
    have HQ : Hid (q = true ↔ DgOk di) := hq
    clear hq b2
    cases q with
    | false =>
      have HNO : Hid (¬ PsOk ls) := PsOk.not1 hjl (by rw [HR.out]; intro h; have := HQ.out.2 h.2.2; cases this)
      go_wp2
      go_ret
      exact PsR.no HNO.out K2.out.1
    | true =>
      have HT : Hid (PsTo ls (j + 1)) := HON.out HL.out HM.out HD1.out (HQ.out.1 rfl)
      have c0 := K2.out.2.cell 0
      have c1 := K2.out.2.cell 1
      simp at c0 c1
      go_wp2
      go_roundw
      case rel => exact ⟨j + 1, by omega, by go_num, by rw [HLS.out], K2.out.1, HT.out⟩
      case measure => simp [intOf]; omega
end Go.Proofs.Ytpnglbnebkggkaa

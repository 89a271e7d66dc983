/- Agents and callers that are right; no condition. -/
import Derived.Test.YtpmmgbinogokfaaIdx
namespace Go.Proofs.Ytpmmgbinogokfaa
open Go.RowKit Go.ChangeShapes Go.WideShapes Go.ChangeAt
set_option linter.unusedVariables false
set_option linter.unusedSimpArgs false
set_option maxRecDepth 8000
def tkB (x : Int) : Bool := decide (0 ≤ x ∧ x ≤ 1000000000)
def agB (n : Int) (a : Ag) : Bool := decide (0 ≤ a.1 ∧ a.1 ≤ 255) && ((a.2.1 == -1) || tkB a.2.1) && decide (0 ≤ a.2.2 ∧ a.2.2 ≤ n)
def skB (k : Int) : Bool := decide (0 ≤ k ∧ k ≤ 255) && (ones k == 1)
def wtB (n : Int) (q : Wt) : Bool := tkB q.1 && skB q.2.1 && decide (0 ≤ q.2.2.1 ∧ q.2.2.1 ≤ 9) && decide (0 ≤ q.2.2.2 ∧ q.2.2.2 ≤ n)
theorem tick_c (x : Int) (w : World) : Calls Try.prog 54 #[.int .i64 x] w fun e w' => e = .returned (.bool (tkB x)) ∧ w' = w := by
  by_cases h : 0 ≤ x <;> by_cases h2 : x ≤ 1000000000
  all_goals
    go_enter Try.func54, Try.ntmps54
    go_wp2
    go_ret
    exact ⟨by simp [tkB, h, h2], rfl⟩
theorem call_c (x : Int) (w : World) : Calls Try.prog 57 #[.int .i64 x] w fun e w' => e = .returned (.bool (tkB x)) ∧ w' = w := by
  by_cases h : 0 ≤ x <;> by_cases h2 : x ≤ 1000000000
  all_goals
    go_enter Try.func57, Try.ntmps57
    go_wp2
    go_ret
    exact ⟨by simp [tkB, h, h2], rfl⟩
set_option maxHeartbeats 800000 in
theorem oneSkill_c (x : Int) (w : World) : Calls Try.prog 98 #[.int .i64 x] w fun e w' => e = .returned (.bool (skB x)) ∧ w' = w := by
  by_cases h : 0 ≤ x ∧ x ≤ 255
  · have hd : decide (0 ≤ x ∧ x ≤ 255) = true := decide_eq_true h
    go_enter Try.func98, Try.ntmps98
    go_wp2_with (first | (go_at_call 79; refine (skillsOk_c _ _).mono ?_; rintro e w2 ⟨rfl, rfl⟩; rw [hd]) | (go_at_call 106; refine (cnt_c _ h.1 h.2 _).mono ?_; rintro e w2 ⟨rfl, rfl⟩))
    go_ret
    exact ⟨by simp [skB, h], rfl⟩
  · have hd : decide (0 ≤ x ∧ x ≤ 255) = false := decide_eq_false h
    go_enter Try.func98, Try.ntmps98
    go_wp2_with (first | (go_at_call 79; refine (skillsOk_c _ _).mono ?_; rintro e w2 ⟨rfl, rfl⟩; rw [hd]))
    go_ret
    exact ⟨by simp [skB, hd], rfl⟩
set_option maxHeartbeats 3200000 in
theorem agentOk_c (a : Ag) (n : Int) (w : World) : Calls Try.prog 89 #[.agg #[.int .i64 a.1, .int .i64 a.2.1, .int .i64 a.2.2], .int .i64 n] w fun e w' => e = .returned (.bool (agB n a)) ∧ Below w.heap.size w w' := by
  obtain ⟨s, b, t⟩ := a
  simp only
  cases hs : decide (0 ≤ s ∧ s ≤ 255)
  all_goals cases ht : tkB b
  all_goals
    go_enter Try.func89, Try.ntmps89
    go_wp2_with (first | (go_at_call 79; refine (skillsOk_c _ _).mono ?_; rintro e w2 ⟨rfl, rfl⟩; rw [hs]) | (go_at_call 57; refine (call_c _ _).mono ?_; rintro e w2 ⟨rfl, rfl⟩; rw [ht]))
  all_goals
    go_ret
    refine ⟨?_, (Below.refl _ _).alloc (Nat.le_refl _) _⟩
    first | (simp_all [agB]; done) | (simp_all [agB]; rfl) | (simp_all [agB]; omega)
set_option maxHeartbeats 3200000 in
theorem waitOk_c (q : Wt) (n : Int) (w : World) : Calls Try.prog 77 #[.agg #[.int .i64 q.1, .int .i64 q.2.1, .int .i64 q.2.2.1, .int .i64 q.2.2.2], .int .i64 n] w fun e w' => e = .returned (.bool (wtB n q)) ∧ Below w.heap.size w w' := by
  obtain ⟨c, k, p, t⟩ := q
  simp only
  cases hs : tkB c
  all_goals cases ht : skB k
  all_goals
    go_enter Try.func77, Try.ntmps77
    go_wp2_with (first | (go_at_call 57; refine (call_c _ _).mono ?_; rintro e w2 ⟨rfl, rfl⟩; rw [hs]) | (go_at_call 98; refine (oneSkill_c _ _).mono ?_; rintro e w2 ⟨rfl, rfl⟩; rw [ht]))
  all_goals
    go_ret
    refine ⟨?_, (Below.refl _ _).alloc (Nat.le_refl _) _⟩
    first | (simp_all [wtB]; done) | (simp_all [wtB]; rfl) | (simp_all [wtB]; omega)
def AgTo (n : Int) (gs : List Ag) (j : Nat) : Prop := ∀ i (h : i < gs.length), i < j → agB n gs[i] = true ∧ (gs[i].2.1 = -1 ∨ ((gs.take i).findIdx? fun x => x.2.1 == gs[i].2.1) = none)
def AgsOk (n : Int) (gs : List Ag) : Prop := AgTo n gs gs.length
def BoR (P : Prop) (w : World) (e : Ending) (w' : World) : Prop := ∃ r, e = .returned (.bool r) ∧ (r = true ↔ P) ∧ Below w.heap.size w w'
theorem BoR.no {P : Prop} {w w' : World} (h : ¬ P) (b : Below w.heap.size w w') : BoR P w (.returned (.bool false)) w' := ⟨_, rfl, ⟨fun h => (by cases h), fun h' => absurd h' h⟩, b⟩
theorem BoR.yes {P : Prop} {w w' : World} (h : P) (b : Below w.heap.size w w') : BoR P w (.returned (.bool true)) w' := ⟨_, rfl, ⟨fun _ => h, fun _ => rfl⟩, b⟩
theorem AgTo.succ {n : Int} {gs : List Ag} {j : Nat} (h : AgTo n gs j) (hj : j < gs.length) (h1 : agB n gs[j] = true) (h2 : gs[j].2.1 = -1 ∨ ((gs.take j).findIdx? fun x => x.2.1 == gs[j].2.1) = none) : AgTo n gs (j + 1) := by
  intro i hi hij
  by_cases e : i < j
  · exact h i hi e
  · obtain rfl : i = j := by omega
    exact ⟨h1, h2⟩
theorem optI_neg {o : Option Nat} (h : o = none) : optI o = -1 := by rw [h]; rfl
theorem optI_iff (o : Option Nat) : 0 ≤ optI o ↔ o ≠ none := by cases o <;> simp [optI]
set_option maxHeartbeats 6400000 in
theorem agentsOk_c (n g : Int) (va vq : Value) (gs : List Ag) (w : World) (ha : Rg 3 agC w va gs) (hq : ∃ a m c, vq = .slice a m c) : Calls Try.prog 55 #[.agg (D4 n va vq g)] w (BoR (AgsOk n gs) w) := by
  obtain ⟨qa, qm, qc, rfl⟩ := hq
  obtain ⟨a, cap, rfl, h1, h2, h3⟩ := ha
  have H2m : Hid (cap ≤ maxLen) := h2
  unfold maxLen at h2
  obtain ⟨m, hm⟩ : ∃ m, gs.length = m := ⟨_, rfl⟩
  have HM : Hid (gs.length = m) := hm
  have H3 : Hid (gs = [] ∨ ∃ b off, a = some ⟨b, off, none⟩ ∧ ∀ i (h : i < gs.length), w.rangeAt b (off + i * 3) (agC gs[i])) := h3
  rw [hm] at h1 ⊢
  obtain ⟨W0, hW0⟩ : ∃ W0, w.alloc (Obj.cells (D4 n (.slice a m cap) (.slice qa qm qc) g) 27) = W0 := ⟨_, rfl⟩
  have B0 : Hid (Below w.heap.size w W0) := hW0 ▸ (Below.refl _ _).alloc (Nat.le_refl _) _
  have k0 : Blk W0 w.heap.size (D4 n (.slice a m cap) (.slice qa qm qc) g) 27 := hW0 ▸ Blk.new _ _ _
  have K0 : Hid (Blk W0 w.heap.size (D4 n (.slice a m cap) (.slice qa qm qc) g) 27) := k0
  have x1 := k0.cell 1
  simp at x1
  clear hm h3 k0
  go_enter Try.func55, Try.ntmps55
  go_wp2
  try rw [hW0]
  clear x1 hW0
  go_loopw [8] (fun i wr => ∃ j : Nat, j ≤ m ∧ i = .int .i64 j ∧ Hid (Below W0.heap.size W0 wr) ∧ Hid (AgTo n gs j)) (fun i _ => m - (intOf i).toNat)
  case atStart => exact ⟨0, Nat.zero_le _, rfl, Below.refl _ _, fun i _ h => by omega⟩
  case round =>
    obtain ⟨j, hj, rfl, BJ0, hA⟩ := hrel
    have BJ : Hid (Below w.heap.size w wr) := belowCall B0.out BJ0.out B0.out.size
    by_cases hlt : j < m
    case neg =>
      obtain rfl : m = j := by omega
      have HY : Hid (AgsOk n gs) := by
        show AgTo n gs gs.length
        rw [HM.out]; exact hA.out
      go_wp2
      go_ret
      exact BoR.yes HY.out BJ.out
    case pos =>
    have hjl : j < gs.length := by rw [HM.out]; exact hlt
    obtain ⟨b, off, rfl, h4⟩ : ∃ b off, a = some ⟨b, off, none⟩ ∧ _ := by
      rcases H3.out with h | h
      · rw [h] at hjl; simp at hjl
      · exact h
    have hcb : b < w.heap.size := block_lt_of_cell (h4 j hjl 0 _ rfl)
    have H4 : Hid (∀ i (h : i < gs.length), w.rangeAt b (off + i * 3) (agC gs[i])) := h4
    obtain ⟨r, hr⟩ : ∃ r, gs[j] = r := ⟨_, rfl⟩
    have hc := rangeAt_below (h4 j hjl) BJ.out hcb
    rw [hr] at hc
    have e0 : wr.cell? ⟨b, off + j * 3, none⟩ = some (.int .i64 r.1) := hc 0 _ rfl
    have e1 : wr.cell? ⟨b, off + j * 3 + 1, none⟩ = some (.int .i64 r.2.1) := hc 1 _ rfl
    have e2 : wr.cell? ⟨b, off + j * 3 + 2, none⟩ = some (.int .i64 r.2.2) := hc 2 _ rfl
    have HR : Hid (gs[j] = r) := hr
    obtain ⟨W1, hW1⟩ : ∃ W1, wr.alloc (Obj.cells #[.int .i64 r.1, .int .i64 r.2.1, .int .i64 r.2.2] 36) = W1 := ⟨_, rfl⟩
    have bA : Below wr.heap.size wr W1 := hW1 ▸ (Below.refl _ _).alloc (Nat.le_refl _) _
    have B1 : Hid (Below W0.heap.size W0 W1) := belowCall BJ0.out bA BJ0.out.size
    have k0 := (K0.out.below BJ0.out K0.out.lt)
    have k1 : Blk W1 wr.heap.size #[.int .i64 r.1, .int .i64 r.2.1, .int .i64 r.2.2] 36 := hW1 ▸ Blk.new _ _ _
    have x0 := k0.cell 0
    simp at x0
    have K1 : Hid (Blk W1 w.heap.size (D4 n (.slice (some ⟨b, off, none⟩) m cap) (.slice qa qm qc) g) 27 ∧ Blk W1 wr.heap.size #[.int .i64 r.1, .int .i64 r.2.1, .int .i64 r.2.2] 36) := ⟨k0.below bA k0.lt, k1⟩
    have HW1 : Hid (wr.alloc (Obj.cells #[.int .i64 r.1, .int .i64 r.2.1, .int .i64 r.2.2] 36) = W1) := hW1
    have hl0 := k0.lt
    clear h4 hc hr hW1 bA k1 k0
    go_wp2_with (fail)
    rw [HW1.out]
    clear HW1 e0 e1 e2
    refine (agentOk_c r n W1).mono ?_
    rintro e w2 ⟨rfl, b2⟩
    have B2' : Hid (Below W0.heap.size W0 w2) := belowCall B1.out b2 B1.out.size
    have B2 : Hid (Below w.heap.size w w2) := belowCall B0.out B2'.out B0.out.size
    have K2 : Hid (Blk w2 w.heap.size (D4 n (.slice (some ⟨b, off, none⟩) m cap) (.slice qa qm qc) g) 27 ∧ Blk w2 wr.heap.size #[.int .i64 r.1, .int .i64 r.2.1, .int .i64 r.2.2] 36) := ⟨K1.out.1.below b2 K1.out.1.lt, K1.out.2.below b2 K1.out.2.lt⟩
    obtain ⟨q, hq⟩ : ∃ q, agB n r = q := ⟨_, rfl⟩
    have HQ : Hid (agB n gs[j] = q) := by show agB n gs[j] = q; rw [HR.out]; exact hq
    rw [hq]
    clear hq b2 K1 B1 x0
    cases q with
    | false =>
      have HY : Hid (¬ AgsOk n gs) := fun h => by
        have := (h j hjl hjl).1
        rw [HQ.out] at this; cases this
      go_wp2
      go_ret
      exact BoR.no HY.out B2.out
    | true =>
    have z1 : ∀ W : Ov w2, W.wd.cell? ⟨wr.heap.size, 1, none⟩ = some (.int .i64 r.2.1) := ov_cell (K2.out.2.cell 1)
    have y1 : ∀ W : Ov w2, W.wd.cell? ⟨w.heap.size, 1, none⟩ = some (.slice (some ⟨b, off, none⟩) m cap) := ov_cell (K2.out.1.cell 1)
    have ne : Nonempty (Ov w2) := ⟨⟨_, Below.refl _ _⟩⟩
    by_cases hb : r.2.1 = -1
    · have hbn : (r.2.1 != -1) = false := by simp [hb]
      have HY : Hid (AgTo n gs (j + 1)) := hA.out.succ hjl HQ.out (.inl (by rw [HR.out]; exact hb))
      clear hb
      go_wp2_with (fail)
      refine region_over (by kernel_rfl) (by kernel_rfl) ?_
      repeat (go_big_quiet_step (fail))
      refine wpQuiet_nil ?_
      rintro _ ⟨W, rfl⟩
      have HBW : Hid (Below W0.heap.size W0 W.wd) := belowCall B2'.out W.ok B2'.out.size
      clear z1 y1
      go_wp2
      go_roundw
      case rel => exact ⟨j + 1, by omega, by go_num, HBW.out, HY.out⟩
      case measure => simp [intOf]; omega
    · have hbn : (r.2.1 != -1) = true := by simp [hb]
      obtain ⟨z, hz⟩ : ∃ z, optI ((gs.take j).findIdx? fun x => x.2.1 == r.2.1) = z := ⟨_, rfl⟩
      have HC2 : Hid (∀ W : Ov w2, Calls Try.prog 58 #[.slice (some ⟨b, off, none⟩) j cap, .int .i64 r.2.1] W.wd fun e w'' => e = .returned (.int .i64 z) ∧ ∃ W' : Ov w2, w'' = W'.wd) := fun W => ov_call (by rw [← hz]; exact agW_c _ (gs.take j) r.2.1 W.wd ((Rg.take H4.out (by rw [HM.out]; exact h1) H2m.out j (by omega)).below (belowCall B2.out W.ok B2.out.size)))
      have HZ : Hid (0 ≤ z ↔ ((gs.take j).findIdx? fun x => x.2.1 == gs[j].2.1) ≠ none) := by
        show 0 ≤ z ↔ _
        rw [← hz, optI_iff, HR.out]
      have HNB : Hid (¬ gs[j].2.1 = -1) := by show ¬ gs[j].2.1 = -1; rw [HR.out]; exact hb
      clear hz hb
      by_cases hz0 : 0 ≤ z
      · have HY : Hid (¬ AgsOk n gs) := fun h => by
          rcases (h j hjl hjl).2 with h1 | h1
          · exact HNB.out h1
          · exact HZ.out.1 hz0 h1
        have hzd : decide (z ≥ 0) = true := decide_eq_true hz0
        have hzd' : decide (0 ≤ z) = true := decide_eq_true hz0
        go_wp2_with (fail)
        refine region_over (by kernel_rfl) (by kernel_rfl) ?_
        repeat (go_big_quiet_step (first | (go_at_call 58; exact HC2.out _)))
        refine wpQuiet_nil ?_
        rintro _ ⟨W, rfl⟩
        have HBW : Hid (Below w.heap.size w W.wd) := belowCall B2.out W.ok B2.out.size
        clear z1 y1
        go_wp2
        go_ret
        exact BoR.no HY.out HBW.out
      · have HY : Hid (AgTo n gs (j + 1)) := hA.out.succ hjl HQ.out (.inr (by
          cases hx : ((gs.take j).findIdx? fun x => x.2.1 == gs[j].2.1) with
          | none => rfl
          | some y => exact absurd (HZ.out.2 (by rw [hx]; simp)) hz0))
        have hzd : decide (z ≥ 0) = false := decide_eq_false hz0
        have hzd' : decide (0 ≤ z) = false := decide_eq_false hz0
        go_wp2_with (fail)
        refine region_over (by kernel_rfl) (by kernel_rfl) ?_
        repeat (go_big_quiet_step (first | (go_at_call 58; exact HC2.out _)))
        refine wpQuiet_nil ?_
        rintro _ ⟨W, rfl⟩
        have HBW : Hid (Below W0.heap.size W0 W.wd) := belowCall B2'.out W.ok B2'.out.size
        clear z1 y1
        go_wp2
        go_roundw
        case rel => exact ⟨j + 1, by omega, by go_num, HBW.out, HY.out⟩
        case measure => simp [intOf]; omega
end Go.Proofs.Ytpmmgbinogokfaa

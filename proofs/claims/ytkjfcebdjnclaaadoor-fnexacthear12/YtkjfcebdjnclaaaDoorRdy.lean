/- Whether to begin, both sides; no condition. -/
import Derived.Test.YtkjfcebdjnclaaaDoorPli
namespace Go.Proofs.YtkjfcebdjnclaaaDoor
open Go.RowKit Go.ChangeShapes Go.WideShapes Go.ChangeAt
set_option linter.unusedVariables false
set_option linter.unusedSimpArgs false
set_option maxRecDepth 8000

/-- whether a player is to begin -/
def RdP (p : Pl) (ls : List Pk) : Prop := (PlP p ∧ StOk p.n ls) ∧ (p.d ≤ (ls.length : Int) ∨ ∃ h : 0 < ls.length, p.n + p.d ≤ (ls[ls.length - 1]'(by omega)).s)
def RdR (p : Pl) (ls : List Pk) (w : World) (e : Ending) (w' : World) : Prop := ∃ r, e = .returned (.bool r) ∧ (r = true ↔ RdP p ls) ∧ Below w.heap.size w w'
/-- the last number of a list, or -1 -/
def lsF (ls : List Pk) : Int := if h : 0 < ls.length then (ls[ls.length - 1]'(by omega)).s else -1
theorem fld0 (a : Option Addr) (n c : Nat) (x : Int) (W : World) : (Instr.field 94 (.agg #[.slice a n c, .int .i64 x]) 0).run Tryd.prog W = .ok (.slice a n c) W := by kernel_rfl
set_option maxHeartbeats 1600000 in
theorem lastSeq_c (v : Value) (ls : List Pk) (w : World) (h : Rg 18 pkC w v ls) : Calls Tryd.prog 112 #[v] w fun e w' => e = .returned (.int .i64 (lsF ls)) ∧ w' = w := by
  obtain ⟨a, cap, rfl, h1, h2, h3⟩ := h
  unfold maxLen at h2
  by_cases hl : 0 < ls.length
  · have HS : Hid (lsF ls = (ls[ls.length - 1]'(by omega)).s) := by show _ = _; unfold lsF; rw [dif_pos hl]
    obtain ⟨b, off, rfl, h4⟩ : ∃ b off, a = some ⟨b, off, none⟩ ∧ ∀ i (h : i < ls.length), w.rangeAt b (off + i * 18) (pkC ls[i]) := by
      rcases h3 with h3 | h3
      · subst h3; simp at hl
      · exact h3
    have hc := (rg_mid (h4 (ls.length - 1) (by omega))).2.1
    obtain ⟨z, hz⟩ : ∃ z, (ls[ls.length - 1]'(by omega)).s = z := ⟨_, rfl⟩
    rw [hz] at hc HS
    obtain ⟨m, hm⟩ : ∃ m, ls.length = m + 1 := ⟨ls.length - 1, by omega⟩
    rw [hm] at hc h1 ⊢
    simp only [Nat.add_sub_cancel] at hc
    have ne : (((m + 1 : Nat) : Int) == 0) = false := by simp; omega
    have e1 : ((m + 1 : Nat) : Int) - 1 = (m : Int) := by omega
    have hmI : (0 : Int) ≤ (m : Int) := by omega
    have hm2 : (m : Int) < ((m + 1 : Nat) : Int) := by omega
    have HM : Hid (m < m + 1) := by show m < m + 1; omega
    clear h4 hz hm h3 hl
    go_enter Tryd.func112, Tryd.ntmps112
    go_wp2
    go_ret
    exact ⟨by rw [HS.out]; rfl, rfl⟩
  · have h0 : ls.length = 0 := by omega
    have HS : Hid (lsF ls = -1) := by show _ = _; unfold lsF; rw [dif_neg hl]
    rw [h0]
    clear h3 hl h0
    go_enter Tryd.func112, Tryd.ntmps112
    go_wp2
    go_ret
    exact ⟨by rw [HS.out]; rfl, rfl⟩
set_option maxHeartbeats 3200000 in
theorem rdI_c (p : Pl) (v : Value) (ls : List Pk) (w : World) (h : Rg 18 pkC w v ls) : Calls Tryd.prog 103 #[.agg (plA p v)] w (RdR p ls w) := by
  have HR0 : Hid (Rg 18 pkC w v ls) := h
  obtain ⟨a, cap, rfl, h1, h2, -⟩ := h
  unfold maxLen at h2
  obtain ⟨W1, hW1⟩ : ∃ W, w.alloc (Obj.cells (plA p (.slice a ls.length cap)) 42) = W := ⟨_, rfl⟩
  obtain ⟨K1, B1, s1⟩ := plBox hW1
  have HB : Hid (Below w.heap.size w W1) := B1
  have HK : Hid (Blk W1 w.heap.size (plA p (.slice a ls.length cap)) 42) := K1
  have x0 := K1.cell 0
  have x1 := K1.cell 1
  have x2 := K1.cell 2
  have x3 := K1.cell 3
  have x4 := K1.cell 4
  have x5 := K1.cell 5
  simp at x0 x1 x2 x3 x4 x5
  clear K1 B1
  go_enter Tryd.func103, Tryd.ntmps103
  go_wp2_with (fail)
  refine (plI_c p _ ls W1 (HR0.out.below HB.out)).mono ?_
  rintro e w1 ⟨r, rfl, hr, b1⟩
  have HR : Hid (r = true ↔ PlP p ∧ StOk p.n ls) := hr
  have HB1 : Hid (Below w.heap.size w w1) := belowCall HB.out b1 HB.out.size
  have k1 := HK.out.below b1 HK.out.lt
  clear hr b1 x0 x1 x2 x3 x4 x5 hW1
  cases r with
  | false =>
    have HF : Hid (¬ RdP p ls) := fun h => by have := HR.out.2 h.1; cases this
    clear k1
    go_wp2
    go_ret
    exact ⟨_, rfl, ⟨fun h => (by cases h), fun h => absurd h HF.out⟩, HB1.out⟩
  | true =>
  have HOK : Hid (PlP p ∧ StOk p.n ls) := HR.out.1 rfl
  have hn0 := HOK.out.1.1.1
  have hn1 := HOK.out.1.1.2
  have hd0 := HOK.out.1.2.1.1
  have hd1 := HOK.out.1.2.1.2
  have y0 : ∀ W : Ov w1, W.wd.cell? ⟨w.heap.size, 0, none⟩ = some (.int .i64 p.n) := ov_cell (by rw [k1.cell 0]; rfl)
  have y1 : ∀ W : Ov w1, W.wd.cell? ⟨w.heap.size, 1, none⟩ = some (.int .i64 p.d) := ov_cell (by rw [k1.cell 1]; rfl)
  have y2 : ∀ W : Ov w1, W.wd.cell? ⟨w.heap.size, 2, none⟩ = some (.int .i64 p.l) := ov_cell (by rw [k1.cell 2]; rfl)
  have y3 : ∀ W : Ov w1, W.wd.cell? ⟨w.heap.size, 3, none⟩ = some (.int .i64 p.g) := ov_cell (by rw [k1.cell 3]; rfl)
  have y4 : ∀ W : Ov w1, W.wd.cell? ⟨w.heap.size, 4, none⟩ = some (.int .i64 p.x) := ov_cell (by rw [k1.cell 4]; rfl)
  have y5 : ∀ W : Ov w1, W.wd.cell? ⟨w.heap.size, 5, none⟩ = some (.slice a ls.length cap) := ov_cell (by rw [k1.cell 5]; rfl)
  have HC1 : Hid (∀ W : Ov w1, Calls Tryd.prog 78 #[.agg (plA p (.slice a ls.length cap))] W.wd fun e w'' => e = .returned (.agg #[.slice a ls.length cap, .int .i64 p.n]) ∧ ∃ W' : Ov w1, w'' = W'.wd) := fun W => ov_call (storeOf_c p a ls.length cap W.wd)
  have HC2 : Hid (∀ W : Ov w1, Calls Tryd.prog 112 #[.slice a ls.length cap] W.wd fun e w'' => e = .returned (.int .i64 (lsF ls)) ∧ ∃ W' : Ov w1, w'' = W'.wd) := fun W => (lastSeq_c _ ls W.wd ((HR0.out.below HB1.out).below W.ok)).mono fun e w' ⟨he, hw⟩ => ⟨he, W, hw⟩
  have ne : Nonempty (Ov w1) := ⟨⟨_, Below.refl _ _⟩⟩
  have hfld := fld0 a ls.length cap p.n
  have HLS : Hid (∀ x, lsF ls = x → (p.n + p.d ≤ x ↔ ∃ h : 0 < ls.length, p.n + p.d ≤ (ls[ls.length - 1]'(by omega)).s)) := fun x hx => by
    subst hx; unfold lsF
    have h0 := HOK.out.1.1.1
    have h1 := HOK.out.1.2.1.1
    by_cases hl : 0 < ls.length
    · rw [dif_pos hl]; exact ⟨fun h => ⟨hl, h⟩, fun ⟨_, h⟩ => h⟩
    · rw [dif_neg hl]; exact ⟨fun h => by omega, fun ⟨h, _⟩ => absurd h hl⟩
  obtain ⟨z, hz⟩ : ∃ z, lsF ls = z := ⟨_, rfl⟩
  rw [hz] at HC2
  have HZ := HLS.out z hz
  have HZZ : Hid (p.n + p.d ≤ z ↔ ∃ h : 0 < ls.length, p.n + p.d ≤ (ls[ls.length - 1]'(by omega)).s) := HZ
  clear hz HZ HLS k1
  by_cases c1 : p.d ≤ (ls.length : Int)
  · have d1 : decide (p.d ≤ (ls.length : Int)) = true := by simp only [decide_eq_true_eq]; exact c1
    have HT : Hid (RdP p ls) := ⟨HOK.out, .inl c1⟩
    clear c1
    go_wp2
    refine region_over (by kernel_rfl) (by kernel_rfl) ?_
    try simp only [Act.put]
    repeat (go_big_quiet_step (first | (go_at_call 78; exact HC1.out _) | (go_at_call 112; exact HC2.out _)))
    refine wpQuiet_nil ?_
    rintro _ ⟨W, rfl⟩
    have HBE : Hid (Below w.heap.size w W.wd) := belowCall HB1.out W.ok HB1.out.size
    clear HC1 HC2 y0 y1 y2 y3 y4 y5
    go_wp2
    go_ret
    exact ⟨_, rfl, ⟨fun _ => HT.out, fun _ => rfl⟩, HBE.out⟩
  · have d1 : decide (p.d ≤ (ls.length : Int)) = false := by simp only [decide_eq_false_iff_not]; exact c1
    by_cases c2 : p.n + p.d ≤ z
    · have d2 : decide (p.n + p.d ≤ z) = true := by simp only [decide_eq_true_eq]; exact c2
      have HT : Hid (RdP p ls) := ⟨HOK.out, .inr (HZZ.out.1 c2)⟩
      clear c1 c2
      go_wp2
      refine region_over (by kernel_rfl) (by kernel_rfl) ?_
      try simp only [Act.put]
      repeat (go_big_quiet_step (first | (go_at_call 78; exact HC1.out _) | (go_at_call 112; exact HC2.out _)))
      refine wpQuiet_nil ?_
      rintro _ ⟨W, rfl⟩
      have HBE : Hid (Below w.heap.size w W.wd) := belowCall HB1.out W.ok HB1.out.size
      clear HC1 HC2 y0 y1 y2 y3 y4 y5
      go_wp2
      go_ret
      exact ⟨_, rfl, ⟨fun _ => HT.out, fun _ => rfl⟩, HBE.out⟩
    · have d2 : decide (p.n + p.d ≤ z) = false := by simp only [decide_eq_false_iff_not]; exact c2
      have HF : Hid (¬ RdP p ls) := fun h => by
        rcases h.2 with h | h
        · exact c1 h
        · exact c2 (HZZ.out.2 h)
      clear c1 c2
      go_wp2
      refine region_over (by kernel_rfl) (by kernel_rfl) ?_
      try simp only [Act.put]
      repeat (go_big_quiet_step (first | (go_at_call 78; exact HC1.out _) | (go_at_call 112; exact HC2.out _)))
      refine wpQuiet_nil ?_
      rintro _ ⟨W, rfl⟩
      have HBE : Hid (Below w.heap.size w W.wd) := belowCall HB1.out W.ok HB1.out.size
      clear HC1 HC2 y0 y1 y2 y3 y4 y5
      go_wp2
      go_ret
      exact ⟨_, rfl, ⟨fun h => (by cases h), fun h => absurd h HF.out⟩, HBE.out⟩
set_option maxHeartbeats 3200000 in
theorem rdM_c (p : Pl) (v : Value) (ls : List Pk) (w : World) (h : Rg 18 pkC w v ls) : Calls Tryd.prog 94 #[.agg (plA p v)] w (RdR p ls w) := by
  have HR0 : Hid (Rg 18 pkC w v ls) := h
  obtain ⟨a, cap, rfl, h1, h2, h3⟩ := h
  unfold maxLen at h2
  obtain ⟨W1, hW1⟩ : ∃ W, w.alloc (Obj.cells (plA p (.slice a ls.length cap)) 42) = W := ⟨_, rfl⟩
  obtain ⟨K1, B1, s1⟩ := plBox hW1
  have HB : Hid (Below w.heap.size w W1) := B1
  have HK : Hid (Blk W1 w.heap.size (plA p (.slice a ls.length cap)) 42) := K1
  have x0 := K1.cell 0
  have x1 := K1.cell 1
  have x2 := K1.cell 2
  have x3 := K1.cell 3
  have x4 := K1.cell 4
  have x5 := K1.cell 5
  simp at x0 x1 x2 x3 x4 x5
  clear K1 B1
  go_enter Tryd.func94, Tryd.ntmps94
  go_wp2_with (fail)
  refine (plM_c p _ ls W1 (HR0.out.below HB.out)).mono ?_
  rintro e w1 ⟨r, rfl, hr, b1⟩
  have HR : Hid (r = true ↔ PlP p ∧ StOk p.n ls) := hr
  have HB1 : Hid (Below w.heap.size w w1) := belowCall HB.out b1 HB.out.size
  have k1 := HK.out.below b1 HK.out.lt
  clear hr b1 x0 x1 x2 x3 x4 x5 hW1
  cases r with
  | false =>
    have HF : Hid (¬ RdP p ls) := fun h => by have := HR.out.2 h.1; cases this
    clear k1 h3
    go_wp2
    go_ret
    exact ⟨_, rfl, ⟨fun h => (by cases h), fun h => absurd h HF.out⟩, HB1.out⟩
  | true =>
  have HOK : Hid (PlP p ∧ StOk p.n ls) := HR.out.1 rfl
  have hn0 := HOK.out.1.1.1
  have hn1 := HOK.out.1.1.2
  have hd0 := HOK.out.1.2.1.1
  have hd1 := HOK.out.1.2.1.2
  have zz0 := k1.cell 0
  have zz1 := k1.cell 1
  have zz2 := k1.cell 2
  have zz3 := k1.cell 3
  have zz4 := k1.cell 4
  have zz5 := k1.cell 5
  simp at zz0 zz1 zz2 zz3 zz4 zz5
  by_cases hl : 0 < ls.length
  case neg =>
    have h0 : ls.length = 0 := by omega
    have HF : Hid (¬ RdP p ls) := fun h => by
      have h1 := HOK.out.1.2.1.1
      rcases h.2 with h | ⟨h, _⟩
      · omega
      · omega
    have e0 : ((ls.length : Int) == 0) = true := by rw [beq_iff_eq]; omega
    clear h3 k1 hl h0
    go_wp2
    go_ret
    exact ⟨_, rfl, ⟨fun h => (by cases h), fun h => absurd h HF.out⟩, HB1.out⟩
  have e0 : ((ls.length : Int) == 0) = false := by rw [beq_eq_false_iff_ne]; omega
  obtain ⟨b, off, rfl, h4⟩ : ∃ b off, a = some ⟨b, off, none⟩ ∧ ∀ i (h : i < ls.length), w.rangeAt b (off + i * 18) (pkC ls[i]) := by
    rcases h3 with h3 | h3
    · subst h3; simp at hl
    · exact h3
  have hc0 := h4 (ls.length - 1) (by omega)
  have hc := (rg_mid (rangeAt_below hc0 HB1.out (block_lt_of_cell (hc0 0 _ rfl)))).2.1
  obtain ⟨z, hz⟩ : ∃ z, (ls[ls.length - 1]'(by omega)).s = z := ⟨_, rfl⟩
  rw [hz] at hc
  have HZZ : Hid (p.n + p.d ≤ z ↔ ∃ h : 0 < ls.length, p.n + p.d ≤ (ls[ls.length - 1]'(by omega)).s) := by
    subst hz; exact ⟨fun h => ⟨hl, h⟩, fun ⟨_, h⟩ => h⟩
  have y0 : ∀ W : Ov w1, W.wd.cell? ⟨w.heap.size, 0, none⟩ = some (.int .i64 p.n) := ov_cell (by rw [k1.cell 0]; rfl)
  have y1 : ∀ W : Ov w1, W.wd.cell? ⟨w.heap.size, 1, none⟩ = some (.int .i64 p.d) := ov_cell (by rw [k1.cell 1]; rfl)
  have y2 : ∀ W : Ov w1, W.wd.cell? ⟨w.heap.size, 2, none⟩ = some (.int .i64 p.l) := ov_cell (by rw [k1.cell 2]; rfl)
  have y3 : ∀ W : Ov w1, W.wd.cell? ⟨w.heap.size, 3, none⟩ = some (.int .i64 p.g) := ov_cell (by rw [k1.cell 3]; rfl)
  have y4 : ∀ W : Ov w1, W.wd.cell? ⟨w.heap.size, 4, none⟩ = some (.int .i64 p.x) := ov_cell (by rw [k1.cell 4]; rfl)
  have y5 : ∀ W : Ov w1, W.wd.cell? ⟨w.heap.size, 5, none⟩ = some (.slice (some ⟨b, off, none⟩) ls.length cap) := ov_cell (by rw [k1.cell 5]; rfl)
  have yc : ∀ W : Ov w1, W.wd.cell? ⟨b, off + (ls.length - 1) * 18 + 1, none⟩ = some (.int .i64 z) := ov_cell hc
  have e1 : ((ls.length - 1 : Nat) : Int) = (ls.length : Int) - 1 := by omega
  have hj1 : (0 : Int) ≤ (ls.length : Int) - 1 := by omega
  have hj2 : (ls.length : Int) - 1 < (ls.length : Int) := by omega
  have ne : Nonempty (Ov w1) := ⟨⟨_, Below.refl _ _⟩⟩
  clear hz h4 hc hc0 k1
  by_cases c1 : p.d ≤ (ls.length : Int)
  · have d1 : decide (p.d ≤ (ls.length : Int)) = true := by simp only [decide_eq_true_eq]; exact c1
    have HT : Hid (RdP p ls) := ⟨HOK.out, .inl c1⟩
    clear c1
    go_wp2
    refine region_over (by kernel_rfl) (by kernel_rfl) ?_
    try simp only [Act.put]
    repeat (go_big_quiet_step (fail))
    refine wpQuiet_nil ?_
    rintro _ ⟨W, rfl⟩
    have HBE : Hid (Below w.heap.size w W.wd) := belowCall HB1.out W.ok HB1.out.size
    clear y0 y1 y2 y3 y4 y5 yc
    go_wp2
    go_ret
    exact ⟨_, rfl, ⟨fun _ => HT.out, fun _ => rfl⟩, HBE.out⟩
  · have d1 : decide (p.d ≤ (ls.length : Int)) = false := by simp only [decide_eq_false_iff_not]; exact c1
    by_cases c2 : p.n + p.d ≤ z
    · have d2 : decide (p.n + p.d ≤ z) = true := by simp only [decide_eq_true_eq]; exact c2
      have HT : Hid (RdP p ls) := ⟨HOK.out, .inr (HZZ.out.1 c2)⟩
      clear c1 c2
      go_wp2
      refine region_over (by kernel_rfl) (by kernel_rfl) ?_
      try simp only [Act.put]
      repeat (go_big_quiet_step (fail))
      refine wpQuiet_nil ?_
      rintro _ ⟨W, rfl⟩
      have HBE : Hid (Below w.heap.size w W.wd) := belowCall HB1.out W.ok HB1.out.size
      clear y0 y1 y2 y3 y4 y5 yc
      go_wp2
      go_ret
      exact ⟨_, rfl, ⟨fun _ => HT.out, fun _ => rfl⟩, HBE.out⟩
    · have d2 : decide (p.n + p.d ≤ z) = false := by simp only [decide_eq_false_iff_not]; exact c2
      have HF : Hid (¬ RdP p ls) := fun h => by
        rcases h.2 with h | h
        · exact c1 h
        · exact c2 (HZZ.out.2 h)
      clear c1 c2
      go_wp2
      refine region_over (by kernel_rfl) (by kernel_rfl) ?_
      try simp only [Act.put]
      repeat (go_big_quiet_step (fail))
      refine wpQuiet_nil ?_
      rintro _ ⟨W, rfl⟩
      have HBE : Hid (Below w.heap.size w W.wd) := belowCall HB1.out W.ok HB1.out.size
      clear y0 y1 y2 y3 y4 y5 yc
      go_wp2
      go_ret
      exact ⟨_, rfl, ⟨fun h => (by cases h), fun h => absurd h HF.out⟩, HBE.out⟩

end Go.Proofs.YtkjfcebdjnclaaaDoor

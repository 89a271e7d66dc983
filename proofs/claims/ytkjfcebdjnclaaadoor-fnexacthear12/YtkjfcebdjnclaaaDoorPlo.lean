/- Players, and which are right; no condition. -/
import Derived.Test.YtkjfcebdjnclaaaDoorPkd
import Derived.Test.YtkjfcebdjnclaaaDoorOver
namespace Go.Proofs.YtkjfcebdjnclaaaDoor
open Go.RowKit Go.ChangeShapes Go.WideShapes Go.ChangeAt
set_option linter.unusedVariables false
set_option linter.unusedSimpArgs false
set_option maxRecDepth 8000

/-- a packet that is loaded among operations that only read -/
theorem quietLdM {o : Oper} {a : Act} {C : World → Prop} {K : Act → Prop} (x : Operand) (ho : o.op = .load 40 x) (g off : Nat) (hx : a.eval x = .pointer (some ⟨g, off, none⟩)) (k : Pk) (hr : ∀ w, C w → w.rangeAt g off (pkC k))
    (h : K (a.put o.dst (.agg (pkA k)))) : o.quiet Tryd.prog a C K :=
  ⟨_, fun w hw => by
    unfold Oper.quietAt execOp
    simp only [ho, hx, Instr.loadAt, Instr.sureAddr, Sem.run_bind, Sem.run_pure, Result.andThen_ok, run_loadVar_mid w g off 40 (pkC k) _ (hr w hw) Tryd.underlying40 rfl (by rw [pkC_len]; exact sizePk)]
    exact ⟨rfl, rfl⟩, h⟩
/-- the world in which a packet was put into a new box -/
def bxW (w : World) (k : Pk) : World := (w.alloc (Obj.cells #[.int .i64 0, .int .i64 0, .int .u8 0, .int .u8 0, .int .u8 0, .int .u8 0, .int .u8 0, .int .u8 0, .int .u8 0, .int .u8 0, .int .u8 0, .int .u8 0, .int .u8 0, .int .u8 0, .int .u8 0, .int .u8 0, .int .u8 0, .int .u8 0] 40)).setRow w.heap.size (pkA k)
theorem bxW_blk (w : World) (k : Pk) : Blk (bxW w k) w.heap.size (pkA k) 40 := (Blk.new w #[.int .i64 0, .int .i64 0, .int .u8 0, .int .u8 0, .int .u8 0, .int .u8 0, .int .u8 0, .int .u8 0, .int .u8 0, .int .u8 0, .int .u8 0, .int .u8 0, .int .u8 0, .int .u8 0, .int .u8 0, .int .u8 0, .int .u8 0, .int .u8 0] 40).row _
theorem bxW_below (w : World) (k : Pk) : Below w.heap.size w (bxW w k) := belowRow ((Below.refl _ _).alloc (Nat.le_refl _) _) _ (Nat.le_refl _) _
theorem bxW_size (w : World) (k : Pk) : (bxW w k).heap.size = w.heap.size + 1 := by simp [bxW]
theorem blk_rng {w : World} {g : Nat} {k : Pk} {t : TypeId} (h : Blk w g (pkA k) t) : w.rangeAt g 0 (pkC k) := by
  intro j v hv
  rw [h.cell]
  simpa using hv
/-- a player but for its store -/
structure Pl where
  n : Int
  d : Int
  l : Int
  g : Int
  x : Int
abbrev plA (p : Pl) (v : Value) : Array Value := #[.int .i64 p.n, .int .i64 p.d, .int .i64 p.l, .int .i64 p.g, .int .i64 p.x, v]
/-- what a player is but for its store -/
def PlP (p : Pl) : Prop := (0 ≤ p.n ∧ p.n ≤ 1000000) ∧ (1 ≤ p.d ∧ p.d ≤ 12) ∧ (0 ≤ p.l ∧ p.l ≤ 1000000000) ∧ (0 ≤ p.g ∧ p.g ≤ 1000000000) ∧ (-32767 ≤ p.x ∧ p.x ≤ 32767)
/-- what one of a store is -/
def StA (n : Int) (ls : List Pk) (i : Nat) (h : i < ls.length) : Prop := pkB ls[i] = true ∧ (n ≤ ls[i].s ∧ ls[i].s ≤ n + 12 - 1) ∧ (0 < i → ls[i - 1].s < ls[i].s)
def StOk (n : Int) (ls : List Pk) : Prop := ∀ i (h : i < ls.length), StA n ls i h
theorem StOk.ge {n : Int} {ls : List Pk} (h : StOk n ls) : ∀ i (hi : i < ls.length), n + i ≤ ls[i].s
  | 0, hi => by have := (h 0 hi).2.1.1; simpa using this
  | i + 1, hi => by
    have h1 := h.ge i (by omega)
    have h2 := (h (i + 1) hi).2.2 (by omega)
    simp only [Nat.add_sub_cancel] at h2
    omega
theorem StOk.len {n : Int} {ls : List Pk} (h : StOk n ls) : ls.length ≤ 12 := by
  by_cases hl : ls.length ≤ 12
  · exact hl
  · have h1 := h.ge 12 (by omega)
    have h2 := (h 12 (by omega)).2.1.2
    omega
/-- what PlayerOk answers -/
def OkR (p : Pl) (ls : List Pk) (w : World) (e : Ending) (w' : World) : Prop := ∃ r, e = .returned (.bool r) ∧ (r = true ↔ PlP p ∧ StOk p.n ls) ∧ Below w.heap.size w w'
theorem plBox {w W : World} {p : Pl} {v : Value} (h : w.alloc (Obj.cells (plA p v) 42) = W) : Blk W w.heap.size (plA p v) 42 ∧ Below w.heap.size w W ∧ W.heap.size = w.heap.size + 1 := by
  subst h; exact ⟨Blk.new _ _ _, (Below.refl _ _).alloc (Nat.le_refl _) _, by simp⟩
set_option maxHeartbeats 6400000 in
theorem plM_c (p : Pl) (v : Value) (ls : List Pk) (w : World) (h : Rg 18 pkC w v ls) : Calls Tryd.prog 32 #[.agg (plA p v)] w (OkR p ls w) := by
  obtain ⟨a, cap, rfl, h1, h2, h3⟩ := h
  unfold maxLen at h2
  obtain ⟨W1, hW1⟩ : ∃ W, w.alloc (Obj.cells (plA p (.slice a ls.length cap)) 42) = W := ⟨_, rfl⟩
  obtain ⟨K1, B1, s1⟩ := plBox hW1
  have HB : Hid (Below w.heap.size w W1) := B1
  have HK : Hid (Blk W1 w.heap.size (plA p (.slice a ls.length cap)) 42) := K1
  have x0 := K1.cell 0
  have x1 := K1.cell 1
  have x2 := K1.cell 2
  have x3 := K1.cell 3
  have x4 := K1.cell 4
  have x5 := K1.cell 5
  simp at x0 x1 x2 x3 x4 x5
  clear K1 B1
  go_enter Tryd.func32, Tryd.ntmps32
  go_wp2_with (fail)
  refine (seq_c p.n W1).mono ?_
  rintro e w1 ⟨rfl, hw⟩
  rw [hw]
  clear hw w1
  by_cases c0 : 0 ≤ p.n ∧ p.n ≤ 1000000
  case neg =>
    have d0 : decide (0 ≤ p.n ∧ p.n ≤ 1000000) = false := by simp only [decide_eq_false_iff_not]; exact c0
    have HF : Hid (¬ (PlP p ∧ StOk p.n ls)) := fun h => c0 h.1.1
    rw [d0]
    clear c0 h3
    go_wp2
    go_ret
    exact ⟨_, rfl, ⟨fun h => (by cases h), fun h => absurd h HF.out⟩, HB.out⟩
  have d0 : decide (0 ≤ p.n ∧ p.n ≤ 1000000) = true := by simp only [decide_eq_true_eq]; exact c0
  have HC0 : Hid (0 ≤ p.n ∧ p.n ≤ 1000000) := c0
  rw [d0]
  clear c0 d0
  go_wp2_with (fail)
  refine (in_c p.d 1 12 W1).mono ?_
  rintro e w1 ⟨rfl, hw⟩
  rw [hw]
  clear hw w1
  by_cases c1 : 1 ≤ p.d ∧ p.d ≤ 12
  case neg =>
    have d1 : decide (1 ≤ p.d ∧ p.d ≤ 12) = false := by simp only [decide_eq_false_iff_not]; exact c1
    have HF : Hid (¬ (PlP p ∧ StOk p.n ls)) := fun h => c1 h.1.2.1
    rw [d1]
    clear c1 h3
    go_wp2
    go_ret
    exact ⟨_, rfl, ⟨fun h => (by cases h), fun h => absurd h HF.out⟩, HB.out⟩
  have d1 : decide (1 ≤ p.d ∧ p.d ≤ 12) = true := by simp only [decide_eq_true_eq]; exact c1
  have HC1 : Hid (1 ≤ p.d ∧ p.d ≤ 12) := c1
  rw [d1]
  clear c1 d1
  go_wp2_with (fail)
  refine (tick_c p.l W1).mono ?_
  rintro e w1 ⟨rfl, hw⟩
  rw [hw]
  clear hw w1
  by_cases c2 : 0 ≤ p.l ∧ p.l ≤ 1000000000
  case neg =>
    have d2 : decide (0 ≤ p.l ∧ p.l ≤ 1000000000) = false := by simp only [decide_eq_false_iff_not]; exact c2
    have HF : Hid (¬ (PlP p ∧ StOk p.n ls)) := fun h => c2 h.1.2.2.1
    rw [d2]
    clear c2 h3
    go_wp2
    go_ret
    exact ⟨_, rfl, ⟨fun h => (by cases h), fun h => absurd h HF.out⟩, HB.out⟩
  have d2 : decide (0 ≤ p.l ∧ p.l ≤ 1000000000) = true := by simp only [decide_eq_true_eq]; exact c2
  have HC2 : Hid (0 ≤ p.l ∧ p.l ≤ 1000000000) := c2
  rw [d2]
  clear c2 d2
  go_wp2_with (fail)
  refine (tick_c p.g W1).mono ?_
  rintro e w1 ⟨rfl, hw⟩
  rw [hw]
  clear hw w1
  by_cases c3 : 0 ≤ p.g ∧ p.g ≤ 1000000000
  case neg =>
    have d3 : decide (0 ≤ p.g ∧ p.g ≤ 1000000000) = false := by simp only [decide_eq_false_iff_not]; exact c3
    have HF : Hid (¬ (PlP p ∧ StOk p.n ls)) := fun h => c3 h.1.2.2.2.1
    rw [d3]
    clear c3 h3
    go_wp2
    go_ret
    exact ⟨_, rfl, ⟨fun h => (by cases h), fun h => absurd h HF.out⟩, HB.out⟩
  have d3 : decide (0 ≤ p.g ∧ p.g ≤ 1000000000) = true := by simp only [decide_eq_true_eq]; exact c3
  have HC3 : Hid (0 ≤ p.g ∧ p.g ≤ 1000000000) := c3
  rw [d3]
  clear c3 d3
  go_wp2_with (fail)
  refine (level_c p.x W1).mono ?_
  rintro e w1 ⟨rfl, hw⟩
  rw [hw]
  clear hw w1
  by_cases c4 : -32767 ≤ p.x ∧ p.x ≤ 32767
  case neg =>
    have d4 : decide (-32767 ≤ p.x ∧ p.x ≤ 32767) = false := by simp only [decide_eq_false_iff_not]; exact c4
    have HF : Hid (¬ (PlP p ∧ StOk p.n ls)) := fun h => c4 h.1.2.2.2.2
    rw [d4]
    clear c4 h3
    go_wp2
    go_ret
    exact ⟨_, rfl, ⟨fun h => (by cases h), fun h => absurd h HF.out⟩, HB.out⟩
  have d4 : decide (-32767 ≤ p.x ∧ p.x ≤ 32767) = true := by simp only [decide_eq_true_eq]; exact c4
  have HC4 : Hid (-32767 ≤ p.x ∧ p.x ≤ 32767) := c4
  rw [d4]
  clear c4 d4
  have HP : Hid (PlP p) := ⟨HC0.out, HC1.out, HC2.out, HC3.out, HC4.out⟩
  clear HC0 HC1 HC2 HC3 HC4
  go_wp2
  go_loopw [3] (fun i wr => ∃ j : Nat, j ≤ ls.length ∧ i = .int .i64 j ∧ Hid (∀ t (ht : t < ls.length), t < j → StA p.n ls t ht) ∧ Hid (Below W1.heap.size W1 wr)) (fun i _ => ls.length - (intOf i).toNat)
  case atStart => exact ⟨0, Nat.zero_le _, rfl, fun t _ h => by omega, Below.refl _ _⟩
  case round =>
    obtain ⟨j, hj, rfl, hA, hbr⟩ := hrel
    have kp := HK.out.below hbr.out HK.out.lt
    have HBW : Hid (Below w.heap.size w wr) := belowCall HB.out hbr.out HB.out.size
    have z0 := kp.cell 0
    have z1 := kp.cell 1
    have z2 := kp.cell 2
    have z3 := kp.cell 3
    have z4 := kp.cell 4
    have z5 := kp.cell 5
    simp at z0 z1 z2 z3 z4 z5
    clear x0 x1 x2 x3 x4 x5
    by_cases hlt : j < ls.length
    case neg =>
      obtain rfl : j = ls.length := by omega
      clear h3 kp
      go_wp2
      go_ret
      exact ⟨_, rfl, ⟨fun _ => ⟨HP.out, fun i hi => hA.out i hi hi⟩, fun _ => rfl⟩, HBW.out⟩
    case pos =>
    rcases h3 with h3 | ⟨b, off, rfl, h4⟩
    · subst h3; simp at hlt
    have hcb : b < w.heap.size := block_lt_of_cell (h4 j hlt 0 _ rfl)
    obtain ⟨k, hk⟩ : ∃ k, ls[j] = k := ⟨_, rfl⟩
    have HR : Hid (wr.rangeAt b (off + j * 18) (pkC k)) := by rw [← hk]; exact rangeAt_below (h4 j hlt) HBW.out hcb
    obtain ⟨W2, hW2⟩ : ∃ W, bxW wr k = W := ⟨_, rfl⟩
    have k2 : Blk W2 wr.heap.size (pkA k) 40 := by rw [← hW2]; exact bxW_blk wr k
    have b2 : Below wr.heap.size wr W2 := by rw [← hW2]; exact bxW_below wr k
    have kp2 := kp.below b2 kp.lt
    have HZ : Hid (Blk (wr.alloc (Obj.cells #[.int .i64 0, .int .i64 0, .int .u8 0, .int .u8 0, .int .u8 0, .int .u8 0, .int .u8 0, .int .u8 0, .int .u8 0, .int .u8 0, .int .u8 0, .int .u8 0, .int .u8 0, .int .u8 0, .int .u8 0, .int .u8 0, .int .u8 0, .int .u8 0] 40)) wr.heap.size #[.int .i64 0, .int .i64 0, .int .u8 0, .int .u8 0, .int .u8 0, .int .u8 0, .int .u8 0, .int .u8 0, .int .u8 0, .int .u8 0, .int .u8 0, .int .u8 0, .int .u8 0, .int .u8 0, .int .u8 0, .int .u8 0, .int .u8 0, .int .u8 0] 40) := Blk.new _ _ _
    have HW2 : Hid ((wr.alloc (Obj.cells #[.int .i64 0, .int .i64 0, .int .u8 0, .int .u8 0, .int .u8 0, .int .u8 0, .int .u8 0, .int .u8 0, .int .u8 0, .int .u8 0, .int .u8 0, .int .u8 0, .int .u8 0, .int .u8 0, .int .u8 0, .int .u8 0, .int .u8 0, .int .u8 0] 40)).setRow wr.heap.size (pkA k) = W2) := hW2
    have y0 : ∀ W : Ov W2, W.wd.cell? ⟨wr.heap.size, 1, none⟩ = some (.int .i64 k.s) := ov_cell (pk_cell1 k2)
    have y1 : ∀ W : Ov W2, W.wd.cell? ⟨w.heap.size, 0, none⟩ = some (.int .i64 p.n) := ov_cell (by rw [kp2.cell]; rfl)
    have y2 : ∀ W : Ov W2, W.wd.cell? ⟨w.heap.size, 5, none⟩ = some (.slice (some ⟨b, off, none⟩) ls.length cap) := ov_cell (by rw [kp2.cell]; rfl)
    have HG : Hid (∀ W : Ov W2, W.wd.rangeAt wr.heap.size 0 (pkC k)) := fun W => rangeAt_below (blk_rng k2) W.ok k2.lt
    have HE : Hid (∀ W : Ov W2, Below W1.heap.size W1 W.wd) := fun W => belowCall (belowCall hbr.out b2 hbr.out.size) W.ok (Nat.le_trans hbr.out.size b2.size)
    have ne : Nonempty (Ov W2) := ⟨⟨_, Below.refl _ _⟩⟩
    have HC1 : Hid (∀ W : Ov W2, Calls Tryd.prog 90 #[.agg (pkA k)] W.wd fun e w'' => e = .returned (.bool (pkB k)) ∧ ∃ W' : Ov W2, w'' = W'.wd) := fun W => ov_call (pkM_c k W.wd)
    have HC2 : Hid (∀ W : Ov W2, Calls Tryd.prog 87 #[.int .i64 k.s, .int .i64 p.n, .int .i64 (p.n + 12 - 1)] W.wd fun e w'' => e = .returned (.bool (decide (p.n ≤ k.s ∧ k.s ≤ p.n + 12 - 1))) ∧ ∃ W' : Ov W2, w'' = W'.wd) := fun W => (in_c _ _ _ W.wd).mono fun e w' ⟨he, hw⟩ => ⟨he, W, hw⟩
    have HPV : Hid (∀ h0 : 0 < j, ∀ W : Ov W2, W.wd.cell? ⟨b, off + (j - 1) * 18 + 1, none⟩ = some (.int .i64 ls[j - 1].s)) := fun h0 => ov_cell (by
      have hr := rangeAt_below (h4 (j - 1) (by omega)) HBW.out hcb
      exact ((rg_mid (rangeAt_below hr b2 (Nat.lt_of_lt_of_le hcb HBW.out.size))).2.1))
    have hi : (0 : Int) ≤ (j : Int) := by omega
    have hi2 : (j : Int) < (ls.length : Int) := by omega
    have HKJ : Hid (ls[j] = k) := hk
    have HPN : Hid (0 ≤ p.n ∧ p.n ≤ 1000000) := HP.out.1
    clear h4 hk kp b2 kp2 k2 hW2
    have HNO : Hid (¬ StA p.n ls j hlt → ¬ (PlP p ∧ StOk p.n ls)) := fun hn h => hn (h.2 j hlt)
    have hn0 := HPN.out.1
    have hn1 := HPN.out.2
    cases hc1 : pkB k with
    | false =>
      rw [hc1] at HC1
      have HF : Hid (¬ (PlP p ∧ StOk p.n ls)) := HNO.out (fun h => by have := h.1; rw [HKJ.out, hc1] at this; cases this)
      go_wp2_with (first | refine ldM rfl _ rfl b (off + j * 18) rfl k HR.out ?_ | refine stP rfl _ _ rfl wr.heap.size rfl k rfl 40 _ HZ.out rfl ?_)
      rw [HW2.out]
      refine region_over (by kernel_rfl) (by kernel_rfl) ?_
      refine BigFrame.wpQuiet_want rfl fun K hK => quietLdM _ rfl wr.heap.size 0 rfl k (fun w hw => by obtain ⟨W, rfl⟩ := hw; exact HG.out W) (hK _ ?_)
      simp only [Act.put, List.setIfInBounds_toArray, List.set_cons_succ, List.set_cons_zero]
      repeat (go_big_quiet_step (first | (go_at_call 90; exact HC1.out _) | (go_at_call 87; exact HC2.out _)))
      refine wpQuiet_nil ?_
      rintro _ ⟨W, rfl⟩
      have HEW := HE.out W
      have HBE : Hid (Below w.heap.size w W.wd) := belowCall HB.out HEW HB.out.size
      have HEE : Hid (Below W1.heap.size W1 W.wd) := HEW
      clear HEW HC1 HC2 HG HE HPV HR HZ HW2 y0 y1 y2
      go_wp2
      go_ret
      exact ⟨_, rfl, ⟨fun h => (by cases h), fun h => absurd h HF.out⟩, HBE.out⟩
    | true =>
    rw [hc1] at HC1
    by_cases hc2 : p.n ≤ k.s ∧ k.s ≤ p.n + 12 - 1
    case neg =>
      have d2 : decide (p.n ≤ k.s ∧ k.s ≤ p.n + 12 - 1) = false := by simp only [decide_eq_false_iff_not]; exact hc2
      rw [d2] at HC2
      have HF : Hid (¬ (PlP p ∧ StOk p.n ls)) := HNO.out (fun h => by have := h.2.1; rw [HKJ.out] at this; exact hc2 this)
      clear hc2 d2
      go_wp2_with (first | refine ldM rfl _ rfl b (off + j * 18) rfl k HR.out ?_ | refine stP rfl _ _ rfl wr.heap.size rfl k rfl 40 _ HZ.out rfl ?_)
      rw [HW2.out]
      refine region_over (by kernel_rfl) (by kernel_rfl) ?_
      refine BigFrame.wpQuiet_want rfl fun K hK => quietLdM _ rfl wr.heap.size 0 rfl k (fun w hw => by obtain ⟨W, rfl⟩ := hw; exact HG.out W) (hK _ ?_)
      simp only [Act.put, List.setIfInBounds_toArray, List.set_cons_succ, List.set_cons_zero]
      repeat (go_big_quiet_step (first | (go_at_call 90; exact HC1.out _) | (go_at_call 87; exact HC2.out _)))
      refine wpQuiet_nil ?_
      rintro _ ⟨W, rfl⟩
      have HEW := HE.out W
      have HBE : Hid (Below w.heap.size w W.wd) := belowCall HB.out HEW HB.out.size
      have HEE : Hid (Below W1.heap.size W1 W.wd) := HEW
      clear HEW HC1 HC2 HG HE HPV HR HZ HW2 y0 y1 y2
      go_wp2
      go_ret
      exact ⟨_, rfl, ⟨fun h => (by cases h), fun h => absurd h HF.out⟩, HBE.out⟩
    have d2 : decide (p.n ≤ k.s ∧ k.s ≤ p.n + 12 - 1) = true := by simp only [decide_eq_true_eq]; exact hc2
    rw [d2] at HC2
    have HS2 : Hid (p.n ≤ k.s ∧ k.s ≤ p.n + 12 - 1) := hc2
    clear hc2 d2
    by_cases hj0 : 0 < j
    case neg =>
      have dj : decide ((0 : Int) < (j : Int)) = false := by simp; omega
      have HN : Hid (∀ t (ht : t < ls.length), t < j + 1 → StA p.n ls t ht) := fun t ht h => by
        by_cases e : t < j
        · exact hA.out t ht e
        · obtain rfl : t = j := by omega
          exact ⟨by rw [HKJ.out]; exact hc1, by rw [HKJ.out]; exact HS2.out, fun h => absurd h hj0⟩
      go_wp2_with (first | refine ldM rfl _ rfl b (off + j * 18) rfl k HR.out ?_ | refine stP rfl _ _ rfl wr.heap.size rfl k rfl 40 _ HZ.out rfl ?_)
      rw [HW2.out]
      refine region_over (by kernel_rfl) (by kernel_rfl) ?_
      refine BigFrame.wpQuiet_want rfl fun K hK => quietLdM _ rfl wr.heap.size 0 rfl k (fun w hw => by obtain ⟨W, rfl⟩ := hw; exact HG.out W) (hK _ ?_)
      simp only [Act.put, List.setIfInBounds_toArray, List.set_cons_succ, List.set_cons_zero]
      repeat (go_big_quiet_step (first | (go_at_call 90; exact HC1.out _) | (go_at_call 87; exact HC2.out _)))
      refine wpQuiet_nil ?_
      rintro _ ⟨W, rfl⟩
      have HEW := HE.out W
      have HBE : Hid (Below w.heap.size w W.wd) := belowCall HB.out HEW HB.out.size
      have HEE : Hid (Below W1.heap.size W1 W.wd) := HEW
      clear HEW HC1 HC2 HG HE HPV HR HZ HW2 y0 y1 y2
      go_wp2
      go_roundw
      case rel => exact ⟨j + 1, by omega, by go_num, HN.out, HEE.out⟩
      case measure => simp [intOf]; omega
    have dj : decide ((0 : Int) < (j : Int)) = true := by simp; omega
    have yp := HPV.out hj0
    obtain ⟨z, hz⟩ : ∃ z, ls[j - 1].s = z := ⟨_, rfl⟩
    have HZP : Hid (ls[j - 1].s = z) := hz
    rw [hz] at yp
    have e1 : ((j - 1 : Nat) : Int) = (j : Int) - 1 := by omega
    have hj1 : (0 : Int) ≤ (j : Int) - 1 := by omega
    have hj2 : (j : Int) - 1 < (ls.length : Int) := by omega
    clear hz
    by_cases hc4 : k.s ≤ z
    case pos =>
      have d4 : decide (k.s ≤ z) = true := by simp only [decide_eq_true_eq]; exact hc4
      have HF : Hid (¬ (PlP p ∧ StOk p.n ls)) := HNO.out (fun h => by have := h.2.2 hj0; rw [HKJ.out, HZP.out] at this; omega)
      clear hc4
      go_wp2_with (first | refine ldM rfl _ rfl b (off + j * 18) rfl k HR.out ?_ | refine stP rfl _ _ rfl wr.heap.size rfl k rfl 40 _ HZ.out rfl ?_)
      rw [HW2.out]
      refine region_over (by kernel_rfl) (by kernel_rfl) ?_
      refine BigFrame.wpQuiet_want rfl fun K hK => quietLdM _ rfl wr.heap.size 0 rfl k (fun w hw => by obtain ⟨W, rfl⟩ := hw; exact HG.out W) (hK _ ?_)
      simp only [Act.put, List.setIfInBounds_toArray, List.set_cons_succ, List.set_cons_zero]
      repeat (go_big_quiet_step (first | (go_at_call 90; exact HC1.out _) | (go_at_call 87; exact HC2.out _)))
      refine wpQuiet_nil ?_
      rintro _ ⟨W, rfl⟩
      have HEW := HE.out W
      have HBE : Hid (Below w.heap.size w W.wd) := belowCall HB.out HEW HB.out.size
      have HEE : Hid (Below W1.heap.size W1 W.wd) := HEW
      clear HEW HC1 HC2 HG HE HPV HR HZ HW2 y0 y1 y2
      go_wp2
      go_ret
      exact ⟨_, rfl, ⟨fun h => (by cases h), fun h => absurd h HF.out⟩, HBE.out⟩
    have d4 : decide (k.s ≤ z) = false := by simp only [decide_eq_false_iff_not]; exact hc4
    have HN : Hid (∀ t (ht : t < ls.length), t < j + 1 → StA p.n ls t ht) := fun t ht h => by
      by_cases e : t < j
      · exact hA.out t ht e
      · obtain rfl : t = j := by omega
        exact ⟨by rw [HKJ.out]; exact hc1, by rw [HKJ.out]; exact HS2.out, fun _ => by rw [HKJ.out, HZP.out]; omega⟩
    clear hc4
    go_wp2_with (first | refine ldM rfl _ rfl b (off + j * 18) rfl k HR.out ?_ | refine stP rfl _ _ rfl wr.heap.size rfl k rfl 40 _ HZ.out rfl ?_)
    rw [HW2.out]
    refine region_over (by kernel_rfl) (by kernel_rfl) ?_
    refine BigFrame.wpQuiet_want rfl fun K hK => quietLdM _ rfl wr.heap.size 0 rfl k (fun w hw => by obtain ⟨W, rfl⟩ := hw; exact HG.out W) (hK _ ?_)
    simp only [Act.put, List.setIfInBounds_toArray, List.set_cons_succ, List.set_cons_zero]
    repeat (go_big_quiet_step (first | (go_at_call 90; exact HC1.out _) | (go_at_call 87; exact HC2.out _)))
    refine wpQuiet_nil ?_
    rintro _ ⟨W, rfl⟩
    have HEW := HE.out W
    have HBE : Hid (Below w.heap.size w W.wd) := belowCall HB.out HEW HB.out.size
    have HEE : Hid (Below W1.heap.size W1 W.wd) := HEW
    clear HEW HC1 HC2 HG HE HPV HR HZ HW2 y0 y1 y2
    go_wp2
    go_roundw
    case rel => exact ⟨j + 1, by omega, by go_num, HN.out, HEE.out⟩
    case measure => simp [intOf]; omega


end Go.Proofs.YtkjfcebdjnclaaaDoor

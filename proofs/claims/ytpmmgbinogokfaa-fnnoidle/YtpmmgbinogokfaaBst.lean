/- The best of those that fit; no condition. -/
import Derived.Test.YtpmmgbinogokfaaCmp
namespace Go.Proofs.Ytpmmgbinogokfaa
open Go.RowKit Go.ChangeShapes Go.WideShapes Go.ChangeAt
set_option linter.unusedVariables false
set_option linter.unusedSimpArgs false
set_option maxRecDepth 8000
/-- the place of the best, of those that fit, among the first ones -/
def bstTo {α : Type} (fit : α → Bool) (cmp : α → α → Int) (ls : List α) : Nat → Option Nat
  | 0 => none
  | j + 1 => match ls[j]? with
    | none => bstTo fit cmp ls j
    | some x => if fit x then (match bstTo fit cmp ls j with
      | none => some j
      | some p => match ls[p]? with
        | none => some j
        | some y => if cmp x y < 0 then some j else some p) else bstTo fit cmp ls j
def best {α : Type} (fit : α → Bool) (cmp : α → α → Int) (ls : List α) : Option Nat := bstTo fit cmp ls ls.length
def optI : Option Nat → Int
  | none => -1
  | some p => (p : Int)
theorem bstTo_lt {α : Type} {fit : α → Bool} {cmp : α → α → Int} {ls : List α} : ∀ {j p : Nat}, bstTo fit cmp ls j = some p → p < j
  | 0, p, h => by simp [bstTo] at h
  | j + 1, p, h => by
    rw [bstTo] at h
    split at h
    · have := bstTo_lt h; omega
    · split at h
      · split at h
        · simp at h; omega
        · split at h
          · simp at h; omega
          · rename_i hb _ _ _
            have := bstTo_lt hb
            split at h <;> simp at h <;> omega
      · have := bstTo_lt h; omega
set_option maxHeartbeats 6400000 in
theorem bestAg_c (v fv : Value) (caps : Array Value) (ls : List Ag) (fit : Ag → Bool) (cmp : Ag → Ag → Int) (w : World) (h : Rg 3 agC w v ls) (hfv : fv = .func (.func 100) #[] #[caps.getD 0 undef])
    (hF : ∀ x ∈ ls, ∀ W, Below w.heap.size w W → Calls Try.prog 100 #[.agg #[.int .i64 x.1, .int .i64 x.2.1, .int .i64 x.2.2], caps.getD 0 undef] W fun e w' => e = .returned (.bool (fit x)) ∧ Below W.heap.size W w')
    (hG : ∀ x ∈ ls, ∀ y ∈ ls, ∀ W, Below w.heap.size w W → Calls Try.prog 103 #[.agg #[.int .i64 x.1, .int .i64 x.2.1, .int .i64 x.2.2], .agg #[.int .i64 y.1, .int .i64 y.2.1, .int .i64 y.2.2]] W fun e w' => e = .returned (.int .i64 (cmp x y)) ∧ Below W.heap.size W w') :
   Calls Try.prog 102 #[v, fv, .func (.func 103) #[] #[]] w fun e w' => e = .returned (.int .i64 (optI (best fit cmp ls))) ∧ Below w.heap.size w w' := by
  obtain ⟨cv, hcv⟩ : ∃ cv, caps.getD 0 undef = cv := ⟨_, rfl⟩
  rw [hcv] at hfv hF
  subst hfv
  clear hcv
  obtain ⟨a, cap, rfl, h1, h2, h3⟩ := h
  unfold maxLen at h2
  obtain ⟨m, hm⟩ : ∃ m, ls.length = m := ⟨_, rfl⟩
  have HM : Hid (ls.length = m) := hm
  have H3 : Hid (ls = [] ∨ ∃ b off, a = some ⟨b, off, none⟩ ∧ ∀ i (h : i < ls.length), w.rangeAt b (off + i * 3) (agC ls[i])) := h3
  have HF : Hid (∀ x ∈ ls, ∀ W, Below w.heap.size w W → Calls Try.prog 100 #[.agg #[.int .i64 x.1, .int .i64 x.2.1, .int .i64 x.2.2], cv] W fun e w' => e = .returned (.bool (fit x)) ∧ Below W.heap.size W w') := hF
  have HG : Hid (∀ x ∈ ls, ∀ y ∈ ls, ∀ W, Below w.heap.size w W → Calls Try.prog 103 #[.agg #[.int .i64 x.1, .int .i64 x.2.1, .int .i64 x.2.2], .agg #[.int .i64 y.1, .int .i64 y.2.1, .int .i64 y.2.2]] W fun e w' => e = .returned (.int .i64 (cmp x y)) ∧ Below W.heap.size W w') := hG
  rw [hm] at h1 ⊢
  clear hm h3 hF hG
  go_enter Try.func102, Try.ntmps102
  go_wp2
  go_loopw [7, 12] (fun q i wr => ∃ j : Nat, j ≤ m ∧ i = .int .i64 j ∧ q = .int .i64 (optI (bstTo fit cmp ls j)) ∧ Hid (Below w.heap.size w wr)) (fun _ i _ => m - (intOf i).toNat)
  case atStart => exact ⟨0, Nat.zero_le _, rfl, rfl, Below.refl _ _⟩
  case round =>
    obtain ⟨j, hj, rfl, rfl, BJ⟩ := hrel
    by_cases hlt : j < m
    case neg =>
      obtain rfl : m = j := by omega
      have HE : Hid (best fit cmp ls = bstTo fit cmp ls m) := by
        show best fit cmp ls = bstTo fit cmp ls m
        rw [best, HM.out]
      go_wp2
      go_ret
      exact ⟨by rw [HE.out]; rfl, BJ.out⟩
    case pos =>
    have hjl : j < ls.length := by rw [HM.out]; exact hlt
    obtain ⟨b, off, rfl, h4⟩ : ∃ b off, a = some ⟨b, off, none⟩ ∧ _ := by
      rcases H3.out with h | h
      · rw [h] at hjl; simp at hjl
      · exact h
    have hcb : b < w.heap.size := block_lt_of_cell (h4 j hjl 0 _ rfl)
    obtain ⟨r, hr⟩ : ∃ r, ls[j] = r := ⟨_, rfl⟩
    have hc := rangeAt_below (h4 j hjl) BJ.out hcb
    have hrm : r ∈ ls := hr ▸ List.getElem_mem hjl
    have HRM : Hid (r ∈ ls) := hrm
    rw [hr] at hc
    have e0 : wr.cell? ⟨b, off + j * 3, none⟩ = some (.int .i64 r.1) := hc 0 _ rfl
    have e1 : wr.cell? ⟨b, off + j * 3 + 1, none⟩ = some (.int .i64 r.2.1) := hc 1 _ rfl
    have e2 : wr.cell? ⟨b, off + j * 3 + 2, none⟩ = some (.int .i64 r.2.2) := hc 2 _ rfl
    have HR : Hid (ls[j]? = some r) := by show ls[j]? = some r; rw [List.getElem?_eq_getElem hjl, hr]
    obtain ⟨W1, hW1⟩ : ∃ W1, wr.alloc (Obj.cells #[.int .i64 r.1, .int .i64 r.2.1, .int .i64 r.2.2] 36) = W1 := ⟨_, rfl⟩
    have bA : Below wr.heap.size wr W1 := hW1 ▸ (Below.refl _ _).alloc (Nat.le_refl _) _
    have B1 : Hid (Below w.heap.size w W1) := belowCall BJ.out bA BJ.out.size
    have k1 : Blk W1 wr.heap.size #[.int .i64 r.1, .int .i64 r.2.1, .int .i64 r.2.2] 36 := hW1 ▸ Blk.new _ _ _
    have HW1 : Hid (wr.alloc (Obj.cells #[.int .i64 r.1, .int .i64 r.2.1, .int .i64 r.2.2] 36) = W1) := hW1
    have z0 : ∀ W : Ov W1, W.wd.cell? ⟨wr.heap.size, 0, none⟩ = some (.int .i64 r.1) := ov_cell (k1.cell 0)
    have z1 : ∀ W : Ov W1, W.wd.cell? ⟨wr.heap.size, 1, none⟩ = some (.int .i64 r.2.1) := ov_cell (k1.cell 1)
    have z2 : ∀ W : Ov W1, W.wd.cell? ⟨wr.heap.size, 2, none⟩ = some (.int .i64 r.2.2) := ov_cell (k1.cell 2)
    have ne : Nonempty (Ov W1) := ⟨⟨_, Below.refl _ _⟩⟩
    obtain ⟨f, hf⟩ : ∃ f, fit r = f := ⟨_, rfl⟩
    have HC1 : Hid (∀ W : Ov W1, Calls Try.prog 100 #[.agg #[.int .i64 r.1, .int .i64 r.2.1, .int .i64 r.2.2], cv] W.wd fun e w'' => e = .returned (.bool f) ∧ ∃ W' : Ov W1, w'' = W'.wd) := fun W => ov_call (by rw [← hf]; exact HF.out r hrm W.wd (belowCall B1.out W.ok B1.out.size))
    have HFF : Hid (fit r = f) := hf
    have H4 : Hid (∀ i (h : i < ls.length), w.rangeAt b (off + i * 3) (agC ls[i])) := h4
    clear h4 hc hr hW1 bA k1 hf
    cases f with
    | false =>
      have HY : Hid (bstTo fit cmp ls (j + 1) = bstTo fit cmp ls j) := by
        show bstTo fit cmp ls (j + 1) = bstTo fit cmp ls j
        rw [bstTo, HR.out]; simp [HFF.out]
      go_wp2_with (fail)
      rw [HW1.out]
      clear HW1 e0 e1 e2
      refine region_over (by kernel_rfl) (by kernel_rfl) ?_
      repeat (go_big_quiet_step (first | (go_at_call 100; exact HC1.out _)))
      refine wpQuiet_nil ?_
      rintro _ ⟨W, rfl⟩
      have HBW : Hid (Below w.heap.size w W.wd) := belowCall B1.out W.ok B1.out.size
      clear z0 z1 z2 HC1
      go_wp2
      go_roundw
      case rel => exact ⟨j + 1, by omega, by go_num, by rw [HY.out], HBW.out⟩
      case measure => simp [intOf]; omega
    | true =>
    cases hb : bstTo fit cmp ls j with
    | none =>
      have HY : Hid (bstTo fit cmp ls (j + 1) = some j) := by
        show bstTo fit cmp ls (j + 1) = some j
        rw [bstTo, HR.out]; simp [HFF.out, hb]
      clear hb
      simp only [optI]
      go_wp2_with (fail)
      rw [HW1.out]
      clear HW1 e0 e1 e2
      refine region_over (by kernel_rfl) (by kernel_rfl) ?_
      repeat (go_big_quiet_step (first | (go_at_call 100; exact HC1.out _)))
      refine wpQuiet_nil ?_
      rintro _ ⟨W, rfl⟩
      have HBW : Hid (Below w.heap.size w W.wd) := belowCall B1.out W.ok B1.out.size
      clear z0 z1 z2 HC1
      go_wp2
      go_roundw
      case rel => exact ⟨j + 1, by omega, by go_num, (by first | (rw [HY.out]; done) | (rw [HY.out]; rfl)), HBW.out⟩
      case measure => simp [intOf]; omega
    | some p =>
      have hp := bstTo_lt hb
      have hpm : p < m := by omega
      have hpl : p < ls.length := by rw [HM.out]; exact hpm
      obtain ⟨s, hs0⟩ : ∃ s, ls[p] = s := ⟨_, rfl⟩
      have hs := H4.out p hpl
      rw [hs0] at hs
      have hsm : s ∈ ls := hs0 ▸ List.getElem_mem hpl
      have HSP : Hid (ls[p]? = some s) := by show ls[p]? = some s; rw [List.getElem?_eq_getElem hpl, hs0]
      have y0 : ∀ W : Ov W1, W.wd.cell? ⟨b, off + p * 3, none⟩ = some (.int .i64 s.1) := fun W => rangeAt_below hs (belowCall B1.out W.ok B1.out.size) hcb 0 _ rfl
      have y1 : ∀ W : Ov W1, W.wd.cell? ⟨b, off + p * 3 + 1, none⟩ = some (.int .i64 s.2.1) := fun W => rangeAt_below hs (belowCall B1.out W.ok B1.out.size) hcb 1 _ rfl
      have y2 : ∀ W : Ov W1, W.wd.cell? ⟨b, off + p * 3 + 2, none⟩ = some (.int .i64 s.2.2) := fun W => rangeAt_below hs (belowCall B1.out W.ok B1.out.size) hcb 2 _ rfl
      obtain ⟨c, hcc⟩ : ∃ c, cmp r s = c := ⟨_, rfl⟩
      have HC2 : Hid (∀ W : Ov W1, Calls Try.prog 103 #[.agg #[.int .i64 r.1, .int .i64 r.2.1, .int .i64 r.2.2], .agg #[.int .i64 s.1, .int .i64 s.2.1, .int .i64 s.2.2]] W.wd fun e w'' => e = .returned (.int .i64 c) ∧ ∃ W' : Ov W1, w'' = W'.wd) := fun W => ov_call (by rw [← hcc]; exact HG.out r HRM.out s hsm W.wd (belowCall B1.out W.ok B1.out.size))
      have HY : Hid (bstTo fit cmp ls (j + 1) = if c < 0 then some j else some p) := by
        show bstTo fit cmp ls (j + 1) = if c < 0 then some j else some p
        rw [bstTo, HR.out]; simp [HFF.out, hb, HSP.out, hcc]
      have hp0 : decide ((p : Int) < 0) = false := decide_eq_false (by omega)
      have hp1 : (0 : Int) ≤ (p : Int) := by omega
      have hp2 : (p : Int) < (m : Int) := by omega
      clear hb hs hs0 hcc hp hsm
      simp only [optI]
      by_cases hc0 : c < 0
      · have HY2 : Hid (bstTo fit cmp ls (j + 1) = some j) := by show bstTo fit cmp ls (j + 1) = some j; rw [HY.out, if_pos hc0]
        have hc1 : decide (c < 0) = true := decide_eq_true hc0
        clear HY
        go_wp2_with (fail)
        rw [HW1.out]
        clear HW1 e0 e1 e2
        refine region_over (by kernel_rfl) (by kernel_rfl) ?_
        repeat (go_big_quiet_step (first | (go_at_call 100; exact HC1.out _) | (go_at_call 103; exact HC2.out _)))
        refine wpQuiet_nil ?_
        rintro _ ⟨W, rfl⟩
        have HBW : Hid (Below w.heap.size w W.wd) := belowCall B1.out W.ok B1.out.size
        clear z0 z1 z2 y0 y1 y2 HC1 HC2
        go_wp2
        go_roundw
        case rel => exact ⟨j + 1, by omega, by go_num, (by first | (rw [HY2.out]; done) | (rw [HY2.out]; rfl)), HBW.out⟩
        case measure => simp [intOf]; omega
      · have HY2 : Hid (bstTo fit cmp ls (j + 1) = some p) := by show bstTo fit cmp ls (j + 1) = some p; rw [HY.out, if_neg hc0]
        have hc1 : decide (c < 0) = false := decide_eq_false hc0
        clear HY
        go_wp2_with (fail)
        rw [HW1.out]
        clear HW1 e0 e1 e2
        refine region_over (by kernel_rfl) (by kernel_rfl) ?_
        repeat (go_big_quiet_step (first | (go_at_call 100; exact HC1.out _) | (go_at_call 103; exact HC2.out _)))
        refine wpQuiet_nil ?_
        rintro _ ⟨W, rfl⟩
        have HBW : Hid (Below w.heap.size w W.wd) := belowCall B1.out W.ok B1.out.size
        clear z0 z1 z2 y0 y1 y2 HC1 HC2
        go_wp2
        go_roundw
        case rel => exact ⟨j + 1, by omega, by go_num, (by first | (rw [HY2.out]; done) | (rw [HY2.out]; rfl)), HBW.out⟩
        case measure => simp [intOf]; omega
set_option maxHeartbeats 6400000 in
theorem bestWt_c (v fv : Value) (caps : Array Value) (ls : List Wt) (fit : Wt → Bool) (cmp : Wt → Wt → Int) (w : World) (h : Rg 4 wtC w v ls) (hfv : fv = .func (.func 84) #[] #[caps.getD 0 undef])
    (hF : ∀ x ∈ ls, ∀ W, Below w.heap.size w W → Calls Try.prog 84 #[.agg #[.int .i64 x.1, .int .i64 x.2.1, .int .i64 x.2.2.1, .int .i64 x.2.2.2], caps.getD 0 undef] W fun e w' => e = .returned (.bool (fit x)) ∧ Below W.heap.size W w')
    (hG : ∀ x ∈ ls, ∀ y ∈ ls, ∀ W, Below w.heap.size w W → Calls Try.prog 87 #[.agg #[.int .i64 x.1, .int .i64 x.2.1, .int .i64 x.2.2.1, .int .i64 x.2.2.2], .agg #[.int .i64 y.1, .int .i64 y.2.1, .int .i64 y.2.2.1, .int .i64 y.2.2.2]] W fun e w' => e = .returned (.int .i64 (cmp x y)) ∧ Below W.heap.size W w') :
   Calls Try.prog 86 #[v, fv, .func (.func 87) #[] #[]] w fun e w' => e = .returned (.int .i64 (optI (best fit cmp ls))) ∧ Below w.heap.size w w' := by
  obtain ⟨cv, hcv⟩ : ∃ cv, caps.getD 0 undef = cv := ⟨_, rfl⟩
  rw [hcv] at hfv hF
  subst hfv
  clear hcv
  obtain ⟨a, cap, rfl, h1, h2, h3⟩ := h
  unfold maxLen at h2
  obtain ⟨m, hm⟩ : ∃ m, ls.length = m := ⟨_, rfl⟩
  have HM : Hid (ls.length = m) := hm
  have H3 : Hid (ls = [] ∨ ∃ b off, a = some ⟨b, off, none⟩ ∧ ∀ i (h : i < ls.length), w.rangeAt b (off + i * 4) (wtC ls[i])) := h3
  have HF : Hid (∀ x ∈ ls, ∀ W, Below w.heap.size w W → Calls Try.prog 84 #[.agg #[.int .i64 x.1, .int .i64 x.2.1, .int .i64 x.2.2.1, .int .i64 x.2.2.2], cv] W fun e w' => e = .returned (.bool (fit x)) ∧ Below W.heap.size W w') := hF
  have HG : Hid (∀ x ∈ ls, ∀ y ∈ ls, ∀ W, Below w.heap.size w W → Calls Try.prog 87 #[.agg #[.int .i64 x.1, .int .i64 x.2.1, .int .i64 x.2.2.1, .int .i64 x.2.2.2], .agg #[.int .i64 y.1, .int .i64 y.2.1, .int .i64 y.2.2.1, .int .i64 y.2.2.2]] W fun e w' => e = .returned (.int .i64 (cmp x y)) ∧ Below W.heap.size W w') := hG
  rw [hm] at h1 ⊢
  clear hm h3 hF hG
  go_enter Try.func86, Try.ntmps86
  go_wp2
  go_loopw [7, 12] (fun q i wr => ∃ j : Nat, j ≤ m ∧ i = .int .i64 j ∧ q = .int .i64 (optI (bstTo fit cmp ls j)) ∧ Hid (Below w.heap.size w wr)) (fun _ i _ => m - (intOf i).toNat)
  case atStart => exact ⟨0, Nat.zero_le _, rfl, rfl, Below.refl _ _⟩
  case round =>
    obtain ⟨j, hj, rfl, rfl, BJ⟩ := hrel
    by_cases hlt : j < m
    case neg =>
      obtain rfl : m = j := by omega
      have HE : Hid (best fit cmp ls = bstTo fit cmp ls m) := by
        show best fit cmp ls = bstTo fit cmp ls m
        rw [best, HM.out]
      go_wp2
      go_ret
      exact ⟨by rw [HE.out]; rfl, BJ.out⟩
    case pos =>
    have hjl : j < ls.length := by rw [HM.out]; exact hlt
    obtain ⟨b, off, rfl, h4⟩ : ∃ b off, a = some ⟨b, off, none⟩ ∧ _ := by
      rcases H3.out with h | h
      · rw [h] at hjl; simp at hjl
      · exact h
    have hcb : b < w.heap.size := block_lt_of_cell (h4 j hjl 0 _ rfl)
    obtain ⟨r, hr⟩ : ∃ r, ls[j] = r := ⟨_, rfl⟩
    have hc := rangeAt_below (h4 j hjl) BJ.out hcb
    have hrm : r ∈ ls := hr ▸ List.getElem_mem hjl
    have HRM : Hid (r ∈ ls) := hrm
    rw [hr] at hc
    have e0 : wr.cell? ⟨b, off + j * 4, none⟩ = some (.int .i64 r.1) := hc 0 _ rfl
    have e1 : wr.cell? ⟨b, off + j * 4 + 1, none⟩ = some (.int .i64 r.2.1) := hc 1 _ rfl
    have e2 : wr.cell? ⟨b, off + j * 4 + 2, none⟩ = some (.int .i64 r.2.2.1) := hc 2 _ rfl
    have e3 : wr.cell? ⟨b, off + j * 4 + 3, none⟩ = some (.int .i64 r.2.2.2) := hc 3 _ rfl
    have HR : Hid (ls[j]? = some r) := by show ls[j]? = some r; rw [List.getElem?_eq_getElem hjl, hr]
    obtain ⟨W1, hW1⟩ : ∃ W1, wr.alloc (Obj.cells #[.int .i64 r.1, .int .i64 r.2.1, .int .i64 r.2.2.1, .int .i64 r.2.2.2] 74) = W1 := ⟨_, rfl⟩
    have bA : Below wr.heap.size wr W1 := hW1 ▸ (Below.refl _ _).alloc (Nat.le_refl _) _
    have B1 : Hid (Below w.heap.size w W1) := belowCall BJ.out bA BJ.out.size
    have k1 : Blk W1 wr.heap.size #[.int .i64 r.1, .int .i64 r.2.1, .int .i64 r.2.2.1, .int .i64 r.2.2.2] 74 := hW1 ▸ Blk.new _ _ _
    have HW1 : Hid (wr.alloc (Obj.cells #[.int .i64 r.1, .int .i64 r.2.1, .int .i64 r.2.2.1, .int .i64 r.2.2.2] 74) = W1) := hW1
    have z0 : ∀ W : Ov W1, W.wd.cell? ⟨wr.heap.size, 0, none⟩ = some (.int .i64 r.1) := ov_cell (k1.cell 0)
    have z1 : ∀ W : Ov W1, W.wd.cell? ⟨wr.heap.size, 1, none⟩ = some (.int .i64 r.2.1) := ov_cell (k1.cell 1)
    have z2 : ∀ W : Ov W1, W.wd.cell? ⟨wr.heap.size, 2, none⟩ = some (.int .i64 r.2.2.1) := ov_cell (k1.cell 2)
    have z3 : ∀ W : Ov W1, W.wd.cell? ⟨wr.heap.size, 3, none⟩ = some (.int .i64 r.2.2.2) := ov_cell (k1.cell 3)
    have ne : Nonempty (Ov W1) := ⟨⟨_, Below.refl _ _⟩⟩
    obtain ⟨f, hf⟩ : ∃ f, fit r = f := ⟨_, rfl⟩
    have HC1 : Hid (∀ W : Ov W1, Calls Try.prog 84 #[.agg #[.int .i64 r.1, .int .i64 r.2.1, .int .i64 r.2.2.1, .int .i64 r.2.2.2], cv] W.wd fun e w'' => e = .returned (.bool f) ∧ ∃ W' : Ov W1, w'' = W'.wd) := fun W => ov_call (by rw [← hf]; exact HF.out r hrm W.wd (belowCall B1.out W.ok B1.out.size))
    have HFF : Hid (fit r = f) := hf
    have H4 : Hid (∀ i (h : i < ls.length), w.rangeAt b (off + i * 4) (wtC ls[i])) := h4
    clear h4 hc hr hW1 bA k1 hf
    cases f with
    | false =>
      have HY : Hid (bstTo fit cmp ls (j + 1) = bstTo fit cmp ls j) := by
        show bstTo fit cmp ls (j + 1) = bstTo fit cmp ls j
        rw [bstTo, HR.out]; simp [HFF.out]
      go_wp2_with (fail)
      rw [HW1.out]
      clear HW1 e0 e1 e2 e3
      refine region_over (by kernel_rfl) (by kernel_rfl) ?_
      repeat (go_big_quiet_step (first | (go_at_call 84; exact HC1.out _)))
      refine wpQuiet_nil ?_
      rintro _ ⟨W, rfl⟩
      have HBW : Hid (Below w.heap.size w W.wd) := belowCall B1.out W.ok B1.out.size
      clear z0 z1 z2 z3 HC1
      go_wp2
      go_roundw
      case rel => exact ⟨j + 1, by omega, by go_num, by rw [HY.out], HBW.out⟩
      case measure => simp [intOf]; omega
    | true =>
    cases hb : bstTo fit cmp ls j with
    | none =>
      have HY : Hid (bstTo fit cmp ls (j + 1) = some j) := by
        show bstTo fit cmp ls (j + 1) = some j
        rw [bstTo, HR.out]; simp [HFF.out, hb]
      clear hb
      simp only [optI]
      go_wp2_with (fail)
      rw [HW1.out]
      clear HW1 e0 e1 e2 e3
      refine region_over (by kernel_rfl) (by kernel_rfl) ?_
      repeat (go_big_quiet_step (first | (go_at_call 84; exact HC1.out _)))
      refine wpQuiet_nil ?_
      rintro _ ⟨W, rfl⟩
      have HBW : Hid (Below w.heap.size w W.wd) := belowCall B1.out W.ok B1.out.size
      clear z0 z1 z2 z3 HC1
      go_wp2
      go_roundw
      case rel => exact ⟨j + 1, by omega, by go_num, (by first | (rw [HY.out]; done) | (rw [HY.out]; rfl)), HBW.out⟩
      case measure => simp [intOf]; omega
    | some p =>
      have hp := bstTo_lt hb
      have hpm : p < m := by omega
      have hpl : p < ls.length := by rw [HM.out]; exact hpm
      obtain ⟨s, hs0⟩ : ∃ s, ls[p] = s := ⟨_, rfl⟩
      have hs := H4.out p hpl
      rw [hs0] at hs
      have hsm : s ∈ ls := hs0 ▸ List.getElem_mem hpl
      have HSP : Hid (ls[p]? = some s) := by show ls[p]? = some s; rw [List.getElem?_eq_getElem hpl, hs0]
      have y0 : ∀ W : Ov W1, W.wd.cell? ⟨b, off + p * 4, none⟩ = some (.int .i64 s.1) := fun W => rangeAt_below hs (belowCall B1.out W.ok B1.out.size) hcb 0 _ rfl
      have y1 : ∀ W : Ov W1, W.wd.cell? ⟨b, off + p * 4 + 1, none⟩ = some (.int .i64 s.2.1) := fun W => rangeAt_below hs (belowCall B1.out W.ok B1.out.size) hcb 1 _ rfl
      have y2 : ∀ W : Ov W1, W.wd.cell? ⟨b, off + p * 4 + 2, none⟩ = some (.int .i64 s.2.2.1) := fun W => rangeAt_below hs (belowCall B1.out W.ok B1.out.size) hcb 2 _ rfl
      have y3 : ∀ W : Ov W1, W.wd.cell? ⟨b, off + p * 4 + 3, none⟩ = some (.int .i64 s.2.2.2) := fun W => rangeAt_below hs (belowCall B1.out W.ok B1.out.size) hcb 3 _ rfl
      obtain ⟨c, hcc⟩ : ∃ c, cmp r s = c := ⟨_, rfl⟩
      have HC2 : Hid (∀ W : Ov W1, Calls Try.prog 87 #[.agg #[.int .i64 r.1, .int .i64 r.2.1, .int .i64 r.2.2.1, .int .i64 r.2.2.2], .agg #[.int .i64 s.1, .int .i64 s.2.1, .int .i64 s.2.2.1, .int .i64 s.2.2.2]] W.wd fun e w'' => e = .returned (.int .i64 c) ∧ ∃ W' : Ov W1, w'' = W'.wd) := fun W => ov_call (by rw [← hcc]; exact HG.out r HRM.out s hsm W.wd (belowCall B1.out W.ok B1.out.size))
      have HY : Hid (bstTo fit cmp ls (j + 1) = if c < 0 then some j else some p) := by
        show bstTo fit cmp ls (j + 1) = if c < 0 then some j else some p
        rw [bstTo, HR.out]; simp [HFF.out, hb, HSP.out, hcc]
      have hp0 : decide ((p : Int) < 0) = false := decide_eq_false (by omega)
      have hp1 : (0 : Int) ≤ (p : Int) := by omega
      have hp2 : (p : Int) < (m : Int) := by omega
      clear hb hs hs0 hcc hp hsm
      simp only [optI]
      by_cases hc0 : c < 0
      · have HY2 : Hid (bstTo fit cmp ls (j + 1) = some j) := by show bstTo fit cmp ls (j + 1) = some j; rw [HY.out, if_pos hc0]
        have hc1 : decide (c < 0) = true := decide_eq_true hc0
        clear HY
        go_wp2_with (fail)
        rw [HW1.out]
        clear HW1 e0 e1 e2 e3
        refine region_over (by kernel_rfl) (by kernel_rfl) ?_
        repeat (go_big_quiet_step (first | (go_at_call 84; exact HC1.out _) | (go_at_call 87; exact HC2.out _)))
        refine wpQuiet_nil ?_
        rintro _ ⟨W, rfl⟩
        have HBW : Hid (Below w.heap.size w W.wd) := belowCall B1.out W.ok B1.out.size
        clear z0 z1 z2 z3 y0 y1 y2 y3 HC1 HC2
        go_wp2
        go_roundw
        case rel => exact ⟨j + 1, by omega, by go_num, (by first | (rw [HY2.out]; done) | (rw [HY2.out]; rfl)), HBW.out⟩
        case measure => simp [intOf]; omega
      · have HY2 : Hid (bstTo fit cmp ls (j + 1) = some p) := by show bstTo fit cmp ls (j + 1) = some p; rw [HY.out, if_neg hc0]
        have hc1 : decide (c < 0) = false := decide_eq_false hc0
        clear HY
        go_wp2_with (fail)
        rw [HW1.out]
        clear HW1 e0 e1 e2 e3
        refine region_over (by kernel_rfl) (by kernel_rfl) ?_
        repeat (go_big_quiet_step (first | (go_at_call 84; exact HC1.out _) | (go_at_call 87; exact HC2.out _)))
        refine wpQuiet_nil ?_
        rintro _ ⟨W, rfl⟩
        have HBW : Hid (Below w.heap.size w W.wd) := belowCall B1.out W.ok B1.out.size
        clear z0 z1 z2 z3 y0 y1 y2 y3 HC1 HC2
        go_wp2
        go_roundw
        case rel => exact ⟨j + 1, by omega, by go_num, (by first | (rw [HY2.out]; done) | (rw [HY2.out]; rfl)), HBW.out⟩
        case measure => simp [intOf]; omega
end Go.Proofs.Ytpmmgbinogokfaa

/- The program's SettingsOk; no condition. -/
import Derived.Test.YtlknakijdpeaoaaSor
import Derived.Test.YtlknakijdpeaoaaOver
import Derived.WalkSmall
import Derived.Deep.Cut
namespace Go.Proofs.Ytlknakijdpeaoaa
open Go.RowKit Go.ChangeShapes Go.WideShapes Go.ChangeAt
set_option linter.unusedVariables false
set_option linter.unusedSimpArgs false
set_option maxRecDepth 8000

set_option maxHeartbeats 3200000 in
theorem setOne_c (r : Se) (w : World) (h1 : r.nm.size ≤ 1048576) (h2 : r.vl.size ≤ 1048576) : Calls Try.prog 35 #[.agg (S2 r)] w fun e w' => e = .returned (.bool (stB r)) ∧ Below w.heap.size w w' := by
  obtain ⟨w1, hw1⟩ : ∃ W, w.alloc (.cells (S2 r) 55) = W := ⟨_, rfl⟩
  have HB1 : Hid (Below w.heap.size w w1) := by rw [← hw1]; exact (Below.refl _ _).alloc (Nat.le_refl _) _
  have hY := Blk.new w (S2 r) 55
  rw [hw1] at hY
  have HY : Hid (Blk w1 w.heap.size (S2 r) 55) := hY
  have y0 := hY.cell 0
  have y1 := hY.cell 1
  simp at y0 y1
  have HW : Hid (w.alloc (.cells (S2 r) 55) = w1) := hw1
  clear hw1 hY
  cases hn : wB r.nm with
  | false =>
    have HF : Hid (stB r = false) := by show stB r = false; unfold stB; rw [hn]; rfl
    go_enter Try.func35, Try.ntmps35
    go_upto_region 1 with fail
    rw [HW.out]
    go_wp2_with (fail)
    refine (wordI_c r.nm w1 (by omega)).mono ?_
    rintro e w2 ⟨rfl, b2⟩
    have HB2 : Hid (Below w.heap.size w w2) := belowCall HB1.out b2 HB1.out.size
    clear b2 y0 y1
    rw [hn]
    go_wp2
    go_ret
    exact ⟨by rw [HF.out]; rfl, HB2.out⟩
  | true =>
    have HF : Hid (stB r = vB r.vl) := by show stB r = vB r.vl; unfold stB; rw [hn]; rfl
    go_enter Try.func35, Try.ntmps35
    go_upto_region 1 with fail
    rw [HW.out]
    go_wp2_with (fail)
    refine (wordI_c r.nm w1 (by omega)).mono ?_
    rintro e w2 ⟨rfl, b2⟩
    have HB2 : Hid (Below w.heap.size w w2) := belowCall HB1.out b2 HB1.out.size
    have hY2 := HY.out.below b2 HY.out.lt
    have z1 := hY2.cell 1
    simp at z1
    clear b2 y0 y1 hY2
    rw [hn]
    clear hn
    go_wp2_with (fail)
    refine (valI_c r.vl w2 (by omega)).mono ?_
    rintro e w3 ⟨rfl, b3⟩
    have HB3 : Hid (Below w.heap.size w w3) := belowCall HB2.out b3 HB2.out.size
    clear b3 z1
    go_wp2
    go_ret
    exact ⟨by rw [HF.out]; rfl, HB3.out⟩
set_option maxHeartbeats 6400000 in
theorem setI_c (v : Value) (ls : Ses) (w : World) (h : Rs w v ls) (hsz : ∀ r ∈ ls, r.nm.size ≤ 1048576 ∧ r.vl.size ≤ 1048576) (hln : ls.length ≤ 1048576) : Calls Try.prog 18 #[v] w fun e w' => e = .returned (.bool (sB ls)) ∧ Below w.heap.size w w' := by
  obtain ⟨a, cap, rfl, h1, h2, h3⟩ := h
  unfold maxLen at h2
  by_cases h40 : ls.length ≤ 40
  case neg =>
    have HF : Hid (sB ls = false) := by show sB ls = false; unfold sB; rw [decide_eq_false h40]; rfl
    have q1 : (40 : Int) < (ls.length : Int) := by omega
    clear h3
    go_enter Try.func18, Try.ntmps18
    go_wp2
    go_ret
    exact ⟨by rw [HF.out]; rfl, Below.refl _ _⟩
  case pos =>
  have q1 : ¬ ((40 : Int) < (ls.length : Int)) := by omega
  go_enter Try.func18, Try.ntmps18
  go_wp2
  go_loopw [10] (fun i wr => ∃ j : Nat, j ≤ ls.length ∧ i = .int .i64 j ∧ Hid (SoT ls j) ∧ Hid (Below w.heap.size w wr)) (fun i _ => ls.length - (intOf i).toNat)
  case atStart => exact ⟨0, Nat.zero_le _, rfl, SoT.zero ls, Below.refl _ _⟩
  case round =>
    obtain ⟨j, hj, rfl, hA, hbr⟩ := hrel
    by_cases hlt : j < ls.length
    case neg =>
      obtain rfl : j = ls.length := by omega
      have hF := hA.out.fin
      rw [decide_eq_true h40] at hF
      have HF : Hid (sB ls = true) := hF
      clear h3 hF
      go_wp2
      go_ret
      exact ⟨by rw [HF.out]; rfl, hbr.out⟩
    case pos =>
    rcases h3 with h3 | ⟨b, off, rfl, h4⟩
    · subst h3; simp at hlt
    have hc := h4 j hlt
    have hcb : b < w.heap.size := block_lt_of_cell hc.1
    obtain ⟨r, hr⟩ : ∃ r, ls[j] = r := ⟨_, rfl⟩
    have hm := hsz _ (List.getElem_mem hlt)
    rw [hr] at hc hm
    have e0 := (hbr.out.cell (p := ⟨b, off + j * 2, none⟩) hcb).trans hc.1
    have e1 := (hbr.out.cell (p := ⟨b, off + j * 2 + 1, none⟩) hcb).trans hc.2
    have hjI : (j : Int) < (ls.length : Int) := by omega
    have HR : Hid (ls[j] = r) := hr
    clear hc hr
    go_upto_region 6 with fail
    obtain ⟨X, hX⟩ : ∃ X, wr.heap.size = X := ⟨_, rfl⟩
    obtain ⟨wx, hwx⟩ : ∃ W, wr.alloc (Obj.cells #[.string r.nm, .string r.vl] 55) = W := ⟨_, rfl⟩
    have hbx : Below w.heap.size w wx := by rw [← hwx]; exact hbr.out.alloc hbr.out.size _
    have hY : Blk wx X (S2 r) 55 := by rw [← hwx, ← hX]; exact Blk.new wr _ _
    have k0 := hY.cell 0
    have k1 := hY.cell 1
    simp at k0 k1
    have y0 : ∀ W : Ov wx, W.wd.cell? ⟨X, 0, none⟩ = some (.string r.nm) := ov_cell k0
    have y1 : ∀ W : Ov wx, W.wd.cell? ⟨X, 1, none⟩ = some (.string r.vl) := ov_cell k1
    have ne : Nonempty (Ov wx) := ⟨⟨_, Below.refl _ _⟩⟩
    have HBX : Hid (Below w.heap.size w wx) := hbx
    rw [hwx, hX]
    clear k0 k1 hY hbx hwx hX e0 e1 hbr
    cases hst : stB r with
    | false =>
      have HC : Hid (∀ W : Ov wx, Calls Try.prog 35 #[.agg (S2 r)] W.wd fun e w'' => e = .returned (.bool false) ∧ ∃ W' : Ov wx, w'' = W'.wd) := fun W => ov_call (by rw [← hst]; exact setOne_c r W.wd hm.1 hm.2)
      have HF : Hid (sB ls = false) := sB_bad hlt (by rw [HR.out]; exact hst)
      clear h4 hst hm
      refine region_over (by kernel_rfl) (by kernel_rfl) ?_
      repeat (go_big_quiet_step (first | (go_at_call 35; exact HC.out _)))
      refine wpQuiet_nil ?_
      rintro _ ⟨W, rfl⟩
      have HBW : Hid (Below w.heap.size w W.wd) := belowCall HBX.out W.ok HBX.out.size
      clear HC
      go_wp2
      go_ret
      exact ⟨by rw [HF.out]; rfl, HBW.out⟩
    | true =>
    have HC : Hid (∀ W : Ov wx, Calls Try.prog 35 #[.agg (S2 r)] W.wd fun e w'' => e = .returned (.bool true) ∧ ∃ W' : Ov wx, w'' = W'.wd) := fun W => ov_call (by rw [← hst]; exact setOne_c r W.wd hm.1 hm.2)
    have HST : Hid (stB ls[j] = true) := by show stB ls[j] = true; rw [HR.out]; exact hst
    clear hst hm
    cases j with
    | zero =>
      have HN : Hid (SoT ls 1) := SoT.one hlt HST.out
      clear h4
      refine region_over (by kernel_rfl) (by kernel_rfl) ?_
      repeat (go_big_quiet_step (first | (go_at_call 35; exact HC.out _)))
      refine wpQuiet_nil ?_
      rintro _ ⟨W, rfl⟩
      have HBW : Hid (Below w.heap.size w W.wd) := belowCall HBX.out W.ok HBX.out.size
      clear HC
      go_wp2
      go_roundw
      case rel => exact ⟨1, by omega, by go_num, HN.out, HBW.out⟩
      case measure => simp [intOf]; omega
    | succ k =>
    have hc0 := h4 k (by omega)
    obtain ⟨r0, hr0⟩ : ∃ r0, ls[k] = r0 := ⟨_, rfl⟩
    rw [hr0] at hc0
    have p0 : ∀ W : Ov wx, W.wd.cell? ⟨b, off + k * 2, none⟩ = some (.string r0.nm) := ov_cell ((HBX.out.cell (p := ⟨b, off + k * 2, none⟩) hcb).trans hc0.1)
    have hbn := bl_not r0.nm r.nm
    cases hb1 : bl r0.nm r.nm with
    | true =>
      rw [hb1] at hbn
      have hn1 : Op.bytesLess r.nm.toList r0.nm.toList = false := (Bool.or_eq_false_iff.1 hbn).1
      have hn2 : (r.nm.toList == r0.nm.toList) = false := (Bool.or_eq_false_iff.1 hbn).2
      have hn3 : ¬ (r.nm.toList = r0.nm.toList) := by simpa using hn2
      have HN : Hid (SoT ls (k + 1 + 1)) := hA.out.next hlt HST.out (by rw [HR.out, hr0]; exact hb1)
      clear h4 hc0 hbn hb1 hr0
      refine region_over (by kernel_rfl) (by kernel_rfl) ?_
      repeat (go_big_quiet_step (first | (go_at_call 35; exact HC.out _)))
      refine wpQuiet_nil ?_
      rintro _ ⟨W, rfl⟩
      have HBW : Hid (Below w.heap.size w W.wd) := belowCall HBX.out W.ok HBX.out.size
      clear HC
      go_wp2
      go_roundw
      case rel => exact ⟨k + 1 + 1, by omega, by go_num, HN.out, HBW.out⟩
      case measure => simp [intOf]; omega
    | false =>
      rw [hb1] at hbn
      have HF : Hid (sB ls = false) := sB_far hlt (by rw [HR.out, hr0]; exact hb1)
      clear h4 hc0 hb1 hr0
      cases hq : Op.bytesLess r.nm.toList r0.nm.toList with
      | true =>
        clear hbn
        refine region_over (by kernel_rfl) (by kernel_rfl) ?_
        repeat (go_big_quiet_step (first | (go_at_call 35; exact HC.out _)))
        refine wpQuiet_nil ?_
        rintro _ ⟨W, rfl⟩
        have HBW : Hid (Below w.heap.size w W.wd) := belowCall HBX.out W.ok HBX.out.size
        clear HC
        go_wp2
        go_ret
        exact ⟨by rw [HF.out]; rfl, HBW.out⟩
      | false =>
        rw [hq] at hbn
        have hn2 : (r.nm.toList == r0.nm.toList) = true := by simpa using hbn
        have hn3 : r.nm.toList = r0.nm.toList := by simpa using hn2
        clear hbn
        refine region_over (by kernel_rfl) (by kernel_rfl) ?_
        repeat (go_big_quiet_step (first | (go_at_call 35; exact HC.out _)))
        refine wpQuiet_nil ?_
        rintro _ ⟨W, rfl⟩
        have HBW : Hid (Below w.heap.size w W.wd) := belowCall HBX.out W.ok HBX.out.size
        clear HC
        go_wp2
        go_ret
        exact ⟨by rw [HF.out]; rfl, HBW.out⟩

end Go.Proofs.Ytlknakijdpeaoaa

/- The model: numbers of four bits told as levels; no condition. -/
import Derived.Test.YtkjfcebdjnclaaaDoorExi
import Derived.Test.YtkjfcebdjnclaaaDoorNxm
namespace Go.Proofs.YtkjfcebdjnclaaaDoor
open Go.RowKit Go.ChangeShapes Go.WideShapes Go.ChangeAt
set_option linter.unusedVariables false
set_option linter.unusedSimpArgs false
set_option maxRecDepth 8000

set_option maxHeartbeats 6400000 in
theorem exM_c (c : Int × Int) (v : Value) (zs : List Int) (w : World) (h : Rd .i64 w v zs) :
    Calls Tryd.prog 39 #[.agg (cdA c), v] w fun e w' => (COk c ∧ FrP zs → CdR (exL c zs) (cdE c zs) true w e w') ∧ (¬ (COk c ∧ FrP zs) → CdR [] (0, 0) false w e w') := by
  have HR0 : Hid (Rd .i64 w v zs) := h
  obtain ⟨a, cap, rfl, h1, h2, h3⟩ := h
  unfold maxLen at h2
  obtain ⟨W1, hW1⟩ : ∃ W, (w.alloc (Obj.cells (cdA c) 25)).alloc (Obj.cells (cdA (0, 0)) 25) = W := ⟨_, rfl⟩
  have X1 : Bx2 w c W1 := by rw [← hW1]; exact Bx2.new w c
  obtain ⟨g2, hg2⟩ : ∃ g, W1.heap.size = g := ⟨_, rfl⟩
  obtain ⟨W2, hW2⟩ : ∃ W, W1.alloc (Obj.cells #[] 3) = W := ⟨_, rfl⟩
  have b2 : Below W1.heap.size W1 W2 := by rw [← hW2]; exact (Below.refl _ _).alloc (Nat.le_refl _) _
  have HX : Hid (Bx2 w c W2) := X1.call b2
  have HO : Hid (Ow .i64 3 g2 W2 (.slice (some ⟨g2, 0, none⟩) 0 0) []) := by rw [← hW2, ← hg2]; exact Ow.empty _ _ _ _ (Nat.le_refl _)
  have HGE : Hid (g2 = w.heap.size + 2) := by show _ = _; rw [← hg2, ← hW1]; simp
  have HW2 : Hid (W1.alloc (Obj.cells #[] 3) = W2) := hW2
  have HG2 : Hid (W1.heap.size = g2) := hg2
  have x0 := HX.out.c.cell 0
  have x1 := HX.out.c.cell 1
  simp at x0 x1
  clear X1 b2
  go_enter Tryd.func39, Tryd.ntmps39
  go_wp2_with (fail)
  clear hW2 hg2
  refine (cdM_c c W2).mono ?_
  rintro e w1 ⟨rfl, b1⟩
  have HX1 : Hid (Bx2 w c w1) := HX.out.call b1
  have HO1 : Hid (Ow .i64 3 g2 w1 (.slice (some ⟨g2, 0, none⟩) 0 0) []) := HO.out.below b1
  clear b1 x0 x1 hW1 HX HO
  have HNIL : Hid (∀ W, Bx2 w c W → Ow .i64 3 g2 W (.slice (some ⟨g2, 0, none⟩) 0 0) [] → Ow .i64 3 w.heap.size (W.setRow (w.heap.size + 1) (cdA (0, 0))) (.slice (some ⟨g2, 0, none⟩) 0 0) []) := fun W hx ho => (Ow.putRow ho (by have := HGE.out; omega)).mono (by have := HGE.out; omega)
  by_cases hc : COk c
  case neg =>
    have d : decide (COk c) = false := by rw [decide_eq_false_iff_not]; exact hc
    have HF : Hid (¬ (COk c ∧ FrP zs)) := fun h => hc h.1
    rw [d]
    clear hc d h3
    go_wp2_with (refine wpList_store_row rfl 25 _ _ rfl (w.heap.size + 1) _ rfl rfl 25 (cdA (0, 0)) HX1.out.z sizeCd rfl (by simp [Value.oneCell']) ?_)
    have hf := HX1.out.fin (0, 0)
    exact bodyPost_ret (results_E rfl _ _ (w.heap.size + 1) (0, 0) _ _ rfl rfl rfl hf.1) rfl ⟨fun h => absurd h HF.out, fun _ => ⟨_, rfl, HNIL.out _ HX1.out HO1.out, hf.2⟩⟩
  have d : decide (COk c) = true := by rw [decide_eq_true_eq]; exact hc
  have HCO : Hid (COk c) := hc
  rw [d]
  clear hc d
  by_cases hl : (300 : Int) < (zs.length : Int)
  case pos =>
    have dl : decide ((300 : Int) < (zs.length : Int)) = true := by simp only [decide_eq_true_eq]; exact hl
    have HF : Hid (¬ (COk c ∧ FrP zs)) := fun h => by have := h.2.1; omega
    clear hl h3
    go_wp2_with (refine wpList_store_row rfl 25 _ _ rfl (w.heap.size + 1) _ rfl rfl 25 (cdA (0, 0)) HX1.out.z sizeCd rfl (by simp [Value.oneCell']) ?_)
    have hf := HX1.out.fin (0, 0)
    exact bodyPost_ret (results_E rfl _ _ (w.heap.size + 1) (0, 0) _ _ rfl rfl rfl hf.1) rfl ⟨fun h => absurd h HF.out, fun _ => ⟨_, rfl, HNIL.out _ HX1.out HO1.out, hf.2⟩⟩
  have dl : decide ((300 : Int) < (zs.length : Int)) = false := by simp only [decide_eq_false_iff_not]; exact hl
  have hl3 : zs.length ≤ 300 := by omega
  clear hl
  go_wp2
  go_loopw [7, 8] (fun vo i wr => ∃ j : Nat, ∃ v' : Value, j ≤ zs.length ∧ i = .int .i64 j ∧ v' = vo ∧ Hid (Bx2 w (cdE c (zs.take j)) wr ∧ Ow .i64 3 g2 wr v' (exL c (zs.take j)) ∧ ∀ t (ht : t < zs.length), t < j → 0 ≤ zs[t] ∧ zs[t] ≤ 15)) (fun _ i _ => zs.length - (intOf i).toNat)
  case atStart => exact ⟨0, _, Nat.zero_le _, rfl, rfl, HX1.out, HO1.out, fun t _ h => by omega⟩
  case round =>
    obtain ⟨j, vo, hj, rfl, hvo, hw⟩ := hrel
    subst hvo
    clear HX1 HO1
    by_cases hlt : j < zs.length
    case neg =>
      obtain rfl : j = zs.length := by omega
      rw [List.take_length] at hw
      have HY : Hid (Bx2 w (cdE c zs) wr) := hw.out.1
      have HO : Hid (Ow .i64 3 g2 wr vo (exL c zs)) := hw.out.2.1
      have HFR : Hid (FrP zs) := ⟨hl3, fun n hn => by obtain ⟨t, ht, rfl⟩ := List.getElem_of_mem hn; exact hw.out.2.2 t ht ht⟩
      clear h3 hw
      obtain ⟨S, hS⟩ : ∃ S : World → Prop, ∀ W, S W ↔ Blk W w.heap.size (cdA (cdE c zs)) 25 := ⟨_, fun _ => Iff.rfl⟩
      have y0 : ∀ W : At S, W.wd.cell? ⟨w.heap.size, 0, none⟩ = some (.int .i64 (cdE c zs).1) := fun W => by rw [((hS _).1 W.ok).cell 0]; rfl
      have y1 : ∀ W : At S, W.wd.cell? ⟨w.heap.size, 1, none⟩ = some (.int .i64 (cdE c zs).2) := fun W => by rw [((hS _).1 W.ok).cell 1]; rfl
      have HS : Hid (∀ W, S W ↔ Blk W w.heap.size (cdA (cdE c zs)) 25) := hS
      have ne : Nonempty (At S) := ⟨⟨wr, (hS _).2 HY.out.c⟩⟩
      clear hS
      go_wp2
      refine region_mixA [true, true, true, false, false] 3 0 S (by kernel_rfl) rfl (by kernel_rfl) (fun _ _ _ _ _ h => h) ((HS.out _).2 HY.out.c.drew) ?_
      simp only [selT, selF]
      try simp only [Act.put]
      repeat (go_big_quiet_step (fail))
      refine wpQuiet_nil ?_
      refine tail_end ?_
      have HYD : Bx2 w (cdE c zs) wr.drew := ⟨HY.out.c.drew, HY.out.z.drew, HY.out.b.drew⟩
      have hf := HYD.fin (cdE c zs)
      have HFF : Hid (Blk (wr.drew.setRow (w.heap.size + 1) (cdA (cdE c zs))) (w.heap.size + 1) (cdA (cdE c zs)) 25 ∧ Below w.heap.size w (wr.drew.setRow (w.heap.size + 1) (cdA (cdE c zs)))) := hf
      have HOF : Hid (Ow .i64 3 g2 (wr.drew.setRow (w.heap.size + 1) (cdA (cdE c zs))) vo (exL c zs)) := Ow.putRow (show Ow .i64 3 g2 wr.drew _ _ from HO.out.below (Below.refl _ _).drew) (by have := HGE.out; omega)
      clear hf HYD y0 y1
      go_wp2_with (refine wpList_store_row rfl 25 _ _ rfl (w.heap.size + 1) _ rfl rfl 25 (cdA (0, 0)) HY.out.z.drew sizeCd rfl (by simp [Value.oneCell']) ?_)
      exact bodyPost_ret (results_E rfl _ _ (w.heap.size + 1) (cdE c zs) _ _ rfl rfl rfl HFF.out.1) rfl ⟨fun _ => ⟨_, rfl, HOF.out.mono (by have := HGE.out; omega), HFF.out.2⟩, fun h => absurd ⟨HCO.out, HFR.out⟩ h⟩
    case pos =>
    rcases h3 with h3 | ⟨b, off, rfl, h4⟩
    · subst h3; simp at hlt
    obtain ⟨z, hz⟩ : ∃ z, zs[j] = z := ⟨_, rfl⟩
    have HZ : Hid (zs[j] = z) := hz
    have HC : Hid (∀ W, Below w.heap.size w W → W.cell? ⟨b, off + j, none⟩ = some (.int .i64 z)) := fun W hW => by
      have := h4 j hlt
      rw [hW.cell (block_lt_of_cell this), this]
      simp [List.getElem?_eq_getElem hlt, hz]
    have hc := HC.out wr hw.out.1.b
    have hi1 : (0 : Int) ≤ (j : Int) := by omega
    have hi2 : (j : Int) < (zs.length : Int) := by omega
    clear h4 hz
    go_wp2_with (fail)
    refine (in_c _ _ _ _).mono ?_
    rintro e w1 ⟨rfl, hw'⟩
    rw [hw']
    clear hw' w1
    by_cases hz15 : 0 ≤ z ∧ z ≤ 15
    case neg =>
      have d : decide (0 ≤ z ∧ z ≤ 15) = false := by simp only [decide_eq_false_iff_not]; exact hz15
      have HF : Hid (¬ (COk c ∧ FrP zs)) := fun h => hz15 (by have := h.2.2 _ (List.getElem_mem hlt); rw [HZ.out] at this; exact this)
      rw [d]
      obtain ⟨W3, hW3⟩ : ∃ W, wr.alloc (Obj.cells #[] 3) = W := ⟨_, rfl⟩
      have b3 : Below wr.heap.size wr W3 := by rw [← hW3]; exact (Below.refl _ _).alloc (Nat.le_refl _) _
      have X3 := hw.out.1.call b3
      have HX3 : Hid (Bx2 w (cdE c (zs.take j)) W3) := X3
      have HO3 : Hid (Ow .i64 3 wr.heap.size W3 (.slice (some ⟨wr.heap.size, 0, none⟩) 0 0) []) := by rw [← hW3]; exact Ow.empty _ _ _ _ (Nat.le_refl _)
      have HGW : Hid (w.heap.size + 2 ≤ wr.heap.size) := hw.out.1.ge
      clear hz15 d hw hc b3 X3
      go_wp2_with (refine wpList_store_row rfl 25 _ _ rfl (w.heap.size + 1) _ rfl rfl 25 (cdA (0, 0)) HX3.out.z sizeCd rfl (by simp [Value.oneCell']) ?_)
      have hf := HX3.out.fin (0, 0)
      have ho := (Ow.putRow (g := w.heap.size + 1) (cs := cdA (0, 0)) HO3.out (by have := HGW.out; omega)).mono (base' := w.heap.size) (by have := HGW.out; omega)
      exact bodyPost_ret (results_E rfl _ _ (w.heap.size + 1) (0, 0) _ _ rfl rfl rfl hf.1) rfl ⟨fun h => absurd h HF.out, fun _ => ⟨_, rfl, ho, hf.2⟩⟩
    have d : decide (0 ≤ z ∧ z ≤ 15) = true := by simp only [decide_eq_true_eq]; exact hz15
    rw [d]
    obtain ⟨m, rfl⟩ : ∃ m : Nat, z = (m : Int) := Int.eq_ofNat_of_zero_le hz15.1
    have HM15 : Hid (m ≤ 15) := by show _ ≤ _; omega
    obtain ⟨dd, hdd⟩ : ∃ d, cdE c (zs.take j) = d := ⟨_, rfl⟩
    have HOK : Hid (COk dd) := by rw [← hdd]; exact cdE_ok _ HCO.out
    have HNX : Hid (cdE c (zs.take (j + 1)) = nxF dd m) := by show _ = _; rw [cdE_take c zs j hlt, hdd, HZ.out]
    have HEX : Hid (exL c (zs.take (j + 1)) = exL c (zs.take j) ++ [(nxF dd m).1]) := by show _ = _; rw [exL_take c zs j hlt, hdd, HZ.out]
    rw [hdd] at hw
    have HXW : Hid (Bx2 w dd wr) := hw.out.1
    have HOW : Hid (Ow .i64 3 g2 wr vo (exL c (zs.take j))) := hw.out.2.1
    have HAL : Hid (∀ t (ht : t < zs.length), t < j + 1 → 0 ≤ zs[t] ∧ zs[t] ≤ 15) := fun t ht h => by
      by_cases e : t < j
      · exact hw.out.2.2 t ht e
      · obtain rfl : t = j := by omega
        rw [HZ.out]; exact hz15
    have hel : (exL c (zs.take j)).length = j := by rw [exL_len]; simp; omega
    have HEL : Hid ((exL c (zs.take j)).length = j) := hel
    obtain ⟨S, hS⟩ : ∃ S : World → Prop, ∀ W, S W ↔ Below wr.heap.size wr W := ⟨_, fun _ => Iff.rfl⟩
    have y0 : ∀ W : At S, W.wd.cell? ⟨w.heap.size, 0, none⟩ = some (.int .i64 dd.1) := fun W => by rw [(HXW.out.call ((hS _).1 W.ok)).c.cell 0]; rfl
    have y1 : ∀ W : At S, W.wd.cell? ⟨w.heap.size, 1, none⟩ = some (.int .i64 dd.2) := fun W => by rw [(HXW.out.call ((hS _).1 W.ok)).c.cell 1]; rfl
    have y2 : ∀ W : At S, W.wd.cell? ⟨b, off + j, none⟩ = some (.int .i64 (m : Int)) := fun W => HC.out _ (HXW.out.call ((hS _).1 W.ok)).b
    have HS : Hid (∀ W, S W ↔ Below wr.heap.size wr W) := hS
    have ne : Nonempty (At S) := ⟨⟨wr, (hS _).2 (Below.refl _ _)⟩⟩
    clear hS hw hdd hz15 d hc hel
    go_wp2
    refine region_mixA [true, true, true, true, true, false, false] 6 1 S (by kernel_rfl) rfl (by kernel_rfl) (fun _ _ _ _ _ h => h) ((HS.out _).2 (Below.refl _ _).drew) ?_
    simp only [selT, selF]
    try simp only [Act.put]
    repeat (go_big_quiet_step (fail))
    refine wpQuiet_nil ?_
    refine tail_step ?_
    go_wp2_with (fail)
    refine (nextM_c dd HOK.out m HM15.out wr.drew).mono ?_
    rintro e w4 ⟨rfl, b4⟩
    have B4 : Below wr.heap.size wr w4 := (Below.refl _ _).drew.trans b4
    have HB4 : Hid (Below wr.heap.size wr w4) := B4
    have X4 := HXW.out.call B4
    have HK4 : Hid (Blk w4 w.heap.size (cdA dd) 25) := X4.c
    obtain ⟨W5, hW5⟩ : ∃ W, w4.setRow w.heap.size (cdA (nxF dd m)) = W := ⟨_, rfl⟩
    have X5 : Bx2 w (nxF dd m) W5 := by rw [← hW5]; exact X4.put (nxF dd m)
    have HX5 : Hid (Bx2 w (nxF dd m) W5) := X5
    have HO5 : Hid (Ow .i64 3 g2 W5 vo (exL c (zs.take j))) := by rw [← hW5]; exact Ow.putRow (HOW.out.below B4) (by have := HGE.out; omega)
    have HW5 : Hid (w4.setRow w.heap.size (cdA (nxF dd m)) = W5) := hW5
    have q0 := X5.c.cell 0
    simp at q0
    have HG5 : Hid (g2 ≤ W5.heap.size) := by have h6 := X5.ge; have := HGE.out; show _ ≤ _; omega
    clear b4 B4 X4 X5 hW5 y0 y1 y2
    go_wp2
    refine ⟨(HS.out _).2 HB4.out, tail_end ?_⟩
    go_wp2_with (first | (at_builtin; refine appI rfl (.tmp 40) (.tmp 43) rfl g2 _ (exL c (zs.take j)) rfl (HO5.out.alloc _) W5.heap.size (nxF dd m).1 rfl (by simp) (by have := HEL.out; omega) (by have := HG5.out; simp; omega) ?_) | (rw [HW5.out]) | refine wpList_store_row rfl 25 _ _ rfl w.heap.size _ rfl rfl 25 (cdA dd) HK4.out sizeCd rfl (by simp [Value.oneCell']) ?_)
    intro v6 w6 ho hb
    have hge := HGE.out
    have X6 : Bx2 w (nxF dd m) w6 := ⟨(HX5.out.c.alloc _).below hb (by omega), (HX5.out.z.alloc _).below hb (by omega), (HX5.out.b.alloc (Nat.le_trans (by omega) HX5.out.ge) _).trans (hb.mono (by omega))⟩
    have HFIN : Hid (Bx2 w (cdE c (zs.take (j + 1))) w6 ∧ Ow .i64 3 g2 w6 v6 (exL c (zs.take (j + 1))) ∧ ∀ t (ht : t < zs.length), t < j + 1 → 0 ≤ zs[t] ∧ zs[t] ≤ 15) := ⟨by rw [HNX.out]; exact X6, by rw [HEX.out]; exact ho, HAL.out⟩
    clear ho hb X6 hge q0
    go_wp2
    go_roundw
    case rel => exact ⟨j + 1, _, by omega, by go_num, rfl, HFIN.out⟩
    case measure => simp [intOf]; omega

end Go.Proofs.YtkjfcebdjnclaaaDoor

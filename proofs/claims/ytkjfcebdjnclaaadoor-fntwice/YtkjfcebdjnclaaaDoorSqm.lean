/- The model: levels squeezed to numbers of four bits; no condition. -/
import Derived.Test.YtkjfcebdjnclaaaDoorSqi
import Derived.Test.YtkjfcebdjnclaaaDoorNxm
namespace Go.Proofs.YtkjfcebdjnclaaaDoor
open Go.RowKit Go.ChangeShapes Go.WideShapes Go.ChangeAt
set_option linter.unusedVariables false
set_option linter.unusedSimpArgs false
set_option maxRecDepth 8000

set_option maxHeartbeats 6400000 in
theorem sqzM_c (c : Int × Int) (v : Value) (zs : List Int) (w : World) (h : Rd .i64 w v zs) :
    Calls Tryd.prog 17 #[.agg (cdA c), v] w fun e w' => (COk c ∧ VP zs → CdR (sqL c zs) (sqE c zs) true w e w') ∧ (¬ (COk c ∧ VP zs) → CdR [] (0, 0) false w e w') := by
  have HR0 : Hid (Rd .i64 w v zs) := h
  obtain ⟨a, cap, rfl, h1, h2, h3⟩ := h
  unfold maxLen at h2
  obtain ⟨W1, hW1⟩ : ∃ W, (w.alloc (Obj.cells (cdA c) 25)).alloc (Obj.cells (cdA (0, 0)) 25) = W := ⟨_, rfl⟩
  have X1 : Bx2 w c W1 := by rw [← hW1]; exact Bx2.new w c
  obtain ⟨g2, hg2⟩ : ∃ g, W1.heap.size = g := ⟨_, rfl⟩
  obtain ⟨W2, hW2⟩ : ∃ W, W1.alloc (Obj.cells #[] 3) = W := ⟨_, rfl⟩
  have b2 : Below W1.heap.size W1 W2 := by rw [← hW2]; exact (Below.refl _ _).alloc (Nat.le_refl _) _
  have HX : Hid (Bx2 w c W2) := X1.call b2
  have HO : Hid (Ow .i64 3 g2 W2 (.slice (some ⟨g2, 0, none⟩) 0 0) []) := by rw [← hW2, ← hg2]; exact Ow.empty _ _ _ _ (Nat.le_refl _)
  have HGE : Hid (g2 = w.heap.size + 2) := by show _ = _; rw [← hg2, ← hW1]; simp
  have HW2 : Hid (W1.alloc (Obj.cells #[] 3) = W2) := hW2
  have HG2 : Hid (W1.heap.size = g2) := hg2
  have x0 := HX.out.c.cell 0
  have x1 := HX.out.c.cell 1
  simp at x0 x1
  clear X1 b2
  go_enter Tryd.func17, Tryd.ntmps17
  go_wp2_with (fail)
  clear hW2 hg2
  refine (cdM_c c W2).mono ?_
  rintro e w1 ⟨rfl, b1⟩
  have HX1 : Hid (Bx2 w c w1) := HX.out.call b1
  have HO1 : Hid (Ow .i64 3 g2 w1 (.slice (some ⟨g2, 0, none⟩) 0 0) []) := HO.out.below b1
  clear b1 x0 x1 hW1 HX HO
  have HNIL : Hid (∀ W, Bx2 w c W → Ow .i64 3 g2 W (.slice (some ⟨g2, 0, none⟩) 0 0) [] → Ow .i64 3 w.heap.size (W.setRow (w.heap.size + 1) (cdA (0, 0))) (.slice (some ⟨g2, 0, none⟩) 0 0) []) := fun W hx ho => (Ow.putRow ho (by have := HGE.out; omega)).mono (by have := HGE.out; omega)
  by_cases hc : COk c
  case neg =>
    have d : decide (COk c) = false := by rw [decide_eq_false_iff_not]; exact hc
    have HF : Hid (¬ (COk c ∧ VP zs)) := fun h => hc h.1
    rw [d]
    clear hc d h3
    go_wp2_with (refine wpList_store_row rfl 25 _ _ rfl (w.heap.size + 1) _ rfl rfl 25 (cdA (0, 0)) HX1.out.z sizeCd rfl (by simp [Value.oneCell']) ?_)
    have hf := HX1.out.fin (0, 0)
    exact bodyPost_ret (results_E rfl _ _ (w.heap.size + 1) (0, 0) _ _ rfl rfl rfl hf.1) rfl ⟨fun h => absurd h HF.out, fun _ => ⟨_, rfl, HNIL.out _ HX1.out HO1.out, hf.2⟩⟩
  have d : decide (COk c) = true := by rw [decide_eq_true_eq]; exact hc
  have HCO : Hid (COk c) := hc
  rw [d]
  clear hc d
  go_wp2_with (fail)
  refine (voiceM_c _ zs w1 (HR0.out.below HX1.out.b)).mono ?_
  rintro e w2 ⟨rfl, b2⟩
  have HX2 : Hid (Bx2 w c w2) := HX1.out.call b2
  have HO2 : Hid (Ow .i64 3 g2 w2 (.slice (some ⟨g2, 0, none⟩) 0 0) []) := HO1.out.below b2
  obtain ⟨r, hr⟩ : ∃ r, (decide (zs.length ≤ 300) && lvB zs) = r := ⟨_, rfl⟩
  rw [hr]
  have HRR : Hid (r = true ↔ VP zs) := by show _ ↔ _; unfold VP; rw [hr]
  clear b2 hr HX1 HO1
  cases r with
  | false =>
    have HF : Hid (¬ (COk c ∧ VP zs)) := fun h => by have := HRR.out.2 h.2; cases this
    clear h3
    go_wp2_with (refine wpList_store_row rfl 25 _ _ rfl (w.heap.size + 1) _ rfl rfl 25 (cdA (0, 0)) HX2.out.z sizeCd rfl (by simp [Value.oneCell']) ?_)
    have hf := HX2.out.fin (0, 0)
    exact bodyPost_ret (results_E rfl _ _ (w.heap.size + 1) (0, 0) _ _ rfl rfl rfl hf.1) rfl ⟨fun h => absurd h HF.out, fun _ => ⟨_, rfl, HNIL.out _ HX2.out HO2.out, hf.2⟩⟩
  | true =>
  have HFR : Hid (VP zs) := HRR.out.1 rfl
  have hl3 := HFR.out.len
  clear HRR
  go_wp2
  go_loopw [7, 8] (fun vo i wr => ∃ j : Nat, ∃ v' : Value, j ≤ zs.length ∧ i = .int .i64 j ∧ v' = vo ∧ Hid (Bx2 w (sqE c (zs.take j)) wr ∧ Ow .i64 3 g2 wr v' (sqL c (zs.take j)))) (fun _ i _ => zs.length - (intOf i).toNat)
  case atStart => exact ⟨0, _, Nat.zero_le _, rfl, rfl, HX2.out, HO2.out⟩
  case round =>
    obtain ⟨j, vo, hj, rfl, hvo, hw⟩ := hrel
    subst hvo
    clear HX2 HO2
    by_cases hlt : j < zs.length
    case neg =>
      obtain rfl : j = zs.length := by omega
      rw [List.take_length] at hw
      have HY : Hid (Bx2 w (sqE c zs) wr) := hw.out.1
      have HO : Hid (Ow .i64 3 g2 wr vo (sqL c zs)) := hw.out.2
      clear h3 hw
      obtain ⟨S, hS⟩ : ∃ S : World → Prop, ∀ W, S W ↔ Blk W w.heap.size (cdA (sqE c zs)) 25 := ⟨_, fun _ => Iff.rfl⟩
      have y0 : ∀ W : At S, W.wd.cell? ⟨w.heap.size, 0, none⟩ = some (.int .i64 (sqE c zs).1) := fun W => by rw [((hS _).1 W.ok).cell 0]; rfl
      have y1 : ∀ W : At S, W.wd.cell? ⟨w.heap.size, 1, none⟩ = some (.int .i64 (sqE c zs).2) := fun W => by rw [((hS _).1 W.ok).cell 1]; rfl
      have HS : Hid (∀ W, S W ↔ Blk W w.heap.size (cdA (sqE c zs)) 25) := hS
      have ne : Nonempty (At S) := ⟨⟨wr, (hS _).2 HY.out.c⟩⟩
      clear hS
      go_wp2
      refine region_mixA [true, true, true, false, false] 3 0 S (by kernel_rfl) rfl (by kernel_rfl) (fun _ _ _ _ _ h => h) ((HS.out _).2 HY.out.c.drew) ?_
      simp only [selT, selF]
      try simp only [Act.put]
      repeat (go_big_quiet_step (fail))
      refine wpQuiet_nil ?_
      refine tail_end ?_
      have HYD : Bx2 w (sqE c zs) wr.drew := ⟨HY.out.c.drew, HY.out.z.drew, HY.out.b.drew⟩
      have hf := HYD.fin (sqE c zs)
      have HFF : Hid (Blk (wr.drew.setRow (w.heap.size + 1) (cdA (sqE c zs))) (w.heap.size + 1) (cdA (sqE c zs)) 25 ∧ Below w.heap.size w (wr.drew.setRow (w.heap.size + 1) (cdA (sqE c zs)))) := hf
      have HOF : Hid (Ow .i64 3 g2 (wr.drew.setRow (w.heap.size + 1) (cdA (sqE c zs))) vo (sqL c zs)) := Ow.putRow (show Ow .i64 3 g2 wr.drew _ _ from HO.out.below (Below.refl _ _).drew) (by have := HGE.out; omega)
      clear hf HYD y0 y1
      go_wp2_with (refine wpList_store_row rfl 25 _ _ rfl (w.heap.size + 1) _ rfl rfl 25 (cdA (0, 0)) HY.out.z.drew sizeCd rfl (by simp [Value.oneCell']) ?_)
      exact bodyPost_ret (results_E rfl _ _ (w.heap.size + 1) (sqE c zs) _ _ rfl rfl rfl HFF.out.1) rfl ⟨fun _ => ⟨_, rfl, HOF.out.mono (by have := HGE.out; omega), HFF.out.2⟩, fun h => absurd ⟨HCO.out, HFR.out⟩ h⟩
    case pos =>
    rcases h3 with h3 | ⟨b, off, rfl, h4⟩
    · subst h3; simp at hlt
    obtain ⟨x, hx⟩ : ∃ x, zs[j] = x := ⟨_, rfl⟩
    have HLV : Hid (-32767 ≤ x ∧ x ≤ 32767) := by rw [← hx]; exact HFR.out.at j hlt
    have HC : Hid (∀ W, Below w.heap.size w W → W.cell? ⟨b, off + j, none⟩ = some (.int .i64 x)) := fun W hW => by
      have := h4 j hlt
      rw [hW.cell (block_lt_of_cell this), this]
      simp [List.getElem?_eq_getElem hlt, hx]
    obtain ⟨dd, hdd⟩ : ∃ d, sqE c (zs.take j) = d := ⟨_, rfl⟩
    have HOK : Hid (COk dd) := by rw [← hdd]; exact sqE_ok HCO.out _
    have hnb := sqN_bd dd x (ssF_bd HOK.out.2).1
    obtain ⟨m, hm⟩ : ∃ m : Nat, sqN dd x = (m : Int) := Int.eq_ofNat_of_zero_le hnb.1
    have HM15 : Hid (m ≤ 15) := by show _ ≤ _; omega
    have HNX : Hid (sqE c (zs.take (j + 1)) = nxF dd m) := by show _ = _; rw [sqE_take c zs j hlt, hdd, hx, hm]
    have HEX : Hid (sqL c (zs.take (j + 1)) = sqL c (zs.take j) ++ [(m : Int)]) := by
      show _ = _
      have hdd' : cdE c (sqL c (zs.take j)) = dd := hdd
      rw [sqL_take c zs j hlt, hdd', hx, hm]
    rw [hdd] at hw
    have HXW : Hid (Bx2 w dd wr) := hw.out.1
    have HOW : Hid (Ow .i64 3 g2 wr vo (sqL c (zs.take j))) := hw.out.2
    have hel : (sqL c (zs.take j)).length = j := by rw [sqL_len]; simp; omega
    have HEL : Hid ((sqL c (zs.take j)).length = j) := hel
    have hi1 : (0 : Int) ≤ (j : Int) := by omega
    have hi2 : (j : Int) < (zs.length : Int) := by omega
    obtain ⟨s, hs⟩ : ∃ s, ssF dd.2 = s := ⟨_, rfl⟩
    have hsb := ssF_bd HOK.out.2
    rw [hs] at hsb
    obtain ⟨s7, s2⟩ := hsb
    have HSZ : Hid (ssF dd.2 = s) := hs
    have hdb := HOK.out.1
    obtain ⟨d0, d1⟩ := hdb
    obtain ⟨l0, l1⟩ := HLV.out
    obtain ⟨ab, hab⟩ : ∃ a, abI (x - dd.1) = a := ⟨_, rfl⟩
    have HAB : Hid (abI (x - dd.1) = ab) := hab
    have hab0 : 0 ≤ ab := by rw [← hab]; unfold abI; split <;> omega
    have hab1 : ab ≤ 65534 := by rw [← hab]; unfold abI; split <;> omega
    obtain ⟨y, hy⟩ : ∃ y, 4 * ab / s = y := ⟨_, rfl⟩
    have hy0 : 0 ≤ y := by rw [← hy]; exact Int.ediv_nonneg (by omega) (by omega)
    have hy1 : y ≤ 300000 := by rw [← hy]; exact Int.le_trans (Int.ediv_le_self _ (by omega)) (by omega)
    have HY : Hid (4 * ab / s = y) := hy
    have HQ : Hid ((m : Int) = (if x - dd.1 < 0 then 8 else 0) + (if 7 < y then 7 else y)) := by show _ = _; rw [← hm, ← hy, ← hab, ← hs]; rfl
    have ea0 := HXW.out.c.cell 0
    have ea1 := HXW.out.c.cell 1
    have ea2 := HC.out wr HXW.out.b
    simp at ea0 ea1
    have sne : ¬ s = 0 := by omega
    clear h4 hw hdd hm hx hnb hs hab hy hel
    go_wp2
    go_quiet (fail)
    obtain ⟨W0, hW0⟩ : ∃ W, wr.drewN nq = W := ⟨_, rfl⟩
    rw [hW0]
    have b0 : Below wr.heap.size wr W0 := by rw [← hW0]; exact below_drewN (Below.refl _ _) nq
    have X0 := HXW.out.call b0
    have HX0 : Hid (Bx2 w dd W0) := X0
    have HO0 : Hid (Ow .i64 3 g2 W0 vo (sqL c (zs.take j))) := HOW.out.below b0
    have y1 : ∀ W : Ov W0, W.wd.cell? ⟨w.heap.size, 1, none⟩ = some (.int .i64 dd.2) := ov_cell (by rw [X0.c.cell 1]; rfl)
    have HC1 : Hid (∀ W : Ov W0, Calls Tryd.prog 63 #[.int .i64 (x - dd.1)] W.wd fun e w'' => e = .returned (.int .i64 ab) ∧ ∃ W' : Ov W0, w'' = W'.wd) := fun W => (absM_c (x - dd.1) (by omega) (by omega) W.wd).mono fun e w' ⟨he, hw⟩ => ⟨by rw [he, HAB.out], W, hw⟩
    have HC2 : Hid (∀ W : Ov W0, Calls Tryd.prog 64 #[.int .i64 dd.2] W.wd fun e w'' => e = .returned (.int .i64 s) ∧ ∃ W' : Ov W0, w'' = W'.wd) := fun W => (stepM_c dd.2 W.wd).mono fun e w' ⟨he, hw⟩ => ⟨by rw [he, HSZ.out], W, hw⟩
    have ne : Nonempty (Ov W0) := ⟨⟨_, Below.refl _ _⟩⟩
    clear hW0 b0 X0 ea0 ea1 ea2 HXW HOW
    go_wp2
    refine region_over (by kernel_rfl) (by kernel_rfl) ?_
    try simp only [Act.put]
    repeat (go_big_quiet_step (first | (go_at_call 63; exact HC1.out _) | (go_at_call 64; exact HC2.out _)))
    refine wpQuiet_nil ?_
    rintro _ ⟨W, rfl⟩
    rw [HY.out]
    have X1 := HX0.out.call W.ok
    have HX1 : Hid (Bx2 w dd W.wd) := X1
    have HO1 : Hid (Ow .i64 3 g2 W.wd vo (sqL c (zs.take j))) := HO0.out.below W.ok
    have HG1 : Hid (g2 ≤ W.wd.heap.size) := by have h6 := X1.ge; have := HGE.out; show _ ≤ _; omega
    clear HC1 HC2 y1 X1 HX0 HO0 ne
    by_cases c7 : 7 < y
    · by_cases c8 : x - dd.1 < 0
      · have HQE : Hid ((m : Int) = 15) := by show _ = _; rw [HQ.out, if_pos c7, if_pos c8]; rfl
        go_wp2_with (at_builtin; refine appI rfl (.tmp 48) (.tmp 50) rfl g2 _ (sqL c (zs.take j)) rfl (HO1.out.alloc _) W.wd.heap.size (15) rfl (by simp) (by have := HEL.out; omega) (by have := HG1.out; simp; omega) ?_)
        intro v6 w6 ho hb
        have hge := HGE.out
        have X6 : Bx2 w dd w6 := ⟨(HX1.out.c.alloc _).below hb (by omega), (HX1.out.z.alloc _).below hb (by omega), (HX1.out.b.alloc (Nat.le_trans (by omega) HX1.out.ge) _).trans (hb.mono (by omega))⟩
        have HX6 : Hid (Bx2 w dd w6) := X6
        have HO6 : Hid (Ow .i64 3 g2 w6 v6 (sqL c (zs.take j) ++ [15])) := ho
        have q0 := X6.c.cell 0
        have q1 := X6.c.cell 1
        simp at q0 q1
        have hn := nextM_c dd HOK.out m HM15.out w6
        rw [HQE.out] at hn
        have HN : Hid (Calls Tryd.prog 65 #[.agg (cdA dd), .int .i64 (15)] w6 fun e w' => e = .returned (.agg (cdA (nxF dd (15)))) ∧ Below w6.heap.size w6 w') := hn
        clear ho hb X6 hge hn
        go_wp2_with (fail)
        refine Calls.mono HN.out ?_
        rintro e w7 ⟨rfl, b7⟩
        have X7 := HX6.out.call b7
        have HK7 : Hid (Blk w7 w.heap.size (cdA dd) 25) := X7.c
        have X8 := X7.put (nxF dd (15))
        have HFIN : Hid (Bx2 w (sqE c (zs.take (j + 1))) (w7.setRow w.heap.size (cdA (nxF dd (15)))) ∧ Ow .i64 3 g2 (w7.setRow w.heap.size (cdA (nxF dd (15)))) v6 (sqL c (zs.take (j + 1)))) := by
          rw [HNX.out, HEX.out, HQE.out]
          exact ⟨X8, Ow.putRow (HO6.out.below b7) (by have := HGE.out; omega)⟩
        clear b7 X7 X8 q0 q1 HN
        go_wp2_with (refine wpList_store_row rfl 25 _ _ rfl w.heap.size _ rfl rfl 25 (cdA dd) HK7.out sizeCd rfl (by simp [Value.oneCell']) ?_)
        go_roundw
        case rel => exact ⟨j + 1, _, by omega, by go_num, rfl, HFIN.out⟩
        case measure => simp [intOf]; omega
      · have HQE : Hid ((m : Int) = 7) := by show _ = _; rw [HQ.out, if_pos c7, if_neg c8]; rfl
        have d8 : decide (x - dd.1 < 0) = false := by simp only [decide_eq_false_iff_not]; exact c8
        clear c8
        go_wp2_with (at_builtin; refine appI rfl (.tmp 48) (.tmp 50) rfl g2 _ (sqL c (zs.take j)) rfl (HO1.out.alloc _) W.wd.heap.size (7) rfl (by simp) (by have := HEL.out; omega) (by have := HG1.out; simp; omega) ?_)
        intro v6 w6 ho hb
        have hge := HGE.out
        have X6 : Bx2 w dd w6 := ⟨(HX1.out.c.alloc _).below hb (by omega), (HX1.out.z.alloc _).below hb (by omega), (HX1.out.b.alloc (Nat.le_trans (by omega) HX1.out.ge) _).trans (hb.mono (by omega))⟩
        have HX6 : Hid (Bx2 w dd w6) := X6
        have HO6 : Hid (Ow .i64 3 g2 w6 v6 (sqL c (zs.take j) ++ [7])) := ho
        have q0 := X6.c.cell 0
        have q1 := X6.c.cell 1
        simp at q0 q1
        have hn := nextM_c dd HOK.out m HM15.out w6
        rw [HQE.out] at hn
        have HN : Hid (Calls Tryd.prog 65 #[.agg (cdA dd), .int .i64 (7)] w6 fun e w' => e = .returned (.agg (cdA (nxF dd (7)))) ∧ Below w6.heap.size w6 w') := hn
        clear ho hb X6 hge hn
        go_wp2_with (fail)
        refine Calls.mono HN.out ?_
        rintro e w7 ⟨rfl, b7⟩
        have X7 := HX6.out.call b7
        have HK7 : Hid (Blk w7 w.heap.size (cdA dd) 25) := X7.c
        have X8 := X7.put (nxF dd (7))
        have HFIN : Hid (Bx2 w (sqE c (zs.take (j + 1))) (w7.setRow w.heap.size (cdA (nxF dd (7)))) ∧ Ow .i64 3 g2 (w7.setRow w.heap.size (cdA (nxF dd (7)))) v6 (sqL c (zs.take (j + 1)))) := by
          rw [HNX.out, HEX.out, HQE.out]
          exact ⟨X8, Ow.putRow (HO6.out.below b7) (by have := HGE.out; omega)⟩
        clear b7 X7 X8 q0 q1 HN
        go_wp2_with (refine wpList_store_row rfl 25 _ _ rfl w.heap.size _ rfl rfl 25 (cdA dd) HK7.out sizeCd rfl (by simp [Value.oneCell']) ?_)
        go_roundw
        case rel => exact ⟨j + 1, _, by omega, by go_num, rfl, HFIN.out⟩
        case measure => simp [intOf]; omega
    · have d7 : decide (7 < y) = false := by simp only [decide_eq_false_iff_not]; exact c7
      by_cases c8 : x - dd.1 < 0
      · have HQE : Hid ((m : Int) = y + 8) := by show _ = _; rw [HQ.out, if_neg c7, if_pos c8]; omega
        clear c7
        go_wp2_with (at_builtin; refine appI rfl (.tmp 48) (.tmp 50) rfl g2 _ (sqL c (zs.take j)) rfl (HO1.out.alloc _) W.wd.heap.size (y + 8) rfl (by simp) (by have := HEL.out; omega) (by have := HG1.out; simp; omega) ?_)
        intro v6 w6 ho hb
        have hge := HGE.out
        have X6 : Bx2 w dd w6 := ⟨(HX1.out.c.alloc _).below hb (by omega), (HX1.out.z.alloc _).below hb (by omega), (HX1.out.b.alloc (Nat.le_trans (by omega) HX1.out.ge) _).trans (hb.mono (by omega))⟩
        have HX6 : Hid (Bx2 w dd w6) := X6
        have HO6 : Hid (Ow .i64 3 g2 w6 v6 (sqL c (zs.take j) ++ [y + 8])) := ho
        have q0 := X6.c.cell 0
        have q1 := X6.c.cell 1
        simp at q0 q1
        have hn := nextM_c dd HOK.out m HM15.out w6
        rw [HQE.out] at hn
        have HN : Hid (Calls Tryd.prog 65 #[.agg (cdA dd), .int .i64 (y + 8)] w6 fun e w' => e = .returned (.agg (cdA (nxF dd (y + 8)))) ∧ Below w6.heap.size w6 w') := hn
        clear ho hb X6 hge hn
        go_wp2_with (fail)
        refine Calls.mono HN.out ?_
        rintro e w7 ⟨rfl, b7⟩
        have X7 := HX6.out.call b7
        have HK7 : Hid (Blk w7 w.heap.size (cdA dd) 25) := X7.c
        have X8 := X7.put (nxF dd (y + 8))
        have HFIN : Hid (Bx2 w (sqE c (zs.take (j + 1))) (w7.setRow w.heap.size (cdA (nxF dd (y + 8)))) ∧ Ow .i64 3 g2 (w7.setRow w.heap.size (cdA (nxF dd (y + 8)))) v6 (sqL c (zs.take (j + 1)))) := by
          rw [HNX.out, HEX.out, HQE.out]
          exact ⟨X8, Ow.putRow (HO6.out.below b7) (by have := HGE.out; omega)⟩
        clear b7 X7 X8 q0 q1 HN
        go_wp2_with (refine wpList_store_row rfl 25 _ _ rfl w.heap.size _ rfl rfl 25 (cdA dd) HK7.out sizeCd rfl (by simp [Value.oneCell']) ?_)
        go_roundw
        case rel => exact ⟨j + 1, _, by omega, by go_num, rfl, HFIN.out⟩
        case measure => simp [intOf]; omega
      · have HQE : Hid ((m : Int) = y) := by show _ = _; rw [HQ.out, if_neg c7, if_neg c8]; omega
        have d8 : decide (x - dd.1 < 0) = false := by simp only [decide_eq_false_iff_not]; exact c8
        clear c8 c7
        go_wp2_with (at_builtin; refine appI rfl (.tmp 48) (.tmp 50) rfl g2 _ (sqL c (zs.take j)) rfl (HO1.out.alloc _) W.wd.heap.size (y) rfl (by simp) (by have := HEL.out; omega) (by have := HG1.out; simp; omega) ?_)
        intro v6 w6 ho hb
        have hge := HGE.out
        have X6 : Bx2 w dd w6 := ⟨(HX1.out.c.alloc _).below hb (by omega), (HX1.out.z.alloc _).below hb (by omega), (HX1.out.b.alloc (Nat.le_trans (by omega) HX1.out.ge) _).trans (hb.mono (by omega))⟩
        have HX6 : Hid (Bx2 w dd w6) := X6
        have HO6 : Hid (Ow .i64 3 g2 w6 v6 (sqL c (zs.take j) ++ [y])) := ho
        have q0 := X6.c.cell 0
        have q1 := X6.c.cell 1
        simp at q0 q1
        have hn := nextM_c dd HOK.out m HM15.out w6
        rw [HQE.out] at hn
        have HN : Hid (Calls Tryd.prog 65 #[.agg (cdA dd), .int .i64 (y)] w6 fun e w' => e = .returned (.agg (cdA (nxF dd (y)))) ∧ Below w6.heap.size w6 w') := hn
        clear ho hb X6 hge hn
        go_wp2_with (fail)
        refine Calls.mono HN.out ?_
        rintro e w7 ⟨rfl, b7⟩
        have X7 := HX6.out.call b7
        have HK7 : Hid (Blk w7 w.heap.size (cdA dd) 25) := X7.c
        have X8 := X7.put (nxF dd (y))
        have HFIN : Hid (Bx2 w (sqE c (zs.take (j + 1))) (w7.setRow w.heap.size (cdA (nxF dd (y)))) ∧ Ow .i64 3 g2 (w7.setRow w.heap.size (cdA (nxF dd (y)))) v6 (sqL c (zs.take (j + 1)))) := by
          rw [HNX.out, HEX.out, HQE.out]
          exact ⟨X8, Ow.putRow (HO6.out.below b7) (by have := HGE.out; omega)⟩
        clear b7 X7 X8 q0 q1 HN
        go_wp2_with (refine wpList_store_row rfl 25 _ _ rfl w.heap.size _ rfl rfl 25 (cdA dd) HK7.out sizeCd rfl (by simp [Value.oneCell']) ?_)
        go_roundw
        case rel => exact ⟨j + 1, _, by omega, by go_num, rfl, HFIN.out⟩
        case measure => simp [intOf]; omega

end Go.Proofs.YtkjfcebdjnclaaaDoor

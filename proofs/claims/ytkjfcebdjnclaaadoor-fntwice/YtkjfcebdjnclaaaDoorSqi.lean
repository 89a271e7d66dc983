/- The program: levels squeezed to numbers of four bits; the table is as it was laid. -/
import Derived.Test.YtkjfcebdjnclaaaDoorExi
namespace Go.Proofs.YtkjfcebdjnclaaaDoor
open Go.RowKit Go.ChangeShapes Go.WideShapes Go.ChangeAt
set_option linter.unusedVariables false
set_option linter.unusedSimpArgs false
set_option maxRecDepth 8000

/-- levels that are right -/
def VP (zs : List Int) : Prop := (decide (zs.length ≤ 300) && lvB zs) = true
theorem VP.len {zs : List Int} (h : VP zs) : zs.length ≤ 300 := by unfold VP at h; simp at h; exact h.1
theorem VP.at {zs : List Int} (h : VP zs) (j : Nat) (hj : j < zs.length) : -32767 ≤ zs[j] ∧ zs[j] ≤ 32767 := by
  unfold VP at h
  rw [Bool.and_eq_true] at h
  have h2 := h.2
  unfold lvB at h2
  rw [List.all_eq_true] at h2
  simpa using h2 _ (List.getElem_mem hj)
/-- the coder behind levels -/
def sqE (c : Int × Int) (zs : List Int) : Int × Int := cdE c (sqL c zs)
theorem sqE_take (c : Int × Int) (zs : List Int) (j : Nat) (hj : j < zs.length) : sqE c (zs.take (j + 1)) = nxF (sqE c (zs.take j)) (sqN (sqE c (zs.take j)) zs[j]) := by
  unfold sqE; rw [sqL_take c zs j hj, cdE_app]
theorem sqE_ok {c : Int × Int} (h : COk c) (zs : List Int) : COk (sqE c zs) := cdE_ok _ h

set_option maxHeartbeats 6400000 in
theorem sqzI_c (c : Int × Int) (v : Value) (zs : List Int) (w : World) (h : Rd .i64 w v zs) (hG : ChG w) :
    Calls Tryd.prog 16 #[.agg (cdA c), v] w fun e w' => (COk c ∧ VP zs → CdR (sqL c zs) (sqE c zs) true w e w') ∧ (¬ (COk c ∧ VP zs) → CdR [] (0, 0) false w e w') := by
  have HR0 : Hid (Rd .i64 w v zs) := h
  have HG : Hid (ChG w) := hG
  obtain ⟨a, cap, rfl, h1, h2, h3⟩ := h
  unfold maxLen at h2
  obtain ⟨i0, hi, hz0, hz1, hz2⟩ := info_parts toIInfo
  obtain ⟨W1, hW1⟩ : ∃ W, (w.alloc (Obj.cells (cdA c) 25)).alloc (Obj.cells (cdA (0, 0)) 25) = W := ⟨_, rfl⟩
  have HX : Hid (Bx2 w c W1) := by rw [← hW1]; exact Bx2.new w c
  have x0 := HX.out.c.cell 0
  have x1 := HX.out.c.cell 1
  simp at x0 x1
  go_enter Tryd.func16, Tryd.ntmps16
  go_wp2_with (fail)
  refine (cdI_c c W1).mono ?_
  rintro e w1 ⟨rfl, b1⟩
  have HX1 : Hid (Bx2 w c w1) := HX.out.call b1
  clear b1 x0 x1 hW1 HX
  by_cases hc : COk c
  case neg =>
    have d : decide (COk c) = false := by rw [decide_eq_false_iff_not]; exact hc
    have HF : Hid (¬ (COk c ∧ VP zs)) := fun h => hc h.1
    rw [d]
    clear hc d h3
    go_wp2_with (refine wpList_store_row rfl 25 _ _ rfl (w.heap.size + 1) _ rfl rfl 25 (cdA (0, 0)) HX1.out.z sizeCd rfl (by simp [Value.oneCell']) ?_)
    have hf := HX1.out.fin (0, 0)
    exact bodyPost_ret (results_E rfl _ _ (w.heap.size + 1) (0, 0) _ _ rfl rfl rfl hf.1) rfl ⟨fun h => absurd h HF.out, fun _ => ⟨_, rfl, Ow.nil _ _ _ _, hf.2⟩⟩
  have d : decide (COk c) = true := by rw [decide_eq_true_eq]; exact hc
  have HCO : Hid (COk c) := hc
  rw [d]
  clear hc d
  go_wp2_with (fail)
  refine (voiceI_c _ zs w1 (HR0.out.below HX1.out.b)).mono ?_
  rintro e w2 ⟨rfl, b2⟩
  have HX2 : Hid (Bx2 w c w2) := HX1.out.call b2
  obtain ⟨r, hr⟩ : ∃ r, (decide (zs.length ≤ 300) && lvB zs) = r := ⟨_, rfl⟩
  rw [hr]
  have HRR : Hid (r = true ↔ VP zs) := by show _ ↔ _; unfold VP; rw [hr]
  clear b2 hr HX1
  cases r with
  | false =>
    have HF : Hid (¬ (COk c ∧ VP zs)) := fun h => by have := HRR.out.2 h.2; cases this
    clear h3
    go_wp2_with (refine wpList_store_row rfl 25 _ _ rfl (w.heap.size + 1) _ rfl rfl 25 (cdA (0, 0)) HX2.out.z sizeCd rfl (by simp [Value.oneCell']) ?_)
    have hf := HX2.out.fin (0, 0)
    exact bodyPost_ret (results_E rfl _ _ (w.heap.size + 1) (0, 0) _ _ rfl rfl rfl hf.1) rfl ⟨fun h => absurd h HF.out, fun _ => ⟨_, rfl, Ow.nil _ _ _ _, hf.2⟩⟩
  | true =>
  have HFR : Hid (VP zs) := HRR.out.1 rfl
  have hl3 := HFR.out.len
  clear HRR
  go_wp2_with (at_make; refine wpList_make_full _ rfl _ _ 26 rfl w2.heap.size 3 i0 (.int .i64 0) 1 Tryd.underlying26 hi hz0 hz1 .i64 .i64 _ _ zs.length rfl rfl rfl rfl (by rw [hz2]; omega) (by unfold maxLen; omega) (Nat.le_refl _) ?_)
  intro w3 ho hg
  have hx : (madeCells #[Value.int .i64 0] zs.length).toList = (mz (sqL c (zs.take 0)) zs.length 0).map (Value.int .i64) := by
    rw [toList_madeCells_one]; simp [mz, sqL]
  rw [hx] at ho
  have b3 : Below w2.heap.size w2 w3 := grown_below hg (Nat.le_refl _) (by simp)
  have HX3 : Hid (Bx2 w c w3) := HX2.out.call b3
  have HO3 : Hid (w3.ownsRow w2.heap.size 3 1 (.slice (some ⟨w2.heap.size, 0, none⟩) zs.length zs.length) zs.length ((mz (sqL c (zs.take 0)) zs.length 0).map (Value.int .i64))) := ho
  have HGE : Hid (w.heap.size + 2 ≤ w2.heap.size) := HX2.out.ge
  obtain ⟨g2, hg2⟩ : ∃ g, w2.heap.size = g := ⟨_, rfl⟩
  rw [hg2] at HO3 HGE ⊢
  clear hx hg ho b3 HX2 hg2
  go_wp2
  go_loopw [24] (fun i wr => ∃ j : Nat, j ≤ zs.length ∧ i = .int .i64 j ∧ Hid (Bx2 w (sqE c (zs.take j)) wr ∧ wr.ownsRow g2 3 1 (.slice (some ⟨g2, 0, none⟩) zs.length zs.length) zs.length ((mz (sqL c (zs.take j)) zs.length j).map (Value.int .i64)))) (fun i _ => zs.length - (intOf i).toNat)
  case atStart => exact ⟨0, Nat.zero_le _, rfl, HX3.out, HO3.out⟩
  case round =>
    obtain ⟨j, hj, rfl, hw⟩ := hrel
    clear HX3 HO3
    by_cases hlt : j < zs.length
    case neg =>
      obtain rfl : j = zs.length := by omega
      rw [List.take_length] at hw
      have HY : Hid (Bx2 w (sqE c zs) wr) := hw.out.1
      have HO : Hid (Ow .i64 3 g2 wr (.slice (some ⟨g2, 0, none⟩) zs.length zs.length) (sqL c zs)) := by
        have := hw.out.2
        simp only [mz, Nat.sub_self, List.replicate_zero, List.append_nil] at this
        show Ow _ _ _ _ _ _
        rw [Ow, sqL_len]; exact this
      clear h3 hw
      obtain ⟨S, hS⟩ : ∃ S : World → Prop, ∀ W, S W ↔ Blk W w.heap.size (cdA (sqE c zs)) 25 := ⟨_, fun _ => Iff.rfl⟩
      have y0 : ∀ W : At S, W.wd.cell? ⟨w.heap.size, 0, none⟩ = some (.int .i64 (sqE c zs).1) := fun W => by rw [((hS _).1 W.ok).cell 0]; rfl
      have y1 : ∀ W : At S, W.wd.cell? ⟨w.heap.size, 1, none⟩ = some (.int .i64 (sqE c zs).2) := fun W => by rw [((hS _).1 W.ok).cell 1]; rfl
      have HS : Hid (∀ W, S W ↔ Blk W w.heap.size (cdA (sqE c zs)) 25) := hS
      have ne : Nonempty (At S) := ⟨⟨wr, (hS _).2 HY.out.c⟩⟩
      clear hS
      go_wp2
      refine region_mixA [true, true, true, false, false] 3 0 S (by kernel_rfl) rfl (by kernel_rfl) (fun _ _ _ _ _ h => h) ((HS.out _).2 HY.out.c.drew) ?_
      simp only [selT, selF]
      try simp only [Act.put]
      repeat (go_big_quiet_step (fail))
      refine wpQuiet_nil ?_
      refine tail_end ?_
      have HYD : Bx2 w (sqE c zs) wr.drew := ⟨HY.out.c.drew, HY.out.z.drew, HY.out.b.drew⟩
      have hf := HYD.fin (sqE c zs)
      have HFF : Hid (Blk (wr.drew.setRow (w.heap.size + 1) (cdA (sqE c zs))) (w.heap.size + 1) (cdA (sqE c zs)) 25 ∧ Below w.heap.size w (wr.drew.setRow (w.heap.size + 1) (cdA (sqE c zs)))) := hf
      have HOF : Hid (Ow .i64 3 g2 (wr.drew.setRow (w.heap.size + 1) (cdA (sqE c zs))) (.slice (some ⟨g2, 0, none⟩) zs.length zs.length) (sqL c zs)) := Ow.putRow (show Ow .i64 3 g2 wr.drew _ _ from HO.out.below (Below.refl _ _).drew) (by have := HGE.out; omega)
      clear hf HYD y0 y1
      go_wp2_with (refine wpList_store_row rfl 25 _ _ rfl (w.heap.size + 1) _ rfl rfl 25 (cdA (0, 0)) HY.out.z.drew sizeCd rfl (by simp [Value.oneCell']) ?_)
      exact bodyPost_ret (results_E rfl _ _ (w.heap.size + 1) (sqE c zs) _ _ rfl rfl rfl HFF.out.1) rfl ⟨fun _ => ⟨_, rfl, HOF.out.mono (by have := HGE.out; omega), HFF.out.2⟩, fun h => absurd ⟨HCO.out, HFR.out⟩ h⟩
    case pos =>
    rcases h3 with h3 | ⟨b, off, rfl, h4⟩
    · subst h3; simp at hlt
    obtain ⟨x, hx⟩ : ∃ x, zs[j] = x := ⟨_, rfl⟩
    have HLV : Hid (-32767 ≤ x ∧ x ≤ 32767) := by rw [← hx]; exact HFR.out.at j hlt
    have hc : wr.cell? ⟨b, off + j, none⟩ = some (.int .i64 x) := by
      have := h4 j hlt
      rw [hw.out.1.b.cell (block_lt_of_cell this), this]
      simp [List.getElem?_eq_getElem hlt, hx]
    obtain ⟨dd, hdd⟩ : ∃ d, sqE c (zs.take j) = d := ⟨_, rfl⟩
    have HOK : Hid (COk dd) := by rw [← hdd]; exact sqE_ok HCO.out _
    have hnb := sqN_bd dd x (ssF_bd HOK.out.2).1
    obtain ⟨m, hm⟩ : ∃ m : Nat, sqN dd x = (m : Int) := Int.eq_ofNat_of_zero_le hnb.1
    have HM15 : Hid (m ≤ 15) := by show _ ≤ _; omega
    have HSQ : Hid (sqN dd x = (m : Int)) := hm
    have HNX : Hid (sqE c (zs.take (j + 1)) = nxF dd m) := by show _ = _; rw [sqE_take c zs j hlt, hdd, hx, hm]
    have HEX : Hid (sqL c (zs.take (j + 1)) = sqL c (zs.take j) ++ [(m : Int)]) := by
      show _ = _
      have hdd' : cdE c (sqL c (zs.take j)) = dd := hdd
      rw [sqL_take c zs j hlt, hdd', hx, hm]
    rw [hdd] at hw
    have HXW : Hid (Bx2 w dd wr) := hw.out.1
    have hOW := hw.out.2
    have hel : (sqL c (zs.take j)).length = j := by rw [sqL_len]; simp; omega
    have HEL : Hid ((sqL c (zs.take j)).length = j) := hel
    have x0 := HXW.out.c.cell 0
    have x1 := HXW.out.c.cell 1
    simp at x0 x1
    have hi1 : (0 : Int) ≤ (j : Int) := by omega
    have hi2 : (j : Int) < (zs.length : Int) := by omega
    have HOW : Hid (wr.ownsRow g2 3 1 (.slice (some ⟨g2, 0, none⟩) zs.length zs.length) zs.length ((mz (sqL c (zs.take j)) zs.length j).map (Value.int .i64))) := hOW
    have HRC : Hid (∀ W, Below w.heap.size w W → True) := fun _ _ => trivial
    clear h4 hw hdd hm hOW hx hnb HRC
    go_wp2_with (fail)
    refine (sqI_c dd HOK.out x HLV.out wr).mono ?_
    rintro e w4 ⟨rfl, b4⟩
    rw [HSQ.out]
    have X4 := HXW.out.call b4
    have o4 : w4.ownsRow g2 3 1 (.slice (some ⟨g2, 0, none⟩) zs.length zs.length) zs.length ((mz (sqL c (zs.take j)) zs.length j).map (Value.int .i64)) := World.ownsRow.kept (row := none) HOW.out ⟨b4.os, b4.tape, b4.output, b4.size, fun i hi _ => b4.block i hi⟩ (by simp [Value.ownBlock])
    obtain ⟨u, hd⟩ : ∃ u, w4.cell? ⟨g2, j, none⟩ = some u := by
      rw [o4.cellAt j (by omega)]
      exact ⟨_, List.getElem?_eq_getElem (by simp [mz_len _ _ _ hel hj]; exact hlt)⟩
    have hf := o4.frozenAt j
    have hs := (o4.stored j (.int .i64 (m : Int))).1
    rw [← List.map_set, mz_set _ _ _ _ hel hlt, ← HEX.out] at hs
    obtain ⟨W5, hW5⟩ : ∃ W, w4.setCell ⟨g2, j, none⟩ (.int .i64 (m : Int)) = W := ⟨_, rfl⟩
    have X5 : Bx2 w dd W5 := by rw [← hW5]; exact X4.set g2 j _ HGE.out
    have HX5 : Hid (Bx2 w dd W5) := X5
    rw [hW5] at hs
    have HO5 : Hid (W5.ownsRow g2 3 1 (.slice (some ⟨g2, 0, none⟩) zs.length zs.length) zs.length ((mz (sqL c (zs.take (j + 1))) zs.length (j + 1)).map (Value.int .i64))) := hs
    have HW5 : Hid (w4.setCell ⟨g2, j, none⟩ (.int .i64 (m : Int)) = W5) := hW5
    obtain ⟨S, hS⟩ : ∃ S : World → Prop, ∀ W, S W ↔ Below W5.heap.size W5 W := ⟨_, fun _ => Iff.rfl⟩
    have y0 : ∀ W : At S, W.wd.cell? ⟨w.heap.size, 0, none⟩ = some (.int .i64 dd.1) := fun W => by rw [(HX5.out.call ((hS _).1 W.ok)).c.cell 0]; rfl
    have y1 : ∀ W : At S, W.wd.cell? ⟨w.heap.size, 1, none⟩ = some (.int .i64 dd.2) := fun W => by rw [(HX5.out.call ((hS _).1 W.ok)).c.cell 1]; rfl
    have y2 : ∀ W : At S, W.wd.cell? ⟨g2, j, none⟩ = some (.int .i64 (m : Int)) := fun W => by
      have o6 : W.wd.ownsRow g2 3 1 (.slice (some ⟨g2, 0, none⟩) zs.length zs.length) zs.length ((mz (sqL c (zs.take (j + 1))) zs.length (j + 1)).map (Value.int .i64)) := by
        have b6 := (hS _).1 W.ok
        exact World.ownsRow.kept (row := none) HO5.out ⟨b6.os, b6.tape, b6.output, b6.size, fun i hi _ => b6.block i hi⟩ (by simp [Value.ownBlock])
      rw [o6.cellAt j (by omega)]
      have hel' := HEL.out
      simp [mz, HEX.out, List.getElem?_append, hel']
    have HS : Hid (∀ W, S W ↔ Below W5.heap.size W5 W) := hS
    have ne : Nonempty (At S) := ⟨⟨W5, (hS _).2 (Below.refl _ _)⟩⟩
    clear hS hs o4 X4 X5 b4 hW5 hel HOW HXW x0 x1 hc
    go_wp2_with (first | rw [HW5.out])
    refine region_mixA [true, true, true, true, true, false, false] 6 1 S (by kernel_rfl) rfl (by kernel_rfl) (fun _ _ _ _ _ h => h) ((HS.out _).2 (Below.refl _ _).drew) ?_
    simp only [selT, selF]
    try simp only [Act.put]
    repeat (go_big_quiet_step (fail))
    refine wpQuiet_nil ?_
    refine tail_step ?_
    go_wp2_with (fail)
    refine (behindI_c dd HOK.out m HM15.out W5.drew (HG.out.below HX5.out.b.drew HG.out.lt)).mono ?_
    rintro e w6 ⟨rfl, b6⟩
    have B6 : Below W5.heap.size W5 w6 := (Below.refl _ _).drew.trans b6
    have HB6 : Hid (Below W5.heap.size W5 w6) := B6
    have X6 := HX5.out.call B6
    have HK6 : Hid (Blk w6 w.heap.size (cdA dd) 25) := X6.c
    have X7 := X6.put (nxF dd m)
    have o6 : w6.ownsRow g2 3 1 (.slice (some ⟨g2, 0, none⟩) zs.length zs.length) zs.length ((mz (sqL c (zs.take (j + 1))) zs.length (j + 1)).map (Value.int .i64)) := World.ownsRow.kept (row := none) HO5.out ⟨B6.os, B6.tape, B6.output, B6.size, fun i hi _ => B6.block i hi⟩ (by simp [Value.ownBlock])
    have o7 : (w6.setRow w.heap.size (cdA (nxF dd m))).ownsRow g2 3 1 (.slice (some ⟨g2, 0, none⟩) zs.length zs.length) zs.length ((mz (sqL c (zs.take (j + 1))) zs.length (j + 1)).map (Value.int .i64)) :=
      World.ownsRow.kept (row := some w.heap.size) o6 ⟨rfl, rfl, rfl, by simp, fun i _ hi => setRow_other w6 _ i _ (fun e => hi (by simp [e]))⟩ (.inr (by simp [Value.ownBlock]; have := HGE.out; omega))
    have HSS : Hid (Bx2 w (sqE c (zs.take (j + 1))) (w6.setRow w.heap.size (cdA (nxF dd m))) ∧ (w6.setRow w.heap.size (cdA (nxF dd m))).ownsRow g2 3 1 (.slice (some ⟨g2, 0, none⟩) zs.length zs.length) zs.length ((mz (sqL c (zs.take (j + 1))) zs.length (j + 1)).map (Value.int .i64))) := ⟨by rw [HNX.out]; exact X7, o7⟩
    clear b6 B6 X6 X7 o6 o7 y0 y1 y2
    go_wp2
    refine ⟨(HS.out _).2 HB6.out, tail_end ?_⟩
    go_wp2_with (refine wpList_store_row rfl 25 _ _ rfl w.heap.size _ rfl rfl 25 (cdA dd) HK6.out sizeCd rfl (by simp [Value.oneCell']) ?_)
    go_roundw
    case rel => exact ⟨j + 1, by omega, by go_num, HSS.out⟩
    case measure => simp [intOf]; omega

end Go.Proofs.YtkjfcebdjnclaaaDoor

/- The model: levels in a frame; no condition. -/
import Derived.Test.YtkjfcebdjnclaaaDoorFoi
import Derived.Test.YtkjfcebdjnclaaaDoorSqm
namespace Go.Proofs.YtkjfcebdjnclaaaDoor
open Go.RowKit Go.ChangeShapes Go.WideShapes Go.ChangeAt
set_option linter.unusedVariables false
set_option linter.unusedSimpArgs false
set_option maxRecDepth 8000

/-- the first bytes, noughts behind -/
def hbF (s : Int) (ns : List Int) (j : Nat) (i : Nat) : Int := if i ≤ j then foF s ns i else 0
theorem hbF_full (s : Int) (ns : List Int) : frF (hbF s ns 15) = frF (foF s ns) := frF_congr fun i hi => by unfold hbF; rw [if_pos (by omega)]
theorem hbF_zero (s : Int) (ns : List Int) : frF (upf (fun _ => 0) 0 s) = frF (hbF s ns 0) := frF_congr fun i hi => by
  unfold upf hbF foF
  by_cases h : i = 0
  · subst h; simp
  · rw [if_neg h, if_neg (by omega)]
theorem hbF_step (s : Int) (ns : List Int) (j : Nat) : frF (upf (hbF s ns j) (j + 1) (foF s ns (j + 1))) = frF (hbF s ns (j + 1)) := frF_congr fun i hi => by
  unfold upf hbF
  by_cases h : i = j + 1
  · subst h; simp
  · rw [if_neg h]
    by_cases h2 : i ≤ j
    · rw [if_pos h2, if_pos (by omega)]
    · rw [if_neg h2, if_neg (by omega)]
set_option maxHeartbeats 6400000 in
theorem foM_c (c : Int × Int) (v : Value) (zs : List Int) (w : World) (h : Rd .i64 w v zs) :
    Calls Tryd.prog 22 #[.agg (cdA c), v] w fun e w' => (FoP c zs → FoR (foF c.2 (sqL c zs)) (sqE c zs) true w e w') ∧ (¬ FoP c zs → FoR (fun _ => 0) (0, 0) false w e w') := by
  have HR0 : Hid (Rd .i64 w v zs) := h
  obtain ⟨a, cap, rfl, h1, h2, -⟩ := h
  unfold maxLen at h2
  obtain ⟨W0, hW0⟩ : ∃ W, ((w.alloc (Obj.cells (cdA c) 25)).alloc (Obj.cells #[.int .u8 0, .int .u8 0, .int .u8 0, .int .u8 0, .int .u8 0, .int .u8 0, .int .u8 0, .int .u8 0, .int .u8 0, .int .u8 0, .int .u8 0, .int .u8 0, .int .u8 0, .int .u8 0, .int .u8 0, .int .u8 0] 32)).alloc (Obj.cells (cdA (0, 0)) 25) = W := ⟨_, rfl⟩
  have X0 : B3 w c W0 := by rw [← hW0]; exact B3.new w c
  have s0 : W0.heap.size = w.heap.size + 3 := by rw [← hW0]; simp
  obtain ⟨W1, hW1⟩ : ∃ W, W0.alloc (Obj.cells #[.int .u8 0, .int .u8 0, .int .u8 0, .int .u8 0, .int .u8 0, .int .u8 0, .int .u8 0, .int .u8 0, .int .u8 0, .int .u8 0, .int .u8 0, .int .u8 0, .int .u8 0, .int .u8 0, .int .u8 0, .int .u8 0] 32) = W := ⟨_, rfl⟩
  have b1 : Below W0.heap.size W0 W1 := by rw [← hW1]; exact (Below.refl _ _).alloc (Nat.le_refl _) _
  have X1 := X0.call b1 X0.ge
  have HX1 : Hid (B3 w c W1 ∧ Blk W1 (w.heap.size + 3) (A16 fun _ => 0) 32) := ⟨X1, by rw [← hW1]; exact Blk.newAt _ _ _ _ s0.symm⟩
  have HW0 : Hid (((w.alloc (Obj.cells (cdA c) 25)).alloc (Obj.cells #[.int .u8 0, .int .u8 0, .int .u8 0, .int .u8 0, .int .u8 0, .int .u8 0, .int .u8 0, .int .u8 0, .int .u8 0, .int .u8 0, .int .u8 0, .int .u8 0, .int .u8 0, .int .u8 0, .int .u8 0, .int .u8 0] 32)).alloc (Obj.cells (cdA (0, 0)) 25) = W0) := hW0
  have HW1 : Hid ((((w.alloc (Obj.cells (cdA c) 25)).alloc (Obj.cells #[.int .u8 0, .int .u8 0, .int .u8 0, .int .u8 0, .int .u8 0, .int .u8 0, .int .u8 0, .int .u8 0, .int .u8 0, .int .u8 0, .int .u8 0, .int .u8 0, .int .u8 0, .int .u8 0, .int .u8 0, .int .u8 0] 32)).alloc (Obj.cells (cdA (0, 0)) 25)).alloc (Obj.cells #[.int .u8 0, .int .u8 0, .int .u8 0, .int .u8 0, .int .u8 0, .int .u8 0, .int .u8 0, .int .u8 0, .int .u8 0, .int .u8 0, .int .u8 0, .int .u8 0, .int .u8 0, .int .u8 0, .int .u8 0, .int .u8 0] 32) = W1) := by show _ = _; rw [hW0]; exact hW1
  have x0 := X1.c.cell 0
  have x1 := X1.c.cell 1
  simp at x0 x1
  clear X0 X1 b1 hW0 hW1 s0
  go_enter Tryd.func22, Tryd.ntmps22
  go_wp2_with (fail)
  rw [HW1.out]
  refine (cdM_c c W1).mono ?_
  rintro e w2 ⟨rfl, b2⟩
  have HX2 : Hid (B3 w c w2 ∧ Blk w2 (w.heap.size + 3) (A16 fun _ => 0) 32) := ⟨HX1.out.1.call b2 HX1.out.1.ge, HX1.out.2.below b2 HX1.out.2.lt⟩
  clear b2 x0 x1 HX1 HW1 HW0
  by_cases hc : COk c
  case neg =>
    have d : decide (COk c) = false := by rw [decide_eq_false_iff_not]; exact hc
    have HF : Hid (¬ FoP c zs) := fun h => hc h.1
    rw [d]
    clear hc d
    have HY : Hid (Blk (w2.setRow (w.heap.size + 1) (A16 fun _ => 0)) (w.heap.size + 2) (cdA (0, 0)) 25) := HX2.out.1.z.rowOther _ _ (by omega)
    go_wp2_with (first | refine ldF rfl _ rfl (w.heap.size + 3) rfl 32 (fun _ => 0) (0, 0) HX2.out.2 ?_ | refine stF rfl _ _ rfl (w.heap.size + 1) rfl (fun _ => 0) rfl 32 (A16 fun _ => 0) HX2.out.1.f (A16_size _) ?_ | refine wpList_store_row rfl 25 _ _ rfl (w.heap.size + 2) _ rfl rfl 25 (cdA (0, 0)) HY.out sizeCd rfl (by simp [Value.oneCell']) ?_)
    obtain ⟨f1, f2, f3⟩ := HX2.out.1.fin (fun _ => 0) (0, 0)
    exact bodyPost_ret (results_FE rfl _ _ (w.heap.size + 2) (w.heap.size + 1) (0, 0) (fun _ => 0) _ rfl rfl rfl f1 f2) rfl ⟨fun h => absurd h HF.out, fun _ => ⟨rfl, f3⟩⟩
  have d : decide (COk c) = true := by rw [decide_eq_true_eq]; exact hc
  rw [d]
  have HCO : Hid (COk c) := hc
  clear hc d
  go_wp2_with (fail)
  refine (voiceM_c _ zs w2 (HR0.out.below HX2.out.1.b)).mono ?_
  rintro e w3 ⟨rfl, b3⟩
  have HX3 : Hid (B3 w c w3 ∧ Blk w3 (w.heap.size + 3) (A16 fun _ => 0) 32) := ⟨HX2.out.1.call b3 HX2.out.1.ge, HX2.out.2.below b3 HX2.out.2.lt⟩
  obtain ⟨r, hr⟩ : ∃ r, (decide (zs.length ≤ 300) && lvB zs) = r := ⟨_, rfl⟩
  rw [hr]
  have HRR : Hid (r = true ↔ VP zs) := by show _ ↔ _; unfold VP; rw [hr]
  clear b3 hr HX2
  cases r with
  | false =>
    have HF : Hid (¬ FoP c zs) := fun h => by have := HRR.out.2 h.2.1; cases this
    have HY : Hid (Blk (w3.setRow (w.heap.size + 1) (A16 fun _ => 0)) (w.heap.size + 2) (cdA (0, 0)) 25) := HX3.out.1.z.rowOther _ _ (by omega)
    go_wp2_with (first | refine ldF rfl _ rfl (w.heap.size + 3) rfl 32 (fun _ => 0) (0, 0) HX3.out.2 ?_ | refine stF rfl _ _ rfl (w.heap.size + 1) rfl (fun _ => 0) rfl 32 (A16 fun _ => 0) HX3.out.1.f (A16_size _) ?_ | refine wpList_store_row rfl 25 _ _ rfl (w.heap.size + 2) _ rfl rfl 25 (cdA (0, 0)) HY.out sizeCd rfl (by simp [Value.oneCell']) ?_)
    obtain ⟨f1, f2, f3⟩ := HX3.out.1.fin (fun _ => 0) (0, 0)
    exact bodyPost_ret (results_FE rfl _ _ (w.heap.size + 2) (w.heap.size + 1) (0, 0) (fun _ => 0) _ rfl rfl rfl f1 f2) rfl ⟨fun h => absurd h HF.out, fun _ => ⟨rfl, f3⟩⟩
  | true =>
  have HVP : Hid (VP zs) := HRR.out.1 rfl
  clear HRR
  by_cases hl : zs.length = 30
  case neg =>
    have d : ((zs.length : Int) != 30) = true := by rw [bne_iff_ne]; omega
    have HF : Hid (¬ FoP c zs) := fun h => hl h.2.2
    clear hl
    have HY : Hid (Blk (w3.setRow (w.heap.size + 1) (A16 fun _ => 0)) (w.heap.size + 2) (cdA (0, 0)) 25) := HX3.out.1.z.rowOther _ _ (by omega)
    go_wp2_with (first | refine ldF rfl _ rfl (w.heap.size + 3) rfl 32 (fun _ => 0) (0, 0) HX3.out.2 ?_ | refine stF rfl _ _ rfl (w.heap.size + 1) rfl (fun _ => 0) rfl 32 (A16 fun _ => 0) HX3.out.1.f (A16_size _) ?_ | refine wpList_store_row rfl 25 _ _ rfl (w.heap.size + 2) _ rfl rfl 25 (cdA (0, 0)) HY.out sizeCd rfl (by simp [Value.oneCell']) ?_)
    obtain ⟨f1, f2, f3⟩ := HX3.out.1.fin (fun _ => 0) (0, 0)
    exact bodyPost_ret (results_FE rfl _ _ (w.heap.size + 2) (w.heap.size + 1) (0, 0) (fun _ => 0) _ rfl rfl rfl f1 f2) rfl ⟨fun h => absurd h HF.out, fun _ => ⟨rfl, f3⟩⟩
  have d : ((zs.length : Int) != 30) = false := by rw [bne_eq_false_iff_eq]; omega
  have HL30 : Hid (zs.length = 30) := hl
  have x0 := HX3.out.1.c.cell 0
  have x1 := HX3.out.1.c.cell 1
  simp at x0 x1
  clear hl
  go_wp2_with (fail)
  refine (sqzM_c c _ zs w3 (HR0.out.below HX3.out.1.b)).mono ?_
  rintro e w4 ⟨hy, -⟩
  obtain ⟨v2, rfl, o2, b2⟩ := hy ⟨HCO.out, HVP.out⟩
  have HP : Hid (FoP c zs) := ⟨HCO.out, HVP.out, HL30.out⟩
  have HSB : Hid (∀ n ∈ sqL c zs, 0 ≤ n ∧ n ≤ 15) := sqL_bd zs c HCO.out
  have hns : (sqL c zs).length = 30 := by rw [sqL_len]; exact HL30.out
  obtain ⟨ns, hnn⟩ : ∃ ns, sqL c zs = ns := ⟨_, rfl⟩
  obtain ⟨cc, hcc⟩ : ∃ cc, sqE c zs = cc := ⟨_, rfl⟩
  have HNN : Hid (sqL c zs = ns ∧ sqE c zs = cc) := ⟨hnn, hcc⟩
  rw [hnn] at HSB hns o2
  rw [hcc]
  obtain ⟨k8, hk8⟩ : ∃ k, w4.heap.size = k := ⟨_, rfl⟩
  obtain ⟨W5, hW5⟩ : ∃ W, w4.alloc (Obj.cells (cdA cc) 25) = W := ⟨_, rfl⟩
  have b5 : Below w4.heap.size w4 W5 := by rw [← hW5]; exact (Below.refl _ _).alloc (Nat.le_refl _) _
  have X4 := HX3.out.1.call b2 HX3.out.1.ge
  have f4 := HX3.out.2.below b2 HX3.out.2.lt
  have X5 := X4.call b5 X4.ge
  have f5 := f4.below b5 f4.lt
  have o5 := o2.below b5
  have k5 : Blk W5 k8 (cdA cc) 25 := by rw [← hW5, ← hk8]; exact Blk.new _ _ _
  obtain ⟨va, vc, hv2⟩ : ∃ b c', v2 = .slice (some ⟨b, 0, none⟩) 30 c' := by
    rcases o5.2 with ⟨rfl, h0⟩ | ⟨b, c', cur, rfl, -⟩
    · rw [hns] at h0; cases h0
    · exact ⟨b, c', by rw [hns]⟩
  subst hv2
  have hva : w.heap.size + 3 < va := by have := (World.ownsRow.lt o5 va rfl).1; have := HX3.out.2.lt; omega
  have hka : w.heap.size + 3 < k8 := by rw [← hk8]; exact f4.lt
  have HNM : Hid (w.heap.size + 3 < va ∧ w.heap.size + 3 < k8) := ⟨hva, hka⟩
  -- the first byte
  have hb0 : Blk (W5.setCell ⟨w.heap.size + 3, 0, none⟩ (.int .u8 c.2)) (w.heap.size + 3) (A16 (hbF c.2 ns 0)) 32 := by
    have := f5.set 0 (.int .u8 c.2)
    rw [List.setIfInBounds_toArray, frF_set, hbF_zero c.2 ns] at this
    exact this
  have X6 : B3 w c (W5.setCell ⟨w.heap.size + 3, 0, none⟩ (.int .u8 c.2)) := ⟨X5.c.other _ _ (by dsimp only; omega), X5.f.other _ _ (by dsimp only; omega), X5.z.other _ _ (by dsimp only; omega), X5.b.setCell (by dsimp only; omega) _⟩
  have k6 : Blk (W5.setCell ⟨w.heap.size + 3, 0, none⟩ (.int .u8 c.2)) k8 (cdA cc) 25 := k5.other _ _ (by dsimp only; omega)
  have n6 : Rd .i64 (W5.setCell ⟨w.heap.size + 3, 0, none⟩ (.int .u8 c.2)) (.slice (some ⟨va, 0, none⟩) 30 vc) ns := o5.rd.grown (grown_set' W5 (w.heap.size + 3) 0 _) (.inr (by simp [Value.ownBlock]; omega))
  have HI6 : Hid (B3 w c (W5.setCell ⟨w.heap.size + 3, 0, none⟩ (.int .u8 c.2)) ∧ Blk (W5.setCell ⟨w.heap.size + 3, 0, none⟩ (.int .u8 c.2)) k8 (cdA cc) 25 ∧ Rd .i64 (W5.setCell ⟨w.heap.size + 3, 0, none⟩ (.int .u8 c.2)) (.slice (some ⟨va, 0, none⟩) 30 vc) ns ∧ Blk (W5.setCell ⟨w.heap.size + 3, 0, none⟩ (.int .u8 c.2)) (w.heap.size + 3) (A16 (hbF c.2 ns 0)) 32) := ⟨X6, k6, n6, hb0⟩
  obtain ⟨u0, d0⟩ : ∃ u, W5.cell? ⟨w.heap.size + 3, 0, none⟩ = some u := ⟨_, by rw [f5.cell 0]; exact A16_at _ 0 (by decide)⟩
  have fz := f5.frozen 0
  have y1 := X5.c.cell 1
  simp at y1
  have hc20 := HCO.out.2.1
  have hc21 := HCO.out.2.2
  clear hy o2 b2 b5 X4 X5 f4 f5 o5 k5 hb0 X6 k6 n6 x0 x1 hnn hcc hva hka
  go_wp2
  clear hk8 hW5 y1 d0 fz
  go_loopw [11] (fun i wr => ∃ j : Nat, j ≤ 15 ∧ i = .int .i64 (j : Int) ∧ Hid (B3 w c wr ∧ Blk wr k8 (cdA cc) 25 ∧ Rd .i64 wr (.slice (some ⟨va, 0, none⟩) 30 vc) ns ∧ Blk wr (w.heap.size + 3) (A16 (hbF c.2 ns j)) 32)) (fun i _ => 15 - (intOf i).toNat)
  case atStart => exact ⟨0, Nat.zero_le _, rfl, HI6.out⟩
  case round =>
    obtain ⟨j, hj, rfl, hw⟩ := hrel
    clear HI6
    have HXW : Hid (B3 w c wr) := hw.out.1
    have HKW : Hid (Blk wr k8 (cdA cc) 25) := hw.out.2.1
    have HNW : Hid (Rd .i64 wr (.slice (some ⟨va, 0, none⟩) 30 vc) ns) := hw.out.2.2.1
    have HFW : Hid (Blk wr (w.heap.size + 3) (A16 (hbF c.2 ns j)) 32) := hw.out.2.2.2
    clear hw
    have HCE : Hid (∀ W, Rd .i64 W (.slice (some ⟨va, 0, none⟩) 30 vc) ns → ∀ t, t < 30 → W.cell? ⟨va, t, none⟩ = some (.int .i64 (ns.getD t 0))) := fun W hW t ht => by
      obtain ⟨a', c', e, -, -, h3⟩ := hW
      rcases h3 with h3 | ⟨b', off', e', h4⟩
      · rw [h3] at hns; cases hns
      · subst e'
        simp at e
        obtain ⟨⟨rfl, rfl⟩, -, -⟩ := e
        have := h4 t (by omega)
        simpa using this
    by_cases hlt : j < 15
    case neg =>
      obtain rfl : j = 15 := by omega
      have hfr : Blk wr (w.heap.size + 3) (A16 (foF c.2 ns)) 32 := by have := HFW.out; rw [A16, hbF_full] at this; exact this
      obtain ⟨S, hS⟩ : ∃ S : World → Prop, ∀ W, S W ↔ (Blk W k8 (cdA cc) 25 ∧ Blk W (w.heap.size + 3) (A16 (foF c.2 ns)) 32) := ⟨_, fun _ => Iff.rfl⟩
      have z0 : ∀ W : At S, W.wd.cell? ⟨k8, 0, none⟩ = some (.int .i64 cc.1) := fun W => by rw [((hS _).1 W.ok).1.cell 0]; rfl
      have z1 : ∀ W : At S, W.wd.cell? ⟨k8, 1, none⟩ = some (.int .i64 cc.2) := fun W => by rw [((hS _).1 W.ok).1.cell 1]; rfl
      have HRG : Hid (∀ W : At S, W.wd.rangeAt (w.heap.size + 3) 0 (frF (foF c.2 ns))) := fun W t u hu => by
        rw [((hS _).1 W.ok).2.cell, Nat.zero_add]; simpa using hu
      have HSD : Hid (S wr.drew) := (hS _).2 ⟨HKW.out.drew, hfr.drew⟩
      have ne : Nonempty (At S) := ⟨⟨wr.drew, HSD.out⟩⟩
      have HXD : Hid (B3 w c wr.drew) := ⟨HXW.out.c.drew, HXW.out.f.drew, HXW.out.z.drew, HXW.out.b.drew⟩
      have HY : Hid (Blk (wr.drew.setRow (w.heap.size + 1) (A16 (foF c.2 ns))) (w.heap.size + 2) (cdA (0, 0)) 25) := HXD.out.z.rowOther _ _ (by omega)
      have HS2 : Hid (S (wr.drew.setRow (w.heap.size + 1) (A16 (foF c.2 ns)))) := (hS _).2 ⟨HKW.out.drew.rowOther _ _ (by have := HNM.out; omega), hfr.drew.rowOther _ _ (by omega)⟩
      clear hS hfr
      go_wp2
      refine region_mixA [true, true, false, false, false] 3 1 S (by kernel_rfl) rfl (by kernel_rfl) (fun _ _ _ _ _ h => h) HSD.out ?_
      simp only [selT, selF]
      try simp only [Act.put]
      refine BigFrame.wpQuiet_want rfl fun K hK => quietLdF _ rfl (w.heap.size + 3) 0 rfl (foF c.2 ns) (fun w hw => by obtain ⟨W, rfl⟩ := hw; exact HRG.out W) (hK _ ?_)
      simp only [Act.put, List.setIfInBounds_toArray, List.set_cons_succ, List.set_cons_zero]
      repeat (go_big_quiet_step (fail))
      refine wpQuiet_nil ?_
      refine tail_step ?_
      clear z0 z1
      go_wp2_with (refine stF rfl _ _ rfl (w.heap.size + 1) rfl (foF c.2 ns) rfl 32 (A16 fun _ => 0) HXD.out.f (A16_size _) ?_)
      refine ⟨HS2.out, tail_end ?_⟩
      go_wp2_with (refine wpList_store_row rfl 25 _ _ rfl (w.heap.size + 2) _ rfl rfl 25 (cdA (0, 0)) HY.out sizeCd rfl (by simp [Value.oneCell']) ?_)
      obtain ⟨f1, f2, f3⟩ := HXD.out.fin (foF c.2 ns) cc
      exact bodyPost_ret (results_FE rfl _ _ (w.heap.size + 2) (w.heap.size + 1) cc (foF c.2 ns) _ rfl rfl rfl f1 f2) rfl ⟨fun _ => ⟨by rw [HNN.out.1, HNN.out.2]; rfl, f3⟩, fun h => absurd HP.out h⟩
    case pos =>
    obtain ⟨k, HKJ⟩ : ∃ k, Hid (k = 2 * j) := ⟨_, rfl⟩
    obtain ⟨p, hp⟩ : ∃ p, ns.getD k 0 = p := ⟨_, rfl⟩
    obtain ⟨q, hq⟩ : ∃ q, ns.getD (k + 1) 0 = q := ⟨_, rfl⟩
    have hbd : ∀ t, t < 30 → 0 ≤ ns.getD t 0 ∧ ns.getD t 0 ≤ 15 := fun t ht => by
      have := HSB.out _ (List.getElem_mem (show t < ns.length by omega))
      simpa [List.getElem?_eq_getElem (show t < ns.length by omega)] using this
    have hk30 : k + 1 < 30 := by have := HKJ.out; omega
    obtain ⟨p0, p1⟩ := hbd k (by omega)
    obtain ⟨q0, q1⟩ := hbd (k + 1) hk30
    rw [hp] at p0 p1
    rw [hq] at q0 q1
    have HBY : Hid (foF c.2 ns (j + 1) = 16 * p + q) := by
      show _ = _
      unfold foF
      rw [if_neg (by omega), show 2 * (j + 1 - 1) = k by have := HKJ.out; omega, hp, hq]
      omega
    obtain ⟨S, hS⟩ : ∃ S : World → Prop, ∀ W, S W ↔ Rd .i64 W (.slice (some ⟨va, 0, none⟩) 30 vc) ns := ⟨_, fun _ => Iff.rfl⟩
    have y0 : ∀ W : At S, W.wd.cell? ⟨va, k, none⟩ = some (.int .i64 p) := fun W => by rw [← hp]; exact HCE.out _ ((hS _).1 W.ok) _ (by omega)
    have y1 : ∀ W : At S, W.wd.cell? ⟨va, k + 1, none⟩ = some (.int .i64 q) := fun W => by rw [← hq]; exact HCE.out _ ((hS _).1 W.ok) _ hk30
    have HS : Hid (∀ W, S W ↔ Rd .i64 W (.slice (some ⟨va, 0, none⟩) 30 vc) ns) := hS
    have ne : Nonempty (At S) := ⟨⟨wr, (hS _).2 HNW.out⟩⟩
    have ek : 2 * (j : Int) = (k : Int) := by have := HKJ.out; omega
    have hi1 : (0 : Int) ≤ (k : Int) := by omega
    have hi2 : (k : Int) < 30 := by omega
    have hi3 : (k : Int) + 1 < 30 := by omega
    have hi4 : (0 : Int) ≤ (k : Int) + 1 := by omega
    have hj1 : (0 : Int) ≤ (j : Int) + 1 := by omega
    have hj2 : (j : Int) + 1 < 16 := by omega
    obtain ⟨u, hd⟩ : ∃ u, wr.drew.cell? ⟨w.heap.size + 3, j + 1, none⟩ = some u := ⟨_, by rw [HFW.out.drew.cell (j + 1)]; exact A16_at _ (j + 1) (by omega)⟩
    have hfz := HFW.out.drew.frozen (j + 1)
    have hFB : Blk (wr.drew.setCell ⟨w.heap.size + 3, j + 1, none⟩ (.int .u8 (16 * p + q))) (w.heap.size + 3) (A16 (hbF c.2 ns (j + 1))) 32 := by
      have := HFW.out.drew.set (j + 1) (.int .u8 (16 * p + q))
      rw [List.setIfInBounds_toArray, frF_set, ← HBY.out, hbF_step] at this
      rw [← HBY.out]
      exact this
    have HXD : B3 w c wr.drew := ⟨HXW.out.c.drew, HXW.out.f.drew, HXW.out.z.drew, HXW.out.b.drew⟩
    have HFIN : Hid (B3 w c (wr.drew.setCell ⟨w.heap.size + 3, j + 1, none⟩ (.int .u8 (16 * p + q))) ∧ Blk (wr.drew.setCell ⟨w.heap.size + 3, j + 1, none⟩ (.int .u8 (16 * p + q))) k8 (cdA cc) 25 ∧ Rd .i64 (wr.drew.setCell ⟨w.heap.size + 3, j + 1, none⟩ (.int .u8 (16 * p + q))) (.slice (some ⟨va, 0, none⟩) 30 vc) ns ∧ Blk (wr.drew.setCell ⟨w.heap.size + 3, j + 1, none⟩ (.int .u8 (16 * p + q))) (w.heap.size + 3) (A16 (hbF c.2 ns (j + 1))) 32) :=
      ⟨⟨HXD.c.other _ _ (by dsimp only; omega), HXD.f.other _ _ (by dsimp only; omega), HXD.z.other _ _ (by dsimp only; omega), HXD.b.setCell (by dsimp only; omega) _⟩, HKW.out.drew.other _ _ (by have := HNM.out; dsimp only; omega), (show Rd .i64 wr.drew _ ns from HNW.out.below (Below.refl _ _).drew).grown (grown_set' wr.drew (w.heap.size + 3) (j + 1) _) (.inr (by have := HNM.out; simp [Value.ownBlock]; omega)), hFB⟩
    clear hS hp hq hbd hFB HXD
    have HEK : Hid (2 * (j : Int) = (k : Int)) := ek
    clear ek
    go_wp2
    refine region_mixA [true, true, true, true, true, true, true, true, true, true, true, true, true, true, true, true, false, false] 16 0 S (by kernel_rfl) rfl (by kernel_rfl) (fun _ _ _ _ _ h => h) ((HS.out _).2 (HNW.out.below (Below.refl _ _).drew)) ?_
    simp only [selT, selF]
    try simp only [Act.put]
    iterate 5 (go_big_quiet_step (fail))
    rw [HEK.out]
    iterate 6 (go_big_quiet_step (fail))
    rw [HEK.out]
    repeat (go_big_quiet_step (fail))
    refine wpQuiet_nil ?_
    refine tail_end ?_
    clear y0 y1
    go_wp2
    go_roundw
    case rel => exact ⟨j + 1, by omega, by go_num, HFIN.out⟩
    case measure => simp [intOf]; omega

end Go.Proofs.YtkjfcebdjnclaaaDoor

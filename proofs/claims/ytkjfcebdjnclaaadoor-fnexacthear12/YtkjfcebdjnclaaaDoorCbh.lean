/- Coders behind numbers; the table is as it was laid. -/
import Derived.Test.YtkjfcebdjnclaaaDoorStp
import Derived.Test.YtkjfcebdjnclaaaDoorOver
namespace Go.Proofs.YtkjfcebdjnclaaaDoor
open Go.RowKit Go.ChangeShapes Go.WideShapes Go.ChangeAt
set_option linter.unusedVariables false
set_option linter.unusedSimpArgs false
set_option maxRecDepth 8000

theorem ChG.lt {w : World} (h : ChG w) : 0 < w.heap.size := block_lt_of_cell (h 0 (by decide))
theorem ChG.below {w w' : World} {B : Nat} (h : ChG w) (hb : Below B w w') (hB : 0 < B) : ChG w' := fun q hq => (hb.cell hB).trans (h q hq)
theorem ChG.call {w w' : World} (h : ChG w) (hb : Below w.heap.size w w') : ChG w' := h.below hb h.lt
abbrev cdA (c : Int × Int) : Array Value := #[.int .i64 c.1, .int .i64 c.2]
theorem sizeCd : (Tryd.prog.info? 25).map (·.size) = some 2 := by kernel_rfl
set_option maxHeartbeats 1600000 in
theorem clip_c (x : Int) (w : World) : Calls Tryd.prog 101 #[.int .i64 x] w fun e w' => e = .returned (.int .i64 (clip x)) ∧ w' = w := by
  by_cases h1 : x < -32767
  · have HC : Hid (clip x = -32767) := by show _ = _; unfold clip; rw [if_pos h1]
    go_enter Tryd.func101, Tryd.ntmps101
    go_wp2
    go_ret
    exact ⟨by rw [HC.out]; rfl, rfl⟩
  · by_cases h2 : 32767 < x
    · have HC : Hid (clip x = 32767) := by show _ = _; unfold clip; rw [if_neg h1, if_pos h2]
      have d1 : decide (x < -32767) = false := by simp; omega
      clear h1
      go_enter Tryd.func101, Tryd.ntmps101
      go_wp2
      go_ret
      exact ⟨by rw [HC.out]; rfl, rfl⟩
    · have HC : Hid (clip x = x) := by show _ = _; unfold clip; rw [if_neg h1, if_neg h2]
      have d1 : decide (x < -32767) = false := by simp; omega
      have d2 : decide (32767 < x) = false := by simp; omega
      clear h1 h2
      go_enter Tryd.func101, Tryd.ntmps101
      go_wp2
      go_ret
      exact ⟨by rw [HC.out]; rfl, rfl⟩
theorem clip_mm (x : Int) : (if -32767 < (if 32767 < x then 32767 else x) then (if 32767 < x then 32767 else x) else -32767) = clip x := by
  unfold clip; split <;> split <;> split <;> omega
theorem clis_mm (x : Int) : (if 0 < (if 48 < x then 48 else x) then (if 48 < x then 48 else x) else 0) = clis x := by
  unfold clis; split <;> split <;> split <;> omega
set_option maxHeartbeats 3200000 in
theorem behindI_c (c : Int × Int) (hc : COk c) (m : Nat) (hm : m ≤ 15) (w : World) (hG : ChG w) : Calls Tryd.prog 60 #[.agg (cdA c), .int .i64 m] w fun e w' => e = .returned (.agg (cdA (nxF c m))) ∧ Below w.heap.size w w' := by
  obtain ⟨q, hq⟩ : ∃ q, m % 8 = q := ⟨_, rfl⟩
  have hq8 : q < 8 := by omega
  have hqi : (m : Int) % 8 = (q : Int) := by omega
  obtain ⟨s, hs⟩ : ∃ s, ssF c.2 = s := ⟨_, rfl⟩
  have hsb := ssF_bd hc.2
  rw [hs] at hsb
  have hmv := mvF_bd q s hsb
  obtain ⟨M, hM⟩ : ∃ M, mvF q s = M := ⟨_, rfl⟩
  rw [hM] at hmv
  have hch := chF_bd q
  have HG : Hid (ChG w) := hG
  have hgl := hG.lt
  have HCO : Hid (COk c) := hc
  obtain ⟨⟨c0, c1⟩, c2, c3⟩ := hc
  have HNX : Hid (∀ by' : Int, by' = (if 8 ≤ m then -M else M) → nxF c m = (clip (c.1 + by'), clis (c.2 + chF q))) := fun by' hb => by
    unfold nxF
    rw [hqi, hs]
    have e : ((q : Int)).toNat = q := by omega
    rw [e, hM, hb]
    have e2 : (8 ≤ (m : Int)) ↔ 8 ≤ m := by omega
    simp only [e2]
  have HSZ : Hid (ssF c.2 = s) := hs
  have HMV : Hid (mvF q s = M) := hM
  obtain ⟨z, hz⟩ : ∃ z, chF q = z := ⟨_, rfl⟩
  have hgc := hG q hq8
  rw [hz] at hch HNX hgc
  obtain ⟨W1, hW1⟩ : ∃ W, (w.alloc (Obj.cells (cdA c) 25)).alloc (Obj.cells (cdA (0, 0)) 25) = W := ⟨_, rfl⟩
  have B1 : Below w.heap.size w W1 := by rw [← hW1]; exact ((Below.refl _ _).alloc (Nat.le_refl _) _).alloc (by simp) _
  have K1 : Blk W1 w.heap.size (cdA c) 25 := by rw [← hW1]; exact (Blk.new _ _ _).alloc _
  have K2 : Blk W1 (w.heap.size + 1) (cdA (0, 0)) 25 := by rw [← hW1]; exact Blk.newAt _ _ _ _ (by simp)
  have HW1 : Hid ((w.alloc (Obj.cells (cdA c) 25)).alloc (Obj.cells (cdA (0, 0)) 25) = W1) := hW1
  have HK2 : Hid (Blk W1 (w.heap.size + 1) (cdA (0, 0)) 25) := K2
  have HB1 : Hid (Below w.heap.size w W1) := B1
  have x0 := K1.cell 0
  have x1 := K1.cell 1
  have hgc1 : W1.cell? ⟨0, q, none⟩ = some (.int .i64 z) := (B1.cell (p := ⟨0, q, none⟩) hgl).trans hgc
  simp at x0 x1
  have y0 : ∀ W : At (fun W => W = W1.drew), W.wd.cell? ⟨w.heap.size, 0, none⟩ = some (.int .i64 c.1) := fun W => by rw [W.ok]; exact x0
  have y1 : ∀ W : At (fun W => W = W1.drew), W.wd.cell? ⟨w.heap.size, 1, none⟩ = some (.int .i64 c.2) := fun W => by rw [W.ok]; exact x1
  have yg : ∀ W : At (fun W => W = W1.drew), W.wd.cell? ⟨0, q, none⟩ = some (.int .i64 z) := fun W => by rw [W.ok]; exact hgc1
  have ne : Nonempty (At (fun W => W = W1.drew)) := ⟨⟨W1.drew, rfl⟩⟩
  have hq0 : (0 : Int) ≤ (q : Int) := by omega
  have hq9 : (q : Int) < 8 := by omega
  clear K1 K2 B1 hz hq hs hM hG hgc
  go_enter Tryd.func60, Tryd.ntmps60
  go_wp2_with (fail)
  rw [hqi]
  refine (sizeF_c _ HCO.out.2 W1).mono ?_
  rintro e w1 ⟨rfl, hw⟩
  rw [hw, HSZ.out]
  clear hw w1 hqi
  go_wp2_with (fail)
  refine (move_c q hq8 s hsb.1 hsb.2 W1).mono ?_
  rintro e w1 ⟨rfl, hw⟩
  rw [hw, HMV.out]
  clear hw w1
  have HFIN : Hid (∀ by' : Int, by' = (if 8 ≤ m then -M else M) → ∀ u v : Int, u = clip (c.1 + by') → v = clis (c.2 + z) → Blk (W1.drew.setRow (w.heap.size + 1) #[.int .i64 u, .int .i64 v]) (w.heap.size + 1) (cdA (nxF c m)) 25 ∧ Below w.heap.size w (W1.drew.setRow (w.heap.size + 1) #[.int .i64 u, .int .i64 v])) := fun by' hb u v hu hv => by
    rw [HNX.out by' hb]
    subst hu hv
    exact ⟨HK2.out.drew.row _, belowRow HB1.out.drew _ (by omega) _⟩
  by_cases h8 : (8 : Int) ≤ (m : Int)
  · have HBY : Hid (-M = (if 8 ≤ m then -M else M)) := by show _ = _; rw [if_pos (by omega)]
    go_wp2
    refine region_mixA [true, true, true, true, true, true, true, true, true, true, true, true, true, true, true, false] 15 0 (fun W => W = W1.drew) (by kernel_rfl) rfl (by kernel_rfl) (fun _ _ _ _ _ h => h) rfl ?_
    simp only [selT, selF]
    try simp only [Act.put]
    repeat (go_big_quiet_step (fail))
    refine wpQuiet_nil ?_
    refine tail_end ?_
    go_wp2_with (refine wpList_store_row rfl 25 _ _ rfl (w.heap.size + 1) _ rfl rfl 25 (cdA (0, 0)) HK2.out.drew sizeCd rfl (by simp [Value.oneCell']) ?_)
    all_goals
      refine (fun H => bodyPost_ret (v := .agg (cdA (nxF c m))) (results_cell_row rfl _ _ _ 25 (cdA (nxF c m)) (0, 0) _ rfl (And.left H) Tryd.underlying25 rfl sizeCd) rfl ⟨rfl, And.right H⟩) (HFIN.out _ HBY.out _ _ ?_ ?_)
      · unfold clip
        (repeat' split) <;> omega
      · unfold clis
        (repeat' split) <;> omega
  · have HBY : Hid (M = (if 8 ≤ m then -M else M)) := by show _ = _; rw [if_neg (by omega)]
    have d8 : decide ((8 : Int) ≤ (m : Int)) = false := by simp only [decide_eq_false_iff_not]; exact h8
    clear h8
    go_wp2
    refine region_mixA [true, true, true, true, true, true, true, true, true, true, true, true, true, true, true, false] 15 0 (fun W => W = W1.drew) (by kernel_rfl) rfl (by kernel_rfl) (fun _ _ _ _ _ h => h) rfl ?_
    simp only [selT, selF]
    try simp only [Act.put]
    repeat (go_big_quiet_step (fail))
    refine wpQuiet_nil ?_
    refine tail_end ?_
    go_wp2_with (refine wpList_store_row rfl 25 _ _ rfl (w.heap.size + 1) _ rfl rfl 25 (cdA (0, 0)) HK2.out.drew sizeCd rfl (by simp [Value.oneCell']) ?_)
    all_goals
      refine (fun H => bodyPost_ret (v := .agg (cdA (nxF c m))) (results_cell_row rfl _ _ _ 25 (cdA (nxF c m)) (0, 0) _ rfl (And.left H) Tryd.underlying25 rfl sizeCd) rfl ⟨rfl, And.right H⟩) (HFIN.out _ HBY.out _ _ ?_ ?_)
      · unfold clip
        (repeat' split) <;> omega
      · unfold clis
        (repeat' split) <;> omega

end Go.Proofs.YtkjfcebdjnclaaaDoor

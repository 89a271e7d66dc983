/- The model: coders behind numbers; no condition. -/
import Derived.Test.YtkjfcebdjnclaaaDoorCbh
namespace Go.Proofs.YtkjfcebdjnclaaaDoor
open Go.RowKit Go.ChangeShapes Go.WideShapes Go.ChangeAt
set_option linter.unusedVariables false
set_option linter.unusedSimpArgs false
set_option maxRecDepth 8000

theorem ch_cell (q : Nat) (hq : q < 8) : (#[.int .i64 (-1), .int .i64 (-1), .int .i64 (-1), .int .i64 (-1), .int .i64 2, .int .i64 4, .int .i64 6, .int .i64 8] : Array Value)[q]? = some (.int .i64 (chF q)) := by
  match q, hq with
  | 0, _ => rfl
  | 1, _ => rfl
  | 2, _ => rfl
  | 3, _ => rfl
  | 4, _ => rfl
  | 5, _ => rfl
  | 6, _ => rfl
  | 7, _ => rfl
set_option maxHeartbeats 12800000 in
theorem nextM_c (c : Int × Int) (hc : COk c) (m : Nat) (hm : m ≤ 15) (w : World) : Calls Tryd.prog 65 #[.agg (cdA c), .int .i64 m] w fun e w' => e = .returned (.agg (cdA (nxF c m))) ∧ Below w.heap.size w w' := by
  obtain ⟨q, hq⟩ : ∃ q, m % 8 = q := ⟨_, rfl⟩
  have hq8 : q < 8 := by omega
  have HQI : Hid ((m : Int) % 8 = (q : Int)) := by show _ = _; omega
  obtain ⟨s, hs⟩ : ∃ s, ssF c.2 = s := ⟨_, rfl⟩
  have hsb := ssF_bd hc.2
  rw [hs] at hsb
  obtain ⟨s7, s2⟩ := hsb
  have hch := chF_bd q
  have HCO : Hid (COk c) := hc
  obtain ⟨⟨c0, c1⟩, c2, c3⟩ := hc
  have HNX : Hid (∀ by' : Int, by' = (if 8 ≤ m then -mvF q s else mvF q s) → nxF c m = (clip (c.1 + by'), clis (c.2 + chF q))) := fun by' hb => by
    unfold nxF
    rw [HQI.out, hs]
    have e : ((q : Int)).toNat = q := by omega
    rw [e, hb]
    have e2 : (8 ≤ (m : Int)) ↔ 8 ≤ m := by omega
    simp only [e2]
  have HSZ : Hid (ssF c.2 = s) := hs
  have HCC := ch_cell q hq8
  obtain ⟨z, hz⟩ : ∃ z, chF q = z := ⟨_, rfl⟩
  rw [hz] at hch HNX HCC
  obtain ⟨W1, hW1⟩ : ∃ W, (w.alloc (Obj.cells (cdA c) 25)).alloc (Obj.cells (cdA (0, 0)) 25) = W := ⟨_, rfl⟩
  have B1 : Below w.heap.size w W1 := by rw [← hW1]; exact ((Below.refl _ _).alloc (Nat.le_refl _) _).alloc (by simp) _
  have K1 : Blk W1 w.heap.size (cdA c) 25 := by rw [← hW1]; exact (Blk.new _ _ _).alloc _
  have K2 : Blk W1 (w.heap.size + 1) (cdA (0, 0)) 25 := by rw [← hW1]; exact Blk.newAt _ _ _ _ (by simp)
  obtain ⟨W2, hW2⟩ : ∃ W, W1.alloc (Obj.cells #[.int .i64 (-1), .int .i64 (-1), .int .i64 (-1), .int .i64 (-1), .int .i64 2, .int .i64 4, .int .i64 6, .int .i64 8] 3) = W := ⟨_, rfl⟩
  have HW2 : Hid (W1.alloc (Obj.cells #[.int .i64 (-1), .int .i64 (-1), .int .i64 (-1), .int .i64 (-1), .int .i64 2, .int .i64 4, .int .i64 6, .int .i64 8] 3) = W2) := hW2
  have k1 : Blk W2 w.heap.size (cdA c) 25 := by rw [← hW2]; exact K1.alloc _
  have HK2 : Hid (Blk W2 (w.heap.size + 1) (cdA (0, 0)) 25) := by rw [← hW2]; exact K2.alloc _
  have HB2 : Hid (Below w.heap.size w W2) := by rw [← hW2]; exact B1.alloc (Nat.le_trans B1.size (Nat.le_refl _)) _
  obtain ⟨gs, hgs⟩ : ∃ g, W1.heap.size = g := ⟨_, rfl⟩
  have HGS : Hid (W1.heap.size = gs) := hgs
  have y2 : W2.cell? ⟨gs, q, none⟩ = some (.int .i64 z) := by rw [← hW2, ← hgs, cell_box]; exact HCC
  have x0 := K1.cell 0
  have x1 := K1.cell 1
  have y0 := k1.cell 0
  have y1 := k1.cell 1
  simp at x0 x1 y0 y1
  have hq0 : (0 : Int) ≤ (q : Int) := by omega
  have hq9 : (q : Int) < 8 := by omega
  have HFIN : Hid (∀ by' : Int, by' = (if 8 ≤ m then -mvF q s else mvF q s) → ∀ n (u v : Int), u = clip (c.1 + by') → v = clis (c.2 + z) → Blk ((W2.drewN n).setRow (w.heap.size + 1) #[.int .i64 u, .int .i64 v]) (w.heap.size + 1) (cdA (nxF c m)) 25 ∧ Below w.heap.size w ((W2.drewN n).setRow (w.heap.size + 1) #[.int .i64 u, .int .i64 v])) := fun by' hb n u v hu hv => by
    rw [HNX.out by' hb]
    subst hu hv
    exact ⟨(HK2.out.drewN n).row _, belowRow (below_drewN HB2.out n) _ (by omega) _⟩
  have HMV : Hid (mvF q s = s / 8 + (if 4 ≤ q then s else 0) + (if 2 ≤ q % 4 then s / 2 else 0) + (if q % 2 = 1 then s / 4 else 0)) := rfl
  clear K1 K2 B1 hz hq hs k1 hgs hW2 HCC
  by_cases c4 : 4 ≤ q <;> by_cases c2' : 2 ≤ q % 4 <;> by_cases c1' : q % 2 = 1 <;> by_cases c8 : 8 ≤ m
  all_goals
    have hm' := HMV.out
    simp only [c4, c2', c1', if_true, if_false, Int.add_zero] at hm'
    have e4 : decide ((4 : Int) ≤ (q : Int)) = decide (4 ≤ q) := by simp only [decide_eq_decide]; omega
    have e2 : decide ((2 : Int) ≤ (q : Int) % 4) = decide (2 ≤ q % 4) := by simp only [decide_eq_decide]; omega
    have e1 : ((q : Int) % 2 == 1) = decide (q % 2 = 1) := by rw [Bool.eq_iff_iff, beq_iff_eq, decide_eq_true_eq]; omega
    have e8 : decide ((8 : Int) ≤ (m : Int)) = decide (8 ≤ m) := by simp only [decide_eq_decide]; omega
    simp only [c4, c2', c1', c8, decide_true, decide_false] at e4 e2 e1 e8
    have HBY : Hid ((if 8 ≤ m then -mvF q s else mvF q s) = (if 8 ≤ m then -mvF q s else mvF q s)) := rfl
    simp only [c8, if_true, if_false] at HFIN
    rw [hm'] at HFIN
    clear c4 c2' c1' c8 hm' HMV HBY HNX
    go_enter Tryd.func65, Tryd.ntmps65
    go_wp2_with (fail)
    refine (stepM_c _ W1).mono ?_
    rintro e w1 ⟨rfl, hw⟩
    rw [hw, HSZ.out]
    clear hw w1
    go_wp2_with (first | rw [HQI.out])
    rw [HW2.out, HGS.out]
    go_quiet (fail)
    by_cases t0 : c.2 + z < 0
    · have d0 : decide (c.2 + z < 0) = true := by simp only [decide_eq_true_eq]; exact t0
      go_wp2_with (fail)
      refine (clip_c _ _).mono ?_
      rintro e w1 ⟨rfl, hw⟩
      rw [hw]
      clear hw w1
      go_wp2_with (refine wpList_store_row rfl 25 _ _ rfl (w.heap.size + 1) _ rfl rfl 25 (cdA (0, 0)) (HK2.out.drewN _) sizeCd rfl (by simp [Value.oneCell']) ?_)
      refine (fun H => bodyPost_ret (v := .agg (cdA (nxF c m))) (results_cell_row rfl _ _ _ 25 (cdA (nxF c m)) (0, 0) _ rfl (And.left H) Tryd.underlying25 rfl sizeCd) rfl ⟨rfl, And.right H⟩) (HFIN.out _ rfl _ _ _ ?_ ?_)
      · first | rfl | (congr 1; omega) | (congr 2; omega)
      · unfold clis
        (repeat' split) <;> omega
    · have d0 : decide (c.2 + z < 0) = false := by simp only [decide_eq_false_iff_not]; exact t0
      by_cases t1 : 48 < c.2 + z
      · have d1 : decide (48 < c.2 + z) = true := by simp only [decide_eq_true_eq]; exact t1
        clear t0
        go_wp2_with (fail)
        refine (clip_c _ _).mono ?_
        rintro e w1 ⟨rfl, hw⟩
        rw [hw]
        clear hw w1
        go_wp2_with (refine wpList_store_row rfl 25 _ _ rfl (w.heap.size + 1) _ rfl rfl 25 (cdA (0, 0)) (HK2.out.drewN _) sizeCd rfl (by simp [Value.oneCell']) ?_)
        refine (fun H => bodyPost_ret (v := .agg (cdA (nxF c m))) (results_cell_row rfl _ _ _ 25 (cdA (nxF c m)) (0, 0) _ rfl (And.left H) Tryd.underlying25 rfl sizeCd) rfl ⟨rfl, And.right H⟩) (HFIN.out _ rfl _ _ _ ?_ ?_)
        · first | rfl | (congr 1; omega) | (congr 2; omega)
        · unfold clis
          (repeat' split) <;> omega
      · have d1 : decide (48 < c.2 + z) = false := by simp only [decide_eq_false_iff_not]; exact t1
        clear t0 t1
        go_wp2_with (fail)
        refine (clip_c _ _).mono ?_
        rintro e w1 ⟨rfl, hw⟩
        rw [hw]
        clear hw w1
        go_wp2_with (refine wpList_store_row rfl 25 _ _ rfl (w.heap.size + 1) _ rfl rfl 25 (cdA (0, 0)) (HK2.out.drewN _) sizeCd rfl (by simp [Value.oneCell']) ?_)
        refine (fun H => bodyPost_ret (v := .agg (cdA (nxF c m))) (results_cell_row rfl _ _ _ 25 (cdA (nxF c m)) (0, 0) _ rfl (And.left H) Tryd.underlying25 rfl sizeCd) rfl ⟨rfl, And.right H⟩) (HFIN.out _ rfl _ _ _ ?_ ?_)
        · first | rfl | (congr 1; omega) | (congr 2; omega)
        · have q0 := of_decide_eq_false d0
          have q1 := of_decide_eq_false d1
          unfold clis
          (repeat' split) <;> omega

end Go.Proofs.YtkjfcebdjnclaaaDoor

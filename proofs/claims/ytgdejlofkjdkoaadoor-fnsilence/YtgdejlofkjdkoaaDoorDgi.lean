/- The program: the greatest of four; no condition. -/
import Derived.Test.YtgdejlofkjdkoaaDoorDgm
namespace Go.Proofs.YtgdejlofkjdkoaaDoor
open Go.RowKit Go.ChangeShapes Go.WideShapes Go.ChangeAt
set_option linter.unusedVariables false
set_option linter.unusedSimpArgs false
set_option maxRecDepth 8000

theorem idx4_0 (p : Nat → Int) (w : World) : (Instr.index 43 (.agg (A4 p)) (.int .i64 0)).run Tryd.prog w = .ok (.int .i64 (p 0)) w := by kernel_rfl
theorem idx4_1 (p : Nat → Int) (w : World) : (Instr.index 43 (.agg (A4 p)) (.int .i64 1)).run Tryd.prog w = .ok (.int .i64 (p 1)) w := by kernel_rfl
theorem idx4_2 (p : Nat → Int) (w : World) : (Instr.index 43 (.agg (A4 p)) (.int .i64 2)).run Tryd.prog w = .ok (.int .i64 (p 2)) w := by kernel_rfl
theorem idx4_3 (p : Nat → Int) (w : World) : (Instr.index 43 (.agg (A4 p)) (.int .i64 3)).run Tryd.prog w = .ok (.int .i64 (p 3)) w := by kernel_rfl
theorem idx4_run (p : Nat → Int) (k : Nat) (hk : k < 4) (w : World) : (Instr.index 43 (.agg (A4 p)) (.int .i64 k)).run Tryd.prog w = .ok (.int .i64 (p k)) w := by
  match k, hk with
  | 0, _ => exact idx4_0 p w
  | 1, _ => exact idx4_1 p w
  | 2, _ => exact idx4_2 p w
  | 3, _ => exact idx4_3 p w
theorem idx4 {ops : Array Oper} {rest : List Oper} {o : Oper} {a : Act} {w : World} {Q : Exit → Act → World → Prop} (hgd : o.guard = none) (x i : Operand) (ho : o.op = .index 43 x i) (p : Nat → Int) (k : Nat) (hk : k < 4) (hx : a.eval x = .agg (A4 p)) (hi : a.eval i = .int .i64 k)
    (h : wpList Tryd.prog ops Q rest (a.put o.dst (.int .i64 (p k))) w) : wpList Tryd.prog ops Q (o :: rest) a w := by
  refine wpList_plain hgd fun K hK => ?_
  unfold Oper.wp
  simp only [execOp, ho, hx, hi, Sem.run_bind, Sem.run_pure, Result.andThen_ok, idx4_run p k hk w, Sem.run_map]
  exact hK _ _ h
set_option maxHeartbeats 3200000 in
theorem bestI_c (p : Nat → Int) (w : World) : Calls Tryd.prog 30 #[.agg (A4 p)] w fun e w' => e = .returned (.int .i64 (bst p 4 : Nat)) ∧ Below w.heap.size w w' := by
  obtain ⟨W0, hW0⟩ : ∃ W, w.alloc (Obj.cells (A4 p) 43) = W := ⟨_, rfl⟩
  have HK0 : Hid (Blk W0 w.heap.size (A4 p) 43) := by rw [← hW0]; exact Blk.new _ _ _
  have HB0 : Hid (Below w.heap.size w W0) := by rw [← hW0]; exact (Below.refl _ _).alloc (Nat.le_refl _) _
  have k0 : W0.cell? ⟨w.heap.size, 0, none⟩ = some (.int .i64 (p 0)) := HK0.out.cell 0
  have k1 : W0.cell? ⟨w.heap.size, 1, none⟩ = some (.int .i64 (p 1)) := HK0.out.cell 1
  have k2 : W0.cell? ⟨w.heap.size, 2, none⟩ = some (.int .i64 (p 2)) := HK0.out.cell 2
  have k3 : W0.cell? ⟨w.heap.size, 3, none⟩ = some (.int .i64 (p 3)) := HK0.out.cell 3
  obtain ⟨PW, hPW⟩ : ∃ P : World → Prop, ∀ W, P W ↔ W = W0 := ⟨_, fun _ => Iff.rfl⟩
  have HPW : Hid (∀ W, PW W ↔ W = W0) := hPW
  clear hPW
  go_enter Tryd.func30, Tryd.ntmps30
  go_wp2
  clear hW0
  go_loopw [3, 7] (fun b i wr => ∃ j : Nat, j ≤ 4 ∧ i = .int .i64 j ∧ b = .int .i64 (bst p j : Nat) ∧ Hid (PW wr)) (fun _ i _ => 4 - (intOf i).toNat)
  case atStart => exact ⟨0, Nat.zero_le _, rfl, rfl, (HPW.out _).2 rfl⟩
  case round =>
    obtain ⟨j, hj, rfl, rfl, hw⟩ := hrel
    have hww := (HPW.out _).1 hw.out
    clear hw k0 k1 k2 k3
    subst hww
    by_cases hlt : j < 4
    case neg =>
      obtain rfl : j = 4 := by omega
      go_wp2
      go_ret
      exact ⟨rfl, HB0.out⟩
    case pos =>
    have hbl : bst p j < 4 := by
      cases j with
      | zero => simp [bst]
      | succ i => have := bst_le p i; omega
    have HS : Hid (bst p (j + 1) = if p (bst p j) < p j then j else bst p j) := rfl
    have kb := HK0.out.cell (bst p j)
    rw [A4_at p _ hbl] at kb
    obtain ⟨b, hb⟩ : ∃ b, bst p j = b := ⟨_, rfl⟩
    rw [hb] at HS kb hbl ⊢
    have hb1 : (0 : Int) ≤ (b : Int) := by omega
    have hb2 : (b : Int) < 4 := by omega
    clear hb
    obtain ⟨x, hx⟩ : ∃ x, p b = x := ⟨_, rfl⟩
    rw [hx] at HS kb
    clear hx
    obtain ⟨y, hy⟩ : ∃ y, p j = y := ⟨_, rfl⟩
    have HY : Hid (p j = y) := hy
    rw [hy] at HS
    clear hy
    by_cases c : x < y
    · have HN : Hid (bst p (j + 1) = j) := by show _ = _; rw [HS.out, if_pos c]
      have cd : decide (x < y) = true := by simp; exact c
      clear HS
      go_wp2_with (refine idx4 rfl _ _ rfl p j hlt rfl rfl ?_; rw [HY.out])
      go_roundw
      case rel => exact ⟨j + 1, by omega, by go_num, by rw [HN.out], (HPW.out _).2 rfl⟩
      case measure => simp [intOf]; omega
    · have HN : Hid (bst p (j + 1) = b) := by show _ = _; rw [HS.out, if_neg c]
      have cd : decide (x < y) = false := by simp; omega
      clear HS
      go_wp2_with (refine idx4 rfl _ _ rfl p j hlt rfl rfl ?_; rw [HY.out])
      go_roundw
      case rel => exact ⟨j + 1, by omega, by go_num, by rw [HN.out], (HPW.out _).2 rfl⟩
      case measure => simp [intOf]; omega
set_option maxHeartbeats 3200000 in
theorem outI_c (p : Nat → Int) (hpb : ∀ i, i < 4 → 0 ≤ p i ∧ p i ≤ 35184372088832) (b : Nat) (hb : b < 4) (w : World) : Calls Tryd.prog 31 #[.agg (A4 p), .int .i64 b] w fun e w' => e = .returned (.bool (outB p b 4 && decide (1000000 ≤ p b))) ∧ Below w.heap.size w w' := by
  obtain ⟨W0, hW0⟩ : ∃ W, w.alloc (Obj.cells (A4 p) 43) = W := ⟨_, rfl⟩
  have HK0 : Hid (Blk W0 w.heap.size (A4 p) 43) := by rw [← hW0]; exact Blk.new _ _ _
  have HB0 : Hid (Below w.heap.size w W0) := by rw [← hW0]; exact (Below.refl _ _).alloc (Nat.le_refl _) _
  have k0 : W0.cell? ⟨w.heap.size, 0, none⟩ = some (.int .i64 (p 0)) := HK0.out.cell 0
  have k1 : W0.cell? ⟨w.heap.size, 1, none⟩ = some (.int .i64 (p 1)) := HK0.out.cell 1
  have k2 : W0.cell? ⟨w.heap.size, 2, none⟩ = some (.int .i64 (p 2)) := HK0.out.cell 2
  have k3 : W0.cell? ⟨w.heap.size, 3, none⟩ = some (.int .i64 (p 3)) := HK0.out.cell 3
  obtain ⟨PW, hPW⟩ : ∃ P : World → Prop, ∀ W, P W ↔ W = W0 := ⟨_, fun _ => Iff.rfl⟩
  have HPW : Hid (∀ W, PW W ↔ W = W0) := hPW
  have kb := HK0.out.cell b
  rw [A4_at p _ hb] at kb
  have hbd := hpb b hb
  obtain ⟨x, hx⟩ : ∃ x, p b = x := ⟨_, rfl⟩
  have HX : Hid (p b = x) := hx
  rw [hx] at kb hbd ⊢
  have hb1 : (0 : Int) ≤ (b : Int) := by omega
  have hb2 : (b : Int) < 4 := by omega
  have HPB : Hid (∀ i, i < 4 → 0 ≤ p i ∧ p i ≤ 35184372088832) := hpb
  clear hPW hx hpb
  go_enter Tryd.func31, Tryd.ntmps31
  go_wp2
  clear hW0 k0 k1 k2 k3
  go_loopw [8] (fun i wr => ∃ j : Nat, j ≤ 4 ∧ i = .int .i64 j ∧ Hid (outB p b j = true) ∧ Hid (PW wr)) (fun i _ => 4 - (intOf i).toNat)
  case atStart => exact ⟨0, Nat.zero_le _, rfl, rfl, (HPW.out _).2 rfl⟩
  case round =>
    obtain ⟨j, hj, rfl, hO, hw⟩ := hrel
    have hww := (HPW.out _).1 hw.out
    clear hw
    subst hww
    by_cases hlt : j < 4
    case neg =>
      obtain rfl : j = 4 := by omega
      go_wp2
      go_ret
      exact ⟨by rw [hO.out]; rfl, HB0.out⟩
    case pos =>
    have HS : Hid (outB p b (j + 1) = (outB p b j && (decide (j = b) || decide (8 * p j ≤ p b)))) := rfl
    have HFA : Hid (outB p b (j + 1) = false → outB p b 4 = false) := fun h => by
      obtain rfl | rfl | rfl | rfl : j = 0 ∨ j = 1 ∨ j = 2 ∨ j = 3 := by omega
      all_goals simp only [outB, Nat.zero_add] at h ⊢
      all_goals simp only [h, Bool.false_and]
    have hjp := HPB.out j hlt
    obtain ⟨y, hy⟩ : ∃ y, p j = y := ⟨_, rfl⟩
    have HY : Hid (p j = y) := hy
    rw [hy, HX.out] at HS
    rw [hy] at hjp
    clear hy
    rw [hO.out] at HS
    by_cases c0 : j = b
    · have HN : Hid (outB p b (j + 1) = true) := by show _ = _; rw [HS.out]; simp [c0]
      have cd : ((j : Int) != (b : Int)) = false := by simp; omega
      clear HS HFA
      go_wp2_with (refine idx4 rfl _ _ rfl p j hlt rfl rfl ?_; rw [HY.out])
      go_roundw
      case rel => exact ⟨j + 1, by omega, by go_num, HN.out, (HPW.out _).2 rfl⟩
      case measure => simp [intOf]; omega
    have cd : ((j : Int) != (b : Int)) = true := by simp; omega
    by_cases c : x < 8 * y
    · have HN : Hid (outB p b 4 = false) := HFA.out (by rw [HS.out]; simp [c0]; omega)
      have ce : decide (x < 8 * y) = true := by simp; exact c
      clear HS HFA
      go_wp2_with (refine idx4 rfl _ _ rfl p j hlt rfl rfl ?_; rw [HY.out])
      go_ret
      exact ⟨by rw [HN.out]; rfl, HB0.out⟩
    · have HN : Hid (outB p b (j + 1) = true) := by show _ = _; rw [HS.out]; simp [c0]; omega
      have ce : decide (x < 8 * y) = false := by simp; omega
      clear HS HFA
      go_wp2_with (refine idx4 rfl _ _ rfl p j hlt rfl rfl ?_; rw [HY.out])
      go_roundw
      case rel => exact ⟨j + 1, by omega, by go_num, HN.out, (HPW.out _).2 rfl⟩
      case measure => simp [intOf]; omega

end Go.Proofs.YtgdejlofkjdkoaaDoor

/- NewTrunk, the program's and the model's; no condition. -/
import Derived.Test.YtkehcalijamhjaaTkI
namespace Go.Proofs.Ytkehcalijamhjaa
open Go.RowKit Go.ChangeShapes Go.WideShapes Go.ChangeAt
set_option linter.unusedVariables false
set_option linter.unusedSimpArgs false
set_option maxRecDepth 8000

def nz (n : Int) : List Int := if 1 ≤ n ∧ n ≤ 24 then List.replicate n.toNat 0 else []
def NwR (n : Int) (w : World) (e : Ending) (w' : World) : Prop := ∃ c0 c1, e = .returned (.agg (T6 c0 c1 0 0 (.slice none 0 0) (.slice none 0 0))) ∧ Ok6 w.heap.size w'.heap.size w' c0 c1 (.slice none 0 0) (.slice none 0 0) (nz n) (nz n) [] [] ∧ Below w.heap.size w w'
theorem Op.nil (b : Nat) (W : World) : Op mf mg 68 b W (.slice none 0 0) [] := ⟨rfl, .inl ⟨rfl, rfl⟩⟩
theorem Ow.nilx (b : Nat) (W : World) : Ow .i64 3 b W (.slice none 0 0) [] := ⟨rfl, .inl ⟨rfl, rfl⟩⟩
theorem Ok6.zero (b h : Nat) (W : World) : Ok6 b h W (.slice none 0 0) (.slice none 0 0) (.slice none 0 0) (.slice none 0 0) [] [] [] [] :=
  ⟨Ow.nilx _ _, Ow.nilx _ _, Op.nil _ _, Op.nil _ _, fun k hk => by rcases hk with (e | e) | (e | e) <;> simp [Value.ownBlock] at e, fun k e => by simp [Value.ownBlock] at e, fun k e => by simp [Value.ownBlock] at e, fun k e => by rcases e with e | e <;> simp [Value.ownBlock] at e⟩
theorem Ok6.ints {b h : Nat} {W : World} {c0 c1 : Value} {z0 z1 : List Int} (o0 : Ow .i64 3 b W c0 z0) (o1 : Ow .i64 3 b W c1 z1) (ap : Apart c0 c1) (hh : W.heap.size ≤ h) : Ok6 b h W c0 c1 (.slice none 0 0) (.slice none 0 0) z0 z1 [] [] :=
  ⟨o0, o1, Op.nil _ _, Op.nil _ _, fun k hk => by
    rcases hk with (e | e) | (e | e)
    · have := (World.ownsRow.lt o0 k e).2; omega
    · have := (World.ownsRow.lt o1 k e).2; omega
    · simp [Value.ownBlock] at e
    · simp [Value.ownBlock] at e, ap, fun k e => by simp [Value.ownBlock] at e, fun k _ e => by rcases e with e | e <;> simp [Value.ownBlock] at e⟩
theorem made0 (n : Nat) : (madeCells #[Value.int .i64 0] n).toList = (List.replicate n (0 : Int)).map (Value.int .i64) := by rw [toList_madeCells_one]; simp
theorem made1 (n : Nat) : (madeCells (Value.int .i64 0).cells (n * 1)).toList = (List.replicate n (0 : Int)).map (Value.int .i64) := by rw [Nat.mul_one]; exact made0 n

set_option maxHeartbeats 3200000 in
theorem newI_c (n : Int) (w : World) : Calls Try.prog 13 #[.int .i64 n] w (NwR n w) := by
  obtain ⟨W0, hW0⟩ : ∃ W0, w.alloc (Obj.cells (T6 (.slice none 0 0) (.slice none 0 0) 0 0 (.slice none 0 0) (.slice none 0 0)) 33) = W0 := ⟨_, rfl⟩
  have hb0 : Below w.heap.size w W0 := by rw [← hW0]; exact (Below.refl _ _).alloc (Nat.le_refl _) _
  have K0 : Hid (Blk W0 w.heap.size (T6 (.slice none 0 0) (.slice none 0 0) 0 0 (.slice none 0 0) (.slice none 0 0)) 33) := by rw [← hW0]; exact Blk.new _ _ _
  have HB : Hid (Below w.heap.size w W0) := hb0
  have x0 := K0.out.cell 0
  have x1 := K0.out.cell 1
  have x2 := K0.out.cell 2
  have x3 := K0.out.cell 3
  have x4 := K0.out.cell 4
  have x5 := K0.out.cell 5
  have xf0 := K0.out.frozen 0
  have xf1 := K0.out.frozen 1
  have xf2 := K0.out.frozen 2
  have xf3 := K0.out.frozen 3
  have xf4 := K0.out.frozen 4
  have xf5 := K0.out.frozen 5
  have xl := K0.out.lt
  simp at x0 x1 x2 x3 x4 x5
  clear hb0
  by_cases hc : 1 ≤ n ∧ n ≤ 24
  case neg =>
    have HC : Hid (¬ (1 ≤ n ∧ n ≤ 24)) := hc
    have HF : Hid (∀ W, (((((W0.setCell ⟨w.heap.size, 0, none⟩ (.slice none 0 0)).setCell ⟨w.heap.size, 1, none⟩ (.slice none 0 0)).setCell ⟨w.heap.size, 2, none⟩ (.int .i64 0)).setCell ⟨w.heap.size, 3, none⟩ (.int .i64 0)).setCell ⟨w.heap.size, 4, none⟩ (.slice none 0 0)).setCell ⟨w.heap.size, 5, none⟩ (.slice none 0 0) = W → Blk W w.heap.size (T6 (.slice none 0 0) (.slice none 0 0) 0 0 (.slice none 0 0) (.slice none 0 0)) 33 ∧ NwR n w (.returned (.agg (T6 (.slice none 0 0) (.slice none 0 0) 0 0 (.slice none 0 0) (.slice none 0 0)))) W) := by
      rintro _ rfl
      have hf : Fr (fun k => k = w.heap.size) W0 ((((((W0.setCell ⟨w.heap.size, 0, none⟩ (.slice none 0 0)).setCell ⟨w.heap.size, 1, none⟩ (.slice none 0 0)).setCell ⟨w.heap.size, 2, none⟩ (.int .i64 0)).setCell ⟨w.heap.size, 3, none⟩ (.int .i64 0)).setCell ⟨w.heap.size, 4, none⟩ (.slice none 0 0)).setCell ⟨w.heap.size, 5, none⟩ (.slice none 0 0)) := by
        refine ((((((Fr.refl _ _).set ?_ _ _).set ?_ _ _).set ?_ _ _).set ?_ _ _).set ?_ _ _).set ?_ _ _
        all_goals rfl
      refine ⟨(((((K0.out.set 0 _).set 1 _).set 2 _).set 3 _).set 4 _).set 5 _, _, _, rfl, ?_, HB.out.trans (hf.below HB.out.size (fun k e => by omega))⟩
      rw [nz, if_neg HC.out]; exact Ok6.zero _ _ _
    clear hc
    go_enter Try.func13, Try.ntmps13
    go_wp2_with (fail)
    clear hW0
    refine (circs_c n W0).mono ?_
    rintro e wq ⟨rfl, hwq⟩
    rw [hwq, decide_eq_false HC.out]
    clear hwq wq
    go_wp2
    exact bodyPost_ret (v := .agg (T6 (.slice none 0 0) (.slice none 0 0) 0 0 (.slice none 0 0) (.slice none 0 0))) (results_cell_row rfl _ _ _ 33 _ (0, 0) _ rfl (HF.out _ rfl).1 Try.underlying33 rfl size33) rfl (HF.out _ rfl).2
  obtain ⟨N, rfl⟩ : ∃ N : Nat, n = (N : Int) := ⟨n.toNat, by omega⟩
  have HC : Hid (1 ≤ (N : Int) ∧ (N : Int) ≤ 24) := hc
  have hN : N ≤ 24 := by omega
  obtain ⟨i0, hi, hz0, hz1, hz2⟩ := info_parts toIInfo
  clear hc
  go_enter Try.func13, Try.ntmps13
  go_wp2_with (fail)
  clear hW0
  refine (circs_c (N : Int) W0).mono ?_
  rintro e wq ⟨rfl, hwq⟩
  rw [hwq, decide_eq_true HC.out]
  clear hwq wq
  go_wp2
  refine region_any0 (by kernel_rfl) ?_
  obtain ⟨u0, hu0⟩ : ∃ W, W0.drew = W := ⟨_, rfl⟩
  have HB1 : Hid (Below W0.heap.size W0 u0) := hu0 ▸ (Below.refl _ _).drew
  rw [hu0]
  clear hu0
  have neT : Nonempty (At (fun _ => True)) := ⟨⟨u0, trivial⟩⟩
  refine any_pure [true, false, true, false, false, false, false] 5 rfl (by kernel_rfl) (fun _ _ _ _ _ h => h) ?_
  simp only [selT]
  repeat (go_big_quiet_step (fail))
  refine wpQuiet_nil ?_
  refine any_two 1 3 (by kernel_rfl) rfl rfl ?_ ?_
  · refine wpList_make_full _ rfl _ _ 27 rfl u0.heap.size 3 i0 (.int .i64 0) 1 Try.underlying27 hi hz0 hz1 .i64 .i64 _ _ N rfl rfl rfl rfl (by rw [hz2]; omega) (by unfold maxLen; omega) (Nat.le_refl _) ?_
    intro w1 ho1 hg1
    rw [made1 N] at ho1
    have HO1 : Hid (Ow .i64 3 u0.heap.size w1 (.slice (some ⟨u0.heap.size, 0, none⟩) N N) (List.replicate N 0)) := by show Ow _ _ _ _ _ _; unfold Ow; rw [List.length_replicate]; exact ho1
    have HG1 : Hid (u0.grownBy w1 none) := hg1
    clear ho1 hg1
    go_wp2
    refine any_one 3 (by kernel_rfl) rfl ?_
    refine wpList_make_full _ rfl _ _ 27 rfl w1.heap.size 3 i0 (.int .i64 0) 1 Try.underlying27 hi hz0 hz1 .i64 .i64 _ _ N rfl rfl rfl rfl (by rw [hz2]; omega) (by unfold maxLen; omega) (Nat.le_refl _) ?_
    intro w2 ho2 hg2
    rw [made1 N] at ho2
    have q2 : Ow .i64 3 w1.heap.size w2 (.slice (some ⟨w1.heap.size, 0, none⟩) N N) (List.replicate N 0) := by unfold Ow; rw [List.length_replicate]; exact ho2
    have b2 : Below w1.heap.size w1 w2 := grown_below hg2 (Nat.le_refl _) (by simp)
    have b1 : Below u0.heap.size u0 w1 := grown_below HG1.out (Nat.le_refl _) (by simp)
    have q1 : Ow .i64 3 u0.heap.size w2 (.slice (some ⟨u0.heap.size, 0, none⟩) N N) (List.replicate N 0) := HO1.out.below b2
    have lt1 : u0.heap.size < w1.heap.size := (World.ownsRow.lt HO1.out _ rfl).2
    have s0 : W0.heap.size ≤ u0.heap.size := HB1.out.size
    have bw : Below W0.heap.size W0 w2 := belowCall (belowCall HB1.out b1 HB1.out.size) b2 (belowCall HB1.out b1 HB1.out.size).size
    have KB : Hid (Blk w2 w.heap.size (T6 (.slice none 0 0) (.slice none 0 0) 0 0 (.slice none 0 0) (.slice none 0 0)) 33) := K0.out.below bw K0.out.lt
    have sw := HB.out.size
    have bww : Below w.heap.size w w2 := belowCall HB.out bw HB.out.size
    have HF : Hid (∀ W, (((((w2.setCell ⟨w.heap.size, 0, none⟩ (.slice (some ⟨u0.heap.size, 0, none⟩) N N)).setCell ⟨w.heap.size, 1, none⟩ (.slice (some ⟨w1.heap.size, 0, none⟩) N N)).setCell ⟨w.heap.size, 2, none⟩ (.int .i64 0)).setCell ⟨w.heap.size, 3, none⟩ (.int .i64 0)).setCell ⟨w.heap.size, 4, none⟩ (.slice none 0 0)).setCell ⟨w.heap.size, 5, none⟩ (.slice none 0 0) = W → Blk W w.heap.size (T6 (.slice (some ⟨u0.heap.size, 0, none⟩) N N) (.slice (some ⟨w1.heap.size, 0, none⟩) N N) 0 0 (.slice none 0 0) (.slice none 0 0)) 33 ∧ NwR (N : Int) w (.returned (.agg (T6 (.slice (some ⟨u0.heap.size, 0, none⟩) N N) (.slice (some ⟨w1.heap.size, 0, none⟩) N N) 0 0 (.slice none 0 0) (.slice none 0 0)))) W) := by
      rintro _ rfl
      have hf : Fr (fun k => k = w.heap.size) w2 ((((((w2.setCell ⟨w.heap.size, 0, none⟩ (.slice (some ⟨u0.heap.size, 0, none⟩) N N)).setCell ⟨w.heap.size, 1, none⟩ (.slice (some ⟨w1.heap.size, 0, none⟩) N N)).setCell ⟨w.heap.size, 2, none⟩ (.int .i64 0)).setCell ⟨w.heap.size, 3, none⟩ (.int .i64 0)).setCell ⟨w.heap.size, 4, none⟩ (.slice none 0 0)).setCell ⟨w.heap.size, 5, none⟩ (.slice none 0 0)) := by
        refine ((((((Fr.refl _ _).set ?_ _ _).set ?_ _ _).set ?_ _ _).set ?_ _ _).set ?_ _ _).set ?_ _ _
        all_goals rfl
      have r1 : Ow .i64 3 w.heap.size ((((((w2.setCell ⟨w.heap.size, 0, none⟩ (.slice (some ⟨u0.heap.size, 0, none⟩) N N)).setCell ⟨w.heap.size, 1, none⟩ (.slice (some ⟨w1.heap.size, 0, none⟩) N N)).setCell ⟨w.heap.size, 2, none⟩ (.int .i64 0)).setCell ⟨w.heap.size, 3, none⟩ (.int .i64 0)).setCell ⟨w.heap.size, 4, none⟩ (.slice none 0 0)).setCell ⟨w.heap.size, 5, none⟩ (.slice none 0 0)) (.slice (some ⟨u0.heap.size, 0, none⟩) N N) (List.replicate N 0) := (show Ow .i64 3 u0.heap.size _ _ _ from ownsRow_fr q1 hf (fun k e h => by simp [Value.ownBlock] at e; omega)).mono (by omega)
      have r2 : Ow .i64 3 w.heap.size ((((((w2.setCell ⟨w.heap.size, 0, none⟩ (.slice (some ⟨u0.heap.size, 0, none⟩) N N)).setCell ⟨w.heap.size, 1, none⟩ (.slice (some ⟨w1.heap.size, 0, none⟩) N N)).setCell ⟨w.heap.size, 2, none⟩ (.int .i64 0)).setCell ⟨w.heap.size, 3, none⟩ (.int .i64 0)).setCell ⟨w.heap.size, 4, none⟩ (.slice none 0 0)).setCell ⟨w.heap.size, 5, none⟩ (.slice none 0 0)) (.slice (some ⟨w1.heap.size, 0, none⟩) N N) (List.replicate N 0) := (show Ow .i64 3 w1.heap.size _ _ _ from ownsRow_fr q2 hf (fun k e h => by simp [Value.ownBlock] at e; omega)).mono (by omega)
      refine ⟨(((((KB.out.set 0 _).set 1 _).set 2 _).set 3 _).set 4 _).set 5 _, _, _, rfl, ?_, bww.trans (hf.below (by have := bww.size; omega) (fun k e => by omega))⟩
      rw [nz, if_pos HC.out, Int.toNat_natCast]
      exact Ok6.ints r1 r2 (fun k e1 e2 => by simp [Value.ownBlock] at e1 e2; omega) (Nat.le_refl _)
    clear x0 x1 x2 x3 x4 x5 xf0 xf1 xf2 xf3 xf4 xf5 xl
    have x0 := KB.out.cell 0
    have x1 := KB.out.cell 1
    have x2 := KB.out.cell 2
    have x3 := KB.out.cell 3
    have x4 := KB.out.cell 4
    have x5 := KB.out.cell 5
    have xf0 := KB.out.frozen 0
    have xf1 := KB.out.frozen 1
    have xf2 := KB.out.frozen 2
    have xf3 := KB.out.frozen 3
    have xf4 := KB.out.frozen 4
    have xf5 := KB.out.frozen 5
    have xl := KB.out.lt
    simp at x0 x1 x2 x3 x4 x5
    clear ho2 hg2 q1 q2 b1 b2 bw bww
    go_wp2
    refine any_pure [false, false, false, false, true, true, false] 1 rfl (by kernel_rfl) (fun _ _ _ _ _ h => h) ?_
    simp only [selT]
    repeat (go_big_quiet_step (fail))
    refine wpQuiet_nil ?_
    refine any_one 6 (by kernel_rfl) rfl ?_
    go_wp2
    refine any_end (by kernel_rfl) ?_
    go_wp2
    exact bodyPost_ret (v := .agg (T6 (.slice (some ⟨u0.heap.size, 0, none⟩) N N) (.slice (some ⟨w1.heap.size, 0, none⟩) N N) 0 0 (.slice none 0 0) (.slice none 0 0))) (results_cell_row rfl _ _ _ 33 _ (0, 0) _ rfl (HF.out _ rfl).1 Try.underlying33 rfl size33) rfl (HF.out _ rfl).2
  · refine wpList_make_full _ rfl _ _ 27 rfl u0.heap.size 3 i0 (.int .i64 0) 1 Try.underlying27 hi hz0 hz1 .i64 .i64 _ _ N rfl rfl rfl rfl (by rw [hz2]; omega) (by unfold maxLen; omega) (Nat.le_refl _) ?_
    intro w1 ho1 hg1
    rw [made1 N] at ho1
    have HO1 : Hid (Ow .i64 3 u0.heap.size w1 (.slice (some ⟨u0.heap.size, 0, none⟩) N N) (List.replicate N 0)) := by show Ow _ _ _ _ _ _; unfold Ow; rw [List.length_replicate]; exact ho1
    have HG1 : Hid (u0.grownBy w1 none) := hg1
    clear ho1 hg1
    go_wp2
    refine any_one 1 (by kernel_rfl) rfl ?_
    refine wpList_make_full _ rfl _ _ 27 rfl w1.heap.size 3 i0 (.int .i64 0) 1 Try.underlying27 hi hz0 hz1 .i64 .i64 _ _ N rfl rfl rfl rfl (by rw [hz2]; omega) (by unfold maxLen; omega) (Nat.le_refl _) ?_
    intro w2 ho2 hg2
    rw [made1 N] at ho2
    have q2 : Ow .i64 3 w1.heap.size w2 (.slice (some ⟨w1.heap.size, 0, none⟩) N N) (List.replicate N 0) := by unfold Ow; rw [List.length_replicate]; exact ho2
    have b2 : Below w1.heap.size w1 w2 := grown_below hg2 (Nat.le_refl _) (by simp)
    have b1 : Below u0.heap.size u0 w1 := grown_below HG1.out (Nat.le_refl _) (by simp)
    have q1 : Ow .i64 3 u0.heap.size w2 (.slice (some ⟨u0.heap.size, 0, none⟩) N N) (List.replicate N 0) := HO1.out.below b2
    have lt1 : u0.heap.size < w1.heap.size := (World.ownsRow.lt HO1.out _ rfl).2
    have s0 : W0.heap.size ≤ u0.heap.size := HB1.out.size
    have bw : Below W0.heap.size W0 w2 := belowCall (belowCall HB1.out b1 HB1.out.size) b2 (belowCall HB1.out b1 HB1.out.size).size
    have KB : Hid (Blk w2 w.heap.size (T6 (.slice none 0 0) (.slice none 0 0) 0 0 (.slice none 0 0) (.slice none 0 0)) 33) := K0.out.below bw K0.out.lt
    have sw := HB.out.size
    have bww : Below w.heap.size w w2 := belowCall HB.out bw HB.out.size
    have HF : Hid (∀ W, (((((w2.setCell ⟨w.heap.size, 0, none⟩ (.slice (some ⟨w1.heap.size, 0, none⟩) N N)).setCell ⟨w.heap.size, 1, none⟩ (.slice (some ⟨u0.heap.size, 0, none⟩) N N)).setCell ⟨w.heap.size, 2, none⟩ (.int .i64 0)).setCell ⟨w.heap.size, 3, none⟩ (.int .i64 0)).setCell ⟨w.heap.size, 4, none⟩ (.slice none 0 0)).setCell ⟨w.heap.size, 5, none⟩ (.slice none 0 0) = W → Blk W w.heap.size (T6 (.slice (some ⟨w1.heap.size, 0, none⟩) N N) (.slice (some ⟨u0.heap.size, 0, none⟩) N N) 0 0 (.slice none 0 0) (.slice none 0 0)) 33 ∧ NwR (N : Int) w (.returned (.agg (T6 (.slice (some ⟨w1.heap.size, 0, none⟩) N N) (.slice (some ⟨u0.heap.size, 0, none⟩) N N) 0 0 (.slice none 0 0) (.slice none 0 0)))) W) := by
      rintro _ rfl
      have hf : Fr (fun k => k = w.heap.size) w2 ((((((w2.setCell ⟨w.heap.size, 0, none⟩ (.slice (some ⟨w1.heap.size, 0, none⟩) N N)).setCell ⟨w.heap.size, 1, none⟩ (.slice (some ⟨u0.heap.size, 0, none⟩) N N)).setCell ⟨w.heap.size, 2, none⟩ (.int .i64 0)).setCell ⟨w.heap.size, 3, none⟩ (.int .i64 0)).setCell ⟨w.heap.size, 4, none⟩ (.slice none 0 0)).setCell ⟨w.heap.size, 5, none⟩ (.slice none 0 0)) := by
        refine ((((((Fr.refl _ _).set ?_ _ _).set ?_ _ _).set ?_ _ _).set ?_ _ _).set ?_ _ _).set ?_ _ _
        all_goals rfl
      have r1 : Ow .i64 3 w.heap.size ((((((w2.setCell ⟨w.heap.size, 0, none⟩ (.slice (some ⟨w1.heap.size, 0, none⟩) N N)).setCell ⟨w.heap.size, 1, none⟩ (.slice (some ⟨u0.heap.size, 0, none⟩) N N)).setCell ⟨w.heap.size, 2, none⟩ (.int .i64 0)).setCell ⟨w.heap.size, 3, none⟩ (.int .i64 0)).setCell ⟨w.heap.size, 4, none⟩ (.slice none 0 0)).setCell ⟨w.heap.size, 5, none⟩ (.slice none 0 0)) (.slice (some ⟨u0.heap.size, 0, none⟩) N N) (List.replicate N 0) := (show Ow .i64 3 u0.heap.size _ _ _ from ownsRow_fr q1 hf (fun k e h => by simp [Value.ownBlock] at e; omega)).mono (by omega)
      have r2 : Ow .i64 3 w.heap.size ((((((w2.setCell ⟨w.heap.size, 0, none⟩ (.slice (some ⟨w1.heap.size, 0, none⟩) N N)).setCell ⟨w.heap.size, 1, none⟩ (.slice (some ⟨u0.heap.size, 0, none⟩) N N)).setCell ⟨w.heap.size, 2, none⟩ (.int .i64 0)).setCell ⟨w.heap.size, 3, none⟩ (.int .i64 0)).setCell ⟨w.heap.size, 4, none⟩ (.slice none 0 0)).setCell ⟨w.heap.size, 5, none⟩ (.slice none 0 0)) (.slice (some ⟨w1.heap.size, 0, none⟩) N N) (List.replicate N 0) := (show Ow .i64 3 w1.heap.size _ _ _ from ownsRow_fr q2 hf (fun k e h => by simp [Value.ownBlock] at e; omega)).mono (by omega)
      refine ⟨(((((KB.out.set 0 _).set 1 _).set 2 _).set 3 _).set 4 _).set 5 _, _, _, rfl, ?_, bww.trans (hf.below (by have := bww.size; omega) (fun k e => by omega))⟩
      rw [nz, if_pos HC.out, Int.toNat_natCast]
      exact Ok6.ints r2 r1 (fun k e1 e2 => by simp [Value.ownBlock] at e1 e2; omega) (Nat.le_refl _)
    clear x0 x1 x2 x3 x4 x5 xf0 xf1 xf2 xf3 xf4 xf5 xl
    have x0 := KB.out.cell 0
    have x1 := KB.out.cell 1
    have x2 := KB.out.cell 2
    have x3 := KB.out.cell 3
    have x4 := KB.out.cell 4
    have x5 := KB.out.cell 5
    have xf0 := KB.out.frozen 0
    have xf1 := KB.out.frozen 1
    have xf2 := KB.out.frozen 2
    have xf3 := KB.out.frozen 3
    have xf4 := KB.out.frozen 4
    have xf5 := KB.out.frozen 5
    have xl := KB.out.lt
    simp at x0 x1 x2 x3 x4 x5
    clear ho2 hg2 q1 q2 b1 b2 bw bww
    go_wp2
    refine any_pure [false, false, false, false, true, true, false] 1 rfl (by kernel_rfl) (fun _ _ _ _ _ h => h) ?_
    simp only [selT]
    repeat (go_big_quiet_step (fail))
    refine wpQuiet_nil ?_
    refine any_one 6 (by kernel_rfl) rfl ?_
    go_wp2
    refine any_end (by kernel_rfl) ?_
    go_wp2
    exact bodyPost_ret (v := .agg (T6 (.slice (some ⟨w1.heap.size, 0, none⟩) N N) (.slice (some ⟨u0.heap.size, 0, none⟩) N N) 0 0 (.slice none 0 0) (.slice none 0 0))) (results_cell_row rfl _ _ _ 33 _ (0, 0) _ rfl (HF.out _ rfl).1 Try.underlying33 rfl size33) rfl (HF.out _ rfl).2

set_option maxHeartbeats 3200000 in
theorem newM_c (n : Int) (w : World) : Calls Try.prog 28 #[.int .i64 n] w (NwR n w) := by
  obtain ⟨W0, hW0⟩ : ∃ W0, (w.alloc (Obj.cells (T6 (.slice none 0 0) (.slice none 0 0) 0 0 (.slice none 0 0) (.slice none 0 0)) 33)).alloc (Obj.cells (T6 (.slice none 0 0) (.slice none 0 0) 0 0 (.slice none 0 0) (.slice none 0 0)) 33) = W0 := ⟨_, rfl⟩
  have hb0 : Below w.heap.size w W0 := by rw [← hW0]; exact ((Below.refl _ _).alloc (Nat.le_refl _) _).alloc (by simp) _
  have K0 : Hid (Blk W0 w.heap.size (T6 (.slice none 0 0) (.slice none 0 0) 0 0 (.slice none 0 0) (.slice none 0 0)) 33) := by rw [← hW0]; exact (Blk.new _ _ _).alloc _
  have K1 : Hid (Blk W0 (w.heap.size + 1) (T6 (.slice none 0 0) (.slice none 0 0) 0 0 (.slice none 0 0) (.slice none 0 0)) 33) := by rw [← hW0]; exact Blk.newAt _ (w.heap.size + 1) _ 33 (by simp)
  have HB : Hid (Below w.heap.size w W0) := hb0
  have HZS : Hid (W0.heap.size = w.heap.size + 2) := by rw [← hW0]; simp [Hid]
  have HW0 : Hid ((w.alloc (Obj.cells (T6 (.slice none 0 0) (.slice none 0 0) 0 0 (.slice none 0 0) (.slice none 0 0)) 33)).alloc (Obj.cells (T6 (.slice none 0 0) (.slice none 0 0) 0 0 (.slice none 0 0) (.slice none 0 0)) 33) = W0) := hW0
  clear hW0
  clear hb0
  by_cases hc : 1 ≤ n ∧ n ≤ 24
  case neg =>
    have HC : Hid (¬ (1 ≤ n ∧ n ≤ 24)) := hc
    have HF : Hid (∀ W, (((((W0.setCell ⟨w.heap.size, 0, none⟩ (.slice none 0 0)).setCell ⟨w.heap.size, 1, none⟩ (.slice none 0 0)).setCell ⟨w.heap.size, 2, none⟩ (.int .i64 0)).setCell ⟨w.heap.size, 3, none⟩ (.int .i64 0)).setCell ⟨w.heap.size, 4, none⟩ (.slice none 0 0)).setCell ⟨w.heap.size, 5, none⟩ (.slice none 0 0) = W → Blk W w.heap.size (T6 (.slice none 0 0) (.slice none 0 0) 0 0 (.slice none 0 0) (.slice none 0 0)) 33 ∧ NwR n w (.returned (.agg (T6 (.slice none 0 0) (.slice none 0 0) 0 0 (.slice none 0 0) (.slice none 0 0)))) W) := by
      rintro _ rfl
      have hf : Fr (fun k => k = w.heap.size) W0 ((((((W0.setCell ⟨w.heap.size, 0, none⟩ (.slice none 0 0)).setCell ⟨w.heap.size, 1, none⟩ (.slice none 0 0)).setCell ⟨w.heap.size, 2, none⟩ (.int .i64 0)).setCell ⟨w.heap.size, 3, none⟩ (.int .i64 0)).setCell ⟨w.heap.size, 4, none⟩ (.slice none 0 0)).setCell ⟨w.heap.size, 5, none⟩ (.slice none 0 0)) := by
        refine ((((((Fr.refl _ _).set ?_ _ _).set ?_ _ _).set ?_ _ _).set ?_ _ _).set ?_ _ _).set ?_ _ _
        all_goals rfl
      refine ⟨(((((K0.out.set 0 _).set 1 _).set 2 _).set 3 _).set 4 _).set 5 _, _, _, rfl, ?_, HB.out.trans (hf.below HB.out.size (fun k e => by omega))⟩
      rw [nz, if_neg HC.out]; exact Ok6.zero _ _ _
    clear hc
    go_enter Try.func28, Try.ntmps28
    go_wp2_with (fail)
    rw [HW0.out]
    have x0 := K0.out.cell 0
    have xf0 := K0.out.frozen 0
    have x1 := K0.out.cell 1
    have xf1 := K0.out.frozen 1
    have x2 := K0.out.cell 2
    have xf2 := K0.out.frozen 2
    have x3 := K0.out.cell 3
    have xf3 := K0.out.frozen 3
    have x4 := K0.out.cell 4
    have xf4 := K0.out.frozen 4
    have x5 := K0.out.cell 5
    have xf5 := K0.out.frozen 5
    have xl := K0.out.lt
    simp at x0 x1 x2 x3 x4 x5
    have y0 := K1.out.cell 0
    have yf0 := K1.out.frozen 0
    have y1 := K1.out.cell 1
    have yf1 := K1.out.frozen 1
    have y2 := K1.out.cell 2
    have yf2 := K1.out.frozen 2
    have y3 := K1.out.cell 3
    have yf3 := K1.out.frozen 3
    have y4 := K1.out.cell 4
    have yf4 := K1.out.frozen 4
    have y5 := K1.out.cell 5
    have yf5 := K1.out.frozen 5
    have yl := K1.out.lt
    simp at y0 y1 y2 y3 y4 y5
    refine (in_c n 1 24 W0).mono ?_
    rintro e wq ⟨rfl, hwq⟩
    rw [hwq, decide_eq_false HC.out]
    clear hwq wq
    go_wp2
    exact bodyPost_ret (v := .agg (T6 (.slice none 0 0) (.slice none 0 0) 0 0 (.slice none 0 0) (.slice none 0 0))) (results_cell_row rfl _ _ _ 33 _ (0, 0) _ rfl (HF.out _ rfl).1 Try.underlying33 rfl size33) rfl (HF.out _ rfl).2
  obtain ⟨N, rfl⟩ : ∃ N : Nat, n = (N : Int) := ⟨n.toNat, by omega⟩
  have HC : Hid (1 ≤ (N : Int) ∧ (N : Int) ≤ 24) := hc
  have hN : N ≤ 24 := by omega
  obtain ⟨i0, hi, hz0, hz1, hz2⟩ := info_parts toIInfo
  clear hc
  go_enter Try.func28, Try.ntmps28
  go_wp2_with (fail)
  rw [HW0.out]
  refine (in_c (N : Int) 1 24 W0).mono ?_
  rintro e wq ⟨rfl, hwq⟩
  rw [hwq, decide_eq_true HC.out]
  clear hwq wq
  go_wp2_with (at_make; refine wpList_make_full _ rfl _ _ 27 rfl W0.heap.size 3 i0 (.int .i64 0) 1 Try.underlying27 hi hz0 hz1 .i64 .i64 _ _ N rfl rfl rfl rfl (by rw [hz2]; omega) (by unfold maxLen; omega) (Nat.le_refl _) ?_)
  intro w1 ho1 hg1
  rw [made0] at ho1
  have q1 : Ow .i64 3 W0.heap.size w1 (.slice (some ⟨W0.heap.size, 0, none⟩) N N) (List.replicate N 0) := by unfold Ow; rw [List.length_replicate]; exact ho1
  have b1 : Below W0.heap.size W0 w1 := grown_below hg1 (Nat.le_refl _) (by simp)
  have k0 := K0.out.below b1 K0.out.lt
  have k1 := K1.out.below b1 K1.out.lt
  have lt1 : W0.heap.size < w1.heap.size := (World.ownsRow.lt q1 _ rfl).2
  have zsz := HZS.out
  obtain ⟨G0, hG0⟩ : ∃ k, W0.heap.size = k := ⟨_, rfl⟩
  rw [hG0] at q1 lt1 zsz ⊢
  have HO1 : Hid (Ow .i64 3 G0 (w1.setCell ⟨w.heap.size + 1, 0, none⟩ (.slice (some ⟨G0, 0, none⟩) N N)) (.slice (some ⟨G0, 0, none⟩) N N) (List.replicate N 0)) := World.ownsRow.kept q1 (grown_set _ _ _ _) (.inr (by simp [Value.ownBlock]; omega))
  have P0 : Hid (Blk (w1.setCell ⟨w.heap.size + 1, 0, none⟩ (.slice (some ⟨G0, 0, none⟩) N N)) w.heap.size (T6 (.slice none 0 0) (.slice none 0 0) 0 0 (.slice none 0 0) (.slice none 0 0)) 33) := k0.other _ _ (by simp)
  have P1 : Hid (Blk (w1.setCell ⟨w.heap.size + 1, 0, none⟩ (.slice (some ⟨G0, 0, none⟩) N N)) (w.heap.size + 1) (T6 (.slice (some ⟨G0, 0, none⟩) N N) (.slice none 0 0) 0 0 (.slice none 0 0) (.slice none 0 0)) 33) := k1.set 0 _
  have bb : Below w.heap.size w w1 := belowCall HB.out b1 HB.out.size
  have HB1 : Hid (Below w.heap.size w (w1.setCell ⟨w.heap.size + 1, 0, none⟩ (.slice (some ⟨G0, 0, none⟩) N N))) := bb.setCell (by dsimp only; omega) _
  have y0 := k1.cell 0
  have yf0 := k1.frozen 0
  simp at y0
  obtain ⟨W1, hW1⟩ : ∃ W, w1.setCell ⟨w.heap.size + 1, 0, none⟩ (.slice (some ⟨G0, 0, none⟩) N N) = W := ⟨_, rfl⟩
  have HS1 : Hid (W1.heap.size = w1.heap.size) := by rw [← hW1]; simp [Hid]
  rw [hW1] at HO1 P0 P1 HB1
  have HW1 : Hid (w1.setCell ⟨w.heap.size + 1, 0, none⟩ (.slice (some ⟨G0, 0, none⟩) N N) = W1) := hW1
  clear hW1
  have HZG : Hid (G0 = w.heap.size + 2 ∧ G0 < w1.heap.size) := ⟨zsz, lt1⟩
  clear ho1 hg1 q1 b1 k0 k1 bb hG0 K0 K1 HB zsz lt1
  go_wp2_with (at_make; rw [HW1.out]; refine wpList_make_full _ rfl _ _ 27 rfl W1.heap.size 3 i0 (.int .i64 0) 1 Try.underlying27 hi hz0 hz1 .i64 .i64 _ _ N rfl rfl rfl rfl (by rw [hz2]; omega) (by unfold maxLen; omega) (Nat.le_refl _) ?_)
  intro w2 ho2 hg2
  clear y0 yf0
  rw [made0] at ho2
  have q2 : Ow .i64 3 W1.heap.size w2 (.slice (some ⟨W1.heap.size, 0, none⟩) N N) (List.replicate N 0) := by unfold Ow; rw [List.length_replicate]; exact ho2
  have b2 : Below W1.heap.size W1 w2 := grown_below hg2 (Nat.le_refl _) (by simp)
  have k0 := P0.out.below b2 P0.out.lt
  have k1 := P1.out.below b2 P1.out.lt
  have q1 := HO1.out.below b2
  have bb : Below w.heap.size w w2 := belowCall HB1.out b2 HB1.out.size
  have hs1 := HS1.out
  have hzg := HZG.out
  have HF : Hid (∀ W, ((((((w2.setCell ⟨w.heap.size + 1, 1, none⟩ (.slice (some ⟨W1.heap.size, 0, none⟩) N N)).setCell ⟨w.heap.size, 0, none⟩ (.slice (some ⟨G0, 0, none⟩) N N)).setCell ⟨w.heap.size, 1, none⟩ (.slice (some ⟨W1.heap.size, 0, none⟩) N N)).setCell ⟨w.heap.size, 2, none⟩ (.int .i64 0)).setCell ⟨w.heap.size, 3, none⟩ (.int .i64 0)).setCell ⟨w.heap.size, 4, none⟩ (.slice none 0 0)).setCell ⟨w.heap.size, 5, none⟩ (.slice none 0 0) = W → Blk W w.heap.size (T6 (.slice (some ⟨G0, 0, none⟩) N N) (.slice (some ⟨W1.heap.size, 0, none⟩) N N) 0 0 (.slice none 0 0) (.slice none 0 0)) 33 ∧ NwR (N : Int) w (.returned (.agg (T6 (.slice (some ⟨G0, 0, none⟩) N N) (.slice (some ⟨W1.heap.size, 0, none⟩) N N) 0 0 (.slice none 0 0) (.slice none 0 0)))) W) := by
    rintro _ rfl
    have hf : Fr (fun k => k = w.heap.size + 1 ∨ k = w.heap.size) w2 (((((((w2.setCell ⟨w.heap.size + 1, 1, none⟩ (.slice (some ⟨W1.heap.size, 0, none⟩) N N)).setCell ⟨w.heap.size, 0, none⟩ (.slice (some ⟨G0, 0, none⟩) N N)).setCell ⟨w.heap.size, 1, none⟩ (.slice (some ⟨W1.heap.size, 0, none⟩) N N)).setCell ⟨w.heap.size, 2, none⟩ (.int .i64 0)).setCell ⟨w.heap.size, 3, none⟩ (.int .i64 0)).setCell ⟨w.heap.size, 4, none⟩ (.slice none 0 0)).setCell ⟨w.heap.size, 5, none⟩ (.slice none 0 0)) := by
      refine (((((((Fr.refl _ _).set ?_ _ _).set ?_ _ _).set ?_ _ _).set ?_ _ _).set ?_ _ _).set ?_ _ _).set ?_ _ _
      all_goals first | exact .inl rfl | exact .inr rfl
    have r1 : Ow .i64 3 w.heap.size (((((((w2.setCell ⟨w.heap.size + 1, 1, none⟩ (.slice (some ⟨W1.heap.size, 0, none⟩) N N)).setCell ⟨w.heap.size, 0, none⟩ (.slice (some ⟨G0, 0, none⟩) N N)).setCell ⟨w.heap.size, 1, none⟩ (.slice (some ⟨W1.heap.size, 0, none⟩) N N)).setCell ⟨w.heap.size, 2, none⟩ (.int .i64 0)).setCell ⟨w.heap.size, 3, none⟩ (.int .i64 0)).setCell ⟨w.heap.size, 4, none⟩ (.slice none 0 0)).setCell ⟨w.heap.size, 5, none⟩ (.slice none 0 0)) (.slice (some ⟨G0, 0, none⟩) N N) (List.replicate N 0) := (show Ow .i64 3 G0 _ _ _ from ownsRow_fr q1 hf (fun k e h => by simp [Value.ownBlock] at e; omega)).mono (by omega)
    have r2 : Ow .i64 3 w.heap.size (((((((w2.setCell ⟨w.heap.size + 1, 1, none⟩ (.slice (some ⟨W1.heap.size, 0, none⟩) N N)).setCell ⟨w.heap.size, 0, none⟩ (.slice (some ⟨G0, 0, none⟩) N N)).setCell ⟨w.heap.size, 1, none⟩ (.slice (some ⟨W1.heap.size, 0, none⟩) N N)).setCell ⟨w.heap.size, 2, none⟩ (.int .i64 0)).setCell ⟨w.heap.size, 3, none⟩ (.int .i64 0)).setCell ⟨w.heap.size, 4, none⟩ (.slice none 0 0)).setCell ⟨w.heap.size, 5, none⟩ (.slice none 0 0)) (.slice (some ⟨W1.heap.size, 0, none⟩) N N) (List.replicate N 0) := (show Ow .i64 3 W1.heap.size _ _ _ from ownsRow_fr q2 hf (fun k e h => by simp [Value.ownBlock] at e; omega)).mono (by omega)
    refine ⟨((((((k0.other _ _ (by simp)).set 0 _).set 1 _).set 2 _).set 3 _).set 4 _).set 5 _, _, _, rfl, ?_, bb.trans (hf.below (by have := bb.size; omega) (fun k e => by omega))⟩
    rw [nz, if_pos HC.out, Int.toNat_natCast]
    exact Ok6.ints r1 r2 (fun k e1 e2 => by simp [Value.ownBlock] at e1 e2; omega) (Nat.le_refl _)
  have x0 := k0.cell 0
  have xf0 := k0.frozen 0
  have x1 := k0.cell 1
  have xf1 := k0.frozen 1
  have x2 := k0.cell 2
  have xf2 := k0.frozen 2
  have x3 := k0.cell 3
  have xf3 := k0.frozen 3
  have x4 := k0.cell 4
  have xf4 := k0.frozen 4
  have x5 := k0.cell 5
  have xf5 := k0.frozen 5
  have xl := k0.lt
  simp at x0 x1 x2 x3 x4 x5
  have y0 := k1.cell 0
  have yf0 := k1.frozen 0
  have y1 := k1.cell 1
  have yf1 := k1.frozen 1
  have y2 := k1.cell 2
  have yf2 := k1.frozen 2
  have y3 := k1.cell 3
  have yf3 := k1.frozen 3
  have y4 := k1.cell 4
  have yf4 := k1.frozen 4
  have y5 := k1.cell 5
  have yf5 := k1.frozen 5
  have yl := k1.lt
  simp at y0 y1 y2 y3 y4 y5
  clear ho2 hg2 q1 q2 b2 bb k0 k1 hs1 hzg
  go_wp2
  exact bodyPost_ret (v := .agg (T6 (.slice (some ⟨G0, 0, none⟩) N N) (.slice (some ⟨W1.heap.size, 0, none⟩) N N) 0 0 (.slice none 0 0) (.slice none 0 0))) (results_cell_row rfl _ _ _ 33 _ (0, 0) _ rfl (HF.out _ rfl).1 Try.underlying33 rfl size33) rfl (HF.out _ rfl).2
end Go.Proofs.Ytkehcalijamhjaa

/- Ratios at work: products, parts, and which is less; no condition. -/
import Derived.Test.YtiadakponjpkmaaBlb
namespace Go.Proofs.Ytiadakponjpkmaa
open Go.RowKit Go.ChangeShapes Go.WideShapes Go.ChangeAt
set_option linter.unusedVariables false
set_option linter.unusedSimpArgs false
set_option maxRecDepth 8000

set_option maxHeartbeats 1600000 in
theorem times_c (a b c d : Nat) (w : World) (h1 : a * c ≤ 4611686018427387904) (h2 : b * d ≤ 4611686018427387904) (h3 : 0 < b * d) : Calls Try.prog 51 #[.agg #[.int .i64 (a : Int), .int .i64 (b : Int)], .agg #[.int .i64 (c : Int), .int .i64 (d : Int)]] w fun e w' => e = .returned (rt (low (a * c) (b * d))) ∧ Below w.heap.size w w' := by
  obtain ⟨p, hp⟩ : ∃ p, a * c = p := ⟨_, rfl⟩
  obtain ⟨q, hq⟩ : ∃ q, b * d = q := ⟨_, rfl⟩
  rw [hp] at h1
  rw [hq] at h2 h3
  have hm1 : wrap64 ((a : Int) * (c : Int)) = (p : Int) := by rw [← hp, wrap64_in (by rw [← Int.natCast_mul, hp]; omega)]; simp
  have hm2 : wrap64 ((b : Int) * (d : Int)) = (q : Int) := by rw [← hq, wrap64_in (by rw [← Int.natCast_mul, hq]; omega)]; simp
  have HCL : Hid (∀ W, Calls Try.prog 72 #[.agg #[.int .i64 (p : Int), .int .i64 (q : Int)]] W fun e w' => e = .returned (rt (low p q)) ∧ Below W.heap.size W w') := fun W => low_c p q W (by omega) (by omega) (by omega)
  have HF0 : Hid (Blk ((((w.alloc (.cells #[.int .i64 (a : Int), .int .i64 (b : Int)] 78)).alloc (.cells #[.int .i64 (c : Int), .int .i64 (d : Int)] 78)).alloc (.cells #[.int .i64 0, .int .i64 0] 78))) (w.heap.size + 2) #[.int .i64 0, .int .i64 0] 78 ∧ Below w.heap.size w ((((w.alloc (.cells #[.int .i64 (a : Int), .int .i64 (b : Int)] 78)).alloc (.cells #[.int .i64 (c : Int), .int .i64 (d : Int)] 78)).alloc (.cells #[.int .i64 0, .int .i64 0] 78)))) := ⟨Blk.newAt _ _ _ _ (by simp), (((Below.refl _ _).alloc (by simp; try omega) _).alloc (by simp; try omega) _).alloc (by simp; try omega) _⟩
  obtain ⟨x, hx⟩ : ∃ x, (low p q).1 = x := ⟨_, rfl⟩
  obtain ⟨y, hy⟩ : ∃ y, (low p q).2 = y := ⟨_, rfl⟩
  have HE : Hid (rt (low p q) = .agg #[.int .i64 (x : Int), .int .i64 (y : Int)]) := by show _ = _; rw [rt, hx, hy]
  rw [HE.out] at HCL
  have HEQ : Hid (rt (low (a * c) (b * d)) = .agg #[.int .i64 (x : Int), .int .i64 (y : Int)]) := by show _ = _; rw [← HE.out, ← hp, ← hq]
  rw [HEQ.out]
  clear hx hy hp hq HE
  go_enter Try.func51, Try.ntmps51
  go_wp2_with (fail)
  refine (HCL.out _).mono ?_
  rintro e w1 ⟨rfl, bb⟩
  have H2 : Hid (Blk w1 (w.heap.size + 2) #[.int .i64 0, .int .i64 0] 78) := HF0.out.1.below bb HF0.out.1.lt
  have HB1 : Hid (Below w.heap.size w w1) := belowCall HF0.out.2 bb HF0.out.2.size
  clear bb HF0 HCL
  obtain ⟨g, hg⟩ : ∃ g, w.heap.size = g := ⟨_, rfl⟩
  have HGE : Hid (w.heap.size = g) := hg
  rw [hg] at H2 HB1 ⊢
  clear hg
  have c0 : w1.cell? ⟨g + 2, 0, none⟩ = some (.int .i64 0) := H2.out.cell 0
  have c1 : w1.cell? ⟨g + 2, 1, none⟩ = some (.int .i64 0) := H2.out.cell 1
  have z0 : w1.frozen? ⟨g + 2, 0, none⟩ = false := H2.out.frozen 0
  have z1 : w1.frozen? ⟨g + 2, 1, none⟩ = false := H2.out.frozen 1
  have HF : Hid (∀ x y, Blk ((w1.setCell ⟨g + 2, 0, none⟩ x).setCell ⟨g + 2, 1, none⟩ y) (g + 2) #[x, y] 78 ∧ Below g w ((w1.setCell ⟨g + 2, 0, none⟩ x).setCell ⟨g + 2, 1, none⟩ y)) := fun x y => ⟨H2.out.set2 x y, below_set2 HB1.out _ (by omega) _ _⟩
  clear H2 HB1
  go_wp2
  exact bodyPost_ret (results_cell_row rfl _ _ _ 78 _ (0, 0) _ rfl (HF.out _ _).1 Try.underlying78 rfl szR) rfl ⟨rfl, by first | exact (HF.out _ _).2 | (rw [HGE.out]; exact (HF.out _ _).2)⟩

set_option maxHeartbeats 1600000 in
theorem beside_c (a b n : Nat) (w : World) (h2 : n * b + a ≤ 4611686018427387904) (h3 : 0 < n * b + a) : Calls Try.prog 52 #[.agg #[.int .i64 (a : Int), .int .i64 (b : Int)], .int .i64 (n : Int)] w fun e w' => e = .returned (rt (low a (n * b + a))) ∧ Below w.heap.size w w' := by
  obtain ⟨p, hp⟩ : ∃ p, a = p := ⟨_, rfl⟩
  obtain ⟨q, hq⟩ : ∃ q, n * b + p = q := ⟨_, rfl⟩
  subst hp
  have hp : a = a := rfl
  rw [hq] at h2 h3
  obtain ⟨p, hpp⟩ : ∃ p, a = p := ⟨_, rfl⟩
  obtain ⟨r, hr⟩ : ∃ r, n * b = r := ⟨_, rfl⟩
  have hm1 : wrap64 ((n : Int) * (b : Int)) = (r : Int) := by rw [← hr, wrap64_in (by rw [← Int.natCast_mul, hr]; omega)]; simp
  have hm2 : wrap64 ((r : Int) + (a : Int)) = (q : Int) := by rw [wrap64_in (by omega)]; omega
  subst hpp
  rw [hr] at hq
  clear hp
  have HCL : Hid (∀ W, Calls Try.prog 72 #[.agg #[.int .i64 (a : Int), .int .i64 (q : Int)]] W fun e w' => e = .returned (rt (low a q)) ∧ Below W.heap.size W w') := fun W => low_c a q W (by omega) (by omega) (by omega)
  have HF0 : Hid (Blk (((w.alloc (.cells #[.int .i64 (a : Int), .int .i64 (b : Int)] 78)).alloc (.cells #[.int .i64 0, .int .i64 0] 78))) (w.heap.size + 1) #[.int .i64 0, .int .i64 0] 78 ∧ Below w.heap.size w (((w.alloc (.cells #[.int .i64 (a : Int), .int .i64 (b : Int)] 78)).alloc (.cells #[.int .i64 0, .int .i64 0] 78)))) := ⟨Blk.newAt _ _ _ _ (by simp), ((Below.refl _ _).alloc (by simp; try omega) _).alloc (by simp; try omega) _⟩
  obtain ⟨x, hx⟩ : ∃ x, (low a q).1 = x := ⟨_, rfl⟩
  obtain ⟨y, hy⟩ : ∃ y, (low a q).2 = y := ⟨_, rfl⟩
  have HE : Hid (rt (low a q) = .agg #[.int .i64 (x : Int), .int .i64 (y : Int)]) := by show _ = _; rw [rt, hx, hy]
  rw [HE.out] at HCL
  have HEQ : Hid (rt (low a (n * b + a)) = .agg #[.int .i64 (x : Int), .int .i64 (y : Int)]) := by show _ = _; rw [← HE.out, hr, ← hq]
  rw [HEQ.out]
  clear hx hy hq HE hr
  go_enter Try.func52, Try.ntmps52
  go_wp2_with (fail)
  refine (HCL.out _).mono ?_
  rintro e w1 ⟨rfl, bb⟩
  have H2 : Hid (Blk w1 (w.heap.size + 1) #[.int .i64 0, .int .i64 0] 78) := HF0.out.1.below bb HF0.out.1.lt
  have HB1 : Hid (Below w.heap.size w w1) := belowCall HF0.out.2 bb HF0.out.2.size
  clear bb HF0 HCL
  obtain ⟨g, hg⟩ : ∃ g, w.heap.size = g := ⟨_, rfl⟩
  have HGE : Hid (w.heap.size = g) := hg
  rw [hg] at H2 HB1 ⊢
  clear hg
  have c0 : w1.cell? ⟨g + 1, 0, none⟩ = some (.int .i64 0) := H2.out.cell 0
  have c1 : w1.cell? ⟨g + 1, 1, none⟩ = some (.int .i64 0) := H2.out.cell 1
  have z0 : w1.frozen? ⟨g + 1, 0, none⟩ = false := H2.out.frozen 0
  have z1 : w1.frozen? ⟨g + 1, 1, none⟩ = false := H2.out.frozen 1
  have HF : Hid (∀ x y, Blk ((w1.setCell ⟨g + 1, 0, none⟩ x).setCell ⟨g + 1, 1, none⟩ y) (g + 1) #[x, y] 78 ∧ Below g w ((w1.setCell ⟨g + 1, 0, none⟩ x).setCell ⟨g + 1, 1, none⟩ y)) := fun x y => ⟨H2.out.set2 x y, below_set2 HB1.out _ (by omega) _ _⟩
  clear H2 HB1
  go_wp2
  exact bodyPost_ret (results_cell_row rfl _ _ _ 78 _ (0, 0) _ rfl (HF.out _ _).1 Try.underlying78 rfl szR) rfl ⟨rfl, by first | exact (HF.out _ _).2 | (rw [HGE.out]; exact (HF.out _ _).2)⟩

set_option maxHeartbeats 1600000 in
theorem atMost_c (a b c d : Nat) (w : World) (h1 : a * d ≤ 4611686018427387904) (h2 : c * b ≤ 4611686018427387904) : Calls Try.prog 56 #[.agg #[.int .i64 (a : Int), .int .i64 (b : Int)], .agg #[.int .i64 (c : Int), .int .i64 (d : Int)]] w fun e w' => e = .returned (.bool (decide (a * d ≤ c * b))) ∧ Below w.heap.size w w' := by
  obtain ⟨p, hp⟩ : ∃ p, a * d = p := ⟨_, rfl⟩
  obtain ⟨q, hq⟩ : ∃ q, c * b = q := ⟨_, rfl⟩
  rw [hp] at h1 ⊢
  rw [hq] at h2 ⊢
  have hm1 : wrap64 ((a : Int) * (d : Int)) = (p : Int) := by rw [← hp, wrap64_in (by rw [← Int.natCast_mul, hp]; omega)]; simp
  have hm2 : wrap64 ((c : Int) * (b : Int)) = (q : Int) := by rw [← hq, wrap64_in (by rw [← Int.natCast_mul, hq]; omega)]; simp
  have HB : Hid (∀ A B, Below w.heap.size w ((w.alloc A).alloc B)) := fun A B => ((Below.refl _ _).alloc (Nat.le_refl _) _).alloc (by simp) _
  have HD : Hid (decide ((p : Int) ≤ (q : Int)) = decide (p ≤ q)) := by show _ = _; simp [Int.ofNat_le]
  clear hp hq
  go_enter Try.func56, Try.ntmps56
  go_wp2
  try go_quiet (fail)
  try go_wp2
  go_ret
  exact ⟨by first | rfl | (rw [← HD.out]; rfl) | simp, by first | exact HB.out _ _ | exact (HB.out _ _).drew | skip⟩
set_option maxHeartbeats 1600000 in
theorem load_c (x y : Int) (w : World) : Calls Try.prog 50 #[.int .i64 x, .int .i64 y] w fun e w' => e = .returned (.bool (decide (0 ≤ x ∧ x ≤ 20) && decide (1 ≤ y ∧ y ≤ 10))) ∧ w' = w := by
  go_enter Try.func50, Try.ntmps50
  go_wp2_with (fail)
  refine (within_c x 0 20 _).mono ?_
  rintro e w1 ⟨rfl, hw⟩
  rw [hw]
  clear hw w1
  obtain ⟨B, hB⟩ : ∃ B, decide (0 ≤ x ∧ x ≤ 20) = B := ⟨_, rfl⟩
  have HBB : Hid (decide (0 ≤ x ∧ x ≤ 20) = B) := hB
  rw [hB]
  clear hB
  cases B with
  | false =>
    go_wp2
    go_ret
    exact ⟨by rw [HBB.out]; rfl, rfl⟩
  | true =>
    go_wp2_with (fail)
    refine (within_c y 1 10 _).mono ?_
    rintro e w1 ⟨rfl, hw⟩
    rw [hw]
    clear hw w1
    go_wp2
    go_ret
    exact ⟨by rw [HBB.out, Bool.decide_and]; rfl, rfl⟩

end Go.Proofs.Ytiadakponjpkmaa

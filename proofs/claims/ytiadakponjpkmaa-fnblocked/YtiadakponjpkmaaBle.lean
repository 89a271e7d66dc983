/- The model tells of Blocking what the recurrence tells; the law of Blocking; no condition. -/
import Derived.Test.YtiadakponjpkmaaBld
namespace Go.Proofs.Ytiadakponjpkmaa
open Go.RowKit Go.ChangeShapes Go.WideShapes Go.ChangeAt
set_option linter.unusedVariables false
set_option linter.unusedSimpArgs false
set_option maxRecDepth 8000

theorem mulw {a b c : Nat} (h : a * b = c) (hc : c ≤ 4611686018427387904) : wrap64 ((a : Int) * (b : Int)) = (c : Int) := by subst h; rw [wrap64_in (by rw [← Int.natCast_mul]; omega)]; simp
theorem addw {a b c : Nat} (h : a + b = c) (hc : c ≤ 4611686018427387904) : wrap64 ((a : Int) + (b : Int)) = (c : Int) := by subst h; rw [wrap64_in (by omega)]; simp
/-- one step, as the model does it, and its bounds -/
theorem bm_step {X Y n : Nat} (hx : X ≤ 20) (hy : 1 ≤ Y) (hy' : Y ≤ 10) (hn : n < 8) : ∃ P Q p r t q : Nat, blN X Y n = (P, Q) ∧ X * P = p ∧ (n + 1) * Y = r ∧ r * Q = t ∧ t + p = q ∧ p ≤ 4611686018427387904 ∧ r ≤ 80 ∧ t ≤ 4611686018427387904 ∧ q ≤ 4611686018427387904 ∧ 0 < q ∧ blN X Y (n + 1) = low p q := by
  obtain ⟨h1, h2, h3⟩ := blN_bd hx hy hy' n
  have h4 := bdN_le (n := n) (by omega)
  have e1 : X * (blN X Y n).1 ≤ 20 * 181440000000000 := Nat.mul_le_mul hx (by omega)
  have e2 : (n + 1) * Y ≤ 8 * 10 := Nat.mul_le_mul (by omega) hy'
  have e3 : (n + 1) * Y * (blN X Y n).2 ≤ 80 * 181440000000000 := Nat.mul_le_mul (by omega) (by omega)
  have e4 : 0 < (n + 1) * Y * (blN X Y n).2 := Nat.mul_pos (Nat.mul_pos (by omega) (by omega)) (by omega)
  exact ⟨(blN X Y n).1, (blN X Y n).2, X * (blN X Y n).1, (n + 1) * Y, (n + 1) * Y * (blN X Y n).2, (n + 1) * Y * (blN X Y n).2 + X * (blN X Y n).1, rfl, rfl, rfl, rfl, rfl, by omega, by omega, by omega, by omega, by omega, rfl⟩
set_option maxHeartbeats 6400000 in
theorem blM_c (s x y : Int) (w : World) : Calls Try.prog 15 #[.int .i64 s, .int .i64 x, .int .i64 y] w (BlR s x y w) := by
  have HE : Hid (blB s x y = (decide (0 ≤ s ∧ s ≤ 8) && (decide (0 ≤ x ∧ x ≤ 20) && decide (1 ≤ y ∧ y ≤ 10)))) := rfl
  have H0 : Hid (Blk (w.alloc (.cells #[.int .i64 0, .int .i64 0] 27)) w.heap.size #[.int .i64 0, .int .i64 0] 27 ∧ Below w.heap.size w (w.alloc (.cells #[.int .i64 0, .int .i64 0] 27))) := ⟨Blk.new _ _ _, (Below.refl _ _).alloc (Nat.le_refl _) _⟩
  have HNO : Hid (blB s x y = false → ∀ W, Below w.heap.size w W → BlR s x y w (.returned (.tuple #[.agg #[.int .i64 0, .int .i64 0], .bool false])) W) := fun h W hb => ⟨by rw [blR_no h, h]; rfl, hb⟩
  go_enter Try.func15, Try.ntmps15
  go_wp2_with (fail)
  obtain ⟨W, hW⟩ : ∃ W, w.alloc (.cells #[.int .i64 0, .int .i64 0] 27) = W := ⟨_, rfl⟩
  rw [hW] at H0 ⊢
  obtain ⟨g, hg⟩ : ∃ g, w.heap.size = g := ⟨_, rfl⟩
  have HGE : Hid (w.heap.size = g) := hg
  have HSZ : Hid (W.heap.size = g + 1) := by show _ = _; rw [← hW, ← hg]; simp
  rw [hg] at H0 HNO ⊢
  clear hW hg
  refine (in_c s 0 8 _).mono ?_
  rintro e w1 ⟨rfl, hw⟩
  rw [hw]
  clear hw w1
  have c0 : W.cell? ⟨g, 0, none⟩ = some (.int .i64 0) := H0.out.1.cell 0
  have c1 : W.cell? ⟨g, 1, none⟩ = some (.int .i64 0) := H0.out.1.cell 1
  have z0 : W.frozen? ⟨g, 0, none⟩ = false := H0.out.1.frozen 0
  have z1 : W.frozen? ⟨g, 1, none⟩ = false := H0.out.1.frozen 1
  have HST : Hid (∀ a b, Blk ((W.setCell ⟨g, 0, none⟩ a).setCell ⟨g, 1, none⟩ b) g #[a, b] 27 ∧ Below g w ((W.setCell ⟨g, 0, none⟩ a).setCell ⟨g, 1, none⟩ b)) := fun a b => ⟨H0.out.1.set2 a b, below_set2 H0.out.2 _ (Nat.le_refl _) _ _⟩
  by_cases h1 : 0 ≤ s ∧ s ≤ 8
  case neg =>
    have HF : Hid (blB s x y = false) := by show _ = _; rw [HE.out, decide_eq_false h1]; rfl
    rw [decide_eq_false h1]
    clear h1
    go_wp2
    exact bodyPost_ret (results_W2 rfl _ _ _ _ _ (.bool false) rfl rfl (HST.out _ _).1) rfl (HNO.out HF.out _ (HST.out _ _).2)
  rw [decide_eq_true h1]
  have H1 : Hid (0 ≤ s ∧ s ≤ 8) := h1
  clear h1
  go_wp2_with (fail)
  refine (in_c x 0 20 _).mono ?_
  rintro e w1 ⟨rfl, hw⟩
  rw [hw]
  clear hw w1
  by_cases h2 : 0 ≤ x ∧ x ≤ 20
  case neg =>
    have HF : Hid (blB s x y = false) := by show _ = _; rw [HE.out, decide_eq_false h2]; simp
    rw [decide_eq_false h2]
    clear h2
    go_wp2
    exact bodyPost_ret (results_W2 rfl _ _ _ _ _ (.bool false) rfl rfl (HST.out _ _).1) rfl (HNO.out HF.out _ (HST.out _ _).2)
  rw [decide_eq_true h2]
  have H2 : Hid (0 ≤ x ∧ x ≤ 20) := h2
  clear h2
  go_wp2_with (fail)
  refine (in_c y 1 10 _).mono ?_
  rintro e w1 ⟨rfl, hw⟩
  rw [hw]
  clear hw w1
  by_cases h3 : 1 ≤ y ∧ y ≤ 10
  case neg =>
    have HF : Hid (blB s x y = false) := by show _ = _; rw [HE.out, decide_eq_false h3]; simp
    rw [decide_eq_false h3]
    clear h3
    go_wp2
    exact bodyPost_ret (results_W2 rfl _ _ _ _ _ (.bool false) rfl rfl (HST.out _ _).1) rfl (HNO.out HF.out _ (HST.out _ _).2)
  rw [decide_eq_true h3]
  have HT : Hid (blB s x y = true) := by show _ = _; rw [HE.out, decide_eq_true H1.out, decide_eq_true H2.out, decide_eq_true h3]; rfl
  have p1 := H1.out
  have p2 := H2.out
  obtain ⟨X, rfl⟩ : ∃ X : Nat, x = X := ⟨x.toNat, by omega⟩
  obtain ⟨Y, rfl⟩ : ∃ Y : Nat, y = Y := ⟨y.toNat, by omega⟩
  obtain ⟨N, rfl⟩ : ∃ N : Nat, s = N := ⟨s.toNat, by omega⟩
  have HST2 : Hid (∀ n, n < N → ∃ P Q p r t q : Nat, blN X Y n = (P, Q) ∧ X * P = p ∧ (n + 1) * Y = r ∧ r * Q = t ∧ t + p = q ∧ p ≤ 4611686018427387904 ∧ r ≤ 80 ∧ t ≤ 4611686018427387904 ∧ q ≤ 4611686018427387904 ∧ 0 < q ∧ blN X Y (n + 1) = low p q) := fun n hn => bm_step (by omega) (by omega) (by omega) (by omega)
  have HRES : Hid (blR N X Y = blN X Y N) := by show _ = _; rw [blR_yes HT.out]; simp
  have hN8 : N ≤ 8 := by omega
  clear p1 p2 h3 HE HNO H1 H2 HST
  have HV : Hid (Blk (W.alloc (.cells #[.int .i64 1, .int .i64 1] 27)) g #[.int .i64 0, .int .i64 0] 27 ∧ Blk (W.alloc (.cells #[.int .i64 1, .int .i64 1] 27)) (g + 1) #[.int .i64 1, .int .i64 1] 27 ∧ Below g w (W.alloc (.cells #[.int .i64 1, .int .i64 1] 27))) := ⟨H0.out.1.alloc _, Blk.newAt _ _ _ _ HSZ.out.symm, H0.out.2.alloc (by rw [HSZ.out]; omega) _⟩
  have hsz := HSZ.out
  go_wp2
  obtain ⟨V, hV⟩ : ∃ V, (W.alloc (.cells #[.int .i64 1, .int .i64 1] 27)) = V := ⟨_, rfl⟩
  rw [hV] at HV ⊢
  clear hV c0 c1 z0 z1 H0
  go_loopw [9] (fun i wr => ∃ n k : Nat, n ≤ N ∧ i = .int .i64 k ∧ Hid (k = n + 1) ∧ Hid (Blk wr g #[.int .i64 0, .int .i64 0] 27 ∧ Blk wr (g + 1) #[.int .i64 ((blN X Y n).1 : Int), .int .i64 ((blN X Y n).2 : Int)] 27 ∧ Below g w wr)) (fun i _ => N + 1 - (intOf i).toNat)
  case atStart => exact ⟨0, 1, Nat.zero_le _, rfl, rfl, HV⟩
  case round =>
    obtain ⟨n, k, hn, rfl, hk, hI⟩ := hrel
    have hk1 := hk.out
    clear HV hsz
    by_cases hlt : n < N
    case neg =>
      obtain rfl : n = N := by omega
      have hk2 : ¬ ((k : Int) ≤ (n : Int)) := by omega
      clear hlt hn hk1
      obtain ⟨P, hP⟩ : ∃ P, (blN X Y n).1 = P := ⟨_, rfl⟩
      obtain ⟨Q, hQ⟩ : ∃ Q, (blN X Y n).2 = Q := ⟨_, rfl⟩
      have HRR : Hid (rt (blR n X Y) = .agg #[.int .i64 (P : Int), .int .i64 (Q : Int)]) := by show _ = _; rw [HRES.out, rt, hP, hQ]
      rw [hP, hQ] at hI
      have d0 : wr.cell? ⟨g + 1, 0, none⟩ = some (.int .i64 (P : Int)) := hI.out.2.1.cell 0
      have d1 : wr.cell? ⟨g + 1, 1, none⟩ = some (.int .i64 (Q : Int)) := hI.out.2.1.cell 1
      have c0 : wr.cell? ⟨g, 0, none⟩ = some (.int .i64 0) := hI.out.1.cell 0
      have c1 : wr.cell? ⟨g, 1, none⟩ = some (.int .i64 0) := hI.out.1.cell 1
      have z0 : wr.frozen? ⟨g, 0, none⟩ = false := hI.out.1.frozen 0
      have z1 : wr.frozen? ⟨g, 1, none⟩ = false := hI.out.1.frozen 1
      have HST : Hid (∀ a b, Blk ((wr.setCell ⟨g, 0, none⟩ a).setCell ⟨g, 1, none⟩ b) g #[a, b] 27 ∧ Below g w ((wr.setCell ⟨g, 0, none⟩ a).setCell ⟨g, 1, none⟩ b)) := fun a b => ⟨hI.out.1.set2 a b, below_set2 hI.out.2.2 _ (Nat.le_refl _) _ _⟩
      clear hI hP hQ
      go_wp2
      exact bodyPost_ret (results_W2 rfl _ _ _ _ _ (.bool true) rfl rfl (HST.out _ _).1) rfl ⟨by rw [HRR.out, HT.out], by rw [HGE.out]; exact (HST.out _ _).2⟩
    case pos =>
    obtain ⟨P, Q, p, r, t, q, e1, e2, e3, e4, e5, e6, e7, e8, e9, e10, e11⟩ := HST2.out n hlt
    have HC1 : Hid (∀ W, Calls Try.prog 54 #[.int .i64 (p : Int), .int .i64 (q : Int)] W fun e w' => e = .returned (.int .i64 (Nat.gcd p q)) ∧ w' = W) := fun W => gcdM_c p q W e6 e9
    have hm1 : wrap64 ((X : Int) * (P : Int)) = (p : Int) := mulw e2 e6
    have hm2 : wrap64 ((k : Int) * (Y : Int)) = (r : Int) := mulw (by rw [hk1]; exact e3) (Nat.le_trans e7 (by decide))
    have hm3 : wrap64 ((r : Int) * (Q : Int)) = (t : Int) := mulw e4 e8
    have hm4 : wrap64 ((t : Int) + (p : Int)) = (q : Int) := addw e5 e9
    have HG0 : 0 < Nat.gcd p q := Nat.gcd_pos_of_pos_right _ e10
    have hq1 : Int.tdiv (p : Int) (Nat.gcd p q : Int) = (((blN X Y (n + 1)).1 : Nat) : Int) := by rw [e11, Int.tdiv_eq_ediv_of_nonneg (Int.natCast_nonneg _)]; simp [low]
    have hq2 : Int.tdiv (q : Int) (Nat.gcd p q : Int) = (((blN X Y (n + 1)).2 : Nat) : Int) := by rw [e11, Int.tdiv_eq_ediv_of_nonneg (Int.natCast_nonneg _)]; simp [low]
    have hl := low_le p q
    rw [← e11] at hl
    obtain ⟨x2, hx⟩ : ∃ x, (blN X Y (n + 1)).1 = x := ⟨_, rfl⟩
    obtain ⟨y2, hy⟩ : ∃ y, (blN X Y (n + 1)).2 = y := ⟨_, rfl⟩
    have HP2 : Hid ((blN X Y (n + 1)).1 = x2 ∧ (blN X Y (n + 1)).2 = y2) := ⟨hx, hy⟩
    rw [hx] at hq1 hl
    rw [hy] at hq2 hl
    obtain ⟨G, hG⟩ : ∃ G, Nat.gcd p q = G := ⟨_, rfl⟩
    rw [hG] at HG0 hq1 hq2 HC1
    have HLL : Hid (x2 ≤ p ∧ y2 ≤ q ∧ p ≤ 4611686018427387904 ∧ q ≤ 4611686018427387904) := ⟨hl.1, hl.2, e6, e9⟩
    have HQ1 : Hid ((p : Int).tdiv (G : Int) = (x2 : Int)) := hq1
    have HQ2 : Hid ((q : Int).tdiv (G : Int) = (y2 : Int)) := hq2
    have HGG : Hid (0 < G) := HG0
    clear hq1 hq2 HG0
    rw [e1] at hI
    have b0 : wr.cell? ⟨g + 1, 0, none⟩ = some (.int .i64 (P : Int)) := hI.out.2.1.cell 0
    have b1 : wr.cell? ⟨g + 1, 1, none⟩ = some (.int .i64 (Q : Int)) := hI.out.2.1.cell 1
    have hN1 : (k : Int) ≤ (N : Int) := by clear e1 e2 e3 e4 e5 e6 e7 e8 e9 e10 e11 hm1 hm2 hm3 hm4; omega
    have HKB : Hid (k ≤ 9) := by show _ ≤ _; clear e1 e2 e3 e4 e5 e6 e7 e8 e9 e10 e11 hm1 hm2 hm3 hm4; omega
    clear e1 e2 e3 e4 e5 e6 e7 e8 e9 e10 e11 HST2 hx hy hl hG hk1
    go_wp2_with (fail)
    refine (HC1.out _).mono ?_
    rintro e w1 ⟨rfl, hw⟩
    rw [hw]
    clear hw w1 HC1
    have hq1 := HQ1.out
    have hq2 := HQ2.out
    have hl := HLL.out
    have HG0 := HGG.out
    have hw1 : wrap64 ((x2 : Nat) : Int) = (x2 : Int) := wrap64_in (by clear hm1 hm2 hm3 hm4 hq1 hq2; omega)
    have hw2 : wrap64 ((y2 : Nat) : Int) = (y2 : Int) := wrap64_in (by clear hm1 hm2 hm3 hm4 hq1 hq2; omega)
    have hg1 : ¬ ((G : Int) = 0) := by clear hm1 hm2 hm3 hm4 hq1 hq2; omega
    have hg2 : ((G : Int) == 0) = false := by clear hm1 hm2 hm3 hm4 hq1 hq2; simp; omega
    clear hl
    obtain ⟨S, hS⟩ : ∃ S : World → Prop, S = fun _ => True := ⟨_, rfl⟩
    have HSD : Hid (S wr.drew) := by show S _; rw [hS]; trivial
    have ne : Nonempty (At S) := ⟨⟨_, HSD.out⟩⟩
    clear hS
    go_wp2
    refine region_mixT [true, true, true, true, true, true, true, false] 7 0 S (by kernel_rfl) rfl (by kernel_rfl) (fun _ _ _ _ _ h => h) HSD.out ?_
    simp only [selT, selF]
    try simp only [Act.put]
    repeat (go_big_quiet_step (fail))
    refine wpQuiet_nil ?_
    refine tail_end ?_
    have hID : Hid (Blk wr.drew g #[.int .i64 0, .int .i64 0] 27 ∧ Blk wr.drew (g + 1) #[.int .i64 (P : Int), .int .i64 (Q : Int)] 27 ∧ Below g w wr.drew) := ⟨hI.out.1.drew, hI.out.2.1.drew, hI.out.2.2.drew⟩
    clear ne hI b0 b1
    obtain ⟨V, hV⟩ : ∃ V, wr.drew = V := ⟨_, rfl⟩
    rw [hV] at hID ⊢
    clear hV HSD
    have b0 : V.cell? ⟨g + 1, 0, none⟩ = some (.int .i64 (P : Int)) := hID.out.2.1.cell 0
    have b1 : V.cell? ⟨g + 1, 1, none⟩ = some (.int .i64 (Q : Int)) := hID.out.2.1.cell 1
    have z0 : V.frozen? ⟨g + 1, 0, none⟩ = false := hID.out.2.1.frozen 0
    have z1 : V.frozen? ⟨g + 1, 1, none⟩ = false := hID.out.2.1.frozen 1
    have HNX : Hid (∀ a b, (Blk ((V.setCell ⟨g + 1, 0, none⟩ a).setCell ⟨g + 1, 1, none⟩ b) g #[.int .i64 0, .int .i64 0] 27 ∧ Blk ((V.setCell ⟨g + 1, 0, none⟩ a).setCell ⟨g + 1, 1, none⟩ b) (g + 1) #[a, b] 27 ∧ Below g w ((V.setCell ⟨g + 1, 0, none⟩ a).setCell ⟨g + 1, 1, none⟩ b))) := fun a b => ⟨(hID.out.1.other _ _ (by simp)).other _ _ (by simp), hID.out.2.1.set2 a b, below_set2 hID.out.2.2 _ (by omega) _ _⟩
    have HW9 : Hid (wrap64 ((k : Int) + 1) = ((k + 1 : Nat) : Int)) := by show _ = _; have := HKB.out; rw [wrap64_in (by omega)]; omega
    clear hID
    go_wp2
    go_roundw
    case rel => exact ⟨n + 1, k + 1, by omega, by first | (rw [HW9.out]) | go_num, by show _ = _; have := hk.out; omega, by rw [HP2.out.1, HP2.out.2]; exact HNX.out _ _⟩
    case measure => have := hk.out; have := HKB.out; simp [intOf, HW9.out]; try omega
set_option maxHeartbeats 1600000 in
theorem eqF_c (a b : Int) (w : World) : Calls Try.prog 29 #[.agg #[.int .i64 a, .int .i64 b], .agg #[.int .i64 a, .int .i64 b]] w fun e w' => e = .returned (.bool true) ∧ Below w.heap.size w w' := by
  have HB : Hid (∀ A B, Below w.heap.size w ((w.alloc A).alloc B)) := fun A B => ((Below.refl _ _).alloc (Nat.le_refl _) _).alloc (by simp) _
  go_enter Try.func29, Try.ntmps29
  go_wp2
  go_ret
  exact ⟨rfl, HB.out _ _⟩
set_option maxHeartbeats 3200000 in
theorem blockingLaw (s x y : Int) (w : World) : Calls Try.prog 7 #[.int .i64 s, .int .i64 x, .int .i64 y] w fun e w' => e = .returned (.bool true) ∧ Below w.heap.size w w' := by
  obtain ⟨T, hT⟩ : ∃ T, blB s x y = T := ⟨_, rfl⟩
  obtain ⟨P, hP⟩ : ∃ P, (blR s x y).1 = P := ⟨_, rfl⟩
  obtain ⟨Q, hQ⟩ : ∃ Q, (blR s x y).2 = Q := ⟨_, rfl⟩
  have HCM : Hid (∀ W, Calls Try.prog 15 #[.int .i64 s, .int .i64 x, .int .i64 y] W fun e w' => e = .returned (.tuple #[.agg #[.int .i64 (P : Int), .int .i64 (Q : Int)], .bool T]) ∧ Below W.heap.size W w') := fun W => by have := blM_c s x y W; unfold BlR rt at this; rw [hT, hP, hQ] at this; exact this
  have HCI : Hid (∀ W, Calls Try.prog 14 #[.int .i64 s, .int .i64 x, .int .i64 y] W fun e w' => e = .returned (.tuple #[.agg #[.int .i64 (P : Int), .int .i64 (Q : Int)], .bool T]) ∧ Below W.heap.size W w') := fun W => by have := blI_c s x y W; unfold BlR rt at this; rw [hT, hP, hQ] at this; exact this
  clear hT hP hQ
  go_enter Try.func7, Try.ntmps7
  go_wp2_with (fail)
  refine (HCM.out _).mono ?_
  rintro e w1 ⟨rfl, bb⟩
  have HB1 : Hid (Below w.heap.size w (w1.alloc (.cells #[.int .i64 (P : Int), .int .i64 (Q : Int)] 27))) := bb.alloc bb.size _
  have HK1 : Hid (Blk (w1.alloc (.cells #[.int .i64 (P : Int), .int .i64 (Q : Int)] 27)) w1.heap.size #[.int .i64 (P : Int), .int .i64 (Q : Int)] 27) := Blk.new _ _ _
  clear bb HCM
  go_wp2_with (fail)
  refine (HCI.out _).mono ?_
  rintro e w2 ⟨rfl, bb⟩
  have HB2 : Hid (Below w.heap.size w (w2.alloc (.cells #[.int .i64 (P : Int), .int .i64 (Q : Int)] 27))) := (belowCall HB1.out bb HB1.out.size).alloc (Nat.le_trans HB1.out.size bb.size) _
  have HK2 : Hid (Blk (w2.alloc (.cells #[.int .i64 (P : Int), .int .i64 (Q : Int)] 27)) w1.heap.size #[.int .i64 (P : Int), .int .i64 (Q : Int)] 27) := (HK1.out.below bb HK1.out.lt).alloc _
  have HK3 : Hid (Blk (w2.alloc (.cells #[.int .i64 (P : Int), .int .i64 (Q : Int)] 27)) w2.heap.size #[.int .i64 (P : Int), .int .i64 (Q : Int)] 27) := Blk.new _ _ _
  clear bb HCI HB1 HK1
  have c0 : (w2.alloc (.cells #[.int .i64 (P : Int), .int .i64 (Q : Int)] 27)).cell? ⟨w1.heap.size, 0, none⟩ = some (.int .i64 (P : Int)) := HK2.out.cell 0
  have c1 : (w2.alloc (.cells #[.int .i64 (P : Int), .int .i64 (Q : Int)] 27)).cell? ⟨w1.heap.size, 1, none⟩ = some (.int .i64 (Q : Int)) := HK2.out.cell 1
  go_wp2_with (fail)
  refine (eqF_c P Q _).mono ?_
  rintro e w3 ⟨rfl, bb⟩
  have HB3 : Hid (Below w.heap.size w w3) := belowCall HB2.out bb HB2.out.size
  clear bb HB2 HK2 HK3 c0 c1
  have ht : (T != T) = false := by simp
  go_wp2
  go_ret
  exact ⟨rfl, HB3.out⟩

end Go.Proofs.Ytiadakponjpkmaa

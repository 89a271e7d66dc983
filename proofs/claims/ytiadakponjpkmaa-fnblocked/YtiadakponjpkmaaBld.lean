/- The program tells of Blocking what the recurrence tells; no condition. -/
import Derived.Test.YtiadakponjpkmaaBlc
namespace Go.Proofs.Ytiadakponjpkmaa
open Go.RowKit Go.ChangeShapes Go.WideShapes Go.ChangeAt
set_option linter.unusedVariables false
set_option linter.unusedSimpArgs false
set_option maxRecDepth 8000

theorem results_W2 {fn : Func} {u p : Tmp} (h : fn.results = #[.cell p 27, .tmp u]) (tmps : Array Value) (w : World) (g : Nat) (x y q : Value)
    (hu : tmps.getD u undef = q) (hp : tmps.getD p undef = .pointer (some ⟨g, 0, none⟩)) (hg : Blk w g #[x, y] 27) :
    (results fn tmps).run Try.prog w = .ok (.tuple #[.agg #[x, y], q]) w := by
  have hp' : tmps[p]?.getD undef = .pointer (some ⟨g, 0, none⟩) := by simpa using hp
  have hu' : tmps[u]?.getD undef = q := by simpa using hu
  have hr := run_loadVar_row (P := Try.prog) w g 27 27 #[x, y] (0, 0) _ hg Try.underlying27 rfl szF
  simp [results, h, hp', hu', asAddr, hr]
def blB (s x y : Int) : Bool := decide (0 ≤ s ∧ s ≤ 8) && (decide (0 ≤ x ∧ x ≤ 20) && decide (1 ≤ y ∧ y ≤ 10))
def blR (s x y : Int) : Nat × Nat := if blB s x y = true then blN x.toNat y.toNat s.toNat else (0, 0)
theorem blR_no {s x y : Int} (h : blB s x y = false) : blR s x y = (0, 0) := by unfold blR; rw [h]; rfl
theorem blR_yes {s x y : Int} (h : blB s x y = true) : blR s x y = blN x.toNat y.toNat s.toNat := by unfold blR; rw [if_pos h]
theorem blB_parts {s x y : Int} (h : blB s x y = true) : (0 ≤ s ∧ s ≤ 8) ∧ (0 ≤ x ∧ x ≤ 20) ∧ (1 ≤ y ∧ y ≤ 10) := by
  unfold blB at h
  simp only [Bool.and_eq_true, decide_eq_true_eq] at h
  exact h
def BlR (s x y : Int) (w : World) (e : Ending) (w' : World) : Prop := e = .returned (.tuple #[rt (blR s x y), .bool (blB s x y)]) ∧ Below w.heap.size w w'
/-- one step, as the program does it, and its bounds -/
theorem bl_step {X Y n : Nat} (hx : X ≤ 20) (hy : 1 ≤ Y) (hy' : Y ≤ 10) (hn : n < 8) : ∃ P Q p q : Nat, blN X Y n = (P, Q) ∧ X * P ≤ 4611686018427387904 ∧ Y * Q ≤ 4611686018427387904 ∧ 0 < Y * Q ∧ low (X * P) (Y * Q) = (p, q) ∧ (n + 1) * q + p ≤ 4611686018427387904 ∧ 0 < (n + 1) * q + p ∧ blN X Y (n + 1) = low p ((n + 1) * q + p) := by
  obtain ⟨h1, h2, h3⟩ := blN_bd hx hy hy' n
  have h4 := bdN_le (n := n) (by omega)
  have e1 : X * (blN X Y n).1 ≤ 20 * 181440000000000 := Nat.mul_le_mul hx (by omega)
  have e2 : Y * (blN X Y n).2 ≤ 10 * 181440000000000 := Nat.mul_le_mul hy' (by omega)
  have e3 : 0 < Y * (blN X Y n).2 := Nat.mul_pos (by omega) (by omega)
  obtain ⟨l1, l2⟩ := low_le (X * (blN X Y n).1) (Y * (blN X Y n).2)
  have l3 := low_pos (a := X * (blN X Y n).1) e3
  have e4 : (n + 1) * (low (X * (blN X Y n).1) (Y * (blN X Y n).2)).2 ≤ 8 * (10 * 181440000000000) := Nat.mul_le_mul (by omega) (by omega)
  have e5 : 0 < (n + 1) * (low (X * (blN X Y n).1) (Y * (blN X Y n).2)).2 := Nat.mul_pos (by omega) l3
  refine ⟨(blN X Y n).1, (blN X Y n).2, (low (X * (blN X Y n).1) (Y * (blN X Y n).2)).1, (low (X * (blN X Y n).1) (Y * (blN X Y n).2)).2, rfl, by omega, by omega, e3, rfl, by omega, by omega, ?_⟩
  rw [blN, Nat.mul_assoc, low_two (n + 1) e3]
set_option maxHeartbeats 6400000 in
theorem blI_c (s x y : Int) (w : World) : Calls Try.prog 14 #[.int .i64 s, .int .i64 x, .int .i64 y] w (BlR s x y w) := by
  have HE : Hid (blB s x y = (decide (0 ≤ s ∧ s ≤ 8) && (decide (0 ≤ x ∧ x ≤ 20) && decide (1 ≤ y ∧ y ≤ 10)))) := rfl
  have H0 : Hid (Blk (w.alloc (.cells #[.int .i64 0, .int .i64 0] 27)) w.heap.size #[.int .i64 0, .int .i64 0] 27 ∧ Below w.heap.size w (w.alloc (.cells #[.int .i64 0, .int .i64 0] 27))) := ⟨Blk.new _ _ _, (Below.refl _ _).alloc (Nat.le_refl _) _⟩
  have HNO : Hid (blB s x y = false → ∀ W, Below w.heap.size w W → BlR s x y w (.returned (.tuple #[.agg #[.int .i64 0, .int .i64 0], .bool false])) W) := fun h W hb => ⟨by rw [blR_no h, h]; rfl, hb⟩
  go_enter Try.func14, Try.ntmps14
  go_wp2_with (fail)
  obtain ⟨W, hW⟩ : ∃ W, w.alloc (.cells #[.int .i64 0, .int .i64 0] 27) = W := ⟨_, rfl⟩
  rw [hW] at H0 ⊢
  obtain ⟨g, hg⟩ : ∃ g, w.heap.size = g := ⟨_, rfl⟩
  have HGE : Hid (w.heap.size = g) := hg
  have HSZ : Hid (W.heap.size = g + 1) := by show _ = _; rw [← hW, ← hg]; simp
  rw [hg] at H0 HNO ⊢
  clear hW hg
  refine (within_c s 0 8 _).mono ?_
  rintro e w1 ⟨rfl, hw⟩
  rw [hw]
  clear hw w1
  have c0 : W.cell? ⟨g, 0, none⟩ = some (.int .i64 0) := H0.out.1.cell 0
  have c1 : W.cell? ⟨g, 1, none⟩ = some (.int .i64 0) := H0.out.1.cell 1
  have z0 : W.frozen? ⟨g, 0, none⟩ = false := H0.out.1.frozen 0
  have z1 : W.frozen? ⟨g, 1, none⟩ = false := H0.out.1.frozen 1
  have HST : Hid (∀ a b, Blk ((W.setCell ⟨g, 0, none⟩ a).setCell ⟨g, 1, none⟩ b) g #[a, b] 27 ∧ Below g w ((W.setCell ⟨g, 0, none⟩ a).setCell ⟨g, 1, none⟩ b)) := fun a b => ⟨H0.out.1.set2 a b, below_set2 H0.out.2 _ (Nat.le_refl _) _ _⟩
  by_cases h1 : 0 ≤ s ∧ s ≤ 8
  case neg =>
    have HF : Hid (blB s x y = false) := by show _ = _; rw [HE.out, decide_eq_false h1]; rfl
    rw [decide_eq_false h1]
    clear h1
    go_wp2
    exact bodyPost_ret (results_W2 rfl _ _ _ _ _ (.bool false) rfl rfl (HST.out _ _).1) rfl (HNO.out HF.out _ (HST.out _ _).2)
  rw [decide_eq_true h1]
  have H1 : Hid (0 ≤ s ∧ s ≤ 8) := h1
  clear h1
  go_wp2_with (fail)
  refine (load_c x y _).mono ?_
  rintro e w1 ⟨rfl, hw⟩
  rw [hw]
  clear hw w1
  obtain ⟨B, hB⟩ : ∃ B, (decide (0 ≤ x ∧ x ≤ 20) && decide (1 ≤ y ∧ y ≤ 10)) = B := ⟨_, rfl⟩
  have HB : Hid ((decide (0 ≤ x ∧ x ≤ 20) && decide (1 ≤ y ∧ y ≤ 10)) = B) := hB
  rw [hB]
  clear hB
  cases B with
  | false =>
    have HF : Hid (blB s x y = false) := by show _ = _; rw [HE.out, HB.out]; simp
    go_wp2
    exact bodyPost_ret (results_W2 rfl _ _ _ _ _ (.bool false) rfl rfl (HST.out _ _).1) rfl (HNO.out HF.out _ (HST.out _ _).2)
  | true =>
  have HT : Hid (blB s x y = true) := by show _ = _; rw [HE.out, HB.out, decide_eq_true H1.out]; rfl
  obtain ⟨-, p2, p3⟩ := blB_parts HT.out
  have p1 := H1.out
  obtain ⟨X, rfl⟩ : ∃ X : Nat, x = X := ⟨x.toNat, by omega⟩
  obtain ⟨Y, rfl⟩ : ∃ Y : Nat, y = Y := ⟨y.toNat, by omega⟩
  obtain ⟨N, rfl⟩ : ∃ N : Nat, s = N := ⟨s.toNat, by omega⟩
  have HST2 : Hid (∀ n, n < N → ∃ P Q p q : Nat, blN X Y n = (P, Q) ∧ X * P ≤ 4611686018427387904 ∧ Y * Q ≤ 4611686018427387904 ∧ 0 < Y * Q ∧ low (X * P) (Y * Q) = (p, q) ∧ (n + 1) * q + p ≤ 4611686018427387904 ∧ 0 < (n + 1) * q + p ∧ blN X Y (n + 1) = low p ((n + 1) * q + p)) := fun n hn => bl_step (by omega) (by omega) (by omega) (by omega)
  have HRES : Hid (blR N X Y = blN X Y N) := by show _ = _; rw [blR_yes HT.out]; simp
  have hN8 : N ≤ 8 := by omega
  clear p1 p2 p3 HB HE HNO H1 HST
  have H52 : Hid (∀ V : World, Blk V g #[.int .i64 0, .int .i64 0] 27 → Below g w V → g + 1 ≤ V.heap.size → Blk ((V.alloc (.cells #[.int .i64 (X : Int), .int .i64 (Y : Int)] 78)).alloc (.cells #[.int .i64 1, .int .i64 1] 78)) g #[.int .i64 0, .int .i64 0] 27 ∧ Blk ((V.alloc (.cells #[.int .i64 (X : Int), .int .i64 (Y : Int)] 78)).alloc (.cells #[.int .i64 1, .int .i64 1] 78)) V.heap.size #[.int .i64 (X : Int), .int .i64 (Y : Int)] 78 ∧ Blk ((V.alloc (.cells #[.int .i64 (X : Int), .int .i64 (Y : Int)] 78)).alloc (.cells #[.int .i64 1, .int .i64 1] 78)) (V.heap.size + 1) #[.int .i64 1, .int .i64 1] 78 ∧ Below g w ((V.alloc (.cells #[.int .i64 (X : Int), .int .i64 (Y : Int)] 78)).alloc (.cells #[.int .i64 1, .int .i64 1] 78))) := fun V h hb hz => ⟨(h.alloc _).alloc _, (Blk.new _ _ _).alloc _, Blk.newAt _ _ _ _ (by simp), (hb.alloc (by omega) _).alloc (by simp; omega) _⟩
  have HV := H52.out W H0.out.1 H0.out.2 (by rw [HSZ.out]; omega)
  have HV : Hid _ := HV
  clear H52
  have hsz := HSZ.out
  go_wp2
  obtain ⟨V, hV⟩ : ∃ V, ((W.alloc (.cells #[.int .i64 (X : Int), .int .i64 (Y : Int)] 78)).alloc (.cells #[.int .i64 1, .int .i64 1] 78)) = V := ⟨_, rfl⟩
  rw [hV] at HV ⊢
  rw [hsz] at HV
  clear hV c0 c1 z0 z1 H0
  go_loopw [26] (fun i wr => ∃ n : Nat, n ≤ N ∧ i = .int .i64 n ∧ Hid (Blk wr g #[.int .i64 0, .int .i64 0] 27 ∧ Blk wr (g + 1) #[.int .i64 (X : Int), .int .i64 (Y : Int)] 78 ∧ Blk wr (g + 2) #[.int .i64 ((blN X Y n).1 : Int), .int .i64 ((blN X Y n).2 : Int)] 78 ∧ Below g w wr)) (fun i _ => N - (intOf i).toNat)
  case atStart => exact ⟨0, Nat.zero_le _, rfl, HV⟩
  case round =>
    obtain ⟨n, hn, rfl, hI⟩ := hrel
    clear HV hsz
    by_cases hlt : n < N
    case neg =>
      obtain rfl : n = N := by omega
      clear hlt hn
      obtain ⟨P, hP⟩ : ∃ P, (blN X Y n).1 = P := ⟨_, rfl⟩
      obtain ⟨Q, hQ⟩ : ∃ Q, (blN X Y n).2 = Q := ⟨_, rfl⟩
      have HRR : Hid (rt (blR n X Y) = .agg #[.int .i64 (P : Int), .int .i64 (Q : Int)]) := by show _ = _; rw [HRES.out, rt, hP, hQ]
      rw [hP, hQ] at hI
      have d0 : wr.cell? ⟨g + 2, 0, none⟩ = some (.int .i64 (P : Int)) := hI.out.2.2.1.cell 0
      have d1 : wr.cell? ⟨g + 2, 1, none⟩ = some (.int .i64 (Q : Int)) := hI.out.2.2.1.cell 1
      have c0 : wr.cell? ⟨g, 0, none⟩ = some (.int .i64 0) := hI.out.1.cell 0
      have c1 : wr.cell? ⟨g, 1, none⟩ = some (.int .i64 0) := hI.out.1.cell 1
      have z0 : wr.frozen? ⟨g, 0, none⟩ = false := hI.out.1.frozen 0
      have z1 : wr.frozen? ⟨g, 1, none⟩ = false := hI.out.1.frozen 1
      have HST : Hid (∀ a b, Blk ((wr.setCell ⟨g, 0, none⟩ a).setCell ⟨g, 1, none⟩ b) g #[a, b] 27 ∧ Below g w ((wr.setCell ⟨g, 0, none⟩ a).setCell ⟨g, 1, none⟩ b)) := fun a b => ⟨hI.out.1.set2 a b, below_set2 hI.out.2.2.2 _ (Nat.le_refl _) _ _⟩
      clear hI hP hQ
      go_wp2
      exact bodyPost_ret (results_W2 rfl _ _ _ _ _ (.bool true) rfl rfl (HST.out _ _).1) rfl ⟨by rw [HRR.out, HT.out], by rw [HGE.out]; exact (HST.out _ _).2⟩
    case pos =>
    obtain ⟨P, Q, p, q, e1, e2, e3, e4, e5, e6, e7, e8⟩ := HST2.out n hlt
    have HC1 : Hid (∀ W, Calls Try.prog 51 #[.agg #[.int .i64 (X : Int), .int .i64 (Y : Int)], .agg #[.int .i64 (P : Int), .int .i64 (Q : Int)]] W fun e w' => e = .returned (.agg #[.int .i64 (p : Int), .int .i64 (q : Int)]) ∧ Below W.heap.size W w') := fun W => by have := times_c X Y P Q W e2 e3 e4; rw [e5] at this; exact this
    have HC2 : Hid (∀ W, Calls Try.prog 52 #[.agg #[.int .i64 (p : Int), .int .i64 (q : Int)], .int .i64 ((n : Int) + 1)] W fun e w' => e = .returned (rt (blN X Y (n + 1))) ∧ Below W.heap.size W w') := fun W => by rw [e8]; exact beside_c p q (n + 1) W e6 e7
    rw [e1] at hI
    have a0 : wr.cell? ⟨g + 1, 0, none⟩ = some (.int .i64 (X : Int)) := hI.out.2.1.cell 0
    have a1 : wr.cell? ⟨g + 1, 1, none⟩ = some (.int .i64 (Y : Int)) := hI.out.2.1.cell 1
    have b0 : wr.cell? ⟨g + 2, 0, none⟩ = some (.int .i64 (P : Int)) := hI.out.2.2.1.cell 0
    have b1 : wr.cell? ⟨g + 2, 1, none⟩ = some (.int .i64 (Q : Int)) := hI.out.2.2.1.cell 1
    have hN1 : (n : Int) < (N : Int) := by omega
    clear e1 e2 e3 e4 e5 e6 e7 e8 HST2
    go_wp2_with (fail)
    refine (HC1.out _).mono ?_
    rintro e w1 ⟨rfl, bb⟩
    have hI1 : Hid (Blk w1 g #[.int .i64 0, .int .i64 0] 27 ∧ Blk w1 (g + 1) #[.int .i64 (X : Int), .int .i64 (Y : Int)] 78 ∧ Blk w1 (g + 2) #[.int .i64 (P : Int), .int .i64 (Q : Int)] 78 ∧ Below g w w1) := ⟨hI.out.1.below bb hI.out.1.lt, hI.out.2.1.below bb hI.out.2.1.lt, hI.out.2.2.1.below bb hI.out.2.2.1.lt, belowCall hI.out.2.2.2 bb (by have := hI.out.1.lt; omega)⟩
    clear bb hI a0 a1 b0 b1 HC1
    go_wp2_with (fail)
    refine (HC2.out _).mono ?_
    rintro e w2 ⟨rfl, bb⟩
    have hI2 : Hid (Blk w2 g #[.int .i64 0, .int .i64 0] 27 ∧ Blk w2 (g + 1) #[.int .i64 (X : Int), .int .i64 (Y : Int)] 78 ∧ Blk w2 (g + 2) #[.int .i64 (P : Int), .int .i64 (Q : Int)] 78 ∧ Below g w w2) := ⟨hI1.out.1.below bb hI1.out.1.lt, hI1.out.2.1.below bb hI1.out.2.1.lt, hI1.out.2.2.1.below bb hI1.out.2.2.1.lt, belowCall hI1.out.2.2.2 bb (by have := hI1.out.1.lt; omega)⟩
    clear bb hI1 HC2
    have b0 : w2.cell? ⟨g + 2, 0, none⟩ = some (.int .i64 (P : Int)) := hI2.out.2.2.1.cell 0
    have b1 : w2.cell? ⟨g + 2, 1, none⟩ = some (.int .i64 (Q : Int)) := hI2.out.2.2.1.cell 1
    have z0 : w2.frozen? ⟨g + 2, 0, none⟩ = false := hI2.out.2.2.1.frozen 0
    have z1 : w2.frozen? ⟨g + 2, 1, none⟩ = false := hI2.out.2.2.1.frozen 1
    have HNX : Hid (∀ a b, (Blk ((w2.setCell ⟨g + 2, 0, none⟩ a).setCell ⟨g + 2, 1, none⟩ b) g #[.int .i64 0, .int .i64 0] 27 ∧ Blk ((w2.setCell ⟨g + 2, 0, none⟩ a).setCell ⟨g + 2, 1, none⟩ b) (g + 1) #[.int .i64 (X : Int), .int .i64 (Y : Int)] 78 ∧ Blk ((w2.setCell ⟨g + 2, 0, none⟩ a).setCell ⟨g + 2, 1, none⟩ b) (g + 2) #[a, b] 78 ∧ Below g w ((w2.setCell ⟨g + 2, 0, none⟩ a).setCell ⟨g + 2, 1, none⟩ b))) := fun a b => ⟨(hI2.out.1.other _ _ (by simp)).other _ _ (by simp), (hI2.out.2.1.other _ _ (by simp)).other _ _ (by simp), hI2.out.2.2.1.set2 a b, below_set2 hI2.out.2.2.2 _ (by omega) _ _⟩
    clear hI2
    simp only [rt]
    obtain ⟨P2, hP2⟩ : ∃ P, (blN X Y (n + 1)).1 = P := ⟨_, rfl⟩
    obtain ⟨Q2, hQ2⟩ : ∃ Q, (blN X Y (n + 1)).2 = Q := ⟨_, rfl⟩
    rw [hP2, hQ2]
    have HP2 : Hid ((blN X Y (n + 1)).1 = P2 ∧ (blN X Y (n + 1)).2 = Q2) := ⟨hP2, hQ2⟩
    clear hP2 hQ2
    go_wp2
    go_roundw
    case rel => exact ⟨n + 1, by omega, by go_num, by rw [HP2.out.1, HP2.out.2]; exact HNX.out _ _⟩
    case measure => simp [intOf]; omega

end Go.Proofs.Ytiadakponjpkmaa

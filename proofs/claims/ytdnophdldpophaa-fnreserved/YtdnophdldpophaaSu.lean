/- Purses; no condition. -/
import Derived.Test.YtdnophdldpophaaBase
import Derived.Test.YtdnophdldpophaaMix
namespace Go.Proofs.Ytdnophdldpophaa
open Go.RowKit Go.ChangeShapes Go.WideShapes Go.ChangeAt
set_option linter.unusedVariables false
set_option linter.unusedSimpArgs false
set_option maxRecDepth 8000
theorem within_c (n a b : Int) (w : World) : Calls Try.prog 36 #[.int .i64 n, .int .i64 a, .int .i64 b] w fun e w' => e = .returned (.bool (decide (a ≤ n ∧ n ≤ b))) ∧ w' = w := by
  by_cases h : n ≥ a
  · by_cases h2 : n ≤ b
    · go_enter Try.func36, Try.ntmps36
      go_wp2
      go_ret
      exact ⟨by simp; omega, rfl⟩
    · go_enter Try.func36, Try.ntmps36
      go_wp2
      go_ret
      exact ⟨by simp; omega, rfl⟩
  · go_enter Try.func36, Try.ntmps36
    go_wp2
    go_ret
    exact ⟨by simp; omega, rfl⟩
theorem l1In_c (n a b : Int) (w : World) : Calls Try.prog 39 #[.int .i64 n, .int .i64 a, .int .i64 b] w fun e w' => e = .returned (.bool (decide (a ≤ n ∧ n ≤ b))) ∧ w' = w := by
  by_cases h : n ≥ a
  · by_cases h2 : n ≤ b
    · go_enter Try.func39, Try.ntmps39
      go_wp2
      go_ret
      exact ⟨by simp; omega, rfl⟩
    · go_enter Try.func39, Try.ntmps39
      go_wp2
      go_ret
      exact ⟨by simp; omega, rfl⟩
  · go_enter Try.func39, Try.ntmps39
    go_wp2
    go_ret
    exact ⟨by simp; omega, rfl⟩
theorem l4Tick_c (n : Int) (w : World) : Calls Try.prog 45 #[.int .i64 n] w fun e w' => e = .returned (.bool (decide (0 ≤ n ∧ n ≤ 1000000000))) ∧ w' = w := by
  go_enter Try.func45, Try.ntmps45
  go_wp2_with (fail)
  refine (l1In_c _ _ _ _).mono ?_
  rintro e w1 ⟨rfl, rfl⟩
  go_wp2
  go_ret
  exact ⟨by simp, rfl⟩
/-- a purse -/
abbrev P2 (l k : Int) : Array Value := #[.int .i64 l, .int .i64 k]
def pOk (l k : Int) : Bool := decide (0 ≤ l ∧ l ≤ 1000000000) && decide (0 ≤ k ∧ k ≤ l)
theorem sizeP : (Try.prog.info? 25).map (·.size) = some 2 := by kernel_rfl
set_option maxHeartbeats 1600000 in
theorem toPurse_c (x0 x1 : Int) (w : World) : Calls Try.prog 25 #[.agg (P2 x0 x1)] w fun e w' => e = .returned (.agg (P2 x0 x1)) ∧ Below w.heap.size w w' := by
  go_enter Try.func25, Try.ntmps25
  go_wp2
  have h1 : ((((w.alloc (Obj.cells (P2 x0 x1) 51)).alloc (Obj.cells (P2 x0 x1) 25)).alloc (Obj.cells (P2 x0 x1) 25))).heap[w.heap.size + 1]? = some (.cells (P2 x0 x1) 25 (0, 0)) :=
    ((Blk.newAt _ (w.heap.size + 1) _ 25 (by simp)).alloc _ : Blk _ _ _ _)
  exact bodyPost_ret (v := .agg (P2 x0 x1)) (results_cell_row rfl _ _ _ 25 _ (0, 0) _ rfl h1 Try.underlying25 rfl sizeP) rfl ⟨rfl, (((Below.refl _ _).alloc (Nat.le_refl _) _).alloc (by simp) _).alloc (by simp; omega) _⟩
set_option maxHeartbeats 1600000 in
theorem eqPurse_c (x0 x1 y0 y1 : Int) (w : World) : Calls Try.prog 26 #[.agg (P2 x0 x1), .agg (P2 y0 y1)] w fun e w' => e = .returned (.bool (decide ((x0, x1) = (y0, y1)))) ∧ Below w.heap.size w w' := by
  have HB : Hid (Below w.heap.size w ((w.alloc (Obj.cells (P2 x0 x1) 25)).alloc (Obj.cells (P2 y0 y1) 25))) := ((Below.refl _ _).alloc (Nat.le_refl _) _).alloc (by simp) _
  go_enter Try.func26, Try.ntmps26
  go_wp2
  all_goals
    go_ret
    refine ⟨?_, HB.out⟩
    simp_all
theorem purseI_c (l k : Int) (w : World) : Calls Try.prog 35 #[.agg (P2 l k)] w fun e w' => e = .returned (.bool (pOk l k)) ∧ Below w.heap.size w w' := by
  have HB : Hid (Below w.heap.size w (w.alloc (Obj.cells (P2 l k) 25))) := (Below.refl _ _).alloc (Nat.le_refl _) _
  go_enter Try.func35, Try.ntmps35
  go_wp2_with (fail)
  refine (within_c _ _ _ _).mono ?_
  rintro e w1 ⟨rfl, rfl⟩
  by_cases h : 0 ≤ l ∧ l ≤ 1000000000
  · have HH : Hid (0 ≤ l ∧ l ≤ 1000000000) := h
    have hd : decide (0 ≤ l ∧ l ≤ 1000000000) = true := by simpa using h
    rw [hd]
    clear h hd
    go_wp2_with (fail)
    refine (within_c _ _ _ _).mono ?_
    rintro e w1 ⟨rfl, rfl⟩
    go_wp2
    go_ret
    refine ⟨?_, HB.out⟩
    have h := HH.out
    simp [pOk, h]
  · have HH : Hid (¬ (0 ≤ l ∧ l ≤ 1000000000)) := h
    have hd : decide (0 ≤ l ∧ l ≤ 1000000000) = false := by simpa using h
    rw [hd]
    clear h hd
    go_wp2
    go_ret
    refine ⟨?_, HB.out⟩
    have h : decide (0 ≤ l ∧ l ≤ 1000000000) = false := by simpa using HH.out
    rw [pOk, h]; rfl
theorem purseM_c (l k : Int) (w : World) : Calls Try.prog 38 #[.agg (P2 l k)] w fun e w' => e = .returned (.bool (pOk l k)) ∧ Below w.heap.size w w' := by
  have HB : Hid (Below w.heap.size w (w.alloc (Obj.cells (P2 l k) 25))) := (Below.refl _ _).alloc (Nat.le_refl _) _
  go_enter Try.func38, Try.ntmps38
  go_wp2_with (fail)
  refine (l4Tick_c _ _).mono ?_
  rintro e w1 ⟨rfl, rfl⟩
  by_cases h : 0 ≤ l ∧ l ≤ 1000000000
  · have HH : Hid (0 ≤ l ∧ l ≤ 1000000000) := h
    have hd : decide (0 ≤ l ∧ l ≤ 1000000000) = true := by simpa using h
    rw [hd]
    clear h hd
    go_wp2_with (fail)
    refine (l4Tick_c _ _).mono ?_
    rintro e w1 ⟨rfl, rfl⟩
    by_cases h2 : 0 ≤ k ∧ k ≤ 1000000000
    · have HK : Hid (0 ≤ k ∧ k ≤ 1000000000) := h2
      have hd : decide (0 ≤ k ∧ k ≤ 1000000000) = true := by simpa using h2
      rw [hd]
      clear h2 hd
      go_wp2
      go_ret
      refine ⟨?_, HB.out⟩
      have h := HH.out
      have h2 := HK.out
      simp [pOk, h, h2.1]
    · have HK : Hid (¬ (0 ≤ k ∧ k ≤ 1000000000)) := h2
      have hd : decide (0 ≤ k ∧ k ≤ 1000000000) = false := by simpa using h2
      rw [hd]
      clear h2 hd
      go_wp2
      go_ret
      refine ⟨?_, HB.out⟩
      have h := HH.out
      have h2 : decide (0 ≤ k ∧ k ≤ l) = false := by have h2 := HK.out; simp; omega
      rw [pOk, h2]; simp
  · have HH : Hid (¬ (0 ≤ l ∧ l ≤ 1000000000)) := h
    have hd : decide (0 ≤ l ∧ l ≤ 1000000000) = false := by simpa using h
    rw [hd]
    clear h hd
    go_wp2
    go_ret
    refine ⟨?_, HB.out⟩
    have h : decide (0 ≤ l ∧ l ≤ 1000000000) = false := by simpa using HH.out
    rw [pOk, h]; rfl
theorem results_P2 {fn : Func} {p u : Tmp} (h : fn.results = #[.cell p 25, .tmp u]) (tmps : Array Value) (w : World) (g : Nat) (l k : Int) (x : Value)
    (hp : tmps.getD p undef = .pointer (some ⟨g, 0, none⟩)) (hx : tmps.getD u undef = x) (hg : Blk w g (P2 l k) 25) :
    (results fn tmps).run Try.prog w = .ok (.tuple #[.agg (P2 l k), x]) w := by
  have hp' : tmps[p]?.getD undef = .pointer (some ⟨g, 0, none⟩) := by simpa using hp
  have hx' : tmps[u]?.getD undef = x := by simpa using hx
  have hr := run_loadVar_row (P := Try.prog) w g 25 25 (P2 l k) (0, 0) _ hg Try.underlying25 rfl sizeP
  simp [results, h, hp', hx', asAddr, hr]
def setOk (l k a c : Int) : Bool := pOk l k && decide (0 ≤ a ∧ a ≤ k) && decide (0 ≤ c ∧ c ≤ a)
/-- what SettleUp answers -/
def setF (l k a c : Int) : Value := if setOk l k a c then .tuple #[.agg (P2 (l - c) (k - a)), .bool true] else .tuple #[.agg (P2 l k), .bool false]
theorem setB {w W : World} {l k l' k' : Int} (hb : Below (w.heap.size + 2) ((w.alloc (Obj.cells (P2 l k) 25)).alloc (Obj.cells (P2 0 0) 25)) W) :
    Blk W w.heap.size (P2 l k) 25 ∧ Blk W (w.heap.size + 1) (P2 0 0) 25 ∧ Below w.heap.size w W :=
  ⟨((Blk.new _ _ _).alloc _ : Blk _ _ _ _).below hb (by omega), (Blk.newAt _ (w.heap.size + 1) _ 25 (by simp)).below hb (by omega), (((Below.refl _ _).alloc (Nat.le_refl _) _).alloc (by simp) _).trans (hb.mono (by omega))⟩
set_option maxHeartbeats 3200000 in
theorem setM_c (l k a c : Int) (w : World) : Calls Try.prog 27 #[.agg (P2 l k), .int .i64 a, .int .i64 c] w fun e w' => e = .returned (setF l k a c) ∧ Below w.heap.size w w' := by
  obtain ⟨W0, hW0⟩ : ∃ W0, (w.alloc (Obj.cells (P2 l k) 25)).alloc (Obj.cells (P2 0 0) 25) = W0 := ⟨_, rfl⟩
  have hs : W0.heap.size = w.heap.size + 2 := by rw [← hW0]; simp
  have HW0 : Hid ((w.alloc (Obj.cells (P2 l k) 25)).alloc (Obj.cells (P2 0 0) 25) = W0) := hW0
  have hb : Blk W0 w.heap.size (P2 l k) 25 := by rw [← hW0]; exact ((Blk.new _ _ _).alloc _ : Blk _ _ _ _)
  have HB0 : Hid (Blk W0 w.heap.size (P2 l k) 25) := hb
  have c0 := hb.cell 0
  have c1 := hb.cell 1
  simp at c0 c1
  have HS : Hid (W0.heap.size = w.heap.size + 2) := hs
  clear hs hb hW0
  go_enter Try.func27, Try.ntmps27
  go_wp2_with (fail)
  rw [HW0.out]
  refine (purseM_c l k W0).mono ?_
  rintro e W ⟨rfl, b1⟩
  rw [HS.out, ← HW0.out] at b1
  have h3 := setB (l' := 0) (k' := 0) b1
  have HB : Hid (Below w.heap.size w W) := h3.2.2
  have d0 := h3.1.cell 0
  have d1 := h3.1.cell 1
  have f0 := h3.2.1.frozen 0
  have f1 := h3.2.1.frozen 1
  have e0 := h3.2.1.cell 0
  have e1 := h3.2.1.cell 1
  have HK : Hid (∀ x y : Int, Blk ((W.setCell ⟨w.heap.size + 1, 0, none⟩ (.int .i64 x)).setCell ⟨w.heap.size + 1, 1, none⟩ (.int .i64 y)) (w.heap.size + 1) (P2 x y) 25 ∧ Below w.heap.size w ((W.setCell ⟨w.heap.size + 1, 0, none⟩ (.int .i64 x)).setCell ⟨w.heap.size + 1, 1, none⟩ (.int .i64 y))) := fun x y => ⟨by simpa using (h3.2.1.set 0 (.int .i64 x)).set 1 (.int .i64 y), (h3.2.2.setCell (p := ⟨w.heap.size + 1, 0, none⟩) (by simp) _).setCell (p := ⟨w.heap.size + 1, 1, none⟩) (by simp) _⟩
  simp at d0 d1 e0 e1
  clear h3 b1 c0 c1 HW0 HS HB0
  cases hp : pOk l k with
  | false =>
    have HP : Hid (setF l k a c = .tuple #[.agg (P2 l k), .bool false]) := by
      show setF l k a c = _
      unfold setF setOk; rw [hp]; rfl
    clear hp
    go_wp2
    exact bodyPost_ret (results_P2 rfl _ _ (w.heap.size + 1) l k (.bool false) rfl rfl (HK.out l k).1) rfl ⟨by rw [HP.out], (HK.out l k).2⟩
  | true =>
    have HP : Hid (pOk l k = true) := hp
    clear hp
    go_wp2_with (fail)
    refine (l1In_c _ _ _ _).mono ?_
    rintro e w1 ⟨rfl, hw⟩
    rw [hw]
    clear hw w1
    by_cases ha : 0 ≤ a ∧ a ≤ k
    · have HA : Hid (0 ≤ a ∧ a ≤ k) := ha
      have hd : decide (0 ≤ a ∧ a ≤ k) = true := by simpa using ha
      rw [hd]
      clear ha hd
      go_wp2_with (fail)
      refine (l1In_c _ _ _ _).mono ?_
      rintro e w1 ⟨rfl, hw⟩
      rw [hw]
      clear hw w1
      by_cases hc : 0 ≤ c ∧ c ≤ a
      · have HC : Hid (setF l k a c = .tuple #[.agg (P2 (l - c) (k - a)), .bool true]) := by
          show setF l k a c = _
          unfold setF setOk; rw [HP.out]; have h := HA.out; simp [h, hc]
        have hd : decide (0 ≤ c ∧ c ≤ a) = true := by simpa using hc
        have hb : pOk l k = true := HP.out
        have ha := HA.out
        simp [pOk] at hb
        have h1 : -9223372036854775808 ≤ l - c ∧ l - c ≤ 9223372036854775807 := by omega
        have h2 : -9223372036854775808 ≤ k - a ∧ k - a ≤ 9223372036854775807 := by omega
        rw [hd]
        clear hc hd hb ha
        go_wp2
        exact bodyPost_ret (results_P2 rfl _ _ (w.heap.size + 1) (l - c) (k - a) (.bool true) rfl rfl (HK.out _ _).1) rfl ⟨by rw [HC.out], (HK.out _ _).2⟩
      · have HC : Hid (setF l k a c = .tuple #[.agg (P2 l k), .bool false]) := by
          show setF l k a c = _
          have h : decide (0 ≤ c ∧ c ≤ a) = false := by simpa using hc
          unfold setF setOk; rw [h]; simp
        have hd : decide (0 ≤ c ∧ c ≤ a) = false := by simpa using hc
        rw [hd]
        clear hc hd
        go_wp2
        exact bodyPost_ret (results_P2 rfl _ _ (w.heap.size + 1) l k (.bool false) rfl rfl (HK.out l k).1) rfl ⟨by rw [HC.out], (HK.out l k).2⟩
    · have HC : Hid (setF l k a c = .tuple #[.agg (P2 l k), .bool false]) := by
        show setF l k a c = _
        have h : decide (0 ≤ a ∧ a ≤ k) = false := by simpa using ha
        unfold setF setOk; rw [h]; simp
      have hd : decide (0 ≤ a ∧ a ≤ k) = false := by simpa using ha
      rw [hd]
      clear ha hd
      go_wp2
      exact bodyPost_ret (results_P2 rfl _ _ (w.heap.size + 1) l k (.bool false) rfl rfl (HK.out l k).1) rfl ⟨by rw [HC.out], (HK.out l k).2⟩
set_option maxHeartbeats 3200000 in
theorem setI_c (l k a c : Int) (w : World) : Calls Try.prog 15 #[.agg (P2 l k), .int .i64 a, .int .i64 c] w fun e w' => e = .returned (setF l k a c) ∧ Below w.heap.size w w' := by
  obtain ⟨W0, hW0⟩ : ∃ W0, (w.alloc (Obj.cells (P2 l k) 25)).alloc (Obj.cells (P2 0 0) 25) = W0 := ⟨_, rfl⟩
  have hs : W0.heap.size = w.heap.size + 2 := by rw [← hW0]; simp
  have HW0 : Hid ((w.alloc (Obj.cells (P2 l k) 25)).alloc (Obj.cells (P2 0 0) 25) = W0) := hW0
  have hb : Blk W0 w.heap.size (P2 l k) 25 := by rw [← hW0]; exact ((Blk.new _ _ _).alloc _ : Blk _ _ _ _)
  have HB0 : Hid (Blk W0 w.heap.size (P2 l k) 25) := hb
  have c0 := hb.cell 0
  have c1 := hb.cell 1
  simp at c0 c1
  have HS : Hid (W0.heap.size = w.heap.size + 2) := hs
  clear hs hb hW0
  go_enter Try.func15, Try.ntmps15
  go_wp2_with (fail)
  rw [HW0.out]
  refine (purseI_c l k W0).mono ?_
  rintro e W ⟨rfl, b1⟩
  rw [HS.out, ← HW0.out] at b1
  have h3 := setB (l' := 0) (k' := 0) b1
  have HB : Hid (Below w.heap.size w W) := h3.2.2
  have d0 := h3.1.cell 0
  have d1 := h3.1.cell 1
  have f0 := h3.2.1.frozen 0
  have f1 := h3.2.1.frozen 1
  have e0 := h3.2.1.cell 0
  have e1 := h3.2.1.cell 1
  have HK : Hid (∀ x y : Int, Blk ((W.setCell ⟨w.heap.size + 1, 0, none⟩ (.int .i64 x)).setCell ⟨w.heap.size + 1, 1, none⟩ (.int .i64 y)) (w.heap.size + 1) (P2 x y) 25 ∧ Below w.heap.size w ((W.setCell ⟨w.heap.size + 1, 0, none⟩ (.int .i64 x)).setCell ⟨w.heap.size + 1, 1, none⟩ (.int .i64 y))) := fun x y => ⟨by simpa using (h3.2.1.set 0 (.int .i64 x)).set 1 (.int .i64 y), (h3.2.2.setCell (p := ⟨w.heap.size + 1, 0, none⟩) (by simp) _).setCell (p := ⟨w.heap.size + 1, 1, none⟩) (by simp) _⟩
  simp at d0 d1 e0 e1
  clear h3 b1 c0 c1 HW0 HS HB0
  cases hp : pOk l k with
  | false =>
    have HP : Hid (setF l k a c = .tuple #[.agg (P2 l k), .bool false]) := by
      show setF l k a c = _
      unfold setF setOk; rw [hp]; rfl
    clear hp
    go_wp2
    exact bodyPost_ret (results_P2 rfl _ _ (w.heap.size + 1) l k (.bool false) rfl rfl (HK.out l k).1) rfl ⟨by rw [HP.out], (HK.out l k).2⟩
  | true =>
    have HP : Hid (pOk l k = true) := hp
    clear hp
    go_wp2_with (fail)
    refine (within_c _ _ _ _).mono ?_
    rintro e w1 ⟨rfl, hw⟩
    rw [hw]
    clear hw w1
    by_cases ha : 0 ≤ a ∧ a ≤ k
    · have HA : Hid (0 ≤ a ∧ a ≤ k) := ha
      have hd : decide (0 ≤ a ∧ a ≤ k) = true := by simpa using ha
      rw [hd]
      clear ha hd
      go_wp2_with (fail)
      refine (within_c _ _ _ _).mono ?_
      rintro e w1 ⟨rfl, hw⟩
      rw [hw]
      clear hw w1
      by_cases hc : 0 ≤ c ∧ c ≤ a
      · have HC : Hid (setF l k a c = .tuple #[.agg (P2 (l - c) (k - a)), .bool true]) := by
          show setF l k a c = _
          unfold setF setOk; rw [HP.out]; have h := HA.out; simp [h, hc]
        have hd : decide (0 ≤ c ∧ c ≤ a) = true := by simpa using hc
        have hb : pOk l k = true := HP.out
        have ha := HA.out
        simp [pOk] at hb
        have h1 : -9223372036854775808 ≤ l - c ∧ l - c ≤ 9223372036854775807 := by omega
        have h2 : -9223372036854775808 ≤ k - a ∧ k - a ≤ 9223372036854775807 := by omega
        rw [hd]
        clear hc hd hb ha
        go_wp2
        exact bodyPost_ret (results_P2 rfl _ _ (w.heap.size + 1) (l - c) (k - a) (.bool true) rfl rfl (HK.out _ _).1) rfl ⟨by rw [HC.out], (HK.out _ _).2⟩
      · have HC : Hid (setF l k a c = .tuple #[.agg (P2 l k), .bool false]) := by
          show setF l k a c = _
          have h : decide (0 ≤ c ∧ c ≤ a) = false := by simpa using hc
          unfold setF setOk; rw [h]; simp
        have hd : decide (0 ≤ c ∧ c ≤ a) = false := by simpa using hc
        rw [hd]
        clear hc hd
        go_wp2
        exact bodyPost_ret (results_P2 rfl _ _ (w.heap.size + 1) l k (.bool false) rfl rfl (HK.out l k).1) rfl ⟨by rw [HC.out], (HK.out l k).2⟩
    · have HC : Hid (setF l k a c = .tuple #[.agg (P2 l k), .bool false]) := by
        show setF l k a c = _
        have h : decide (0 ≤ a ∧ a ≤ k) = false := by simpa using ha
        unfold setF setOk; rw [h]; simp
      have hd : decide (0 ≤ a ∧ a ≤ k) = false := by simpa using ha
      rw [hd]
      clear ha hd
      go_wp2
      exact bodyPost_ret (results_P2 rfl _ _ (w.heap.size + 1) l k (.bool false) rfl rfl (HK.out l k).1) rfl ⟨by rw [HC.out], (HK.out l k).2⟩
end Go.Proofs.Ytdnophdldpophaa

/- A desk at work, told; ops that are right; no condition. -/
import Derived.Test.YtpmmgbinogokfaaGvA
namespace Go.Proofs.Ytpmmgbinogokfaa
open Go.RowKit Go.ChangeShapes Go.WideShapes Go.ChangeAt
set_option linter.unusedVariables false
set_option linter.unusedSimpArgs false
set_option maxRecDepth 8000
set_option maxHeartbeats 3200000 in
theorem asDesk_c (B L : Nat) (now g : Int) (va vq vc : Value) (gs : List Ag) (qs : List Wt) (cs : List Int) (w : World) (h : Lv B w L now g va vq vc gs qs cs) (hn : qs.length ≤ 1048576) :
   Calls Try.prog 50 #[.pointer (some ⟨L, 0, none⟩)] w fun e w' => ∃ vq', e = .returned (.agg (D4 now va vq' g)) ∧ Og 4 wtC 74 w.heap.size w' vq' qs ∧ Below w.heap.size w w' := by
  obtain ⟨W1, hW1⟩ : ∃ W1, w.alloc (Obj.cells (D4 0 (.slice none 0 0) (.slice none 0 0) 0) 27) = W1 := ⟨_, rfl⟩
  have b1 : Below w.heap.size w W1 := hW1 ▸ (Below.refl _ _).alloc (Nat.le_refl _) _
  have k1 : Blk W1 w.heap.size (D4 0 (.slice none 0 0) (.slice none 0 0) 0) 27 := hW1 ▸ Blk.new _ _ _
  have l1 := h.below b1
  have L1 : Hid (Lv B W1 L now g va vq vc gs qs cs) := l1
  have K1 : Hid (Blk W1 w.heap.size (D4 0 (.slice none 0 0) (.slice none 0 0) 0) 27) := k1
  have B1 : Hid (Below w.heap.size w W1) := b1
  obtain ⟨a0, p0, rfl⟩ := h.ag.form
  obtain ⟨a1, p1, rfl, -⟩ := h.qu
  obtain ⟨S, hS⟩ : ∃ S : World → Prop, ∀ W, S W ↔ Below W1.heap.size W1 W := ⟨_, fun _ => Iff.rfl⟩
  have z0 : ∀ W : At S, W.wd.cell? ⟨L, 0, none⟩ = some (.int .i64 now) := fun W => (l1.below ((hS _).1 W.ok)).blk.cell 0
  have z1 : ∀ W : At S, W.wd.cell? ⟨L, 1, none⟩ = some (.slice a0 gs.length p0) := fun W => (l1.below ((hS _).1 W.ok)).blk.cell 1
  have z2 : ∀ W : At S, W.wd.cell? ⟨L, 2, none⟩ = some (.slice a1 qs.length p1) := fun W => (l1.below ((hS _).1 W.ok)).blk.cell 2
  have z3 : ∀ W : At S, W.wd.cell? ⟨L, 3, none⟩ = some (.int .i64 g) := fun W => (l1.below ((hS _).1 W.ok)).blk.cell 3
  have HS : Hid (∀ W, S W ↔ Below W1.heap.size W1 W) := hS
  have ne : Nonempty (At S) := ⟨⟨W1, (hS _).2 (Below.refl _ _)⟩⟩
  have HW1 : Hid (_ = W1) := hW1
  clear h b1 k1 l1 hS hW1
  go_enter Try.func50, Try.ntmps50
  go_wp2_with (fail)
  rw [HW1.out]
  refine region_mixA [true, true, true, true, true, true, true, true, true, true, true, true, false, true, true, true, true, false, false] 18 2 S (by kernel_rfl) rfl (by kernel_rfl) (fun _ _ _ _ _ h => h) ((HS.out _).2 (Below.refl _ _).drew) ?_
  simp only [selT, selF]
  repeat (go_big_quiet_step (fail))
  refine wpQuiet_nil ?_
  refine tail_step ?_
  go_wp2_with (fail)
  refine (cloneWt_c _ qs W1.drew (L1.out.drew).qu hn).mono ?_
  rintro e w3 ⟨v', rfl, o3, b3⟩
  have B3 : Below W1.heap.size W1 w3 := (Below.refl _ _).drew.trans b3
  have HB3 : Hid (Below W1.heap.size W1 w3) := B3
  have O3 : Hid (Og 4 wtC 74 W1.heap.size w3 v' qs) := o3
  have k3 := K1.out.below B3 K1.out.lt
  have e0 := k3.cell 0
  have e1 := k3.cell 1
  have e2 := k3.cell 2
  have e3 := k3.cell 3
  have f0 := k3.frozen 0
  have f1 := k3.frozen 1
  have f2 := k3.frozen 2
  have f3 := k3.frozen 3
  simp at e0 e1 e2 e3
  have Q1 := (((k3.set 0 (.int .i64 now)).set 1 (.slice a0 gs.length p0)).set 2 v').set 3 (.int .i64 g)
  have gf : w3.grownBy ((((w3.setCell ⟨w.heap.size, 0, none⟩ (.int .i64 now)).setCell ⟨w.heap.size, 1, none⟩ (.slice a0 gs.length p0)).setCell ⟨w.heap.size, 2, none⟩ v').setCell ⟨w.heap.size, 3, none⟩ (.int .i64 g)) (some w.heap.size) := grown_trans (grown_trans (grown_trans (grown_set' _ _ _ _) (grown_set' _ _ _ _)) (grown_set' _ _ _ _)) (grown_set' _ _ _ _)
  have hlt := K1.out.lt
  have hnv : v'.ownBlock ≠ some w.heap.size := fun e => by have h1 : W1.heap.size ≤ w.heap.size := (o3.lt _ e).1; omega
  have p1' := World.ownsRow.kept (o3.mono (Nat.le_of_lt hlt)) gf (.inr hnv)
  have BF : Hid (Below w.heap.size w ((((w3.setCell ⟨w.heap.size, 0, none⟩ (.int .i64 now)).setCell ⟨w.heap.size, 1, none⟩ (.slice a0 gs.length p0)).setCell ⟨w.heap.size, 2, none⟩ v').setCell ⟨w.heap.size, 3, none⟩ (.int .i64 g))) :=
    ((((belowCall B1.out B3 B1.out.size).setCell (by dsimp only; omega) _).setCell (by dsimp only; omega) _).setCell (by dsimp only; omega) _).setCell (by dsimp only; omega) _
  obtain ⟨a3, p3, rfl⟩ := o3.form
  have H1 : Hid _ := Q1
  have P1 : Hid (Og 4 wtC 74 w.heap.size ((((w3.setCell ⟨w.heap.size, 0, none⟩ (.int .i64 now)).setCell ⟨w.heap.size, 1, none⟩ (.slice a0 gs.length p0)).setCell ⟨w.heap.size, 2, none⟩ (.slice a3 qs.length p3)).setCell ⟨w.heap.size, 3, none⟩ (.int .i64 g)) (.slice a3 qs.length p3) qs) := p1'
  clear b3 B3 o3 z0 z1 z2 z3 ne Q1 gf p1' hnv k3
  go_wp2
  refine ⟨(HS.out _).2 HB3.out, tail_step ?_⟩
  go_wp2
  refine ⟨(HS.out _).2 HB3.out, tail_end ?_⟩
  go_wp2
  exact bodyPost_ret (v := .agg (D4 now (.slice a0 gs.length p0) (.slice a3 qs.length p3) g)) (results_cell_row rfl _ _ _ 27 _ (0, 0) _ rfl H1.out Try.underlying27 rfl sizeDk) rfl ⟨_, rfl, P1.out, BF.out⟩
theorem optI_isNone (o : Option Nat) : o.isNone = decide (optI o < 0) := by
  cases o with
  | none => rfl
  | some i => exact (decide_eq_false (by simp only [optI]; omega)).symm
set_option maxHeartbeats 6400000 in
theorem opOk_c (n g : Int) (va vq : Value) (gs : List Ag) (qs : List Wt) (k t a s p : Int) (w : World) (ha : Rg 3 agC w va gs) (hq : Rg 4 wtC w vq qs) :
   Calls Try.prog 46 #[.agg (D4 n va vq g), .agg #[.int .i64 k, .int .i64 t, .int .i64 a, .int .i64 s, .int .i64 p]] w fun e w' => e = .returned (.bool (opB n gs qs k t a s p)) ∧ Below w.heap.size w w' := by
  obtain ⟨W0, hW0⟩ : ∃ W0, (w.alloc (Obj.cells (D4 n va vq g) 27)).alloc (Obj.cells #[.int .i64 k, .int .i64 t, .int .i64 a, .int .i64 s, .int .i64 p] 38) = W0 := ⟨_, rfl⟩
  have b0 : Below w.heap.size w W0 := hW0 ▸ ((Below.refl _ _).alloc (Nat.le_refl _) _).alloc (by simp) _
  have B0 : Hid (Below w.heap.size w W0) := b0
  have k0 : Blk W0 w.heap.size (D4 n va vq g) 27 := hW0 ▸ (Blk.new _ _ _).alloc _
  have k1 : Blk W0 (w.heap.size + 1) #[.int .i64 k, .int .i64 t, .int .i64 a, .int .i64 s, .int .i64 p] 38 := hW0 ▸ Blk.newAt _ (w.heap.size + 1) _ 38 (by simp)
  have HH : Hid (Rg 3 agC w va gs ∧ Rg 4 wtC w vq qs) := ⟨ha, hq⟩
  obtain ⟨a0, p0, rfl, -⟩ := ha
  obtain ⟨a1, p1, rfl, -⟩ := hq
  have HW0 : Hid (_ = W0) := hW0
  obtain ⟨R, hR⟩ : ∃ R, opB n gs qs k t a s p = R := ⟨_, rfl⟩
  have HR : Hid (opB n gs qs k t a s p = R) := hR
  rw [hR]
  obtain ⟨u, hu⟩ : ∃ u, tkB t = u := ⟨_, rfl⟩
  have HU : Hid (tkB t = u) := hu
  clear hR hu
  have HB : Hid (∀ W, (w.alloc (Obj.cells (D4 n (.slice a0 gs.length p0) (.slice a1 qs.length p1) g) 27)).alloc (Obj.cells #[.int .i64 k, .int .i64 t, .int .i64 a, .int .i64 s, .int .i64 p] 38) = W → Below w.heap.size w W) := fun W e => by rw [← e, HW0.out]; exact B0.out
  by_cases htk : u = true ∧ n ≤ t
  case neg =>
    have HF : Hid (R = false) := by
      show R = false
      rw [← HR.out, opB, HU.out]
      cases u with
      | false => simp
      | true => simp; intro h; exact absurd ⟨rfl, h⟩ htk
    clear hW0 b0 k0 k1
    cases u with
    | false =>
      go_enter Try.func46, Try.ntmps46
      go_wp2_with (first | (go_at_call 54; refine (tick_c _ _).mono ?_; rintro e w2 ⟨rfl, rfl⟩; rw [HU.out]))
      go_ret
      exact ⟨by rw [HF.out]; rfl, HB.out _ rfl⟩
    | true =>
      have hlt : t < n := by
        by_cases h : n ≤ t
        · exact absurd ⟨rfl, h⟩ htk
        · omega
      clear htk
      go_enter Try.func46, Try.ntmps46
      go_wp2_with (first | (go_at_call 54; refine (tick_c _ _).mono ?_; rintro e w2 ⟨rfl, rfl⟩; rw [HU.out]))
      go_ret
      exact ⟨by rw [HF.out]; rfl, HB.out _ rfl⟩
  case pos =>
  obtain ⟨rfl, hnt⟩ := htk
  have hlt : ¬ t < n := by omega
  have HR2 : Hid (R = (if k = 1 then wtB t (a, s, p, t) && (gs.findIdx? fun x => x.2.1 == a).isNone && (qs.findIdx? fun x => x.1 == a).isNone else if k = 2 ∨ k = 3 then decide (s = 0 ∧ p = 0) else if k = 4 then decide (0 ≤ s ∧ s ≤ 255) && decide (p = 0) else false)) := by
    show R = _
    rw [← HR.out, opB, HU.out, decide_eq_true hnt]; simp only [Bool.true_and]
  clear hnt HR
  by_cases h1 : k = 1
  · subst h1
    have z1 : ∀ W : Ov W0, W.wd.cell? ⟨w.heap.size, 1, none⟩ = some (.slice a0 gs.length p0) := ov_cell (k0.cell 1)
    have z2 : ∀ W : Ov W0, W.wd.cell? ⟨w.heap.size, 2, none⟩ = some (.slice a1 qs.length p1) := ov_cell (k0.cell 2)
    have y0 : ∀ W : Ov W0, W.wd.cell? ⟨w.heap.size + 1, 0, none⟩ = some (.int .i64 1) := ov_cell (k1.cell 0)
    have y1 : ∀ W : Ov W0, W.wd.cell? ⟨w.heap.size + 1, 1, none⟩ = some (.int .i64 t) := ov_cell (k1.cell 1)
    have y2 : ∀ W : Ov W0, W.wd.cell? ⟨w.heap.size + 1, 2, none⟩ = some (.int .i64 a) := ov_cell (k1.cell 2)
    have y3 : ∀ W : Ov W0, W.wd.cell? ⟨w.heap.size + 1, 3, none⟩ = some (.int .i64 s) := ov_cell (k1.cell 3)
    have y4 : ∀ W : Ov W0, W.wd.cell? ⟨w.heap.size + 1, 4, none⟩ = some (.int .i64 p) := ov_cell (k1.cell 4)
    have ne : Nonempty (Ov W0) := ⟨⟨_, Below.refl _ _⟩⟩
    obtain ⟨q1, hq1⟩ : ∃ q, wtB t (a, s, p, t) = q := ⟨_, rfl⟩
    obtain ⟨u1, hu1⟩ : ∃ z, optI (gs.findIdx? fun x => x.2.1 == a) = z := ⟨_, rfl⟩
    obtain ⟨u2, hu2⟩ : ∃ z, optI (qs.findIdx? fun x => x.1 == a) = z := ⟨_, rfl⟩
    have HC0 : Hid (∀ W : Ov W0, Calls Try.prog 78 #[.agg #[.int .i64 1, .int .i64 t, .int .i64 a, .int .i64 s, .int .i64 p]] W.wd fun e w'' => e = .returned (.agg #[.int .i64 a, .int .i64 s, .int .i64 p, .int .i64 t]) ∧ ∃ W' : Ov W0, w'' = W'.wd) := fun W => ov_call (comer_c 1 t a s p W.wd)
    have HC1 : Hid (∀ W : Ov W0, Calls Try.prog 77 #[.agg #[.int .i64 a, .int .i64 s, .int .i64 p, .int .i64 t], .int .i64 t] W.wd fun e w'' => e = .returned (.bool q1) ∧ ∃ W' : Ov W0, w'' = W'.wd) := fun W => ov_call (by rw [← hq1]; exact waitOk_c (a, s, p, t) t W.wd)
    have HC2 : Hid (∀ W : Ov W0, Calls Try.prog 58 #[.slice a0 gs.length p0, .int .i64 a] W.wd fun e w'' => e = .returned (.int .i64 u1) ∧ ∃ W' : Ov W0, w'' = W'.wd) := fun W => ov_call (by rw [← hu1]; exact agW_c _ gs a W.wd (HH.out.1.below (belowCall B0.out W.ok B0.out.size)))
    have HC3 : Hid (∀ W : Ov W0, Calls Try.prog 59 #[.slice a1 qs.length p1, .int .i64 a] W.wd fun e w'' => e = .returned (.int .i64 u2) ∧ ∃ W' : Ov W0, w'' = W'.wd) := fun W => ov_call (by rw [← hu2]; exact plc_c _ qs a W.wd (HH.out.2.below (belowCall B0.out W.ok B0.out.size)))
    have HN : Hid ((gs.findIdx? fun x => x.2.1 == a).isNone = decide (u1 < 0) ∧ (qs.findIdx? fun x => x.1 == a).isNone = decide (u2 < 0)) := by
      refine ⟨?_, ?_⟩
      · rw [← hu1]; exact optI_isNone _
      · rw [← hu2]; exact optI_isNone _
    have HFF : Hid (R = (q1 && decide (u1 < 0) && decide (u2 < 0))) := by
      show R = _
      rw [HR2.out, if_pos rfl, hq1, HN.out.1, HN.out.2]
    clear hq1 hu1 hu2 HN HR2 hW0 b0 k0 k1
    cases q1 with
    | false =>
      have HF : Hid (R = false) := by show R = false; rw [HFF.out]; rfl
      clear HFF
      go_enter Try.func46, Try.ntmps46
      go_wp2_with (first | (go_at_call 54; refine (tick_c _ _).mono ?_; rintro e w2 ⟨rfl, rfl⟩; rw [HU.out]))
      rw [HW0.out]
      refine region_over (by kernel_rfl) (by kernel_rfl) ?_
      repeat (go_big_quiet_step (first | (go_at_call 78; exact HC0.out _) | (go_at_call 77; exact HC1.out _)))
      refine wpQuiet_nil ?_
      rintro _ ⟨W, rfl⟩
      have HBW : Hid (Below w.heap.size w W.wd) := belowCall B0.out W.ok B0.out.size
      clear z1 z2 y0 y1 y2 y3 y4
      go_wp2
      go_ret
      exact ⟨by rw [HF.out]; rfl, HBW.out⟩
    | true =>
    by_cases hz1 : u1 < 0
    case neg =>
      have HF : Hid (R = false) := by show R = false; rw [HFF.out, decide_eq_false hz1]; rfl
      have hzd : decide (u1 < 0) = false := decide_eq_false hz1
      clear HFF
      go_enter Try.func46, Try.ntmps46
      go_wp2_with (first | (go_at_call 54; refine (tick_c _ _).mono ?_; rintro e w2 ⟨rfl, rfl⟩; rw [HU.out]))
      rw [HW0.out]
      refine region_over (by kernel_rfl) (by kernel_rfl) ?_
      repeat (go_big_quiet_step (first | (go_at_call 78; exact HC0.out _) | (go_at_call 77; exact HC1.out _) | (go_at_call 58; exact HC2.out _)))
      refine wpQuiet_nil ?_
      rintro _ ⟨W, rfl⟩
      have HBW : Hid (Below w.heap.size w W.wd) := belowCall B0.out W.ok B0.out.size
      clear z1 z2 y0 y1 y2 y3 y4
      go_wp2
      go_ret
      exact ⟨by rw [HF.out]; rfl, HBW.out⟩
    case pos =>
    have hzd : decide (u1 < 0) = true := decide_eq_true hz1
    have HF : Hid (R = decide (u2 < 0)) := by show R = _; rw [HFF.out, hzd]; simp
    clear HFF
    go_enter Try.func46, Try.ntmps46
    go_wp2_with (first | (go_at_call 54; refine (tick_c _ _).mono ?_; rintro e w2 ⟨rfl, rfl⟩; rw [HU.out]))
    rw [HW0.out]
    refine region_over (by kernel_rfl) (by kernel_rfl) ?_
    repeat (go_big_quiet_step (first | (go_at_call 78; exact HC0.out _) | (go_at_call 77; exact HC1.out _) | (go_at_call 58; exact HC2.out _) | (go_at_call 59; exact HC3.out _)))
    refine wpQuiet_nil ?_
    rintro _ ⟨W, rfl⟩
    have HBW : Hid (Below w.heap.size w W.wd) := belowCall B0.out W.ok B0.out.size
    clear z1 z2 y0 y1 y2 y3 y4
    go_wp2
    go_ret
    exact ⟨by rw [HF.out]; rfl, HBW.out⟩
  clear hW0 b0 k0 k1 HW0 B0
  have n1 : (k == 1) = false := by simp [h1]
  by_cases h23 : k = 2 ∨ k = 3
  · have HF : Hid (R = decide (s = 0 ∧ p = 0)) := by show R = _; rw [HR2.out, if_neg h1, if_pos h23]
    clear HR2 h1
    by_cases hs : s = 0 <;> by_cases hp : p = 0 <;> rcases h23 with rfl | rfl
    all_goals
      go_enter Try.func46, Try.ntmps46
      go_wp2_with (first | (go_at_call 54; refine (tick_c _ _).mono ?_; rintro e w2 ⟨rfl, rfl⟩; rw [HU.out]))
      go_ret
      exact ⟨by rw [HF.out]; simp [hs, hp], ((Below.refl _ _).alloc (Nat.le_refl _) _).alloc (by simp) _⟩
  have n2 : ¬ k = 2 := fun h => h23 (.inl h)
  have n3 : ¬ k = 3 := fun h => h23 (.inr h)
  by_cases h4 : k = 4
  · have HF : Hid (R = (decide (0 ≤ s ∧ s ≤ 255) && decide (p = 0))) := by show R = _; rw [HR2.out, if_neg h1, if_neg h23, if_pos h4]
    subst h4
    clear HR2 h1 h23 n1 n2 n3
    obtain ⟨v, hv⟩ : ∃ v, decide (0 ≤ s ∧ s ≤ 255) = v := ⟨_, rfl⟩
    rw [hv] at HF
    have HV : Hid (decide (0 ≤ s ∧ s ≤ 255) = v) := hv
    clear hv
    cases v <;> by_cases hp : p = 0
    all_goals
      go_enter Try.func46, Try.ntmps46
      go_wp2_with (first | (go_at_call 54; refine (tick_c _ _).mono ?_; rintro e w2 ⟨rfl, rfl⟩; rw [HU.out]) | (go_at_call 79; refine (skillsOk_c _ _).mono ?_; rintro e w2 ⟨rfl, rfl⟩; rw [HV.out]))
      go_ret
      exact ⟨by rw [HF.out]; simp [hp], ((Below.refl _ _).alloc (Nat.le_refl _) _).alloc (by simp) _⟩
  · have HF : Hid (R = false) := by show R = _; rw [HR2.out, if_neg h1, if_neg h23, if_neg h4]
    clear HR2 h23
    go_enter Try.func46, Try.ntmps46
    go_wp2_with (first | (go_at_call 54; refine (tick_c _ _).mono ?_; rintro e w2 ⟨rfl, rfl⟩; rw [HU.out]))
    go_ret
    exact ⟨by rw [HF.out]; rfl, HB.out _ rfl⟩
end Go.Proofs.Ytpmmgbinogokfaa

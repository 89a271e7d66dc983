/- A rule by itself, the program's way; no condition. -/
import Derived.Test.YtpnglbnebkggkaaDig
namespace Go.Proofs.Ytpnglbnebkggkaa
open Go.RowKit Go.ChangeShapes Go.WideShapes Go.ChangeAt
set_option linter.unusedVariables false
set_option linter.unusedSimpArgs false
set_option maxRecDepth 8000
/-- a right rule -/
def RuleOk (r : Rl) : Prop := (DgOk r.pre ∧ 0 < r.pre.size) ∧ (r.pre.size : Int) ≤ r.le ∧ r.le ≤ r.mo ∧ r.mo ≤ 20 ∧ (0 ≤ r.ro ∧ r.ro ≤ 1000) ∧ (0 ≤ r.st ∧ r.st ≤ r.le) ∧ DgOk r.ad ∧ (r.ad.size : Int) + r.mo - r.st ≤ 20
def RuR (r : Rl) (w : World) (e : Ending) (w' : World) : Prop := ∃ q, e = .returned (.bool q) ∧ (q = true ↔ RuleOk r) ∧ Below w.heap.size w w'
theorem RuR.no {r : Rl} {w w' : World} (h : ¬ RuleOk r) (b : Below w.heap.size w w') : RuR r w (.returned (.bool false)) w' := ⟨_, rfl, ⟨fun h => (by cases h), fun h' => absurd h' h⟩, b⟩
theorem RuR.yes {r : Rl} {w w' : World} (h : RuleOk r) (b : Below w.heap.size w w') : RuR r w (.returned (.bool true)) w' := ⟨_, rfl, ⟨fun _ => h, fun _ => rfl⟩, b⟩
theorem growth_c (r : Rl) (w : World) (h1 : r.ad.size ≤ 1048576) (h2 : 0 ≤ r.st) (h3 : r.st ≤ 1048576) : Calls Try.prog 65 #[.agg (R6 r)] w fun e w' => e = .returned (.int .i64 ((r.ad.size : Int) - r.st)) ∧ Below w.heap.size w w' := by
  have HB : Hid (Below w.heap.size w (w.alloc (Obj.cells (R6 r) 31))) := (Below.refl _ _).alloc (Nat.le_refl _) _
  obtain ⟨p, l, m, ro, st, ad⟩ := r
  dsimp only at h1 h2 h3 HB ⊢
  go_enter Try.func65, Try.ntmps65
  go_wp2
  go_ret
  exact ⟨rfl, HB.out⟩
set_option maxHeartbeats 6400000 in
theorem ruleOkI_c (r : Rl) (w : World) (hs1 : r.pre.size ≤ 1048576) (hs2 : r.ad.size ≤ 1048576) : Calls Try.prog 47 #[.agg (R6 r)] w (RuR r w) := by
  obtain ⟨p, l, m, ro, st, ad⟩ := r
  dsimp only at hs1 hs2
  obtain ⟨W1, hW1⟩ : ∃ W1, w.alloc (Obj.cells (R6 ⟨p, l, m, ro, st, ad⟩) 31) = W1 := ⟨_, rfl⟩
  have B1 : Hid (Below w.heap.size w W1) := hW1 ▸ (Below.refl _ _).alloc (Nat.le_refl _) _
  have K1 : Hid (Blk W1 w.heap.size (R6 ⟨p, l, m, ro, st, ad⟩) 31) := hW1 ▸ Blk.new _ _ _
  have HW1 : Hid (w.alloc (Obj.cells (R6 ⟨p, l, m, ro, st, ad⟩) 31) = W1) := hW1
  clear hW1
  go_enter Try.func47, Try.ntmps47
  go_wp2_with (fail)
  rw [HW1.out]
  clear HW1
  refine (isNumber_c p W1 (by omega)).mono ?_
  rintro e w2 ⟨q, rfl, hq, b2⟩
  have B2 : Hid (Below w.heap.size w w2) := belowCall B1.out b2 B1.out.size
  have K2 : Hid (Blk w2 w.heap.size (R6 ⟨p, l, m, ro, st, ad⟩) 31) := K1.out.below b2 K1.out.lt
  have HQ : Hid (q = true ↔ (DgOk p ∧ 0 < p.size)) := hq
  clear hq b2 B1 K1
  cases q with
  | false =>
    have HN : Hid (¬ RuleOk ⟨p, l, m, ro, st, ad⟩) := fun h => by have := HQ.out.2 h.1; cases this
    clear HQ
    go_wp2
    go_ret
    exact RuR.no HN.out B2.out
  | true =>
  have HP := HQ.out.1 rfl
  have HP' : Hid (DgOk p ∧ 0 < p.size) := HP
  clear HP HQ
  have c5 := K2.out.cell 5
  simp at c5
  go_wp2_with (fail)
  refine (areDigits_c ad w2 (by omega)).mono ?_
  rintro e w3 ⟨q, rfl, hq, b3⟩
  have B3 : Hid (Below w.heap.size w w3) := belowCall B2.out b3 B2.out.size
  have K3 : Hid (Blk w3 w.heap.size (R6 ⟨p, l, m, ro, st, ad⟩) 31) := K2.out.below b3 K2.out.lt
  have HQ : Hid (q = true ↔ DgOk ad) := hq
  clear hq b3 B2 K2 c5
  cases q with
  | false =>
    have HN : Hid (¬ RuleOk ⟨p, l, m, ro, st, ad⟩) := fun h => by have := HQ.out.2 h.2.2.2.2.2.2.1; cases this
    clear HQ
    go_wp2
    go_ret
    exact RuR.no HN.out B3.out
  | true =>
  have HA : Hid (DgOk ad) := HQ.out.1 rfl
  clear HQ
  have c0 := K3.out.cell 0
  have c1 := K3.out.cell 1
  have c2 := K3.out.cell 2
  have c3 := K3.out.cell 3
  have c4 := K3.out.cell 4
  simp at c0 c1 c2 c3 c4
  by_cases h1 : (p.size : Int) ≤ l
  case neg =>
    have HN : Hid (¬ RuleOk ⟨p, l, m, ro, st, ad⟩) := fun h => h1 h.2.1
    have g1 : l < (p.size : Int) := by omega
    clear h1
    go_wp2
    go_ret
    exact RuR.no HN.out B3.out
  have g1 : ¬ (l < (p.size : Int)) := by omega
  by_cases h2 : l ≤ m
  case neg =>
    have HN : Hid (¬ RuleOk ⟨p, l, m, ro, st, ad⟩) := fun h => h2 h.2.2.1
    have g2 : m < l := by omega
    clear h2
    go_wp2
    go_ret
    exact RuR.no HN.out B3.out
  have g2 : ¬ (m < l) := by omega
  by_cases h3 : m ≤ 20
  case neg =>
    have HN : Hid (¬ RuleOk ⟨p, l, m, ro, st, ad⟩) := fun h => h3 h.2.2.2.1
    have g3 : 20 < m := by omega
    clear h3
    go_wp2
    go_ret
    exact RuR.no HN.out B3.out
  have g3 : ¬ (20 < m) := by omega
  by_cases h4 : 0 ≤ ro
  case neg =>
    have HN : Hid (¬ RuleOk ⟨p, l, m, ro, st, ad⟩) := fun h => h4 h.2.2.2.2.1.1
    have g4 : ro < 0 := by omega
    clear h4
    go_wp2
    go_ret
    exact RuR.no HN.out B3.out
  have g4 : ¬ (ro < 0) := by omega
  by_cases h5 : ro ≤ 1000
  case neg =>
    have HN : Hid (¬ RuleOk ⟨p, l, m, ro, st, ad⟩) := fun h => h5 h.2.2.2.2.1.2
    have g5 : 1000 < ro := by omega
    clear h5
    go_wp2
    go_ret
    exact RuR.no HN.out B3.out
  have g5 : ¬ (1000 < ro) := by omega
  by_cases h6 : 0 ≤ st
  case neg =>
    have HN : Hid (¬ RuleOk ⟨p, l, m, ro, st, ad⟩) := fun h => h6 h.2.2.2.2.2.1.1
    have g6 : st < 0 := by omega
    clear h6
    go_wp2
    go_ret
    exact RuR.no HN.out B3.out
  have g6 : ¬ (st < 0) := by omega
  by_cases h7 : st ≤ l
  case neg =>
    have HN : Hid (¬ RuleOk ⟨p, l, m, ro, st, ad⟩) := fun h => h7 h.2.2.2.2.2.1.2
    have g7 : l < st := by omega
    clear h7
    go_wp2
    go_ret
    exact RuR.no HN.out B3.out
  have g7 : ¬ (l < st) := by omega
  have HQ : Hid ((ad.size : Int) + m - st ≤ 20 ↔ RuleOk ⟨p, l, m, ro, st, ad⟩) := ⟨fun h => ⟨HP'.out, h1, h2, h3, ⟨h4, h5⟩, ⟨h6, h7⟩, HA.out, h⟩, fun h => h.2.2.2.2.2.2.2⟩
  have z0 : ∀ W : Ov w3, W.wd.cell? ⟨w.heap.size, 0, none⟩ = some (.string p) := ov_cell (K3.out.cell 0)
  have z1 : ∀ W : Ov w3, W.wd.cell? ⟨w.heap.size, 1, none⟩ = some (.int .i64 l) := ov_cell (K3.out.cell 1)
  have z2 : ∀ W : Ov w3, W.wd.cell? ⟨w.heap.size, 2, none⟩ = some (.int .i64 m) := ov_cell (K3.out.cell 2)
  have z3 : ∀ W : Ov w3, W.wd.cell? ⟨w.heap.size, 3, none⟩ = some (.int .i64 ro) := ov_cell (K3.out.cell 3)
  have z4 : ∀ W : Ov w3, W.wd.cell? ⟨w.heap.size, 4, none⟩ = some (.int .i64 st) := ov_cell (K3.out.cell 4)
  have z5 : ∀ W : Ov w3, W.wd.cell? ⟨w.heap.size, 5, none⟩ = some (.string ad) := ov_cell (K3.out.cell 5)
  have ne : Nonempty (Ov w3) := ⟨⟨_, Below.refl _ _⟩⟩
  have HC : Hid (∀ W : Ov w3, Calls Try.prog 65 #[.agg (R6 ⟨p, l, m, ro, st, ad⟩)] W.wd fun e w'' => e = .returned (.int .i64 ((ad.size : Int) - st)) ∧ ∃ W' : Ov w3, w'' = W'.wd) := fun W => ov_call (growth_c ⟨p, l, m, ro, st, ad⟩ W.wd hs2 h6 (by show st ≤ _; omega))
  obtain ⟨gr, hgr⟩ : ∃ gr, (ad.size : Int) - st = gr := ⟨_, rfl⟩
  rw [hgr] at HC
  have hgb : -20 ≤ gr ∧ gr ≤ 1048576 := by omega
  have HG : Hid (m + gr ≤ 20 ↔ RuleOk ⟨p, l, m, ro, st, ad⟩) := by
    have := HQ.out
    show m + gr ≤ 20 ↔ _
    rw [← this]; omega
  have hmb : 0 ≤ m := by omega
  clear HQ hgr h1 h2 h3 h4 h5 h6 h7
  go_wp2
  refine region_over (by kernel_rfl) (by kernel_rfl) ?_
  repeat (go_big_quiet_step (first | (go_at_call 65; exact HC.out _)))
  refine wpQuiet_nil ?_
  rintro _ ⟨W, rfl⟩
  have HBW : Hid (Below w.heap.size w W.wd) := belowCall B3.out W.ok B3.out.size
  clear z0 z1 z2 z3 z4 z5 HC c0 c1 c2 c3 c4
  go_wp2
  go_ret
  exact ⟨_, rfl, by simp only [decide_eq_true_eq]; exact HG.out, HBW.out⟩
end Go.Proofs.Ytpnglbnebkggkaa

/- The model's Overlap; no condition. -/
import Derived.Test.YtpnglbnebkggkaaOvT
import Derived.Test.YtpnglbnebkggkaaDiM
namespace Go.Proofs.Ytpnglbnebkggkaa
open Go.RowKit Go.ChangeShapes Go.WideShapes Go.ChangeAt
set_option linter.unusedVariables false
set_option linter.unusedSimpArgs false
set_option maxRecDepth 8000
theorem cell_keep {w : World} (W : World) (b o i : Nat) (x : Value) (hb : b < w.heap.size) : (W.setCell ⟨w.heap.size, i, none⟩ x).cell? ⟨b, o, none⟩ = W.cell? ⟨b, o, none⟩ :=
  World.cell?_of_block (w := W) (heap_setCell_other W ⟨w.heap.size, i, none⟩ b x (by show b ≠ w.heap.size; omega))
set_option maxHeartbeats 12800000 in
theorem ovM_c (v u : Value) (ls : Rls) (ps : Prs) (wt : Int) (w : World) (h : Rr w v ls) (hp : Rpq w u ps) (hz : Szs ls) (hy : Szp ps) : Calls Try.prog 15 #[v, u, .int .i64 wt] w (OvR ls ps wt w) := by
  have HRR : Hid (Rr w v ls) := h
  have HPP : Hid (Rpq w u ps) := hp
  have HZ : Hid (Szs ls) := hz
  have HY : Hid (Szp ps) := hy
  obtain ⟨a, cap, rfl, -⟩ := h
  obtain ⟨a', cap', rfl, g1, g2, g3⟩ := hp
  unfold maxLen at g2
  have H3 : Hid (ps = [] ∨ ∃ b off, a' = some ⟨b, off, none⟩ ∧ ∀ i (h : i < ps.length), w.cell? ⟨b, off + i * 2, none⟩ = some (.int .i64 ps[i].ti) ∧ w.cell? ⟨b, off + i * 2 + 1, none⟩ = some (.string ps[i].di)) := g3
  obtain ⟨n, hn⟩ : ∃ n, ls.length = n := ⟨_, rfl⟩
  obtain ⟨m, hm⟩ : ∃ m, ps.length = m := ⟨_, rfl⟩
  have HN : Hid (ps.length = m) := hm
  rw [hn] at HRR ⊢
  rw [hm] at HPP g1 ⊢
  clear hn hm hz hy g3
  obtain ⟨W1, hW1⟩ : ∃ W1, w.alloc (Obj.cells (D4 0 0 ⟨#[]⟩ 0) 28) = W1 := ⟨_, rfl⟩
  have K1 : Hid (Below w.heap.size w W1 ∧ Blk W1 w.heap.size (D4 0 0 ⟨#[]⟩ 0) 28) := ⟨hW1 ▸ (Below.refl _ _).alloc (Nat.le_refl _) _, hW1 ▸ Blk.new _ _ _⟩
  have HW1 : Hid (w.alloc (Obj.cells (D4 0 0 ⟨#[]⟩ 0) 28) = W1) := hW1
  clear hW1
  go_enter Try.func15, Try.ntmps15
  go_wp2_with (fail)
  rw [HW1.out]
  clear HW1
  refine (rulesM_c _ ls W1 (HRR.out.below K1.out.1) HZ.out).mono ?_
  rintro e w2 ⟨q, rfl, hq, b2⟩
  have K2 : Hid (Below w.heap.size w w2 ∧ Blk w2 w.heap.size (D4 0 0 ⟨#[]⟩ 0) 28) := ⟨belowCall K1.out.1 b2 K1.out.1.size, K1.out.2.below b2 K1.out.2.lt⟩
  have HQ1 : Hid (q = true ↔ RsOk ls) := hq
  clear b2 K1 hq
  cases q with
  | false =>
    have HNO : Hid (¬ RsOk ls) := fun h => by have := HQ1.out.2 h; cases this
    clear HQ1
    go_wp2_with (fail)
    refine (none_c 5 w2).mono ?_
    rintro e w9 ⟨rfl, b9⟩
    have K9 : Hid (Below w.heap.size w w9 ∧ Blk w9 w.heap.size (D4 0 0 ⟨#[]⟩ 0) 28) := ⟨belowCall K2.out.1 b9 K2.out.1.size, K2.out.2.below b9 K2.out.2.lt⟩
    clear K2 b9
    have HS : Hid (OvS ls ps wt (5, -1, ⟨#[]⟩, -1) (-1)) := .inl ⟨fun h => HNO.out h.1, rfl, rfl⟩
    have HF : Hid (∀ W4, (((w9.setCell ⟨w.heap.size, 0, none⟩ (.int .i64 (5))).setCell ⟨w.heap.size, 1, none⟩ (.int .i64 (-1))).setCell ⟨w.heap.size, 2, none⟩ (.string (⟨#[]⟩))).setCell ⟨w.heap.size, 3, none⟩ (.int .i64 (-1)) = W4 → Blk W4 w.heap.size (D4 (5) (-1) (⟨#[]⟩) (-1)) 28 ∧ Below w.heap.size w W4) := finD K9.out.2 K9.out.1 (Nat.le_refl _) _ _ _ _
    have d0 := K9.out.2.cell 0
    have d1 := K9.out.2.cell 1
    have d2 := K9.out.2.cell 2
    have d3 := K9.out.2.cell 3
    have f0 := K9.out.2.frozen 0
    have f1 := K9.out.2.frozen 1
    have f2 := K9.out.2.frozen 2
    have f3 := K9.out.2.frozen 3
    simp at d0 d1 d2 d3
    clear K9
    go_wp2
    exact bodyPost_ret (v := .tuple #[.agg (D4 (5) (-1) (⟨#[]⟩) (-1)), .int .i64 (-1)]) (results_28 rfl _ _ _ _ _ _ _ _ rfl rfl (HF.out _ rfl).1) rfl ⟨_, _, _, _, _, rfl, HS.out, (HF.out _ rfl).2⟩
  | true =>
  have HOK : Hid (RsOk ls) := HQ1.out.1 rfl
  clear HQ1
  go_wp2_with (fail)
  refine (pressM_c _ ps w2 (HPP.out.below K2.out.1) HY.out).mono ?_
  rintro e w3 ⟨q, rfl, hq, b3⟩
  have K3 : Hid (Below w.heap.size w w3 ∧ Blk w3 w.heap.size (D4 0 0 ⟨#[]⟩ 0) 28) := ⟨belowCall K2.out.1 b3 K2.out.1.size, K2.out.2.below b3 K2.out.2.lt⟩
  have HQ1 : Hid (q = true ↔ PsOk ps) := hq
  clear b3 K2 hq
  cases q with
  | false =>
    have HNO : Hid (¬ PsOk ps) := fun h => by have := HQ1.out.2 h; cases this
    clear HQ1
    go_wp2_with (fail)
    refine (none_c 5 w3).mono ?_
    rintro e w9 ⟨rfl, b9⟩
    have K9 : Hid (Below w.heap.size w w9 ∧ Blk w9 w.heap.size (D4 0 0 ⟨#[]⟩ 0) 28) := ⟨belowCall K3.out.1 b9 K3.out.1.size, K3.out.2.below b9 K3.out.2.lt⟩
    clear K3 b9
    have HS : Hid (OvS ls ps wt (5, -1, ⟨#[]⟩, -1) (-1)) := .inl ⟨fun h => HNO.out h.2.1, rfl, rfl⟩
    have HF : Hid (∀ W4, (((w9.setCell ⟨w.heap.size, 0, none⟩ (.int .i64 (5))).setCell ⟨w.heap.size, 1, none⟩ (.int .i64 (-1))).setCell ⟨w.heap.size, 2, none⟩ (.string (⟨#[]⟩))).setCell ⟨w.heap.size, 3, none⟩ (.int .i64 (-1)) = W4 → Blk W4 w.heap.size (D4 (5) (-1) (⟨#[]⟩) (-1)) 28 ∧ Below w.heap.size w W4) := finD K9.out.2 K9.out.1 (Nat.le_refl _) _ _ _ _
    have d0 := K9.out.2.cell 0
    have d1 := K9.out.2.cell 1
    have d2 := K9.out.2.cell 2
    have d3 := K9.out.2.cell 3
    have f0 := K9.out.2.frozen 0
    have f1 := K9.out.2.frozen 1
    have f2 := K9.out.2.frozen 2
    have f3 := K9.out.2.frozen 3
    simp at d0 d1 d2 d3
    clear K9
    go_wp2
    exact bodyPost_ret (v := .tuple #[.agg (D4 (5) (-1) (⟨#[]⟩) (-1)), .int .i64 (-1)]) (results_28 rfl _ _ _ _ _ _ _ _ rfl rfl (HF.out _ rfl).1) rfl ⟨_, _, _, _, _, rfl, HS.out, (HF.out _ rfl).2⟩
  | true =>
  have HPK : Hid (PsOk ps) := HQ1.out.1 rfl
  clear HQ1
  go_wp2_with (fail)
  refine (l1In_c wt 1 1000 w3).mono ?_
  rintro e w4 ⟨rfl, hw4⟩
  obtain rfl : w3 = w4 := hw4.symm
  by_cases hw : 1 ≤ wt ∧ wt ≤ 1000
  case neg =>
    rw [decide_eq_false hw]
    have HNW : Hid (¬ (1 ≤ wt ∧ wt ≤ 1000)) := hw
    clear hw
    go_wp2_with (fail)
    refine (none_c 5 w3).mono ?_
    rintro e w9 ⟨rfl, b9⟩
    have K9 : Hid (Below w.heap.size w w9 ∧ Blk w9 w.heap.size (D4 0 0 ⟨#[]⟩ 0) 28) := ⟨belowCall K3.out.1 b9 K3.out.1.size, K3.out.2.below b9 K3.out.2.lt⟩
    clear K3 b9
    have HS : Hid (OvS ls ps wt (5, -1, ⟨#[]⟩, -1) (-1)) := .inl ⟨fun h => HNW.out h.2.2, rfl, rfl⟩
    have HF : Hid (∀ W4, (((w9.setCell ⟨w.heap.size, 0, none⟩ (.int .i64 (5))).setCell ⟨w.heap.size, 1, none⟩ (.int .i64 (-1))).setCell ⟨w.heap.size, 2, none⟩ (.string (⟨#[]⟩))).setCell ⟨w.heap.size, 3, none⟩ (.int .i64 (-1)) = W4 → Blk W4 w.heap.size (D4 (5) (-1) (⟨#[]⟩) (-1)) 28 ∧ Below w.heap.size w W4) := finD K9.out.2 K9.out.1 (Nat.le_refl _) _ _ _ _
    have d0 := K9.out.2.cell 0
    have d1 := K9.out.2.cell 1
    have d2 := K9.out.2.cell 2
    have d3 := K9.out.2.cell 3
    have f0 := K9.out.2.frozen 0
    have f1 := K9.out.2.frozen 1
    have f2 := K9.out.2.frozen 2
    have f3 := K9.out.2.frozen 3
    simp at d0 d1 d2 d3
    clear K9
    go_wp2
    exact bodyPost_ret (v := .tuple #[.agg (D4 (5) (-1) (⟨#[]⟩) (-1)), .int .i64 (-1)]) (results_28 rfl _ _ _ _ _ _ _ _ rfl rfl (HF.out _ rfl).1) rfl ⟨_, _, _, _, _, rfl, HS.out, (HF.out _ rfl).2⟩
  case pos =>
  rw [decide_eq_true hw]
  obtain ⟨hwl, hwu⟩ := hw
  have HOO : Hid (OvOk ls ps wt) := ⟨HOK.out, HPK.out, hwl, hwu⟩
  go_wp2_with (fail)
  refine (none_c 0 w3).mono ?_
  rintro e w4 ⟨rfl, b4⟩
  obtain ⟨W5, hW5⟩ : ∃ W5, w4.alloc (Obj.cells (D4 0 (-1) ⟨#[]⟩ (-1)) 28) = W5 := ⟨_, rfl⟩
  obtain ⟨gt, hgt⟩ : ∃ g, w4.heap.size = g := ⟨_, rfl⟩
  have bA : Below w3.heap.size w3 W5 := hW5 ▸ b4.alloc b4.size _
  have KS : Hid ((Below w.heap.size w W5 ∧ Blk W5 w.heap.size (D4 0 0 ⟨#[]⟩ 0) 28) ∧ Blk W5 gt (D4 0 (-1) ⟨#[]⟩ (-1)) 28) := ⟨⟨belowCall K3.out.1 bA K3.out.1.size, K3.out.2.below bA K3.out.2.lt⟩, hgt ▸ hW5 ▸ Blk.new _ _ _⟩
  have hgn : w.heap.size < gt := by have := K3.out.2.lt; have := b4.size; omega
  have HW5 : Hid (w4.alloc (Obj.cells (D4 0 (-1) ⟨#[]⟩ (-1)) 28) = W5) := hW5
  have HGT : Hid (w4.heap.size = gt) := hgt
  clear b4 bA K3 hW5 hgt
  go_wp2
  rw [HW5.out, HGT.out]
  clear HW5 HGT
  go_loopw [11, 8, 10] (fun i d t wr => ∃ j : Nat, ∃ (c r : Int) (nu : ByteArray) (kk : Int), j ≤ m ∧ i = .int .i64 j ∧ d = .string (dgs ps j) ∧ t = .int .i64 (enT ps wt j) ∧ Hid (Tl ls ps j (c, r, nu, kk)) ∧ Hid ((Below w.heap.size w wr ∧ Blk wr w.heap.size (D4 0 0 ⟨#[]⟩ 0) 28) ∧ Blk wr gt (D4 c r nu kk) 28) ∧ Hid (OnP ls ps wt j)) (fun i _ _ _ => m - (intOf i).toNat)
  case atStart => exact ⟨0, _, _, _, _, Nat.zero_le _, rfl, rfl, rfl, .inl ⟨rfl, rfl⟩, KS.out, OnP.zero⟩
  case round =>
    rename_i wr
    obtain ⟨j, c, r, nu, kk, hj, rfl, rfl, rfl, HT, KJ, HON⟩ := hrel
    clear KS
    have HJ : Hid (j ≤ ps.length) := by show _ ≤ _; rw [HN.out]; exact hj
    have hsj := dgs_ok HPK.out j HJ.out
    have hsz : (dgs ps j).size = j := hsj.1
    have hj20 : j ≤ 20 := by have := HPK.out.1; have := HJ.out; omega
    clear hsj
    obtain ⟨sj, hsj⟩ : ∃ x, dgs ps j = x := ⟨_, rfl⟩
    obtain ⟨en, hen⟩ : ∃ x, enT ps wt j = x := ⟨_, rfl⟩
    have HSJ : Hid (dgs ps j = sj) := hsj
    have HEN : Hid (enT ps wt j = en) := hen
    rw [hsj] at hsz
    rw [hsj, hen]
    have hs20 : sj.size ≤ 20 := by omega
    clear hsj hen hsz
    by_cases hlt : j < m
    case neg =>
      by_cases hc1 : c = 1
      · subst hc1
        have HF : Hid (∀ W4, ((((wr.setCell ⟨gt, 0, none⟩ (.int .i64 2)).setCell ⟨w.heap.size, 0, none⟩ (.int .i64 (2))).setCell ⟨w.heap.size, 1, none⟩ (.int .i64 (r))).setCell ⟨w.heap.size, 2, none⟩ (.string (nu))).setCell ⟨w.heap.size, 3, none⟩ (.int .i64 (kk)) = W4 → Blk W4 w.heap.size (D4 2 r nu kk) 28 ∧ Below w.heap.size w W4) := finD (KJ.out.1.2.other _ _ (by show w.heap.size ≠ gt; omega)) (KJ.out.1.1.setCell (by show w.heap.size ≤ gt; omega) _) (Nat.le_refl _) _ _ _ _
        have HS : Hid (OvS ls ps wt (2, r, nu, kk) en) := .inr ⟨HOO.out, j, HJ.out, HON.out, .inr ⟨.inl (by have := HN.out; omega), HEN.out.symm, _, HT.out, .inl ⟨rfl, rfl⟩⟩⟩
        have d0 := KJ.out.1.2.cell 0
        have d1 := KJ.out.1.2.cell 1
        have d2 := KJ.out.1.2.cell 2
        have d3 := KJ.out.1.2.cell 3
        have f0 := KJ.out.1.2.frozen 0
        have f1 := KJ.out.1.2.frozen 1
        have f2 := KJ.out.1.2.frozen 2
        have f3 := KJ.out.1.2.frozen 3
        simp at d0 d1 d2 d3
        have t0 := KJ.out.2.cell 0
        have t1 := KJ.out.2.cell 1
        have t2 := KJ.out.2.cell 2
        have t3 := KJ.out.2.cell 3
        have q0 := KJ.out.2.frozen 0
        have q1 := KJ.out.2.frozen 1
        have q2 := KJ.out.2.frozen 2
        have q3 := KJ.out.2.frozen 3
        simp at t0 t1 t2 t3
        have hgn' : ¬ (w.heap.size = gt) := by omega
        have hgn2 : ¬ (gt = w.heap.size) := by omega
        clear KJ
        go_wp2
        exact bodyPost_ret (v := .tuple #[.agg (D4 2 r nu kk), .int .i64 en]) (results_28 rfl _ _ _ _ _ _ _ _ rfl rfl (HF.out _ rfl).1) rfl ⟨_, _, _, _, _, rfl, HS.out, (HF.out _ rfl).2⟩
      · have hcb : (c == 1) = false := by simpa using hc1
        have HC1 : Hid (¬ c = 1) := hc1
        have hcF : (c = 1) = False := eq_false hc1
        have KD0 : Hid (Below w.heap.size w wr ∧ Blk wr w.heap.size (D4 0 0 ⟨#[]⟩ 0) 28) := KJ.out.1
        have t0 := KJ.out.2.cell 0
        have t1 := KJ.out.2.cell 1
        have t2 := KJ.out.2.cell 2
        have t3 := KJ.out.2.cell 3
        have q0 := KJ.out.2.frozen 0
        have q1 := KJ.out.2.frozen 1
        have q2 := KJ.out.2.frozen 2
        have q3 := KJ.out.2.frozen 3
        simp at t0 t1 t2 t3
        clear hc1 KJ
        go_wp2_with (fail)
        refine (none_c 4 wr).mono ?_
        rintro e w9 ⟨rfl, b9⟩
        have K9 : Hid (Below w.heap.size w w9 ∧ Blk w9 w.heap.size (D4 0 0 ⟨#[]⟩ 0) 28) := ⟨belowCall KD0.out.1 b9 KD0.out.1.size, KD0.out.2.below b9 KD0.out.2.lt⟩
        clear KD0 b9
        have HS : Hid (OvS ls ps wt (4, -1, ⟨#[]⟩, -1) en) := .inr ⟨HOO.out, j, HJ.out, HON.out, .inr ⟨.inl (by have := HN.out; omega), HEN.out.symm, _, HT.out, .inr ⟨HC1.out, rfl⟩⟩⟩
        have HF : Hid (∀ W4, (((w9.setCell ⟨w.heap.size, 0, none⟩ (.int .i64 (4))).setCell ⟨w.heap.size, 1, none⟩ (.int .i64 (-1))).setCell ⟨w.heap.size, 2, none⟩ (.string (⟨#[]⟩))).setCell ⟨w.heap.size, 3, none⟩ (.int .i64 (-1)) = W4 → Blk W4 w.heap.size (D4 (4) (-1) (⟨#[]⟩) (-1)) 28 ∧ Below w.heap.size w W4) := finD K9.out.2 K9.out.1 (Nat.le_refl _) _ _ _ _
        have d0 := K9.out.2.cell 0
        have d1 := K9.out.2.cell 1
        have d2 := K9.out.2.cell 2
        have d3 := K9.out.2.cell 3
        have f0 := K9.out.2.frozen 0
        have f1 := K9.out.2.frozen 1
        have f2 := K9.out.2.frozen 2
        have f3 := K9.out.2.frozen 3
        simp at d0 d1 d2 d3
        clear K9
        go_wp2
        exact bodyPost_ret (v := .tuple #[.agg (D4 (4) (-1) (⟨#[]⟩) (-1)), .int .i64 en]) (results_28 rfl _ _ _ _ _ _ _ _ rfl rfl (HF.out _ rfl).1) rfl ⟨_, _, _, _, _, rfl, HS.out, (HF.out _ rfl).2⟩
    case pos =>
    have hjl : j < ps.length := by rw [HN.out]; exact hlt
    obtain ⟨b0, off, rfl, h4⟩ : ∃ b off, a' = some ⟨b, off, none⟩ ∧ _ := by
      rcases H3.out with h | h
      · rw [h] at hjl; simp at hjl
      · exact h
    have hc := h4 j hjl
    have hcb0 : b0 < w.heap.size := block_lt_of_cell hc.1
    have hpo := (HPK.out.2 j hjl hjl).1
    have HS1 : Hid (dgs ps (j + 1) = dgs ps j ++ ps[j].di) := dgs_succ hjl
    have HE1 : Hid (enT ps wt (j + 1) = ps[j].ti + wt) := enT_succ hjl
    obtain ⟨⟨ti, di⟩, hr⟩ : ∃ r, ps[j] = r := ⟨_, rfl⟩
    rw [hr] at hc hpo HS1 HE1
    rw [HSJ.out] at HS1
    dsimp only at hc hpo HS1 HE1
    have HR : Hid (ps[j] = ⟨ti, di⟩) := hr
    obtain ⟨⟨hti0, hti1⟩, hdi, -⟩ := hpo
    have HX0 : Hid (w.cell? ⟨b0, off + j * 2, none⟩ = some (.int .i64 ti)) := hc.1
    have HX1 : Hid (w.cell? ⟨b0, off + j * 2 + 1, none⟩ = some (.string di)) := hc.2
    have e0 := (KJ.out.1.1.cell (p := ⟨b0, off + j * 2, none⟩) hcb0).trans hc.1
    have e1 := (KJ.out.1.1.cell (p := ⟨b0, off + j * 2 + 1, none⟩) hcb0).trans hc.2
    dsimp only at hti0 hti1 hdi e0 e1
    clear h4 hc hr
    by_cases hlate : LateP ps wt j
    case pos =>
      have hj0 : (0 : Int) < (j : Int) := by have := hlate.1; omega
      have hgt : en < ti := by
        obtain ⟨_, _, h⟩ := hlate
        rw [HEN.out, HR.out] at h
        exact h
      have HL : Hid (LateP ps wt j) := hlate
      clear hlate
      by_cases hc1 : c = 1
      · subst hc1
        have HF : Hid (∀ W4, ((((wr.setCell ⟨gt, 0, none⟩ (.int .i64 2)).setCell ⟨w.heap.size, 0, none⟩ (.int .i64 (2))).setCell ⟨w.heap.size, 1, none⟩ (.int .i64 (r))).setCell ⟨w.heap.size, 2, none⟩ (.string (nu))).setCell ⟨w.heap.size, 3, none⟩ (.int .i64 (kk)) = W4 → Blk W4 w.heap.size (D4 2 r nu kk) 28 ∧ Below w.heap.size w W4) := finD (KJ.out.1.2.other _ _ (by show w.heap.size ≠ gt; omega)) (KJ.out.1.1.setCell (by show w.heap.size ≤ gt; omega) _) (Nat.le_refl _) _ _ _ _
        have HS : Hid (OvS ls ps wt (2, r, nu, kk) en) := .inr ⟨HOO.out, j, HJ.out, HON.out, .inr ⟨.inr HL.out, HEN.out.symm, _, HT.out, .inl ⟨rfl, rfl⟩⟩⟩
        have d0 := KJ.out.1.2.cell 0
        have d1 := KJ.out.1.2.cell 1
        have d2 := KJ.out.1.2.cell 2
        have d3 := KJ.out.1.2.cell 3
        have f0 := KJ.out.1.2.frozen 0
        have f1 := KJ.out.1.2.frozen 1
        have f2 := KJ.out.1.2.frozen 2
        have f3 := KJ.out.1.2.frozen 3
        simp at d0 d1 d2 d3
        have t0 := KJ.out.2.cell 0
        have t1 := KJ.out.2.cell 1
        have t2 := KJ.out.2.cell 2
        have t3 := KJ.out.2.cell 3
        have q0 := KJ.out.2.frozen 0
        have q1 := KJ.out.2.frozen 1
        have q2 := KJ.out.2.frozen 2
        have q3 := KJ.out.2.frozen 3
        simp at t0 t1 t2 t3
        have hgn' : ¬ (w.heap.size = gt) := by omega
        have hgn2 : ¬ (gt = w.heap.size) := by omega
        clear KJ
        go_wp2
        exact bodyPost_ret (v := .tuple #[.agg (D4 2 r nu kk), .int .i64 en]) (results_28 rfl _ _ _ _ _ _ _ _ rfl rfl (HF.out _ rfl).1) rfl ⟨_, _, _, _, _, rfl, HS.out, (HF.out _ rfl).2⟩
      · have hcb : (c == 1) = false := by simpa using hc1
        have HC1 : Hid (¬ c = 1) := hc1
        have hcF : (c = 1) = False := eq_false hc1
        have KD0 : Hid (Below w.heap.size w wr ∧ Blk wr w.heap.size (D4 0 0 ⟨#[]⟩ 0) 28) := KJ.out.1
        have t0 := KJ.out.2.cell 0
        have t1 := KJ.out.2.cell 1
        have t2 := KJ.out.2.cell 2
        have t3 := KJ.out.2.cell 3
        have q0 := KJ.out.2.frozen 0
        have q1 := KJ.out.2.frozen 1
        have q2 := KJ.out.2.frozen 2
        have q3 := KJ.out.2.frozen 3
        simp at t0 t1 t2 t3
        clear hc1 KJ
        go_wp2_with (fail)
        refine (none_c 4 wr).mono ?_
        rintro e w9 ⟨rfl, b9⟩
        have K9 : Hid (Below w.heap.size w w9 ∧ Blk w9 w.heap.size (D4 0 0 ⟨#[]⟩ 0) 28) := ⟨belowCall KD0.out.1 b9 KD0.out.1.size, KD0.out.2.below b9 KD0.out.2.lt⟩
        clear KD0 b9
        have HS : Hid (OvS ls ps wt (4, -1, ⟨#[]⟩, -1) en) := .inr ⟨HOO.out, j, HJ.out, HON.out, .inr ⟨.inr HL.out, HEN.out.symm, _, HT.out, .inr ⟨HC1.out, rfl⟩⟩⟩
        have HF : Hid (∀ W4, (((w9.setCell ⟨w.heap.size, 0, none⟩ (.int .i64 (4))).setCell ⟨w.heap.size, 1, none⟩ (.int .i64 (-1))).setCell ⟨w.heap.size, 2, none⟩ (.string (⟨#[]⟩))).setCell ⟨w.heap.size, 3, none⟩ (.int .i64 (-1)) = W4 → Blk W4 w.heap.size (D4 (4) (-1) (⟨#[]⟩) (-1)) 28 ∧ Below w.heap.size w W4) := finD K9.out.2 K9.out.1 (Nat.le_refl _) _ _ _ _
        have d0 := K9.out.2.cell 0
        have d1 := K9.out.2.cell 1
        have d2 := K9.out.2.cell 2
        have d3 := K9.out.2.cell 3
        have f0 := K9.out.2.frozen 0
        have f1 := K9.out.2.frozen 1
        have f2 := K9.out.2.frozen 2
        have f3 := K9.out.2.frozen 3
        simp at d0 d1 d2 d3
        clear K9
        go_wp2
        exact bodyPost_ret (v := .tuple #[.agg (D4 (4) (-1) (⟨#[]⟩) (-1)), .int .i64 en]) (results_28 rfl _ _ _ _ _ _ _ _ rfl rfl (HF.out _ rfl).1) rfl ⟨_, _, _, _, _, rfl, HS.out, (HF.out _ rfl).2⟩
    case neg =>
    have HNL : Hid (¬ LateP ps wt j) := hlate
    have hdis : (((0 : Int) < (j : Int)) = False ∧ (0 < j) = False) ∨ ((0 : Int) < (j : Int) ∧ (en < ti) = False) := by
      by_cases h0 : 0 < j
      · refine .inr ⟨by omega, eq_false fun h => hlate ⟨h0, hjl, ?_⟩⟩
        rw [HEN.out, HR.out]; exact h
      · exact .inl ⟨eq_false (by omega), eq_false h0⟩
    clear hlate
    have hjmI : (j : Int) < (m : Int) := by omega
    rcases hdis with ⟨hd0, hd1⟩ | ⟨hd0, hd1⟩
    · go_wp2_with (fail)
      refine (diM_c _ ls (sj ++ di) wr (HRR.out.below KJ.out.1.1) HZ.out (by rw [ByteArray.size_append]; omega)).mono ?_
      rintro e w2 ⟨c', r', nu', k', rfl, hD, b2⟩
      have K2 : Hid ((Below w.heap.size w w2 ∧ Blk w2 w.heap.size (D4 0 0 ⟨#[]⟩ 0) 28) ∧ Blk w2 gt (D4 c r nu kk) 28) := ⟨⟨belowCall KJ.out.1.1 b2 KJ.out.1.1.size, KJ.out.1.2.below b2 KJ.out.1.2.lt⟩, KJ.out.2.below b2 KJ.out.2.lt⟩
      have HT2 : Hid (Tl ls ps (j + 1) (c', r', nu', k')) := .inr ⟨by omega, by rw [HS1.out]; exact hD⟩
      have t0 := K2.out.2.cell 0
      have t1 := K2.out.2.cell 1
      have t2 := K2.out.2.cell 2
      have t3 := K2.out.2.cell 3
      have q0 := K2.out.2.frozen 0
      have q1 := K2.out.2.frozen 1
      have q2 := K2.out.2.frozen 2
      have q3 := K2.out.2.frozen 3
      simp at t0 t1 t2 t3
      obtain ⟨W5, hW5⟩ : ∃ W5, (((w2.setCell ⟨gt, 0, none⟩ (.int .i64 (c'))).setCell ⟨gt, 1, none⟩ (.int .i64 (r'))).setCell ⟨gt, 2, none⟩ (.string (nu'))).setCell ⟨gt, 3, none⟩ (.int .i64 (k')) = W5 := ⟨_, rfl⟩
      have K5 : Hid ((Below w.heap.size w W5 ∧ Blk W5 w.heap.size (D4 0 0 ⟨#[]⟩ 0) 28) ∧ Blk W5 gt (D4 c' r' nu' k') 28) := by
        have hx := finD K2.out.2 (K2.out.1.1) (Nat.le_of_lt hgn) c' r' nu' k' W5 hW5
        refine ⟨⟨hx.2, ?_⟩, hx.1⟩
        rw [← hW5]
        exact (((K2.out.1.2.other _ _ (by show w.heap.size ≠ gt; omega)).other _ _ (by show w.heap.size ≠ gt; omega)).other _ _ (by show w.heap.size ≠ gt; omega)).other _ _ (by show w.heap.size ≠ gt; omega)
      have HW5 : Hid ((((w2.setCell ⟨gt, 0, none⟩ (.int .i64 (c'))).setCell ⟨gt, 1, none⟩ (.int .i64 (r'))).setCell ⟨gt, 2, none⟩ (.string (nu'))).setCell ⟨gt, 3, none⟩ (.int .i64 (k')) = W5) := hW5
      have x0 := (K5.out.1.1.cell (p := ⟨b0, off + j * 2, none⟩) hcb0).trans HX0.out
      have x1 := (K5.out.1.1.cell (p := ⟨b0, off + j * 2 + 1, none⟩) hcb0).trans HX1.out
      have s0 := K5.out.2.cell 0
      have s1 := K5.out.2.cell 1
      have s2 := K5.out.2.cell 2
      have s3 := K5.out.2.cell 3
      simp at s0 s1 s2 s3
      clear KJ hD b2 hW5 K2 e0 e1
      by_cases hc2 : c' = 2
      · have HP : Hid (c' = 2 ∨ c' = 3) := .inl hc2
        have hcb2 : (c' == 2) = true := by simpa using hc2
        clear hc2
        obtain ⟨S, hS⟩ : ∃ S : World → Prop, ∀ W, S W ↔ (Blk W gt (D4 c' r' nu' k') 28 ∧ W.cell? ⟨b0, off + j * 2, none⟩ = some (.int .i64 ti)) := ⟨_, fun _ => Iff.rfl⟩
        have y0 : ∀ W : At S, W.wd.cell? ⟨gt, 0, none⟩ = some (.int .i64 c') := fun W => ((hS _).1 W.ok).1.cell 0
        have y1 : ∀ W : At S, W.wd.cell? ⟨gt, 1, none⟩ = some (.int .i64 r') := fun W => ((hS _).1 W.ok).1.cell 1
        have y2 : ∀ W : At S, W.wd.cell? ⟨gt, 2, none⟩ = some (.string nu') := fun W => ((hS _).1 W.ok).1.cell 2
        have y3 : ∀ W : At S, W.wd.cell? ⟨gt, 3, none⟩ = some (.int .i64 k') := fun W => ((hS _).1 W.ok).1.cell 3
        have y4 : ∀ W : At S, W.wd.cell? ⟨b0, off + j * 2, none⟩ = some (.int .i64 ti) := fun W => ((hS _).1 W.ok).2
        have HSD : Hid (S W5.drew) := (hS _).2 ⟨K5.out.2, (K5.out.1.1.cell (p := ⟨b0, off + j * 2, none⟩) hcb0).trans HX0.out⟩
        have ne1 : Nonempty (At S) := ⟨⟨_, HSD.out⟩⟩
        have HSO : Hid (∀ W i x, S W → S (W.setCell ⟨w.heap.size, i, none⟩ x)) := fun W i x h => (hS _).2 ⟨((hS _).1 h).1.other _ _ (by show gt ≠ w.heap.size; omega), by
          exact (cell_keep W b0 (off + j * 2) i x (by omega)).trans ((hS _).1 h).2⟩
        clear hS
        have HS : Hid (OvS ls ps wt (c', r', nu', k') ti) := .inr ⟨HOO.out, j, HJ.out, HON.out, .inl ⟨hjl, HNL.out, ⟨HT2.out, HP.out⟩, by rw [HR.out]⟩⟩
        have K9 : Hid (Below w.heap.size w W5.drew ∧ Blk W5.drew w.heap.size (D4 0 0 ⟨#[]⟩ 0) 28) := ⟨K5.out.1.1.drew, K5.out.1.2⟩
        have HF : Hid (∀ W4, (((W5.drew.setCell ⟨w.heap.size, 0, none⟩ (.int .i64 (c'))).setCell ⟨w.heap.size, 1, none⟩ (.int .i64 (r'))).setCell ⟨w.heap.size, 2, none⟩ (.string (nu'))).setCell ⟨w.heap.size, 3, none⟩ (.int .i64 (k')) = W4 → Blk W4 w.heap.size (D4 c' r' nu' k') 28 ∧ Below w.heap.size w W4) := finD K9.out.2 K9.out.1 (Nat.le_refl _) _ _ _ _
        have HS4 : Hid (∀ W4, (((W5.drew.setCell ⟨w.heap.size, 0, none⟩ (.int .i64 (c'))).setCell ⟨w.heap.size, 1, none⟩ (.int .i64 (r'))).setCell ⟨w.heap.size, 2, none⟩ (.string (nu'))).setCell ⟨w.heap.size, 3, none⟩ (.int .i64 (k')) = W4 → S W4) := fun W4 e => e ▸ HSO.out _ _ _ (HSO.out _ _ _ (HSO.out _ _ _ (HSO.out _ _ _ HSD.out)))
        clear HSO
        go_wp2
        rw [HW5.out]
        refine region_mixA [true, true, true, true, true, true, false, false] 7 1 S (by kernel_rfl) rfl (by kernel_rfl) (fun _ _ _ _ _ h => h) HSD.out ?_
        simp only [selT, selF]
        repeat (go_big_quiet_step (fail))
        refine wpQuiet_nil ?_
        clear y0 y1 y2 y3 y4 ne1 HSD
        refine tail_step ?_
        obtain ⟨W6, hW6⟩ : ∃ W6, W5.drew = W6 := ⟨_, rfl⟩
        rw [hW6] at K9 HF HS4 ⊢
        clear hW6
        have d0 := K9.out.2.cell 0
        have d1 := K9.out.2.cell 1
        have d2 := K9.out.2.cell 2
        have d3 := K9.out.2.cell 3
        have f0 := K9.out.2.frozen 0
        have f1 := K9.out.2.frozen 1
        have f2 := K9.out.2.frozen 2
        have f3 := K9.out.2.frozen 3
        simp at d0 d1 d2 d3
        clear K9 K5
        go_wp2
        refine ⟨HS4.out _ rfl, tail_end ?_⟩
        clear HS4
        go_wp2
        exact bodyPost_ret (v := .tuple #[.agg (D4 c' r' nu' k'), .int .i64 ti]) (results_28 rfl _ _ _ _ _ _ _ _ rfl rfl (HF.out _ rfl).1) rfl ⟨_, _, _, _, _, rfl, HS.out, (HF.out _ rfl).2⟩
      by_cases hc3 : c' = 3
      · have HP : Hid (c' = 2 ∨ c' = 3) := .inr hc3
        have hcb2 : (c' == 2) = false := by simpa using hc2
        have hcb3 : (c' == 3) = true := by simpa using hc3
        have hcF2 : (c' = 2) = False := eq_false hc2
        clear hc2 hc3
        obtain ⟨S, hS⟩ : ∃ S : World → Prop, ∀ W, S W ↔ (Blk W gt (D4 c' r' nu' k') 28 ∧ W.cell? ⟨b0, off + j * 2, none⟩ = some (.int .i64 ti)) := ⟨_, fun _ => Iff.rfl⟩
        have y0 : ∀ W : At S, W.wd.cell? ⟨gt, 0, none⟩ = some (.int .i64 c') := fun W => ((hS _).1 W.ok).1.cell 0
        have y1 : ∀ W : At S, W.wd.cell? ⟨gt, 1, none⟩ = some (.int .i64 r') := fun W => ((hS _).1 W.ok).1.cell 1
        have y2 : ∀ W : At S, W.wd.cell? ⟨gt, 2, none⟩ = some (.string nu') := fun W => ((hS _).1 W.ok).1.cell 2
        have y3 : ∀ W : At S, W.wd.cell? ⟨gt, 3, none⟩ = some (.int .i64 k') := fun W => ((hS _).1 W.ok).1.cell 3
        have y4 : ∀ W : At S, W.wd.cell? ⟨b0, off + j * 2, none⟩ = some (.int .i64 ti) := fun W => ((hS _).1 W.ok).2
        have HSD : Hid (S W5.drew) := (hS _).2 ⟨K5.out.2, (K5.out.1.1.cell (p := ⟨b0, off + j * 2, none⟩) hcb0).trans HX0.out⟩
        have ne1 : Nonempty (At S) := ⟨⟨_, HSD.out⟩⟩
        have HSO : Hid (∀ W i x, S W → S (W.setCell ⟨w.heap.size, i, none⟩ x)) := fun W i x h => (hS _).2 ⟨((hS _).1 h).1.other _ _ (by show gt ≠ w.heap.size; omega), by
          exact (cell_keep W b0 (off + j * 2) i x (by omega)).trans ((hS _).1 h).2⟩
        clear hS
        have HS : Hid (OvS ls ps wt (c', r', nu', k') ti) := .inr ⟨HOO.out, j, HJ.out, HON.out, .inl ⟨hjl, HNL.out, ⟨HT2.out, HP.out⟩, by rw [HR.out]⟩⟩
        have K9 : Hid (Below w.heap.size w W5.drew ∧ Blk W5.drew w.heap.size (D4 0 0 ⟨#[]⟩ 0) 28) := ⟨K5.out.1.1.drew, K5.out.1.2⟩
        have HF : Hid (∀ W4, (((W5.drew.setCell ⟨w.heap.size, 0, none⟩ (.int .i64 (c'))).setCell ⟨w.heap.size, 1, none⟩ (.int .i64 (r'))).setCell ⟨w.heap.size, 2, none⟩ (.string (nu'))).setCell ⟨w.heap.size, 3, none⟩ (.int .i64 (k')) = W4 → Blk W4 w.heap.size (D4 c' r' nu' k') 28 ∧ Below w.heap.size w W4) := finD K9.out.2 K9.out.1 (Nat.le_refl _) _ _ _ _
        have HS4 : Hid (∀ W4, (((W5.drew.setCell ⟨w.heap.size, 0, none⟩ (.int .i64 (c'))).setCell ⟨w.heap.size, 1, none⟩ (.int .i64 (r'))).setCell ⟨w.heap.size, 2, none⟩ (.string (nu'))).setCell ⟨w.heap.size, 3, none⟩ (.int .i64 (k')) = W4 → S W4) := fun W4 e => e ▸ HSO.out _ _ _ (HSO.out _ _ _ (HSO.out _ _ _ (HSO.out _ _ _ HSD.out)))
        clear HSO
        go_wp2
        rw [HW5.out]
        refine region_mixA [true, true, true, true, true, true, false, false] 7 1 S (by kernel_rfl) rfl (by kernel_rfl) (fun _ _ _ _ _ h => h) HSD.out ?_
        simp only [selT, selF]
        repeat (go_big_quiet_step (fail))
        refine wpQuiet_nil ?_
        clear y0 y1 y2 y3 y4 ne1 HSD
        refine tail_step ?_
        obtain ⟨W6, hW6⟩ : ∃ W6, W5.drew = W6 := ⟨_, rfl⟩
        rw [hW6] at K9 HF HS4 ⊢
        clear hW6
        have d0 := K9.out.2.cell 0
        have d1 := K9.out.2.cell 1
        have d2 := K9.out.2.cell 2
        have d3 := K9.out.2.cell 3
        have f0 := K9.out.2.frozen 0
        have f1 := K9.out.2.frozen 1
        have f2 := K9.out.2.frozen 2
        have f3 := K9.out.2.frozen 3
        simp at d0 d1 d2 d3
        clear K9 K5
        go_wp2
        refine ⟨HS4.out _ rfl, tail_end ?_⟩
        clear HS4
        go_wp2
        exact bodyPost_ret (v := .tuple #[.agg (D4 c' r' nu' k'), .int .i64 ti]) (results_28 rfl _ _ _ _ _ _ _ _ rfl rfl (HF.out _ rfl).1) rfl ⟨_, _, _, _, _, rfl, HS.out, (HF.out _ rfl).2⟩
      have hcb2 : (c' == 2) = false := by simpa using hc2
      have hcb3 : (c' == 3) = false := by simpa using hc3
      have hcF2 : (c' = 2) = False := eq_false hc2
      have hcF3 : (c' = 3) = False := eq_false hc3
      have HNF : Hid (∀ x, ¬ FinP ls ps (j + 1) x) := fun x hx => by
        have := hx.1.same HT2.out
        rw [this] at hx
        rcases hx.2 with h | h
        · exact hc2 h
        · exact hc3 h
      have HO1 : Hid (OnP ls ps wt (j + 1)) := HON.out.succ hjl HNL.out HNF.out
      clear hc2 hc3
      have x5 := (congrArg (fun W => World.cell? W ⟨b0, off + j * 2, none⟩) HW5.out).trans ((K5.out.1.1.cell (p := ⟨b0, off + j * 2, none⟩) hcb0).trans HX0.out)
      go_wp2
      rw [HW5.out]
      go_roundw
      case rel => exact ⟨j + 1, _, _, _, _, by omega, by go_num, by rw [HS1.out], by rw [HE1.out], HT2.out, K5.out, HO1.out⟩
      case measure => simp [intOf]; omega
    · go_wp2_with (fail)
      refine (diM_c _ ls (sj ++ di) wr (HRR.out.below KJ.out.1.1) HZ.out (by rw [ByteArray.size_append]; omega)).mono ?_
      rintro e w2 ⟨c', r', nu', k', rfl, hD, b2⟩
      have K2 : Hid ((Below w.heap.size w w2 ∧ Blk w2 w.heap.size (D4 0 0 ⟨#[]⟩ 0) 28) ∧ Blk w2 gt (D4 c r nu kk) 28) := ⟨⟨belowCall KJ.out.1.1 b2 KJ.out.1.1.size, KJ.out.1.2.below b2 KJ.out.1.2.lt⟩, KJ.out.2.below b2 KJ.out.2.lt⟩
      have HT2 : Hid (Tl ls ps (j + 1) (c', r', nu', k')) := .inr ⟨by omega, by rw [HS1.out]; exact hD⟩
      have t0 := K2.out.2.cell 0
      have t1 := K2.out.2.cell 1
      have t2 := K2.out.2.cell 2
      have t3 := K2.out.2.cell 3
      have q0 := K2.out.2.frozen 0
      have q1 := K2.out.2.frozen 1
      have q2 := K2.out.2.frozen 2
      have q3 := K2.out.2.frozen 3
      simp at t0 t1 t2 t3
      obtain ⟨W5, hW5⟩ : ∃ W5, (((w2.setCell ⟨gt, 0, none⟩ (.int .i64 (c'))).setCell ⟨gt, 1, none⟩ (.int .i64 (r'))).setCell ⟨gt, 2, none⟩ (.string (nu'))).setCell ⟨gt, 3, none⟩ (.int .i64 (k')) = W5 := ⟨_, rfl⟩
      have K5 : Hid ((Below w.heap.size w W5 ∧ Blk W5 w.heap.size (D4 0 0 ⟨#[]⟩ 0) 28) ∧ Blk W5 gt (D4 c' r' nu' k') 28) := by
        have hx := finD K2.out.2 (K2.out.1.1) (Nat.le_of_lt hgn) c' r' nu' k' W5 hW5
        refine ⟨⟨hx.2, ?_⟩, hx.1⟩
        rw [← hW5]
        exact (((K2.out.1.2.other _ _ (by show w.heap.size ≠ gt; omega)).other _ _ (by show w.heap.size ≠ gt; omega)).other _ _ (by show w.heap.size ≠ gt; omega)).other _ _ (by show w.heap.size ≠ gt; omega)
      have HW5 : Hid ((((w2.setCell ⟨gt, 0, none⟩ (.int .i64 (c'))).setCell ⟨gt, 1, none⟩ (.int .i64 (r'))).setCell ⟨gt, 2, none⟩ (.string (nu'))).setCell ⟨gt, 3, none⟩ (.int .i64 (k')) = W5) := hW5
      have x0 := (K5.out.1.1.cell (p := ⟨b0, off + j * 2, none⟩) hcb0).trans HX0.out
      have x1 := (K5.out.1.1.cell (p := ⟨b0, off + j * 2 + 1, none⟩) hcb0).trans HX1.out
      have s0 := K5.out.2.cell 0
      have s1 := K5.out.2.cell 1
      have s2 := K5.out.2.cell 2
      have s3 := K5.out.2.cell 3
      simp at s0 s1 s2 s3
      clear KJ hD b2 hW5 K2 e0 e1
      by_cases hc2 : c' = 2
      · have HP : Hid (c' = 2 ∨ c' = 3) := .inl hc2
        have hcb2 : (c' == 2) = true := by simpa using hc2
        clear hc2
        obtain ⟨S, hS⟩ : ∃ S : World → Prop, ∀ W, S W ↔ (Blk W gt (D4 c' r' nu' k') 28 ∧ W.cell? ⟨b0, off + j * 2, none⟩ = some (.int .i64 ti)) := ⟨_, fun _ => Iff.rfl⟩
        have y0 : ∀ W : At S, W.wd.cell? ⟨gt, 0, none⟩ = some (.int .i64 c') := fun W => ((hS _).1 W.ok).1.cell 0
        have y1 : ∀ W : At S, W.wd.cell? ⟨gt, 1, none⟩ = some (.int .i64 r') := fun W => ((hS _).1 W.ok).1.cell 1
        have y2 : ∀ W : At S, W.wd.cell? ⟨gt, 2, none⟩ = some (.string nu') := fun W => ((hS _).1 W.ok).1.cell 2
        have y3 : ∀ W : At S, W.wd.cell? ⟨gt, 3, none⟩ = some (.int .i64 k') := fun W => ((hS _).1 W.ok).1.cell 3
        have y4 : ∀ W : At S, W.wd.cell? ⟨b0, off + j * 2, none⟩ = some (.int .i64 ti) := fun W => ((hS _).1 W.ok).2
        have HSD : Hid (S W5.drew) := (hS _).2 ⟨K5.out.2, (K5.out.1.1.cell (p := ⟨b0, off + j * 2, none⟩) hcb0).trans HX0.out⟩
        have ne1 : Nonempty (At S) := ⟨⟨_, HSD.out⟩⟩
        have HSO : Hid (∀ W i x, S W → S (W.setCell ⟨w.heap.size, i, none⟩ x)) := fun W i x h => (hS _).2 ⟨((hS _).1 h).1.other _ _ (by show gt ≠ w.heap.size; omega), by
          exact (cell_keep W b0 (off + j * 2) i x (by omega)).trans ((hS _).1 h).2⟩
        clear hS
        have HS : Hid (OvS ls ps wt (c', r', nu', k') ti) := .inr ⟨HOO.out, j, HJ.out, HON.out, .inl ⟨hjl, HNL.out, ⟨HT2.out, HP.out⟩, by rw [HR.out]⟩⟩
        have K9 : Hid (Below w.heap.size w W5.drew ∧ Blk W5.drew w.heap.size (D4 0 0 ⟨#[]⟩ 0) 28) := ⟨K5.out.1.1.drew, K5.out.1.2⟩
        have HF : Hid (∀ W4, (((W5.drew.setCell ⟨w.heap.size, 0, none⟩ (.int .i64 (c'))).setCell ⟨w.heap.size, 1, none⟩ (.int .i64 (r'))).setCell ⟨w.heap.size, 2, none⟩ (.string (nu'))).setCell ⟨w.heap.size, 3, none⟩ (.int .i64 (k')) = W4 → Blk W4 w.heap.size (D4 c' r' nu' k') 28 ∧ Below w.heap.size w W4) := finD K9.out.2 K9.out.1 (Nat.le_refl _) _ _ _ _
        have HS4 : Hid (∀ W4, (((W5.drew.setCell ⟨w.heap.size, 0, none⟩ (.int .i64 (c'))).setCell ⟨w.heap.size, 1, none⟩ (.int .i64 (r'))).setCell ⟨w.heap.size, 2, none⟩ (.string (nu'))).setCell ⟨w.heap.size, 3, none⟩ (.int .i64 (k')) = W4 → S W4) := fun W4 e => e ▸ HSO.out _ _ _ (HSO.out _ _ _ (HSO.out _ _ _ (HSO.out _ _ _ HSD.out)))
        clear HSO
        go_wp2
        rw [HW5.out]
        refine region_mixA [true, true, true, true, true, true, false, false] 7 1 S (by kernel_rfl) rfl (by kernel_rfl) (fun _ _ _ _ _ h => h) HSD.out ?_
        simp only [selT, selF]
        repeat (go_big_quiet_step (fail))
        refine wpQuiet_nil ?_
        clear y0 y1 y2 y3 y4 ne1 HSD
        refine tail_step ?_
        obtain ⟨W6, hW6⟩ : ∃ W6, W5.drew = W6 := ⟨_, rfl⟩
        rw [hW6] at K9 HF HS4 ⊢
        clear hW6
        have d0 := K9.out.2.cell 0
        have d1 := K9.out.2.cell 1
        have d2 := K9.out.2.cell 2
        have d3 := K9.out.2.cell 3
        have f0 := K9.out.2.frozen 0
        have f1 := K9.out.2.frozen 1
        have f2 := K9.out.2.frozen 2
        have f3 := K9.out.2.frozen 3
        simp at d0 d1 d2 d3
        clear K9 K5
        go_wp2
        refine ⟨HS4.out _ rfl, tail_end ?_⟩
        clear HS4
        go_wp2
        exact bodyPost_ret (v := .tuple #[.agg (D4 c' r' nu' k'), .int .i64 ti]) (results_28 rfl _ _ _ _ _ _ _ _ rfl rfl (HF.out _ rfl).1) rfl ⟨_, _, _, _, _, rfl, HS.out, (HF.out _ rfl).2⟩
      by_cases hc3 : c' = 3
      · have HP : Hid (c' = 2 ∨ c' = 3) := .inr hc3
        have hcb2 : (c' == 2) = false := by simpa using hc2
        have hcb3 : (c' == 3) = true := by simpa using hc3
        have hcF2 : (c' = 2) = False := eq_false hc2
        clear hc2 hc3
        obtain ⟨S, hS⟩ : ∃ S : World → Prop, ∀ W, S W ↔ (Blk W gt (D4 c' r' nu' k') 28 ∧ W.cell? ⟨b0, off + j * 2, none⟩ = some (.int .i64 ti)) := ⟨_, fun _ => Iff.rfl⟩
        have y0 : ∀ W : At S, W.wd.cell? ⟨gt, 0, none⟩ = some (.int .i64 c') := fun W => ((hS _).1 W.ok).1.cell 0
        have y1 : ∀ W : At S, W.wd.cell? ⟨gt, 1, none⟩ = some (.int .i64 r') := fun W => ((hS _).1 W.ok).1.cell 1
        have y2 : ∀ W : At S, W.wd.cell? ⟨gt, 2, none⟩ = some (.string nu') := fun W => ((hS _).1 W.ok).1.cell 2
        have y3 : ∀ W : At S, W.wd.cell? ⟨gt, 3, none⟩ = some (.int .i64 k') := fun W => ((hS _).1 W.ok).1.cell 3
        have y4 : ∀ W : At S, W.wd.cell? ⟨b0, off + j * 2, none⟩ = some (.int .i64 ti) := fun W => ((hS _).1 W.ok).2
        have HSD : Hid (S W5.drew) := (hS _).2 ⟨K5.out.2, (K5.out.1.1.cell (p := ⟨b0, off + j * 2, none⟩) hcb0).trans HX0.out⟩
        have ne1 : Nonempty (At S) := ⟨⟨_, HSD.out⟩⟩
        have HSO : Hid (∀ W i x, S W → S (W.setCell ⟨w.heap.size, i, none⟩ x)) := fun W i x h => (hS _).2 ⟨((hS _).1 h).1.other _ _ (by show gt ≠ w.heap.size; omega), by
          exact (cell_keep W b0 (off + j * 2) i x (by omega)).trans ((hS _).1 h).2⟩
        clear hS
        have HS : Hid (OvS ls ps wt (c', r', nu', k') ti) := .inr ⟨HOO.out, j, HJ.out, HON.out, .inl ⟨hjl, HNL.out, ⟨HT2.out, HP.out⟩, by rw [HR.out]⟩⟩
        have K9 : Hid (Below w.heap.size w W5.drew ∧ Blk W5.drew w.heap.size (D4 0 0 ⟨#[]⟩ 0) 28) := ⟨K5.out.1.1.drew, K5.out.1.2⟩
        have HF : Hid (∀ W4, (((W5.drew.setCell ⟨w.heap.size, 0, none⟩ (.int .i64 (c'))).setCell ⟨w.heap.size, 1, none⟩ (.int .i64 (r'))).setCell ⟨w.heap.size, 2, none⟩ (.string (nu'))).setCell ⟨w.heap.size, 3, none⟩ (.int .i64 (k')) = W4 → Blk W4 w.heap.size (D4 c' r' nu' k') 28 ∧ Below w.heap.size w W4) := finD K9.out.2 K9.out.1 (Nat.le_refl _) _ _ _ _
        have HS4 : Hid (∀ W4, (((W5.drew.setCell ⟨w.heap.size, 0, none⟩ (.int .i64 (c'))).setCell ⟨w.heap.size, 1, none⟩ (.int .i64 (r'))).setCell ⟨w.heap.size, 2, none⟩ (.string (nu'))).setCell ⟨w.heap.size, 3, none⟩ (.int .i64 (k')) = W4 → S W4) := fun W4 e => e ▸ HSO.out _ _ _ (HSO.out _ _ _ (HSO.out _ _ _ (HSO.out _ _ _ HSD.out)))
        clear HSO
        go_wp2
        rw [HW5.out]
        refine region_mixA [true, true, true, true, true, true, false, false] 7 1 S (by kernel_rfl) rfl (by kernel_rfl) (fun _ _ _ _ _ h => h) HSD.out ?_
        simp only [selT, selF]
        repeat (go_big_quiet_step (fail))
        refine wpQuiet_nil ?_
        clear y0 y1 y2 y3 y4 ne1 HSD
        refine tail_step ?_
        obtain ⟨W6, hW6⟩ : ∃ W6, W5.drew = W6 := ⟨_, rfl⟩
        rw [hW6] at K9 HF HS4 ⊢
        clear hW6
        have d0 := K9.out.2.cell 0
        have d1 := K9.out.2.cell 1
        have d2 := K9.out.2.cell 2
        have d3 := K9.out.2.cell 3
        have f0 := K9.out.2.frozen 0
        have f1 := K9.out.2.frozen 1
        have f2 := K9.out.2.frozen 2
        have f3 := K9.out.2.frozen 3
        simp at d0 d1 d2 d3
        clear K9 K5
        go_wp2
        refine ⟨HS4.out _ rfl, tail_end ?_⟩
        clear HS4
        go_wp2
        exact bodyPost_ret (v := .tuple #[.agg (D4 c' r' nu' k'), .int .i64 ti]) (results_28 rfl _ _ _ _ _ _ _ _ rfl rfl (HF.out _ rfl).1) rfl ⟨_, _, _, _, _, rfl, HS.out, (HF.out _ rfl).2⟩
      have hcb2 : (c' == 2) = false := by simpa using hc2
      have hcb3 : (c' == 3) = false := by simpa using hc3
      have hcF2 : (c' = 2) = False := eq_false hc2
      have hcF3 : (c' = 3) = False := eq_false hc3
      have HNF : Hid (∀ x, ¬ FinP ls ps (j + 1) x) := fun x hx => by
        have := hx.1.same HT2.out
        rw [this] at hx
        rcases hx.2 with h | h
        · exact hc2 h
        · exact hc3 h
      have HO1 : Hid (OnP ls ps wt (j + 1)) := HON.out.succ hjl HNL.out HNF.out
      clear hc2 hc3
      have x5 := (congrArg (fun W => World.cell? W ⟨b0, off + j * 2, none⟩) HW5.out).trans ((K5.out.1.1.cell (p := ⟨b0, off + j * 2, none⟩) hcb0).trans HX0.out)
      go_wp2
      rw [HW5.out]
      go_roundw
      case rel => exact ⟨j + 1, _, _, _, _, by omega, by go_num, by rw [HS1.out], by rw [HE1.out], HT2.out, K5.out, HO1.out⟩
      case measure => simp [intOf]; omega
end Go.Proofs.Ytpnglbnebkggkaa

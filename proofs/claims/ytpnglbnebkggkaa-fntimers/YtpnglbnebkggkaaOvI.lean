/- The program's Overlap; no condition. -/
import Derived.Test.YtpnglbnebkggkaaOvT
namespace Go.Proofs.Ytpnglbnebkggkaa
open Go.RowKit Go.ChangeShapes Go.WideShapes Go.ChangeAt
set_option linter.unusedVariables false
set_option linter.unusedSimpArgs false
set_option maxRecDepth 8000
def ToldO (ls : Rls) (ps : Prs) (j : Nat) (o : Value) : Prop := (o = oMore ∧ Tl ls ps j (0, -1, ⟨#[]⟩, -1)) ∨ ∃ k : Nat, ∃ hk : k < ls.length, o = oMay k ∧ ls[k].st ≤ (dgs ps j).size ∧ Tl ls ps j (1, ls[k].ro, numV ls[k] (dgs ps j), k)
set_option maxHeartbeats 12800000 in
theorem ovI_c (v u : Value) (ls : Rls) (ps : Prs) (wt : Int) (w : World) (h : Rr w v ls) (hp : Rpq w u ps) (hz : Szs ls) (hy : Szp ps) : Calls Try.prog 14 #[v, u, .int .i64 wt] w (OvR ls ps wt w) := by
  have HRR : Hid (Rr w v ls) := h
  have HPP : Hid (Rpq w u ps) := hp
  have HZ : Hid (Szs ls) := hz
  have HY : Hid (Szp ps) := hy
  obtain ⟨a, cap, rfl, -⟩ := h
  obtain ⟨a', cap', rfl, g1, g2, g3⟩ := hp
  unfold maxLen at g2
  have H3 : Hid (ps = [] ∨ ∃ b off, a' = some ⟨b, off, none⟩ ∧ ∀ i (h : i < ps.length), w.cell? ⟨b, off + i * 2, none⟩ = some (.int .i64 ps[i].ti) ∧ w.cell? ⟨b, off + i * 2 + 1, none⟩ = some (.string ps[i].di)) := g3
  obtain ⟨n, hn⟩ : ∃ n, ls.length = n := ⟨_, rfl⟩
  obtain ⟨m, hm⟩ : ∃ m, ps.length = m := ⟨_, rfl⟩
  have HN : Hid (ps.length = m) := hm
  rw [hn] at HRR ⊢
  rw [hm] at HPP g1 ⊢
  clear hn hm hz hy g3
  obtain ⟨W1, hW1⟩ : ∃ W1, w.alloc (Obj.cells (D4 0 0 ⟨#[]⟩ 0) 28) = W1 := ⟨_, rfl⟩
  have K1 : Hid (Below w.heap.size w W1 ∧ Blk W1 w.heap.size (D4 0 0 ⟨#[]⟩ 0) 28) := ⟨hW1 ▸ (Below.refl _ _).alloc (Nat.le_refl _) _, hW1 ▸ Blk.new _ _ _⟩
  have HW1 : Hid (w.alloc (Obj.cells (D4 0 0 ⟨#[]⟩ 0) 28) = W1) := hW1
  clear hW1
  go_enter Try.func14, Try.ntmps14
  go_wp2_with (fail)
  rw [HW1.out]
  clear HW1
  refine (rulesI_c _ ls W1 (HRR.out.below K1.out.1) HZ.out).mono ?_
  rintro e w2 ⟨q, rfl, hq, b2⟩
  have K2 : Hid (Below w.heap.size w w2 ∧ Blk w2 w.heap.size (D4 0 0 ⟨#[]⟩ 0) 28) := ⟨belowCall K1.out.1 b2 K1.out.1.size, K1.out.2.below b2 K1.out.2.lt⟩
  have HQ1 : Hid (q = true ↔ RsOk ls) := hq
  clear b2 K1 hq
  cases q with
  | false =>
    have HNO : Hid (¬ RsOk ls) := fun h => by have := HQ1.out.2 h; cases this
    clear HQ1
    go_wp2_with (fail)
    refine (without_c 5 w2).mono ?_
    rintro e w9 ⟨rfl, b9⟩
    have K9 : Hid (Below w.heap.size w w9 ∧ Blk w9 w.heap.size (D4 0 0 ⟨#[]⟩ 0) 28) := ⟨belowCall K2.out.1 b9 K2.out.1.size, K2.out.2.below b9 K2.out.2.lt⟩
    clear K2 b9
    have HS : Hid (OvS ls ps wt (5, -1, ⟨#[]⟩, -1) (-1)) := .inl ⟨fun h => HNO.out h.1, rfl, rfl⟩
    have HF : Hid (∀ W4, (((w9.setCell ⟨w.heap.size, 0, none⟩ (.int .i64 (5))).setCell ⟨w.heap.size, 1, none⟩ (.int .i64 (-1))).setCell ⟨w.heap.size, 2, none⟩ (.string (⟨#[]⟩))).setCell ⟨w.heap.size, 3, none⟩ (.int .i64 (-1)) = W4 → Blk W4 w.heap.size (D4 (5) (-1) (⟨#[]⟩) (-1)) 28 ∧ Below w.heap.size w W4) := finD K9.out.2 K9.out.1 (Nat.le_refl _) _ _ _ _
    have d0 := K9.out.2.cell 0
    have d1 := K9.out.2.cell 1
    have d2 := K9.out.2.cell 2
    have d3 := K9.out.2.cell 3
    have f0 := K9.out.2.frozen 0
    have f1 := K9.out.2.frozen 1
    have f2 := K9.out.2.frozen 2
    have f3 := K9.out.2.frozen 3
    simp at d0 d1 d2 d3
    clear K9
    go_wp2
    exact bodyPost_ret (v := .tuple #[.agg (D4 (5) (-1) (⟨#[]⟩) (-1)), .int .i64 (-1)]) (results_28 rfl _ _ _ _ _ _ _ _ rfl rfl (HF.out _ rfl).1) rfl ⟨_, _, _, _, _, rfl, HS.out, (HF.out _ rfl).2⟩
  | true =>
  have HOK : Hid (RsOk ls) := HQ1.out.1 rfl
  clear HQ1
  go_wp2_with (fail)
  refine (pressI_c _ ps w2 (HPP.out.below K2.out.1) HY.out).mono ?_
  rintro e w3 ⟨q, rfl, hq, b3⟩
  have K3 : Hid (Below w.heap.size w w3 ∧ Blk w3 w.heap.size (D4 0 0 ⟨#[]⟩ 0) 28) := ⟨belowCall K2.out.1 b3 K2.out.1.size, K2.out.2.below b3 K2.out.2.lt⟩
  have HQ1 : Hid (q = true ↔ PsOk ps) := hq
  clear b3 K2 hq
  cases q with
  | false =>
    have HNO : Hid (¬ PsOk ps) := fun h => by have := HQ1.out.2 h; cases this
    clear HQ1
    go_wp2_with (fail)
    refine (without_c 5 w3).mono ?_
    rintro e w9 ⟨rfl, b9⟩
    have K9 : Hid (Below w.heap.size w w9 ∧ Blk w9 w.heap.size (D4 0 0 ⟨#[]⟩ 0) 28) := ⟨belowCall K3.out.1 b9 K3.out.1.size, K3.out.2.below b9 K3.out.2.lt⟩
    clear K3 b9
    have HS : Hid (OvS ls ps wt (5, -1, ⟨#[]⟩, -1) (-1)) := .inl ⟨fun h => HNO.out h.2.1, rfl, rfl⟩
    have HF : Hid (∀ W4, (((w9.setCell ⟨w.heap.size, 0, none⟩ (.int .i64 (5))).setCell ⟨w.heap.size, 1, none⟩ (.int .i64 (-1))).setCell ⟨w.heap.size, 2, none⟩ (.string (⟨#[]⟩))).setCell ⟨w.heap.size, 3, none⟩ (.int .i64 (-1)) = W4 → Blk W4 w.heap.size (D4 (5) (-1) (⟨#[]⟩) (-1)) 28 ∧ Below w.heap.size w W4) := finD K9.out.2 K9.out.1 (Nat.le_refl _) _ _ _ _
    have d0 := K9.out.2.cell 0
    have d1 := K9.out.2.cell 1
    have d2 := K9.out.2.cell 2
    have d3 := K9.out.2.cell 3
    have f0 := K9.out.2.frozen 0
    have f1 := K9.out.2.frozen 1
    have f2 := K9.out.2.frozen 2
    have f3 := K9.out.2.frozen 3
    simp at d0 d1 d2 d3
    clear K9
    go_wp2
    exact bodyPost_ret (v := .tuple #[.agg (D4 (5) (-1) (⟨#[]⟩) (-1)), .int .i64 (-1)]) (results_28 rfl _ _ _ _ _ _ _ _ rfl rfl (HF.out _ rfl).1) rfl ⟨_, _, _, _, _, rfl, HS.out, (HF.out _ rfl).2⟩
  | true =>
  have HPK : Hid (PsOk ps) := HQ1.out.1 rfl
  clear HQ1
  by_cases hw1 : wt < 1
  case pos =>
    go_wp2_with (fail)
    refine (without_c 5 w3).mono ?_
    rintro e w9 ⟨rfl, b9⟩
    have K9 : Hid (Below w.heap.size w w9 ∧ Blk w9 w.heap.size (D4 0 0 ⟨#[]⟩ 0) 28) := ⟨belowCall K3.out.1 b9 K3.out.1.size, K3.out.2.below b9 K3.out.2.lt⟩
    clear K3 b9
    have HS : Hid (OvS ls ps wt (5, -1, ⟨#[]⟩, -1) (-1)) := .inl ⟨fun h => by have := h.2.2.1; omega, rfl, rfl⟩
    have HF : Hid (∀ W4, (((w9.setCell ⟨w.heap.size, 0, none⟩ (.int .i64 (5))).setCell ⟨w.heap.size, 1, none⟩ (.int .i64 (-1))).setCell ⟨w.heap.size, 2, none⟩ (.string (⟨#[]⟩))).setCell ⟨w.heap.size, 3, none⟩ (.int .i64 (-1)) = W4 → Blk W4 w.heap.size (D4 (5) (-1) (⟨#[]⟩) (-1)) 28 ∧ Below w.heap.size w W4) := finD K9.out.2 K9.out.1 (Nat.le_refl _) _ _ _ _
    have d0 := K9.out.2.cell 0
    have d1 := K9.out.2.cell 1
    have d2 := K9.out.2.cell 2
    have d3 := K9.out.2.cell 3
    have f0 := K9.out.2.frozen 0
    have f1 := K9.out.2.frozen 1
    have f2 := K9.out.2.frozen 2
    have f3 := K9.out.2.frozen 3
    simp at d0 d1 d2 d3
    clear K9
    go_wp2
    exact bodyPost_ret (v := .tuple #[.agg (D4 (5) (-1) (⟨#[]⟩) (-1)), .int .i64 (-1)]) (results_28 rfl _ _ _ _ _ _ _ _ rfl rfl (HF.out _ rfl).1) rfl ⟨_, _, _, _, _, rfl, HS.out, (HF.out _ rfl).2⟩
  case neg =>
  have hw1F : (wt < 1) = False := eq_false hw1
  by_cases hw2 : 1000 < wt
  case pos =>
    clear hw1
    go_wp2_with (fail)
    refine (without_c 5 w3).mono ?_
    rintro e w9 ⟨rfl, b9⟩
    have K9 : Hid (Below w.heap.size w w9 ∧ Blk w9 w.heap.size (D4 0 0 ⟨#[]⟩ 0) 28) := ⟨belowCall K3.out.1 b9 K3.out.1.size, K3.out.2.below b9 K3.out.2.lt⟩
    clear K3 b9
    have HS : Hid (OvS ls ps wt (5, -1, ⟨#[]⟩, -1) (-1)) := .inl ⟨fun h => by have := h.2.2.2; omega, rfl, rfl⟩
    have HF : Hid (∀ W4, (((w9.setCell ⟨w.heap.size, 0, none⟩ (.int .i64 (5))).setCell ⟨w.heap.size, 1, none⟩ (.int .i64 (-1))).setCell ⟨w.heap.size, 2, none⟩ (.string (⟨#[]⟩))).setCell ⟨w.heap.size, 3, none⟩ (.int .i64 (-1)) = W4 → Blk W4 w.heap.size (D4 (5) (-1) (⟨#[]⟩) (-1)) 28 ∧ Below w.heap.size w W4) := finD K9.out.2 K9.out.1 (Nat.le_refl _) _ _ _ _
    have d0 := K9.out.2.cell 0
    have d1 := K9.out.2.cell 1
    have d2 := K9.out.2.cell 2
    have d3 := K9.out.2.cell 3
    have f0 := K9.out.2.frozen 0
    have f1 := K9.out.2.frozen 1
    have f2 := K9.out.2.frozen 2
    have f3 := K9.out.2.frozen 3
    simp at d0 d1 d2 d3
    clear K9
    go_wp2
    exact bodyPost_ret (v := .tuple #[.agg (D4 (5) (-1) (⟨#[]⟩) (-1)), .int .i64 (-1)]) (results_28 rfl _ _ _ _ _ _ _ _ rfl rfl (HF.out _ rfl).1) rfl ⟨_, _, _, _, _, rfl, HS.out, (HF.out _ rfl).2⟩
  case neg =>
  have hw2F : (1000 < wt) = False := eq_false hw2
  have hwl : 1 ≤ wt := by omega
  have hwu : wt ≤ 1000 := by omega
  have HOO : Hid (OvOk ls ps wt) := ⟨HOK.out, HPK.out, hwl, hwu⟩
  clear hw1 hw2
  go_wp2
  go_loopw [35, 8, 9, 10] (fun i d t o wr => ∃ j : Nat, j ≤ m ∧ i = .int .i64 j ∧ d = .string (dgs ps j) ∧ t = .int .i64 (enT ps wt j) ∧ Hid (ToldO ls ps j o) ∧ Hid (Below w.heap.size w wr ∧ Blk wr w.heap.size (D4 0 0 ⟨#[]⟩ 0) 28) ∧ Hid (OnP ls ps wt j)) (fun i _ _ _ _ => m - (intOf i).toNat)
  case atStart => exact ⟨0, Nat.zero_le _, rfl, rfl, rfl, .inl ⟨rfl, .inl ⟨rfl, rfl⟩⟩, K3.out, OnP.zero⟩
  case round =>
    rename_i o wr
    obtain ⟨j, hj, rfl, rfl, rfl, TO, KJ, HON⟩ := hrel
    clear K3
    have HJ : Hid (j ≤ ps.length) := by show _ ≤ _; rw [HN.out]; exact hj
    have hsj := dgs_ok HPK.out j HJ.out
    have HSZ : Hid (DgOk (dgs ps j)) := hsj.2
    have hsz : (dgs ps j).size = j := hsj.1
    have hj20 : j ≤ 20 := by have := HPK.out.1; have := HJ.out; omega
    clear hsj
    obtain ⟨sj, hsj⟩ : ∃ x, dgs ps j = x := ⟨_, rfl⟩
    obtain ⟨en, hen⟩ : ∃ x, enT ps wt j = x := ⟨_, rfl⟩
    have HSJ : Hid (dgs ps j = sj) := hsj
    have HEN : Hid (enT ps wt j = en) := hen
    rw [hsj] at HSZ hsz
    rw [hsj, hen]
    have hs20 : sj.size ≤ 20 := by omega
    clear hsj hen hsz
    by_cases hlt : j < m
    case neg =>
      rcases TO.out with ⟨rfl, hTl⟩ | ⟨k, hk, rfl, hst, hTl⟩
      · have HT : Hid (Tl ls ps j (0, -1, ⟨#[]⟩, -1)) := hTl
        clear hTl
        go_wp2_with (fail)
        refine (after72_c wr).mono ?_
        rintro e w8 ⟨rfl, b9⟩
        have K8 : Hid (Below w.heap.size w w8 ∧ Blk w8 w.heap.size (D4 0 0 ⟨#[]⟩ 0) 28) := ⟨belowCall KJ.out.1 b9 KJ.out.1.size, KJ.out.2.below b9 KJ.out.2.lt⟩
        clear KJ b9
        go_wp2_with (fail)
        refine (dial101_c _ ls sj w8 (HRR.out.below K8.out.1)).mono ?_
        rintro e w9 ⟨rfl, b9⟩
        have K9 : Hid (Below w.heap.size w w9 ∧ Blk w9 w.heap.size (D4 0 0 ⟨#[]⟩ 0) 28) := ⟨belowCall K8.out.1 b9 K8.out.1.size, K8.out.2.below b9 K8.out.2.lt⟩
        clear K8 b9
        have HS : Hid (OvS ls ps wt (4, -1, ⟨#[]⟩, -1) en) := .inr ⟨HOO.out, j, HJ.out, HON.out, .inr ⟨.inl (by have := HN.out; omega), HEN.out.symm, _, HT.out, .inr ⟨by decide, rfl⟩⟩⟩
        have HF : Hid (∀ W4, (((w9.setCell ⟨w.heap.size, 0, none⟩ (.int .i64 (4))).setCell ⟨w.heap.size, 1, none⟩ (.int .i64 (-1))).setCell ⟨w.heap.size, 2, none⟩ (.string (⟨#[]⟩))).setCell ⟨w.heap.size, 3, none⟩ (.int .i64 (-1)) = W4 → Blk W4 w.heap.size (D4 (4) (-1) (⟨#[]⟩) (-1)) 28 ∧ Below w.heap.size w W4) := finD K9.out.2 K9.out.1 (Nat.le_refl _) _ _ _ _
        have d0 := K9.out.2.cell 0
        have d1 := K9.out.2.cell 1
        have d2 := K9.out.2.cell 2
        have d3 := K9.out.2.cell 3
        have f0 := K9.out.2.frozen 0
        have f1 := K9.out.2.frozen 1
        have f2 := K9.out.2.frozen 2
        have f3 := K9.out.2.frozen 3
        simp at d0 d1 d2 d3
        clear K9
        go_wp2
        exact bodyPost_ret (v := .tuple #[.agg (D4 (4) (-1) (⟨#[]⟩) (-1)), .int .i64 en]) (results_28 rfl _ _ _ _ _ _ _ _ rfl rfl (HF.out _ rfl).1) rfl ⟨_, _, _, _, _, rfl, HS.out, (HF.out _ rfl).2⟩
      · have HT : Hid (Tl ls ps j (1, ls[k].ro, numV ls[k] (dgs ps j), k)) := hTl
        rw [HSJ.out] at hst HT
        have hru := (HOO.out.1.2 k hk hk).1
        have hst0 : 0 ≤ ls[k].st := hru.2.2.2.2.2.1.1
        have had : ls[k].ad.size ≤ 1048576 := by have := hru.2.2.2.2.2.2.1.1; omega
        clear hTl hru
        go_wp2_with (fail)
        refine (after92_c (k : Int) wr).mono ?_
        rintro e w8 ⟨rfl, b9⟩
        have K8 : Hid (Below w.heap.size w w8 ∧ Blk w8 w.heap.size (D4 0 0 ⟨#[]⟩ 0) 28) := ⟨belowCall KJ.out.1 b9 KJ.out.1.size, KJ.out.2.below b9 KJ.out.2.lt⟩
        clear KJ b9
        go_wp2_with (fail)
        refine (dial93_c _ ls sj k w8 (HRR.out.below K8.out.1) hk hst0 hst (by omega) had).mono ?_
        rintro e w9 ⟨rfl, b9⟩
        have K9 : Hid (Below w.heap.size w w9 ∧ Blk w9 w.heap.size (D4 0 0 ⟨#[]⟩ 0) 28) := ⟨belowCall K8.out.1 b9 K8.out.1.size, K8.out.2.below b9 K8.out.2.lt⟩
        clear K8 b9
        have HS : Hid (OvS ls ps wt (2, ls[k].ro, numV ls[k] sj, (k : Int)) en) := .inr ⟨HOO.out, j, HJ.out, HON.out, .inr ⟨.inl (by have := HN.out; omega), HEN.out.symm, _, HT.out, .inl ⟨rfl, rfl⟩⟩⟩
        have HF : Hid (∀ W4, (((w9.setCell ⟨w.heap.size, 0, none⟩ (.int .i64 (2))).setCell ⟨w.heap.size, 1, none⟩ (.int .i64 (ls[k].ro))).setCell ⟨w.heap.size, 2, none⟩ (.string (numV ls[k] sj))).setCell ⟨w.heap.size, 3, none⟩ (.int .i64 ((k : Int))) = W4 → Blk W4 w.heap.size (D4 (2) (ls[k].ro) (numV ls[k] sj) ((k : Int))) 28 ∧ Below w.heap.size w W4) := finD K9.out.2 K9.out.1 (Nat.le_refl _) _ _ _ _
        have d0 := K9.out.2.cell 0
        have d1 := K9.out.2.cell 1
        have d2 := K9.out.2.cell 2
        have d3 := K9.out.2.cell 3
        have f0 := K9.out.2.frozen 0
        have f1 := K9.out.2.frozen 1
        have f2 := K9.out.2.frozen 2
        have f3 := K9.out.2.frozen 3
        simp at d0 d1 d2 d3
        clear K9
        go_wp2
        exact bodyPost_ret (v := .tuple #[.agg (D4 (2) (ls[k].ro) (numV ls[k] sj) ((k : Int))), .int .i64 en]) (results_28 rfl _ _ _ _ _ _ _ _ rfl rfl (HF.out _ rfl).1) rfl ⟨_, _, _, _, _, rfl, HS.out, (HF.out _ rfl).2⟩
    case pos =>
    have hjl : j < ps.length := by rw [HN.out]; exact hlt
    obtain ⟨b0, off, rfl, h4⟩ : ∃ b off, a' = some ⟨b, off, none⟩ ∧ _ := by
      rcases H3.out with h | h
      · rw [h] at hjl; simp at hjl
      · exact h
    have hc := h4 j hjl
    have hcb : b0 < w.heap.size := block_lt_of_cell hc.1
    have hpo := (HPK.out.2 j hjl hjl).1
    have HS1 : Hid (dgs ps (j + 1) = dgs ps j ++ ps[j].di) := dgs_succ hjl
    have HE1 : Hid (enT ps wt (j + 1) = ps[j].ti + wt) := enT_succ hjl
    have HDN : Hid (DgOk (dgs ps (j + 1))) := (dgs_ok HPK.out (j + 1) (by omega)).2
    obtain ⟨⟨ti, di⟩, hr⟩ : ∃ r, ps[j] = r := ⟨_, rfl⟩
    rw [hr] at hc hpo HS1 HE1
    rw [HSJ.out] at HS1
    rw [HS1.out] at HDN
    dsimp only at hc hpo HS1 HE1 HDN
    have HR : Hid (ps[j] = ⟨ti, di⟩) := hr
    obtain ⟨⟨hti0, hti1⟩, hdi, -⟩ := hpo
    have e0 := (KJ.out.1.cell (p := ⟨b0, off + j * 2, none⟩) hcb).trans hc.1
    have e1 := (KJ.out.1.cell (p := ⟨b0, off + j * 2 + 1, none⟩) hcb).trans hc.2
    dsimp only at hti0 hti1 hdi e0 e1
    clear h4 hc hr
    obtain ⟨W1, hW1⟩ : ∃ W1, wr.alloc (Obj.cells #[.int .i64 ti, .string di] 39) = W1 := ⟨_, rfl⟩
    have bA : Below wr.heap.size wr W1 := hW1 ▸ (Below.refl _ _).alloc (Nat.le_refl _) _
    obtain ⟨g, hg⟩ : ∃ g, wr.heap.size = g := ⟨_, rfl⟩
    have K1 : Hid ((Below w.heap.size w W1 ∧ Blk W1 w.heap.size (D4 0 0 ⟨#[]⟩ 0) 28) ∧ Blk W1 g #[.int .i64 ti, .string di] 39) := ⟨⟨belowCall KJ.out.1 bA KJ.out.1.size, KJ.out.2.below bA KJ.out.2.lt⟩, hg ▸ hW1 ▸ Blk.new _ _ _⟩
    have HW1 : Hid (wr.alloc (Obj.cells #[.int .i64 ti, .string di] 39) = W1) := hW1
    have HG : Hid (wr.heap.size = g) := hg
    have hgn : w.heap.size < g := by have := KJ.out.2.lt; omega
    clear bA hW1 hg KJ
    by_cases hlate : LateP ps wt j
    case pos =>
      have hj0 : (0 : Int) < (j : Int) := by have := hlate.1; omega
      have hgt : en < ti := by
        obtain ⟨_, _, h⟩ := hlate
        rw [HEN.out, HR.out] at h
        exact h
      have HL : Hid (LateP ps wt j) := hlate
      have K1' : Hid (Below w.heap.size w W1 ∧ Blk W1 w.heap.size (D4 0 0 ⟨#[]⟩ 0) 28) := K1.out.1
      clear hlate K1
      rcases TO.out with ⟨rfl, hTl⟩ | ⟨k, hk, rfl, hst, hTl⟩
      · have HT : Hid (Tl ls ps j (0, -1, ⟨#[]⟩, -1)) := hTl
        clear hTl
        go_wp2_with (fail)
        rw [HW1.out]
        refine (after72_c W1).mono ?_
        rintro e w8 ⟨rfl, b9⟩
        have K8 : Hid (Below w.heap.size w w8 ∧ Blk w8 w.heap.size (D4 0 0 ⟨#[]⟩ 0) 28) := ⟨belowCall K1'.out.1 b9 K1'.out.1.size, K1'.out.2.below b9 K1'.out.2.lt⟩
        clear K1' b9
        go_wp2_with (fail)
        refine (dial101_c _ ls sj w8 (HRR.out.below K8.out.1)).mono ?_
        rintro e w9 ⟨rfl, b9⟩
        have K9 : Hid (Below w.heap.size w w9 ∧ Blk w9 w.heap.size (D4 0 0 ⟨#[]⟩ 0) 28) := ⟨belowCall K8.out.1 b9 K8.out.1.size, K8.out.2.below b9 K8.out.2.lt⟩
        clear K8 b9
        have HS : Hid (OvS ls ps wt (4, -1, ⟨#[]⟩, -1) en) := .inr ⟨HOO.out, j, HJ.out, HON.out, .inr ⟨.inr HL.out, HEN.out.symm, _, HT.out, .inr ⟨by decide, rfl⟩⟩⟩
        have HF : Hid (∀ W4, (((w9.setCell ⟨w.heap.size, 0, none⟩ (.int .i64 (4))).setCell ⟨w.heap.size, 1, none⟩ (.int .i64 (-1))).setCell ⟨w.heap.size, 2, none⟩ (.string (⟨#[]⟩))).setCell ⟨w.heap.size, 3, none⟩ (.int .i64 (-1)) = W4 → Blk W4 w.heap.size (D4 (4) (-1) (⟨#[]⟩) (-1)) 28 ∧ Below w.heap.size w W4) := finD K9.out.2 K9.out.1 (Nat.le_refl _) _ _ _ _
        have d0 := K9.out.2.cell 0
        have d1 := K9.out.2.cell 1
        have d2 := K9.out.2.cell 2
        have d3 := K9.out.2.cell 3
        have f0 := K9.out.2.frozen 0
        have f1 := K9.out.2.frozen 1
        have f2 := K9.out.2.frozen 2
        have f3 := K9.out.2.frozen 3
        simp at d0 d1 d2 d3
        clear K9
        go_wp2
        exact bodyPost_ret (v := .tuple #[.agg (D4 (4) (-1) (⟨#[]⟩) (-1)), .int .i64 en]) (results_28 rfl _ _ _ _ _ _ _ _ rfl rfl (HF.out _ rfl).1) rfl ⟨_, _, _, _, _, rfl, HS.out, (HF.out _ rfl).2⟩
      · have HT : Hid (Tl ls ps j (1, ls[k].ro, numV ls[k] (dgs ps j), k)) := hTl
        rw [HSJ.out] at hst HT
        have hru := (HOO.out.1.2 k hk hk).1
        have hst0 : 0 ≤ ls[k].st := hru.2.2.2.2.2.1.1
        have had : ls[k].ad.size ≤ 1048576 := by have := hru.2.2.2.2.2.2.1.1; omega
        clear hTl hru
        go_wp2_with (fail)
        rw [HW1.out]
        refine (after92_c (k : Int) W1).mono ?_
        rintro e w8 ⟨rfl, b9⟩
        have K8 : Hid (Below w.heap.size w w8 ∧ Blk w8 w.heap.size (D4 0 0 ⟨#[]⟩ 0) 28) := ⟨belowCall K1'.out.1 b9 K1'.out.1.size, K1'.out.2.below b9 K1'.out.2.lt⟩
        clear K1' b9
        go_wp2_with (fail)
        refine (dial93_c _ ls sj k w8 (HRR.out.below K8.out.1) hk hst0 hst (by omega) had).mono ?_
        rintro e w9 ⟨rfl, b9⟩
        have K9 : Hid (Below w.heap.size w w9 ∧ Blk w9 w.heap.size (D4 0 0 ⟨#[]⟩ 0) 28) := ⟨belowCall K8.out.1 b9 K8.out.1.size, K8.out.2.below b9 K8.out.2.lt⟩
        clear K8 b9
        have HS : Hid (OvS ls ps wt (2, ls[k].ro, numV ls[k] sj, (k : Int)) en) := .inr ⟨HOO.out, j, HJ.out, HON.out, .inr ⟨.inr HL.out, HEN.out.symm, _, HT.out, .inl ⟨rfl, rfl⟩⟩⟩
        have HF : Hid (∀ W4, (((w9.setCell ⟨w.heap.size, 0, none⟩ (.int .i64 (2))).setCell ⟨w.heap.size, 1, none⟩ (.int .i64 (ls[k].ro))).setCell ⟨w.heap.size, 2, none⟩ (.string (numV ls[k] sj))).setCell ⟨w.heap.size, 3, none⟩ (.int .i64 ((k : Int))) = W4 → Blk W4 w.heap.size (D4 (2) (ls[k].ro) (numV ls[k] sj) ((k : Int))) 28 ∧ Below w.heap.size w W4) := finD K9.out.2 K9.out.1 (Nat.le_refl _) _ _ _ _
        have d0 := K9.out.2.cell 0
        have d1 := K9.out.2.cell 1
        have d2 := K9.out.2.cell 2
        have d3 := K9.out.2.cell 3
        have f0 := K9.out.2.frozen 0
        have f1 := K9.out.2.frozen 1
        have f2 := K9.out.2.frozen 2
        have f3 := K9.out.2.frozen 3
        simp at d0 d1 d2 d3
        clear K9
        go_wp2
        exact bodyPost_ret (v := .tuple #[.agg (D4 (2) (ls[k].ro) (numV ls[k] sj) ((k : Int))), .int .i64 en]) (results_28 rfl _ _ _ _ _ _ _ _ rfl rfl (HF.out _ rfl).1) rfl ⟨_, _, _, _, _, rfl, HS.out, (HF.out _ rfl).2⟩
    case neg =>
    have HNL : Hid (¬ LateP ps wt j) := hlate
    have hdis : (((0 : Int) < (j : Int)) = False ∧ (0 < j) = False) ∨ ((0 : Int) < (j : Int) ∧ (en < ti) = False) := by
      by_cases h0 : 0 < j
      · refine .inr ⟨by omega, eq_false fun h => hlate ⟨h0, hjl, ?_⟩⟩
        rw [HEN.out, HR.out]; exact h
      · exact .inl ⟨eq_false (by omega), eq_false h0⟩
    clear hlate
    rcases hdis with ⟨hd0, hd1⟩ | ⟨hd0, hd1⟩
    all_goals (
      go_wp2_with (fail)
      rw [HW1.out, HG.out]
      refine (outcome_c _ ls (sj ++ di) W1 (HRR.out.below K1.out.1.1) HOK.out (by rw [ByteArray.size_append]; omega)).mono ?_
      rintro e w2 ⟨o2, rfl, hO, b2⟩
      have K2 : Hid ((Below w.heap.size w w2 ∧ Blk w2 w.heap.size (D4 0 0 ⟨#[]⟩ 0) 28) ∧ Blk w2 g #[.int .i64 ti, .string di] 39) := ⟨⟨belowCall K1.out.1.1 b2 K1.out.1.1.size, K1.out.1.2.below b2 K1.out.1.2.lt⟩, K1.out.2.below b2 K1.out.2.lt⟩
      have hcs := out_told HOK.out HDN.out hO
      clear b2 K1 hO HW1 HG e0 e1
      rcases hcs with ⟨rfl, hD⟩ | ⟨rfl, hD⟩ | ⟨k, hk, hst, ⟨rfl, hD⟩ | ⟨rfl, hD⟩⟩)
    · have HTN : Hid (Tl ls ps (j + 1) (0, -1, ⟨#[]⟩, -1)) := .inr ⟨by omega, by rw [HS1.out]; exact hD⟩
      clear hD
      go_wp2_with (fail)
      refine (fin72_c w2).mono ?_
      rintro e w3 ⟨rfl, b3⟩
      have K3 : Hid ((Below w.heap.size w w3 ∧ Blk w3 w.heap.size (D4 0 0 ⟨#[]⟩ 0) 28) ∧ Blk w3 g #[.int .i64 ti, .string di] 39) := ⟨⟨belowCall K2.out.1.1 b3 K2.out.1.1.size, K2.out.1.2.below b3 K2.out.1.2.lt⟩, K2.out.2.below b3 K2.out.2.lt⟩
      clear K2 b3
      have HNF : Hid (∀ x, ¬ FinP ls ps (j + 1) x) := fun x hx => by
        have := hx.1.same HTN.out
        rw [this] at hx
        exact absurd hx.2 (by simp)
      have HO1 : Hid (OnP ls ps wt (j + 1)) := HON.out.succ hjl HNL.out HNF.out
      have HTO1 : Hid (ToldO ls ps (j + 1) oMore) := .inl ⟨rfl, HTN.out⟩
      go_wp2
      go_roundw
      case rel => exact ⟨j + 1, by omega, by go_num, by rw [HS1.out], by rw [HE1.out], HTO1.out, K3.out.1, HO1.out⟩
      case measure => simp [intOf]; omega
    · have HD0 : Hid (DialS ls (sj ++ di) (3, -1, ⟨#[]⟩, -1)) := hD
      clear hD
      go_wp2_with (fail)
      refine (fin98_c w2).mono ?_
      rintro e w3 ⟨rfl, b3⟩
      have K3 : Hid ((Below w.heap.size w w3 ∧ Blk w3 w.heap.size (D4 0 0 ⟨#[]⟩ 0) 28) ∧ Blk w3 g #[.int .i64 ti, .string di] 39) := ⟨⟨belowCall K2.out.1.1 b3 K2.out.1.1.size, K2.out.1.2.below b3 K2.out.1.2.lt⟩, K2.out.2.below b3 K2.out.2.lt⟩
      clear K2 b3
      obtain ⟨S, hS⟩ : ∃ S : World → Prop, ∀ W, S W ↔ Blk W g #[.int .i64 ti, .string di] 39 := ⟨_, fun _ => Iff.rfl⟩
      have y0 : ∀ W : At S, W.wd.cell? ⟨g, 0, none⟩ = some (.int .i64 ti) := fun W => ((hS _).1 W.ok).cell 0
      have HSD : Hid (S w3.drew) := (hS _).2 K3.out.2
      have ne1 : Nonempty (At S) := ⟨⟨_, HSD.out⟩⟩
      have HSB : Hid (∀ W, Below w3.heap.size w3 W → S W) := fun W b => (hS _).2 (K3.out.2.below b K3.out.2.lt)
      have HSO : Hid (∀ W i x, S W → S (W.setCell ⟨w.heap.size, i, none⟩ x)) := fun W i x h => (hS _).2 (((hS _).1 h).other _ _ (by show g ≠ w.heap.size; have := hgn; omega))
      clear hS
      have HDD : Hid (DialS ls (sj ++ di) (3, -1, ⟨#[]⟩, -1)) := HD0.out
      go_wp2
      refine region_mixA [true, true, true, false, true, true, false, false] 7 2 S (by kernel_rfl) rfl (by kernel_rfl) (fun _ _ _ _ _ h => h) HSD.out ?_
      simp only [selT, selF]
      repeat (go_big_quiet_step (fail))
      refine wpQuiet_nil ?_
      clear y0 ne1 HSD
      refine tail_step ?_
      go_wp2_with (fail)
      have KD1 : Hid (Rr w3.drew _ ls) := HRR.out.below (K3.out.1.1.drew)
      refine (dial98_c _ ls (sj ++ di) w3.drew KD1.out).mono ?_
      rintro e q1 ⟨rfl, b1⟩
      have bq1 : Below w3.heap.size w3 q1 := (Below.refl _ _).drew.trans b1
      have HSQ : Hid (S q1) := HSB.out _ bq1
      have K9 : Hid (Below w.heap.size w q1 ∧ Blk q1 w.heap.size (D4 0 0 ⟨#[]⟩ 0) 28) := ⟨belowCall K3.out.1.1 bq1 K3.out.1.1.size, K3.out.1.2.below bq1 K3.out.1.2.lt⟩
      clear bq1 b1 HSB K3 KD1
      go_wp2
      refine ⟨HSQ.out, tail_step ?_⟩
      have HS : Hid (OvS ls ps wt (3, -1, ⟨#[]⟩, -1) ti) := .inr ⟨HOO.out, j, HJ.out, HON.out, .inl ⟨hjl, HNL.out, ⟨.inr ⟨by omega, by rw [HS1.out]; exact HDD.out⟩, by simp⟩, by rw [HR.out]⟩⟩
      have HF : Hid (∀ W4, (((q1.setCell ⟨w.heap.size, 0, none⟩ (.int .i64 (3))).setCell ⟨w.heap.size, 1, none⟩ (.int .i64 (-1))).setCell ⟨w.heap.size, 2, none⟩ (.string (⟨#[]⟩))).setCell ⟨w.heap.size, 3, none⟩ (.int .i64 (-1)) = W4 → Blk W4 w.heap.size (D4 (3) (-1) (⟨#[]⟩) (-1)) 28 ∧ Below w.heap.size w W4) := finD K9.out.2 K9.out.1 (Nat.le_refl _) _ _ _ _
      have HS4 : Hid (∀ W4, (((q1.setCell ⟨w.heap.size, 0, none⟩ (.int .i64 (3))).setCell ⟨w.heap.size, 1, none⟩ (.int .i64 (-1))).setCell ⟨w.heap.size, 2, none⟩ (.string (⟨#[]⟩))).setCell ⟨w.heap.size, 3, none⟩ (.int .i64 (-1)) = W4 → S W4) := fun W4 e => e ▸ HSO.out _ _ _ (HSO.out _ _ _ (HSO.out _ _ _ (HSO.out _ _ _ HSQ.out)))
      have d0 := K9.out.2.cell 0
      have d1 := K9.out.2.cell 1
      have d2 := K9.out.2.cell 2
      have d3 := K9.out.2.cell 3
      have f0 := K9.out.2.frozen 0
      have f1 := K9.out.2.frozen 1
      have f2 := K9.out.2.frozen 2
      have f3 := K9.out.2.frozen 3
      simp at d0 d1 d2 d3
      clear K9 HSQ HSO
      go_wp2
      refine ⟨HS4.out _ rfl, tail_end ?_⟩
      clear HS4
      go_wp2
      exact bodyPost_ret (v := .tuple #[.agg (D4 (3) (-1) (⟨#[]⟩) (-1)), .int .i64 ti]) (results_28 rfl _ _ _ _ _ _ _ _ rfl rfl (HF.out _ rfl).1) rfl ⟨_, _, _, _, _, rfl, HS.out, (HF.out _ rfl).2⟩
    · have HD0 : Hid (DialS ls (sj ++ di) (2, ls[k].ro, numV ls[k] (sj ++ di), (k : Int))) := hD
      have hru := (HOK.out.2 k hk hk).1
      have hst0 : 0 ≤ ls[k].st := hru.2.2.2.2.2.1.1
      have had : ls[k].ad.size ≤ 1048576 := by have := hru.2.2.2.2.2.2.1.1; omega
      have hsd : (sj ++ di).size ≤ 1048576 := by rw [ByteArray.size_append]; omega
      have HST : Hid (ls[k].st ≤ ((sj ++ di).size : Int)) := hst
      clear hD hru hst
      go_wp2_with (fail)
      refine (fin93_c (k : Int) w2).mono ?_
      rintro e w3 ⟨rfl, b3⟩
      have K3 : Hid ((Below w.heap.size w w3 ∧ Blk w3 w.heap.size (D4 0 0 ⟨#[]⟩ 0) 28) ∧ Blk w3 g #[.int .i64 ti, .string di] 39) := ⟨⟨belowCall K2.out.1.1 b3 K2.out.1.1.size, K2.out.1.2.below b3 K2.out.1.2.lt⟩, K2.out.2.below b3 K2.out.2.lt⟩
      clear K2 b3
      obtain ⟨S, hS⟩ : ∃ S : World → Prop, ∀ W, S W ↔ Blk W g #[.int .i64 ti, .string di] 39 := ⟨_, fun _ => Iff.rfl⟩
      have y0 : ∀ W : At S, W.wd.cell? ⟨g, 0, none⟩ = some (.int .i64 ti) := fun W => ((hS _).1 W.ok).cell 0
      have HSD : Hid (S w3.drew) := (hS _).2 K3.out.2
      have ne1 : Nonempty (At S) := ⟨⟨_, HSD.out⟩⟩
      have HSB : Hid (∀ W, Below w3.heap.size w3 W → S W) := fun W b => (hS _).2 (K3.out.2.below b K3.out.2.lt)
      have HSO : Hid (∀ W i x, S W → S (W.setCell ⟨w.heap.size, i, none⟩ x)) := fun W i x h => (hS _).2 (((hS _).1 h).other _ _ (by show g ≠ w.heap.size; have := hgn; omega))
      clear hS
      have HDD : Hid (DialS ls (sj ++ di) (2, ls[k].ro, numV ls[k] (sj ++ di), (k : Int))) := HD0.out
      go_wp2
      refine region_mixA [true, true, true, false, true, true, false, false] 7 2 S (by kernel_rfl) rfl (by kernel_rfl) (fun _ _ _ _ _ h => h) HSD.out ?_
      simp only [selT, selF]
      repeat (go_big_quiet_step (fail))
      refine wpQuiet_nil ?_
      clear y0 ne1 HSD
      refine tail_step ?_
      go_wp2_with (fail)
      have KD1 : Hid (Rr w3.drew _ ls) := HRR.out.below (K3.out.1.1.drew)
      refine (dial93_c _ ls (sj ++ di) k w3.drew KD1.out hk hst0 HST.out hsd had).mono ?_
      rintro e q1 ⟨rfl, b1⟩
      have bq1 : Below w3.heap.size w3 q1 := (Below.refl _ _).drew.trans b1
      have HSQ : Hid (S q1) := HSB.out _ bq1
      have K9 : Hid (Below w.heap.size w q1 ∧ Blk q1 w.heap.size (D4 0 0 ⟨#[]⟩ 0) 28) := ⟨belowCall K3.out.1.1 bq1 K3.out.1.1.size, K3.out.1.2.below bq1 K3.out.1.2.lt⟩
      clear bq1 b1 HSB K3 KD1
      go_wp2
      refine ⟨HSQ.out, tail_step ?_⟩
      have HS : Hid (OvS ls ps wt (2, ls[k].ro, numV ls[k] (sj ++ di), (k : Int)) ti) := .inr ⟨HOO.out, j, HJ.out, HON.out, .inl ⟨hjl, HNL.out, ⟨.inr ⟨by omega, by rw [HS1.out]; exact HDD.out⟩, by simp⟩, by rw [HR.out]⟩⟩
      have HF : Hid (∀ W4, (((q1.setCell ⟨w.heap.size, 0, none⟩ (.int .i64 (2))).setCell ⟨w.heap.size, 1, none⟩ (.int .i64 (ls[k].ro))).setCell ⟨w.heap.size, 2, none⟩ (.string (numV ls[k] (sj ++ di)))).setCell ⟨w.heap.size, 3, none⟩ (.int .i64 ((k : Int))) = W4 → Blk W4 w.heap.size (D4 (2) (ls[k].ro) (numV ls[k] (sj ++ di)) ((k : Int))) 28 ∧ Below w.heap.size w W4) := finD K9.out.2 K9.out.1 (Nat.le_refl _) _ _ _ _
      have HS4 : Hid (∀ W4, (((q1.setCell ⟨w.heap.size, 0, none⟩ (.int .i64 (2))).setCell ⟨w.heap.size, 1, none⟩ (.int .i64 (ls[k].ro))).setCell ⟨w.heap.size, 2, none⟩ (.string (numV ls[k] (sj ++ di)))).setCell ⟨w.heap.size, 3, none⟩ (.int .i64 ((k : Int))) = W4 → S W4) := fun W4 e => e ▸ HSO.out _ _ _ (HSO.out _ _ _ (HSO.out _ _ _ (HSO.out _ _ _ HSQ.out)))
      have d0 := K9.out.2.cell 0
      have d1 := K9.out.2.cell 1
      have d2 := K9.out.2.cell 2
      have d3 := K9.out.2.cell 3
      have f0 := K9.out.2.frozen 0
      have f1 := K9.out.2.frozen 1
      have f2 := K9.out.2.frozen 2
      have f3 := K9.out.2.frozen 3
      simp at d0 d1 d2 d3
      clear K9 HSQ HSO
      go_wp2
      refine ⟨HS4.out _ rfl, tail_end ?_⟩
      clear HS4
      go_wp2
      exact bodyPost_ret (v := .tuple #[.agg (D4 (2) (ls[k].ro) (numV ls[k] (sj ++ di)) ((k : Int))), .int .i64 ti]) (results_28 rfl _ _ _ _ _ _ _ _ rfl rfl (HF.out _ rfl).1) rfl ⟨_, _, _, _, _, rfl, HS.out, (HF.out _ rfl).2⟩
    · have HTN : Hid (Tl ls ps (j + 1) (1, ls[k].ro, numV ls[k] (sj ++ di), (k : Int))) := .inr ⟨by omega, by rw [HS1.out]; exact hD⟩
      have HST : Hid (ls[k].st ≤ ((sj ++ di).size : Int)) := hst
      clear hD hst
      go_wp2_with (fail)
      refine (fin92_c (k : Int) w2).mono ?_
      rintro e w3 ⟨rfl, b3⟩
      have K3 : Hid ((Below w.heap.size w w3 ∧ Blk w3 w.heap.size (D4 0 0 ⟨#[]⟩ 0) 28) ∧ Blk w3 g #[.int .i64 ti, .string di] 39) := ⟨⟨belowCall K2.out.1.1 b3 K2.out.1.1.size, K2.out.1.2.below b3 K2.out.1.2.lt⟩, K2.out.2.below b3 K2.out.2.lt⟩
      clear K2 b3
      have HNF : Hid (∀ x, ¬ FinP ls ps (j + 1) x) := fun x hx => by
        have := hx.1.same HTN.out
        rw [this] at hx
        exact absurd hx.2 (by simp)
      have HO1 : Hid (OnP ls ps wt (j + 1)) := HON.out.succ hjl HNL.out HNF.out
      have HTO1 : Hid (ToldO ls ps (j + 1) (oMay k)) := .inr ⟨k, hk, rfl, by rw [HS1.out]; exact HST.out, by rw [HS1.out]; exact HTN.out⟩
      go_wp2
      go_roundw
      case rel => exact ⟨j + 1, by omega, by go_num, by rw [HS1.out], by rw [HE1.out], HTO1.out, K3.out.1, HO1.out⟩
      case measure => simp [intOf]; omega
    · have HTN : Hid (Tl ls ps (j + 1) (0, -1, ⟨#[]⟩, -1)) := .inr ⟨by omega, by rw [HS1.out]; exact hD⟩
      clear hD
      go_wp2_with (fail)
      refine (fin72_c w2).mono ?_
      rintro e w3 ⟨rfl, b3⟩
      have K3 : Hid ((Below w.heap.size w w3 ∧ Blk w3 w.heap.size (D4 0 0 ⟨#[]⟩ 0) 28) ∧ Blk w3 g #[.int .i64 ti, .string di] 39) := ⟨⟨belowCall K2.out.1.1 b3 K2.out.1.1.size, K2.out.1.2.below b3 K2.out.1.2.lt⟩, K2.out.2.below b3 K2.out.2.lt⟩
      clear K2 b3
      have HNF : Hid (∀ x, ¬ FinP ls ps (j + 1) x) := fun x hx => by
        have := hx.1.same HTN.out
        rw [this] at hx
        exact absurd hx.2 (by simp)
      have HO1 : Hid (OnP ls ps wt (j + 1)) := HON.out.succ hjl HNL.out HNF.out
      have HTO1 : Hid (ToldO ls ps (j + 1) oMore) := .inl ⟨rfl, HTN.out⟩
      go_wp2
      go_roundw
      case rel => exact ⟨j + 1, by omega, by go_num, by rw [HS1.out], by rw [HE1.out], HTO1.out, K3.out.1, HO1.out⟩
      case measure => simp [intOf]; omega
    · have HD0 : Hid (DialS ls (sj ++ di) (3, -1, ⟨#[]⟩, -1)) := hD
      clear hD
      go_wp2_with (fail)
      refine (fin98_c w2).mono ?_
      rintro e w3 ⟨rfl, b3⟩
      have K3 : Hid ((Below w.heap.size w w3 ∧ Blk w3 w.heap.size (D4 0 0 ⟨#[]⟩ 0) 28) ∧ Blk w3 g #[.int .i64 ti, .string di] 39) := ⟨⟨belowCall K2.out.1.1 b3 K2.out.1.1.size, K2.out.1.2.below b3 K2.out.1.2.lt⟩, K2.out.2.below b3 K2.out.2.lt⟩
      clear K2 b3
      obtain ⟨S, hS⟩ : ∃ S : World → Prop, ∀ W, S W ↔ Blk W g #[.int .i64 ti, .string di] 39 := ⟨_, fun _ => Iff.rfl⟩
      have y0 : ∀ W : At S, W.wd.cell? ⟨g, 0, none⟩ = some (.int .i64 ti) := fun W => ((hS _).1 W.ok).cell 0
      have HSD : Hid (S w3.drew) := (hS _).2 K3.out.2
      have ne1 : Nonempty (At S) := ⟨⟨_, HSD.out⟩⟩
      have HSB : Hid (∀ W, Below w3.heap.size w3 W → S W) := fun W b => (hS _).2 (K3.out.2.below b K3.out.2.lt)
      have HSO : Hid (∀ W i x, S W → S (W.setCell ⟨w.heap.size, i, none⟩ x)) := fun W i x h => (hS _).2 (((hS _).1 h).other _ _ (by show g ≠ w.heap.size; have := hgn; omega))
      clear hS
      have HDD : Hid (DialS ls (sj ++ di) (3, -1, ⟨#[]⟩, -1)) := HD0.out
      go_wp2
      refine region_mixA [true, true, true, false, true, true, false, false] 7 2 S (by kernel_rfl) rfl (by kernel_rfl) (fun _ _ _ _ _ h => h) HSD.out ?_
      simp only [selT, selF]
      repeat (go_big_quiet_step (fail))
      refine wpQuiet_nil ?_
      clear y0 ne1 HSD
      refine tail_step ?_
      go_wp2_with (fail)
      have KD1 : Hid (Rr w3.drew _ ls) := HRR.out.below (K3.out.1.1.drew)
      refine (dial98_c _ ls (sj ++ di) w3.drew KD1.out).mono ?_
      rintro e q1 ⟨rfl, b1⟩
      have bq1 : Below w3.heap.size w3 q1 := (Below.refl _ _).drew.trans b1
      have HSQ : Hid (S q1) := HSB.out _ bq1
      have K9 : Hid (Below w.heap.size w q1 ∧ Blk q1 w.heap.size (D4 0 0 ⟨#[]⟩ 0) 28) := ⟨belowCall K3.out.1.1 bq1 K3.out.1.1.size, K3.out.1.2.below bq1 K3.out.1.2.lt⟩
      clear bq1 b1 HSB K3 KD1
      go_wp2
      refine ⟨HSQ.out, tail_step ?_⟩
      have HS : Hid (OvS ls ps wt (3, -1, ⟨#[]⟩, -1) ti) := .inr ⟨HOO.out, j, HJ.out, HON.out, .inl ⟨hjl, HNL.out, ⟨.inr ⟨by omega, by rw [HS1.out]; exact HDD.out⟩, by simp⟩, by rw [HR.out]⟩⟩
      have HF : Hid (∀ W4, (((q1.setCell ⟨w.heap.size, 0, none⟩ (.int .i64 (3))).setCell ⟨w.heap.size, 1, none⟩ (.int .i64 (-1))).setCell ⟨w.heap.size, 2, none⟩ (.string (⟨#[]⟩))).setCell ⟨w.heap.size, 3, none⟩ (.int .i64 (-1)) = W4 → Blk W4 w.heap.size (D4 (3) (-1) (⟨#[]⟩) (-1)) 28 ∧ Below w.heap.size w W4) := finD K9.out.2 K9.out.1 (Nat.le_refl _) _ _ _ _
      have HS4 : Hid (∀ W4, (((q1.setCell ⟨w.heap.size, 0, none⟩ (.int .i64 (3))).setCell ⟨w.heap.size, 1, none⟩ (.int .i64 (-1))).setCell ⟨w.heap.size, 2, none⟩ (.string (⟨#[]⟩))).setCell ⟨w.heap.size, 3, none⟩ (.int .i64 (-1)) = W4 → S W4) := fun W4 e => e ▸ HSO.out _ _ _ (HSO.out _ _ _ (HSO.out _ _ _ (HSO.out _ _ _ HSQ.out)))
      have d0 := K9.out.2.cell 0
      have d1 := K9.out.2.cell 1
      have d2 := K9.out.2.cell 2
      have d3 := K9.out.2.cell 3
      have f0 := K9.out.2.frozen 0
      have f1 := K9.out.2.frozen 1
      have f2 := K9.out.2.frozen 2
      have f3 := K9.out.2.frozen 3
      simp at d0 d1 d2 d3
      clear K9 HSQ HSO
      go_wp2
      refine ⟨HS4.out _ rfl, tail_end ?_⟩
      clear HS4
      go_wp2
      exact bodyPost_ret (v := .tuple #[.agg (D4 (3) (-1) (⟨#[]⟩) (-1)), .int .i64 ti]) (results_28 rfl _ _ _ _ _ _ _ _ rfl rfl (HF.out _ rfl).1) rfl ⟨_, _, _, _, _, rfl, HS.out, (HF.out _ rfl).2⟩
    · have HD0 : Hid (DialS ls (sj ++ di) (2, ls[k].ro, numV ls[k] (sj ++ di), (k : Int))) := hD
      have hru := (HOK.out.2 k hk hk).1
      have hst0 : 0 ≤ ls[k].st := hru.2.2.2.2.2.1.1
      have had : ls[k].ad.size ≤ 1048576 := by have := hru.2.2.2.2.2.2.1.1; omega
      have hsd : (sj ++ di).size ≤ 1048576 := by rw [ByteArray.size_append]; omega
      have HST : Hid (ls[k].st ≤ ((sj ++ di).size : Int)) := hst
      clear hD hru hst
      go_wp2_with (fail)
      refine (fin93_c (k : Int) w2).mono ?_
      rintro e w3 ⟨rfl, b3⟩
      have K3 : Hid ((Below w.heap.size w w3 ∧ Blk w3 w.heap.size (D4 0 0 ⟨#[]⟩ 0) 28) ∧ Blk w3 g #[.int .i64 ti, .string di] 39) := ⟨⟨belowCall K2.out.1.1 b3 K2.out.1.1.size, K2.out.1.2.below b3 K2.out.1.2.lt⟩, K2.out.2.below b3 K2.out.2.lt⟩
      clear K2 b3
      obtain ⟨S, hS⟩ : ∃ S : World → Prop, ∀ W, S W ↔ Blk W g #[.int .i64 ti, .string di] 39 := ⟨_, fun _ => Iff.rfl⟩
      have y0 : ∀ W : At S, W.wd.cell? ⟨g, 0, none⟩ = some (.int .i64 ti) := fun W => ((hS _).1 W.ok).cell 0
      have HSD : Hid (S w3.drew) := (hS _).2 K3.out.2
      have ne1 : Nonempty (At S) := ⟨⟨_, HSD.out⟩⟩
      have HSB : Hid (∀ W, Below w3.heap.size w3 W → S W) := fun W b => (hS _).2 (K3.out.2.below b K3.out.2.lt)
      have HSO : Hid (∀ W i x, S W → S (W.setCell ⟨w.heap.size, i, none⟩ x)) := fun W i x h => (hS _).2 (((hS _).1 h).other _ _ (by show g ≠ w.heap.size; have := hgn; omega))
      clear hS
      have HDD : Hid (DialS ls (sj ++ di) (2, ls[k].ro, numV ls[k] (sj ++ di), (k : Int))) := HD0.out
      go_wp2
      refine region_mixA [true, true, true, false, true, true, false, false] 7 2 S (by kernel_rfl) rfl (by kernel_rfl) (fun _ _ _ _ _ h => h) HSD.out ?_
      simp only [selT, selF]
      repeat (go_big_quiet_step (fail))
      refine wpQuiet_nil ?_
      clear y0 ne1 HSD
      refine tail_step ?_
      go_wp2_with (fail)
      have KD1 : Hid (Rr w3.drew _ ls) := HRR.out.below (K3.out.1.1.drew)
      refine (dial93_c _ ls (sj ++ di) k w3.drew KD1.out hk hst0 HST.out hsd had).mono ?_
      rintro e q1 ⟨rfl, b1⟩
      have bq1 : Below w3.heap.size w3 q1 := (Below.refl _ _).drew.trans b1
      have HSQ : Hid (S q1) := HSB.out _ bq1
      have K9 : Hid (Below w.heap.size w q1 ∧ Blk q1 w.heap.size (D4 0 0 ⟨#[]⟩ 0) 28) := ⟨belowCall K3.out.1.1 bq1 K3.out.1.1.size, K3.out.1.2.below bq1 K3.out.1.2.lt⟩
      clear bq1 b1 HSB K3 KD1
      go_wp2
      refine ⟨HSQ.out, tail_step ?_⟩
      have HS : Hid (OvS ls ps wt (2, ls[k].ro, numV ls[k] (sj ++ di), (k : Int)) ti) := .inr ⟨HOO.out, j, HJ.out, HON.out, .inl ⟨hjl, HNL.out, ⟨.inr ⟨by omega, by rw [HS1.out]; exact HDD.out⟩, by simp⟩, by rw [HR.out]⟩⟩
      have HF : Hid (∀ W4, (((q1.setCell ⟨w.heap.size, 0, none⟩ (.int .i64 (2))).setCell ⟨w.heap.size, 1, none⟩ (.int .i64 (ls[k].ro))).setCell ⟨w.heap.size, 2, none⟩ (.string (numV ls[k] (sj ++ di)))).setCell ⟨w.heap.size, 3, none⟩ (.int .i64 ((k : Int))) = W4 → Blk W4 w.heap.size (D4 (2) (ls[k].ro) (numV ls[k] (sj ++ di)) ((k : Int))) 28 ∧ Below w.heap.size w W4) := finD K9.out.2 K9.out.1 (Nat.le_refl _) _ _ _ _
      have HS4 : Hid (∀ W4, (((q1.setCell ⟨w.heap.size, 0, none⟩ (.int .i64 (2))).setCell ⟨w.heap.size, 1, none⟩ (.int .i64 (ls[k].ro))).setCell ⟨w.heap.size, 2, none⟩ (.string (numV ls[k] (sj ++ di)))).setCell ⟨w.heap.size, 3, none⟩ (.int .i64 ((k : Int))) = W4 → S W4) := fun W4 e => e ▸ HSO.out _ _ _ (HSO.out _ _ _ (HSO.out _ _ _ (HSO.out _ _ _ HSQ.out)))
      have d0 := K9.out.2.cell 0
      have d1 := K9.out.2.cell 1
      have d2 := K9.out.2.cell 2
      have d3 := K9.out.2.cell 3
      have f0 := K9.out.2.frozen 0
      have f1 := K9.out.2.frozen 1
      have f2 := K9.out.2.frozen 2
      have f3 := K9.out.2.frozen 3
      simp at d0 d1 d2 d3
      clear K9 HSQ HSO
      go_wp2
      refine ⟨HS4.out _ rfl, tail_end ?_⟩
      clear HS4
      go_wp2
      exact bodyPost_ret (v := .tuple #[.agg (D4 (2) (ls[k].ro) (numV ls[k] (sj ++ di)) ((k : Int))), .int .i64 ti]) (results_28 rfl _ _ _ _ _ _ _ _ rfl rfl (HF.out _ rfl).1) rfl ⟨_, _, _, _, _, rfl, HS.out, (HF.out _ rfl).2⟩
    · have HTN : Hid (Tl ls ps (j + 1) (1, ls[k].ro, numV ls[k] (sj ++ di), (k : Int))) := .inr ⟨by omega, by rw [HS1.out]; exact hD⟩
      have HST : Hid (ls[k].st ≤ ((sj ++ di).size : Int)) := hst
      clear hD hst
      go_wp2_with (fail)
      refine (fin92_c (k : Int) w2).mono ?_
      rintro e w3 ⟨rfl, b3⟩
      have K3 : Hid ((Below w.heap.size w w3 ∧ Blk w3 w.heap.size (D4 0 0 ⟨#[]⟩ 0) 28) ∧ Blk w3 g #[.int .i64 ti, .string di] 39) := ⟨⟨belowCall K2.out.1.1 b3 K2.out.1.1.size, K2.out.1.2.below b3 K2.out.1.2.lt⟩, K2.out.2.below b3 K2.out.2.lt⟩
      clear K2 b3
      have HNF : Hid (∀ x, ¬ FinP ls ps (j + 1) x) := fun x hx => by
        have := hx.1.same HTN.out
        rw [this] at hx
        exact absurd hx.2 (by simp)
      have HO1 : Hid (OnP ls ps wt (j + 1)) := HON.out.succ hjl HNL.out HNF.out
      have HTO1 : Hid (ToldO ls ps (j + 1) (oMay k)) := .inr ⟨k, hk, rfl, by rw [HS1.out]; exact HST.out, by rw [HS1.out]; exact HTN.out⟩
      go_wp2
      go_roundw
      case rel => exact ⟨j + 1, by omega, by go_num, by rw [HS1.out], by rw [HE1.out], HTO1.out, K3.out.1, HO1.out⟩
      case measure => simp [intOf]; omega
end Go.Proofs.Ytpnglbnebkggkaa

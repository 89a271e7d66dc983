/- The model's Dial; no condition. -/
import Derived.Test.YtpnglbnebkggkaaDiS
namespace Go.Proofs.Ytpnglbnebkggkaa
open Go.RowKit Go.ChangeShapes Go.WideShapes Go.ChangeAt
set_option linter.unusedVariables false
set_option linter.unusedSimpArgs false
set_option maxRecDepth 8000
theorem pre_size {ls : Rls} (h : RsOk ls) : ∀ i (hi : i < ls.length), ls[i].pre.size ≤ 20 ∧ ls[i].ad.size ≤ 20 ∧ 0 ≤ ls[i].le ∧ ls[i].mo ≤ 20 := fun i hi => by
  have := (h.2 i hi hi).1
  exact ⟨this.1.1.1, this.2.2.2.2.2.2.1.1, by have := this.2.1; omega, this.2.2.2.1⟩
set_option maxHeartbeats 25600000 in
theorem diM_c (v : Value) (ls : Rls) (s : ByteArray) (w : World) (h : Rr w v ls) (hz : Szs ls) (hs : s.size ≤ 1048576) : Calls Try.prog 11 #[v, .string s] w (DiR ls s w) := by
  have HRR : Hid (Rr w v ls) := h
  have HZ : Hid (Szs ls) := hz
  obtain ⟨a, cap, rfl, h1, h2, h3⟩ := h
  unfold maxLen at h2
  obtain ⟨n, hn⟩ : ∃ n, ls.length = n := ⟨_, rfl⟩
  have HN : Hid (ls.length = n) := hn
  have H3 : Hid (ls = [] ∨ ∃ b off, a = some ⟨b, off, none⟩ ∧ ∀ i (h : i < ls.length), w.cell? ⟨b, off + i * 6, none⟩ = some (.string ls[i].pre) ∧ w.cell? ⟨b, off + i * 6 + 1, none⟩ = some (.int .i64 ls[i].le) ∧ w.cell? ⟨b, off + i * 6 + 2, none⟩ = some (.int .i64 ls[i].mo) ∧ w.cell? ⟨b, off + i * 6 + 3, none⟩ = some (.int .i64 ls[i].ro) ∧ w.cell? ⟨b, off + i * 6 + 4, none⟩ = some (.int .i64 ls[i].st) ∧ w.cell? ⟨b, off + i * 6 + 5, none⟩ = some (.string ls[i].ad)) := h3
  rw [hn] at h1 HRR ⊢
  clear hn h3 hz
  obtain ⟨W1, hW1⟩ : ∃ W1, w.alloc (Obj.cells (D4 0 0 ⟨#[]⟩ 0) 28) = W1 := ⟨_, rfl⟩
  have K1 : Hid (Below w.heap.size w W1 ∧ Blk W1 w.heap.size (D4 0 0 ⟨#[]⟩ 0) 28) := ⟨hW1 ▸ (Below.refl _ _).alloc (Nat.le_refl _) _, hW1 ▸ Blk.new _ _ _⟩
  have HW1 : Hid (w.alloc (Obj.cells (D4 0 0 ⟨#[]⟩ 0) 28) = W1) := hW1
  clear hW1
  go_enter Try.func11, Try.ntmps11
  go_wp2_with (fail)
  rw [HW1.out]
  clear HW1
  refine (rulesM_c _ ls W1 (HRR.out.below K1.out.1) HZ.out).mono ?_
  rintro e w2 ⟨q, rfl, hq, b2⟩
  have K2 : Hid (Below w.heap.size w w2 ∧ Blk w2 w.heap.size (D4 0 0 ⟨#[]⟩ 0) 28) := ⟨belowCall K1.out.1 b2 K1.out.1.size, K1.out.2.below b2 K1.out.2.lt⟩
  have HQ1 : Hid (q = true ↔ RsOk ls) := hq
  clear b2 K1 hq
  cases q with
  | false =>
    have HNO : Hid (¬ RsOk ls) := fun h => by have := HQ1.out.2 h; cases this
    clear HQ1
    go_wp2_with (fail)
    refine (none_c 5 w2).mono ?_
    rintro e w9 ⟨rfl, b9⟩
    have K9 : Hid (Below w.heap.size w w9 ∧ Blk w9 w.heap.size (D4 0 0 ⟨#[]⟩ 0) 28) := ⟨belowCall K2.out.1 b9 K2.out.1.size, K2.out.2.below b9 K2.out.2.lt⟩
    clear K2 b9
    have HS : Hid (DialS ls s (5, -1, ⟨#[]⟩, -1)) := .inl ⟨fun h => HNO.out h.1, rfl⟩
    have HF : Hid (∀ W4, (((w9.setCell ⟨w.heap.size, 0, none⟩ (.int .i64 (5))).setCell ⟨w.heap.size, 1, none⟩ (.int .i64 (-1))).setCell ⟨w.heap.size, 2, none⟩ (.string (⟨#[]⟩))).setCell ⟨w.heap.size, 3, none⟩ (.int .i64 (-1)) = W4 → Blk W4 w.heap.size (D4 (5) (-1) (⟨#[]⟩) (-1)) 28 ∧ Below w.heap.size w W4) := finD K9.out.2 K9.out.1 (Nat.le_refl _) _ _ _ _
    have d0 := K9.out.2.cell 0
    have d1 := K9.out.2.cell 1
    have d2 := K9.out.2.cell 2
    have d3 := K9.out.2.cell 3
    have f0 := K9.out.2.frozen 0
    have f1 := K9.out.2.frozen 1
    have f2 := K9.out.2.frozen 2
    have f3 := K9.out.2.frozen 3
    simp at d0 d1 d2 d3
    clear K9
    go_wp2
    exact bodyPost_ret (v := .agg (D4 (5) (-1) (⟨#[]⟩) (-1))) (results_cell_row rfl _ _ _ 28 _ (0, 0) _ rfl (HF.out _ rfl).1 Try.underlying28 rfl size28) rfl ⟨_, _, _, _, rfl, HS.out, (HF.out _ rfl).2⟩
  | true =>
  have HOK : Hid (RsOk ls) := HQ1.out.1 rfl
  clear HQ1
  go_wp2_with (fail)
  refine (l4Digits_c s w2 (by omega)).mono ?_
  rintro e w3 ⟨q, rfl, hq, b3⟩
  have K3 : Hid (Below w.heap.size w w3 ∧ Blk w3 w.heap.size (D4 0 0 ⟨#[]⟩ 0) 28) := ⟨belowCall K2.out.1 b3 K2.out.1.size, K2.out.2.below b3 K2.out.2.lt⟩
  have HQ1 : Hid (q = true ↔ DgOk s) := hq
  clear b3 K2 hq
  cases q with
  | false =>
    have HNO : Hid (¬ DgOk s) := fun h => by have := HQ1.out.2 h; cases this
    clear HQ1
    go_wp2_with (fail)
    refine (none_c 5 w3).mono ?_
    rintro e w9 ⟨rfl, b9⟩
    have K9 : Hid (Below w.heap.size w w9 ∧ Blk w9 w.heap.size (D4 0 0 ⟨#[]⟩ 0) 28) := ⟨belowCall K3.out.1 b9 K3.out.1.size, K3.out.2.below b9 K3.out.2.lt⟩
    clear K3 b9
    have HS : Hid (DialS ls s (5, -1, ⟨#[]⟩, -1)) := .inl ⟨fun h => HNO.out h.2, rfl⟩
    have HF : Hid (∀ W4, (((w9.setCell ⟨w.heap.size, 0, none⟩ (.int .i64 (5))).setCell ⟨w.heap.size, 1, none⟩ (.int .i64 (-1))).setCell ⟨w.heap.size, 2, none⟩ (.string (⟨#[]⟩))).setCell ⟨w.heap.size, 3, none⟩ (.int .i64 (-1)) = W4 → Blk W4 w.heap.size (D4 (5) (-1) (⟨#[]⟩) (-1)) 28 ∧ Below w.heap.size w W4) := finD K9.out.2 K9.out.1 (Nat.le_refl _) _ _ _ _
    have d0 := K9.out.2.cell 0
    have d1 := K9.out.2.cell 1
    have d2 := K9.out.2.cell 2
    have d3 := K9.out.2.cell 3
    have f0 := K9.out.2.frozen 0
    have f1 := K9.out.2.frozen 1
    have f2 := K9.out.2.frozen 2
    have f3 := K9.out.2.frozen 3
    simp at d0 d1 d2 d3
    clear K9
    go_wp2
    exact bodyPost_ret (v := .agg (D4 (5) (-1) (⟨#[]⟩) (-1))) (results_cell_row rfl _ _ _ 28 _ (0, 0) _ rfl (HF.out _ rfl).1 Try.underlying28 rfl size28) rfl ⟨_, _, _, _, rfl, HS.out, (HF.out _ rfl).2⟩
  | true =>
  have HDG : Hid (DgOk s) := HQ1.out.1 rfl
  have hs20 : s.size ≤ 20 := HDG.out.1
  clear HQ1
  go_wp2
  go_loopw [6, 7, 8, 9] (fun bb ff oo i wr => ∃ j : Nat, j ≤ n ∧ i = .int .i64 j ∧ bb = .int .i64 (lfi (qB s) ls j) ∧ ff = .int .i64 (lfi (qF s) ls j) ∧ oo = .bool ((ls.take j).any (oB s)) ∧ Hid (Below w.heap.size w wr ∧ Blk wr w.heap.size (D4 0 0 ⟨#[]⟩ 0) 28)) (fun _ _ _ i _ => n - (intOf i).toNat)
  case atStart => exact ⟨0, Nat.zero_le _, rfl, rfl, rfl, rfl, K3.out⟩
  case round =>
    obtain ⟨j, hj, rfl, rfl, rfl, rfl, KJ⟩ := hrel
    clear K3
    have HBA : Hid (0 ≤ lfi (qB s) ls j → ∃ k : Nat, ∃ h : k < ls.length, lfi (qB s) ls j = (k : Int) ∧ k < j ∧ qB s ls[k] = true) := lfi_at j (by rw [HN.out]; exact hj)
    have HFA : Hid (0 ≤ lfi (qF s) ls j → ∃ k : Nat, ∃ h : k < ls.length, lfi (qF s) ls j = (k : Int) ∧ k < j ∧ qF s ls[k] = true) := lfi_at j (by rw [HN.out]; exact hj)
    have hbge := lfi_ge (q := qB s) (ls := ls) j
    have hfge := lfi_ge (q := qF s) (ls := ls) j
    by_cases hlt : j < n
    case neg =>
      obtain rfl : n = j := by omega
      obtain ⟨b, hbn⟩ : ∃ b, lfi (qB s) ls n = b := ⟨_, rfl⟩
      obtain ⟨f, hfn⟩ : ∃ f, lfi (qF s) ls n = f := ⟨_, rfl⟩
      obtain ⟨o, hon⟩ : ∃ o, (ls.take n).any (oB s) = o := ⟨_, rfl⟩
      rw [hbn] at HBA hbge
      rw [hfn] at HFA hfge
      rw [hbn, hfn, hon]
      have HB : Hid (lfi (qB s) ls ls.length = b) := by show lfi (qB s) ls ls.length = b; rw [HN.out]; exact hbn
      have HFN : Hid (lfi (qF s) ls ls.length = f) := by show lfi (qF s) ls ls.length = f; rw [HN.out]; exact hfn
      have HO : Hid (ls.any (oB s) = o) := by
        show ls.any (oB s) = o
        rw [← hon, List.take_of_length_le (by rw [HN.out]; exact Nat.le_refl _)]
      clear hbn hfn hon hlt hj
      by_cases hf0 : 0 ≤ f
      case pos =>
        obtain ⟨kf, hkfl, ekf, -, hqf⟩ := HFA.out hf0
        subst ekf
        have hru := (HOK.out.2 kf hkfl hkfl).1
        have hkl := hkfl
        have hst0 : 0 ≤ ls[kf].st := hru.2.2.2.2.2.1.1
        have hstl : ls[kf].st ≤ ls[kf].le := hru.2.2.2.2.2.1.2
        have had : ls[kf].ad.size ≤ 1048576 := by have := hru.2.2.2.2.2.2.1.1; omega
        have hst1 : ls[kf].st ≤ (s.size : Int) := by
          simp only [qF, Bool.and_eq_true, decide_eq_true_eq] at hqf
          omega
        have hk0 : ((0 : Int) ≤ (kf : Int)) = True := eq_true (by omega)
        have hidx : ∃ k : Nat, ∃ h : k < ls.length, (kf : Int) = (k : Int) ∧ ((2 : Int), ls[kf].ro, numV ls[kf] s, (kf : Int)) = (2, ls[k].ro, numV ls[k] s, (k : Int)) := ⟨kf, hkfl, rfl, rfl⟩
        have HX : Hid (OfS ls s 2 (lfi (qF s) ls ls.length) (2, ls[kf].ro, numV ls[kf] s, (kf : Int))) := by
          show OfS _ _ _ _ _
          rw [HFN.out]; exact hidx
        clear hqf hru hstl hidx
        go_wp2_with (fail)
        refine (of_c _ ls 2 kf s wr (HRR.out.below KJ.out.1) hkl hst0 hst1 (by omega) had).mono ?_
        rintro e w9 ⟨rfl, b9⟩
        have K9 : Hid (Below w.heap.size w w9 ∧ Blk w9 w.heap.size (D4 0 0 ⟨#[]⟩ 0) 28) := ⟨belowCall KJ.out.1 b9 KJ.out.1.size, KJ.out.2.below b9 KJ.out.2.lt⟩
        clear KJ b9
        have HS : Hid (DialS ls s (2, ls[kf].ro, numV ls[kf] s, (kf : Int))) := .inr ⟨⟨HOK.out, HDG.out⟩, .inl ⟨by rw [HFN.out]; omega, HX.out⟩⟩
        have HF : Hid (∀ W4, (((w9.setCell ⟨w.heap.size, 0, none⟩ (.int .i64 (2))).setCell ⟨w.heap.size, 1, none⟩ (.int .i64 (ls[kf].ro))).setCell ⟨w.heap.size, 2, none⟩ (.string (numV ls[kf] s))).setCell ⟨w.heap.size, 3, none⟩ (.int .i64 ((kf : Int))) = W4 → Blk W4 w.heap.size (D4 (2) (ls[kf].ro) (numV ls[kf] s) ((kf : Int))) 28 ∧ Below w.heap.size w W4) := finD K9.out.2 K9.out.1 (Nat.le_refl _) _ _ _ _
        have d0 := K9.out.2.cell 0
        have d1 := K9.out.2.cell 1
        have d2 := K9.out.2.cell 2
        have d3 := K9.out.2.cell 3
        have f0 := K9.out.2.frozen 0
        have f1 := K9.out.2.frozen 1
        have f2 := K9.out.2.frozen 2
        have f3 := K9.out.2.frozen 3
        simp at d0 d1 d2 d3
        clear K9
        go_wp2
        exact bodyPost_ret (v := .agg (D4 (2) (ls[kf].ro) (numV ls[kf] s) ((kf : Int)))) (results_cell_row rfl _ _ _ 28 _ (0, 0) _ rfl (HF.out _ rfl).1 Try.underlying28 rfl size28) rfl ⟨_, _, _, _, rfl, HS.out, (HF.out _ rfl).2⟩
      case neg =>
      obtain rfl : f = -1 := by omega
      clear hf0
      by_cases hb0 : 0 ≤ b
      case neg =>
        obtain rfl : b = -1 := by omega
        clear hb0
        cases o with
        | true =>
          go_wp2_with (fail)
          refine (none_c 0 wr).mono ?_
          rintro e w9 ⟨rfl, b9⟩
          have K9 : Hid (Below w.heap.size w w9 ∧ Blk w9 w.heap.size (D4 0 0 ⟨#[]⟩ 0) 28) := ⟨belowCall KJ.out.1 b9 KJ.out.1.size, KJ.out.2.below b9 KJ.out.2.lt⟩
          clear KJ b9
          have HS : Hid (DialS ls s (0, -1, ⟨#[]⟩, -1)) := .inr ⟨⟨HOK.out, HDG.out⟩, .inr ⟨by rw [HFN.out]; omega, .inl ⟨by rw [HB.out]; omega, by rw [HO.out]; rfl⟩⟩⟩
          have HF : Hid (∀ W4, (((w9.setCell ⟨w.heap.size, 0, none⟩ (.int .i64 (0))).setCell ⟨w.heap.size, 1, none⟩ (.int .i64 (-1))).setCell ⟨w.heap.size, 2, none⟩ (.string (⟨#[]⟩))).setCell ⟨w.heap.size, 3, none⟩ (.int .i64 (-1)) = W4 → Blk W4 w.heap.size (D4 (0) (-1) (⟨#[]⟩) (-1)) 28 ∧ Below w.heap.size w W4) := finD K9.out.2 K9.out.1 (Nat.le_refl _) _ _ _ _
          have d0 := K9.out.2.cell 0
          have d1 := K9.out.2.cell 1
          have d2 := K9.out.2.cell 2
          have d3 := K9.out.2.cell 3
          have f0 := K9.out.2.frozen 0
          have f1 := K9.out.2.frozen 1
          have f2 := K9.out.2.frozen 2
          have f3 := K9.out.2.frozen 3
          simp at d0 d1 d2 d3
          clear K9
          go_wp2
          exact bodyPost_ret (v := .agg (D4 (0) (-1) (⟨#[]⟩) (-1))) (results_cell_row rfl _ _ _ 28 _ (0, 0) _ rfl (HF.out _ rfl).1 Try.underlying28 rfl size28) rfl ⟨_, _, _, _, rfl, HS.out, (HF.out _ rfl).2⟩
        | false =>
          go_wp2_with (fail)
          refine (none_c 3 wr).mono ?_
          rintro e w9 ⟨rfl, b9⟩
          have K9 : Hid (Below w.heap.size w w9 ∧ Blk w9 w.heap.size (D4 0 0 ⟨#[]⟩ 0) 28) := ⟨belowCall KJ.out.1 b9 KJ.out.1.size, KJ.out.2.below b9 KJ.out.2.lt⟩
          clear KJ b9
          have HS : Hid (DialS ls s (3, -1, ⟨#[]⟩, -1)) := .inr ⟨⟨HOK.out, HDG.out⟩, .inr ⟨by rw [HFN.out]; omega, .inl ⟨by rw [HB.out]; omega, by rw [HO.out]; rfl⟩⟩⟩
          have HF : Hid (∀ W4, (((w9.setCell ⟨w.heap.size, 0, none⟩ (.int .i64 (3))).setCell ⟨w.heap.size, 1, none⟩ (.int .i64 (-1))).setCell ⟨w.heap.size, 2, none⟩ (.string (⟨#[]⟩))).setCell ⟨w.heap.size, 3, none⟩ (.int .i64 (-1)) = W4 → Blk W4 w.heap.size (D4 (3) (-1) (⟨#[]⟩) (-1)) 28 ∧ Below w.heap.size w W4) := finD K9.out.2 K9.out.1 (Nat.le_refl _) _ _ _ _
          have d0 := K9.out.2.cell 0
          have d1 := K9.out.2.cell 1
          have d2 := K9.out.2.cell 2
          have d3 := K9.out.2.cell 3
          have f0 := K9.out.2.frozen 0
          have f1 := K9.out.2.frozen 1
          have f2 := K9.out.2.frozen 2
          have f3 := K9.out.2.frozen 3
          simp at d0 d1 d2 d3
          clear K9
          go_wp2
          exact bodyPost_ret (v := .agg (D4 (3) (-1) (⟨#[]⟩) (-1))) (results_cell_row rfl _ _ _ 28 _ (0, 0) _ rfl (HF.out _ rfl).1 Try.underlying28 rfl size28) rfl ⟨_, _, _, _, rfl, HS.out, (HF.out _ rfl).2⟩
      case pos =>
      obtain ⟨kb, hkbl, ekb, -, -⟩ := HBA.out hb0
      subst ekb
      have hru := (HOK.out.2 kb hkbl hkbl).1
      have hkl := hkbl
      have hst0 : 0 ≤ ls[kb].st := hru.2.2.2.2.2.1.1
      have hstl : ls[kb].st ≤ ls[kb].le := hru.2.2.2.2.2.1.2
      have had : ls[kb].ad.size ≤ 1048576 := by have := hru.2.2.2.2.2.2.1.1; omega
      obtain ⟨b0, off, rfl, h4⟩ : ∃ b off, a = some ⟨b, off, none⟩ ∧ _ := by
        rcases H3.out with h | h
        · rw [h] at hkl; simp at hkl
        · exact h
      have hc := h4 kb hkl
      have hcb : b0 < w.heap.size := block_lt_of_cell hc.1
      have x1 := (KJ.out.1.cell (p := ⟨b0, off + kb * 6 + 1, none⟩) hcb).trans hc.2.1
      have x2 := (KJ.out.1.cell (p := ⟨b0, off + kb * 6 + 2, none⟩) hcb).trans hc.2.2.1
      obtain ⟨le, hle⟩ : ∃ le, ls[kb].le = le := ⟨_, rfl⟩
      obtain ⟨mo, hmo⟩ : ∃ mo, ls[kb].mo = mo := ⟨_, rfl⟩
      have HLE : Hid (ls[kb].le = le ∧ ls[kb].mo = mo) := ⟨hle, hmo⟩
      rw [hle] at x1 hstl
      rw [hmo] at x2
      have hkn : kb < n := by have := HN.out; omega
      clear hle hmo h4 hc
      have hk0 : ((0 : Int) ≤ (kb : Int)) = True := eq_true (by omega)
      have hk1 : ((kb : Int) < 0) = False := eq_false (by omega)
      have hkI : (kb : Int) < (n : Int) := by omega
      clear hru
      by_cases hl : (s.size : Int) < le
      case pos =>
        go_wp2_with (fail)
        refine (none_c 0 wr).mono ?_
        rintro e w9 ⟨rfl, b9⟩
        have K9 : Hid (Below w.heap.size w w9 ∧ Blk w9 w.heap.size (D4 0 0 ⟨#[]⟩ 0) 28) := ⟨belowCall KJ.out.1 b9 KJ.out.1.size, KJ.out.2.below b9 KJ.out.2.lt⟩
        clear KJ b9
        have HS : Hid (DialS ls s (0, -1, ⟨#[]⟩, -1)) := .inr ⟨⟨HOK.out, HDG.out⟩, .inr ⟨by rw [HFN.out]; omega, .inr ⟨kb, hkl, HB.out, .inl ⟨by rw [HLE.out.1]; exact hl, rfl⟩⟩⟩⟩
        have HF : Hid (∀ W4, (((w9.setCell ⟨w.heap.size, 0, none⟩ (.int .i64 (0))).setCell ⟨w.heap.size, 1, none⟩ (.int .i64 (-1))).setCell ⟨w.heap.size, 2, none⟩ (.string (⟨#[]⟩))).setCell ⟨w.heap.size, 3, none⟩ (.int .i64 (-1)) = W4 → Blk W4 w.heap.size (D4 (0) (-1) (⟨#[]⟩) (-1)) 28 ∧ Below w.heap.size w W4) := finD K9.out.2 K9.out.1 (Nat.le_refl _) _ _ _ _
        have d0 := K9.out.2.cell 0
        have d1 := K9.out.2.cell 1
        have d2 := K9.out.2.cell 2
        have d3 := K9.out.2.cell 3
        have f0 := K9.out.2.frozen 0
        have f1 := K9.out.2.frozen 1
        have f2 := K9.out.2.frozen 2
        have f3 := K9.out.2.frozen 3
        simp at d0 d1 d2 d3
        clear K9
        go_wp2
        exact bodyPost_ret (v := .agg (D4 (0) (-1) (⟨#[]⟩) (-1))) (results_cell_row rfl _ _ _ 28 _ (0, 0) _ rfl (HF.out _ rfl).1 Try.underlying28 rfl size28) rfl ⟨_, _, _, _, rfl, HS.out, (HF.out _ rfl).2⟩
      case neg =>
      have hlF : ((s.size : Int) < le) = False := eq_false hl
      have hst1 : ls[kb].st ≤ (s.size : Int) := by omega
      have HL : Hid (le ≤ (s.size : Int)) := by show le ≤ _; omega
      clear hl
      by_cases hm : mo < (s.size : Int)
      case pos =>
        cases o with
        | true =>
          go_wp2_with (fail)
          refine (none_c 0 wr).mono ?_
          rintro e w9 ⟨rfl, b9⟩
          have K9 : Hid (Below w.heap.size w w9 ∧ Blk w9 w.heap.size (D4 0 0 ⟨#[]⟩ 0) 28) := ⟨belowCall KJ.out.1 b9 KJ.out.1.size, KJ.out.2.below b9 KJ.out.2.lt⟩
          clear KJ b9
          have HS : Hid (DialS ls s (0, -1, ⟨#[]⟩, -1)) := .inr ⟨⟨HOK.out, HDG.out⟩, .inr ⟨by rw [HFN.out]; omega, .inr ⟨kb, hkl, HB.out, .inr (.inl ⟨by rw [HLE.out.2]; exact hm, by rw [HO.out]; rfl⟩)⟩⟩⟩
          have HF : Hid (∀ W4, (((w9.setCell ⟨w.heap.size, 0, none⟩ (.int .i64 (0))).setCell ⟨w.heap.size, 1, none⟩ (.int .i64 (-1))).setCell ⟨w.heap.size, 2, none⟩ (.string (⟨#[]⟩))).setCell ⟨w.heap.size, 3, none⟩ (.int .i64 (-1)) = W4 → Blk W4 w.heap.size (D4 (0) (-1) (⟨#[]⟩) (-1)) 28 ∧ Below w.heap.size w W4) := finD K9.out.2 K9.out.1 (Nat.le_refl _) _ _ _ _
          have d0 := K9.out.2.cell 0
          have d1 := K9.out.2.cell 1
          have d2 := K9.out.2.cell 2
          have d3 := K9.out.2.cell 3
          have f0 := K9.out.2.frozen 0
          have f1 := K9.out.2.frozen 1
          have f2 := K9.out.2.frozen 2
          have f3 := K9.out.2.frozen 3
          simp at d0 d1 d2 d3
          clear K9
          go_wp2
          exact bodyPost_ret (v := .agg (D4 (0) (-1) (⟨#[]⟩) (-1))) (results_cell_row rfl _ _ _ 28 _ (0, 0) _ rfl (HF.out _ rfl).1 Try.underlying28 rfl size28) rfl ⟨_, _, _, _, rfl, HS.out, (HF.out _ rfl).2⟩
        | false =>
          go_wp2_with (fail)
          refine (none_c 3 wr).mono ?_
          rintro e w9 ⟨rfl, b9⟩
          have K9 : Hid (Below w.heap.size w w9 ∧ Blk w9 w.heap.size (D4 0 0 ⟨#[]⟩ 0) 28) := ⟨belowCall KJ.out.1 b9 KJ.out.1.size, KJ.out.2.below b9 KJ.out.2.lt⟩
          clear KJ b9
          have HS : Hid (DialS ls s (3, -1, ⟨#[]⟩, -1)) := .inr ⟨⟨HOK.out, HDG.out⟩, .inr ⟨by rw [HFN.out]; omega, .inr ⟨kb, hkl, HB.out, .inr (.inl ⟨by rw [HLE.out.2]; exact hm, by rw [HO.out]; rfl⟩)⟩⟩⟩
          have HF : Hid (∀ W4, (((w9.setCell ⟨w.heap.size, 0, none⟩ (.int .i64 (3))).setCell ⟨w.heap.size, 1, none⟩ (.int .i64 (-1))).setCell ⟨w.heap.size, 2, none⟩ (.string (⟨#[]⟩))).setCell ⟨w.heap.size, 3, none⟩ (.int .i64 (-1)) = W4 → Blk W4 w.heap.size (D4 (3) (-1) (⟨#[]⟩) (-1)) 28 ∧ Below w.heap.size w W4) := finD K9.out.2 K9.out.1 (Nat.le_refl _) _ _ _ _
          have d0 := K9.out.2.cell 0
          have d1 := K9.out.2.cell 1
          have d2 := K9.out.2.cell 2
          have d3 := K9.out.2.cell 3
          have f0 := K9.out.2.frozen 0
          have f1 := K9.out.2.frozen 1
          have f2 := K9.out.2.frozen 2
          have f3 := K9.out.2.frozen 3
          simp at d0 d1 d2 d3
          clear K9
          go_wp2
          exact bodyPost_ret (v := .agg (D4 (3) (-1) (⟨#[]⟩) (-1))) (results_cell_row rfl _ _ _ 28 _ (0, 0) _ rfl (HF.out _ rfl).1 Try.underlying28 rfl size28) rfl ⟨_, _, _, _, rfl, HS.out, (HF.out _ rfl).2⟩
      case neg =>
      have hmF : (mo < (s.size : Int)) = False := eq_false hm
      have HM : Hid ((s.size : Int) ≤ mo) := by show _ ≤ mo; omega
      clear hm
      by_cases he : (s.size : Int) = mo
      case pos =>
        have heb : ((s.size : Int) == mo) = true := by simpa using he
        have HE : Hid ((s.size : Int) = mo) := he
        clear he
        cases o with
        | false =>
          go_wp2_with (fail)
          refine (of_c _ ls 2 kb s wr (HRR.out.below KJ.out.1) hkl hst0 hst1 (by omega) had).mono ?_
          rintro e w9 ⟨rfl, b9⟩
          have K9 : Hid (Below w.heap.size w w9 ∧ Blk w9 w.heap.size (D4 0 0 ⟨#[]⟩ 0) 28) := ⟨belowCall KJ.out.1 b9 KJ.out.1.size, KJ.out.2.below b9 KJ.out.2.lt⟩
          clear KJ b9
          have HS : Hid (DialS ls s (2, ls[kb].ro, numV ls[kb] s, (kb : Int))) := .inr ⟨⟨HOK.out, HDG.out⟩, .inr ⟨by rw [HFN.out]; omega, .inr ⟨kb, hkl, HB.out, .inr (.inr (.inl ⟨⟨by rw [HLE.out.1]; exact HL.out, by rw [HLE.out.2]; exact HE.out, HO.out⟩, kb, hkl, rfl, rfl⟩))⟩⟩⟩
          have HF : Hid (∀ W4, (((w9.setCell ⟨w.heap.size, 0, none⟩ (.int .i64 (2))).setCell ⟨w.heap.size, 1, none⟩ (.int .i64 (ls[kb].ro))).setCell ⟨w.heap.size, 2, none⟩ (.string (numV ls[kb] s))).setCell ⟨w.heap.size, 3, none⟩ (.int .i64 ((kb : Int))) = W4 → Blk W4 w.heap.size (D4 (2) (ls[kb].ro) (numV ls[kb] s) ((kb : Int))) 28 ∧ Below w.heap.size w W4) := finD K9.out.2 K9.out.1 (Nat.le_refl _) _ _ _ _
          have d0 := K9.out.2.cell 0
          have d1 := K9.out.2.cell 1
          have d2 := K9.out.2.cell 2
          have d3 := K9.out.2.cell 3
          have f0 := K9.out.2.frozen 0
          have f1 := K9.out.2.frozen 1
          have f2 := K9.out.2.frozen 2
          have f3 := K9.out.2.frozen 3
          simp at d0 d1 d2 d3
          clear K9
          go_wp2
          exact bodyPost_ret (v := .agg (D4 (2) (ls[kb].ro) (numV ls[kb] s) ((kb : Int)))) (results_cell_row rfl _ _ _ 28 _ (0, 0) _ rfl (HF.out _ rfl).1 Try.underlying28 rfl size28) rfl ⟨_, _, _, _, rfl, HS.out, (HF.out _ rfl).2⟩
        | true =>
          go_wp2_with (fail)
          refine (of_c _ ls 1 kb s wr (HRR.out.below KJ.out.1) hkl hst0 hst1 (by omega) had).mono ?_
          rintro e w9 ⟨rfl, b9⟩
          have K9 : Hid (Below w.heap.size w w9 ∧ Blk w9 w.heap.size (D4 0 0 ⟨#[]⟩ 0) 28) := ⟨belowCall KJ.out.1 b9 KJ.out.1.size, KJ.out.2.below b9 KJ.out.2.lt⟩
          clear KJ b9
          have HS : Hid (DialS ls s (1, ls[kb].ro, numV ls[kb] s, (kb : Int))) := .inr ⟨⟨HOK.out, HDG.out⟩, .inr ⟨by rw [HFN.out]; omega, .inr ⟨kb, hkl, HB.out, .inr (.inr (.inr ⟨⟨by rw [HLE.out.1]; exact HL.out, by rw [HLE.out.2]; exact HM.out, fun h => by have := h.2; rw [HO.out] at this; cases this⟩, kb, hkl, rfl, rfl⟩))⟩⟩⟩
          have HF : Hid (∀ W4, (((w9.setCell ⟨w.heap.size, 0, none⟩ (.int .i64 (1))).setCell ⟨w.heap.size, 1, none⟩ (.int .i64 (ls[kb].ro))).setCell ⟨w.heap.size, 2, none⟩ (.string (numV ls[kb] s))).setCell ⟨w.heap.size, 3, none⟩ (.int .i64 ((kb : Int))) = W4 → Blk W4 w.heap.size (D4 (1) (ls[kb].ro) (numV ls[kb] s) ((kb : Int))) 28 ∧ Below w.heap.size w W4) := finD K9.out.2 K9.out.1 (Nat.le_refl _) _ _ _ _
          have d0 := K9.out.2.cell 0
          have d1 := K9.out.2.cell 1
          have d2 := K9.out.2.cell 2
          have d3 := K9.out.2.cell 3
          have f0 := K9.out.2.frozen 0
          have f1 := K9.out.2.frozen 1
          have f2 := K9.out.2.frozen 2
          have f3 := K9.out.2.frozen 3
          simp at d0 d1 d2 d3
          clear K9
          go_wp2
          exact bodyPost_ret (v := .agg (D4 (1) (ls[kb].ro) (numV ls[kb] s) ((kb : Int)))) (results_cell_row rfl _ _ _ 28 _ (0, 0) _ rfl (HF.out _ rfl).1 Try.underlying28 rfl size28) rfl ⟨_, _, _, _, rfl, HS.out, (HF.out _ rfl).2⟩
      case neg =>
        have heb : ((s.size : Int) == mo) = false := by simpa using he
        have HE : Hid (¬ ((s.size : Int) = mo)) := he
        clear he
        go_wp2_with (fail)
        refine (of_c _ ls 1 kb s wr (HRR.out.below KJ.out.1) hkl hst0 hst1 (by omega) had).mono ?_
        rintro e w9 ⟨rfl, b9⟩
        have K9 : Hid (Below w.heap.size w w9 ∧ Blk w9 w.heap.size (D4 0 0 ⟨#[]⟩ 0) 28) := ⟨belowCall KJ.out.1 b9 KJ.out.1.size, KJ.out.2.below b9 KJ.out.2.lt⟩
        clear KJ b9
        have HS : Hid (DialS ls s (1, ls[kb].ro, numV ls[kb] s, (kb : Int))) := .inr ⟨⟨HOK.out, HDG.out⟩, .inr ⟨by rw [HFN.out]; omega, .inr ⟨kb, hkl, HB.out, .inr (.inr (.inr ⟨⟨by rw [HLE.out.1]; exact HL.out, by rw [HLE.out.2]; exact HM.out, fun h => HE.out (by have := h.1; rw [HLE.out.2] at this; exact this)⟩, kb, hkl, rfl, rfl⟩))⟩⟩⟩
        have HF : Hid (∀ W4, (((w9.setCell ⟨w.heap.size, 0, none⟩ (.int .i64 (1))).setCell ⟨w.heap.size, 1, none⟩ (.int .i64 (ls[kb].ro))).setCell ⟨w.heap.size, 2, none⟩ (.string (numV ls[kb] s))).setCell ⟨w.heap.size, 3, none⟩ (.int .i64 ((kb : Int))) = W4 → Blk W4 w.heap.size (D4 (1) (ls[kb].ro) (numV ls[kb] s) ((kb : Int))) 28 ∧ Below w.heap.size w W4) := finD K9.out.2 K9.out.1 (Nat.le_refl _) _ _ _ _
        have d0 := K9.out.2.cell 0
        have d1 := K9.out.2.cell 1
        have d2 := K9.out.2.cell 2
        have d3 := K9.out.2.cell 3
        have f0 := K9.out.2.frozen 0
        have f1 := K9.out.2.frozen 1
        have f2 := K9.out.2.frozen 2
        have f3 := K9.out.2.frozen 3
        simp at d0 d1 d2 d3
        clear K9
        go_wp2
        exact bodyPost_ret (v := .agg (D4 (1) (ls[kb].ro) (numV ls[kb] s) ((kb : Int)))) (results_cell_row rfl _ _ _ 28 _ (0, 0) _ rfl (HF.out _ rfl).1 Try.underlying28 rfl size28) rfl ⟨_, _, _, _, rfl, HS.out, (HF.out _ rfl).2⟩
    case pos =>
    have hjl : j < ls.length := by rw [HN.out]; exact hlt
    obtain ⟨b0, off, rfl, h4⟩ : ∃ b off, a = some ⟨b, off, none⟩ ∧ _ := by
      rcases H3.out with h | h
      · rw [h] at hjl; simp at hjl
      · exact h
    have H4 : Hid (∀ i (h : i < ls.length), w.cell? ⟨b0, off + i * 6, none⟩ = some (.string ls[i].pre) ∧ w.cell? ⟨b0, off + i * 6 + 1, none⟩ = some (.int .i64 ls[i].le) ∧ w.cell? ⟨b0, off + i * 6 + 2, none⟩ = some (.int .i64 ls[i].mo) ∧ w.cell? ⟨b0, off + i * 6 + 3, none⟩ = some (.int .i64 ls[i].ro) ∧ w.cell? ⟨b0, off + i * 6 + 4, none⟩ = some (.int .i64 ls[i].st) ∧ w.cell? ⟨b0, off + i * 6 + 5, none⟩ = some (.string ls[i].ad)) := h4
    have hc := h4 j hjl
    have hcb : b0 < w.heap.size := block_lt_of_cell hc.1
    obtain ⟨r, hr⟩ : ∃ r, ls[j] = r := ⟨_, rfl⟩
    rw [hr] at hc
    have hps := pre_size HOK.out j hjl
    have HLB' := lfi_succ (q := qB s) hjl
    have HLF' := lfi_succ (q := qF s) hjl
    rw [hr] at hps HLB' HLF'
    have HO1 : Hid ((ls.take (j + 1)).any (oB s) = ((ls.take j).any (oB s) || oB s r)) := by
      show (ls.take (j + 1)).any (oB s) = _
      rw [List.take_succ_eq_append_getElem hjl, List.any_append, hr]; simp
    obtain ⟨b, hbn⟩ : ∃ b, lfi (qB s) ls j = b := ⟨_, rfl⟩
    obtain ⟨f, hfn⟩ : ∃ f, lfi (qF s) ls j = f := ⟨_, rfl⟩
    obtain ⟨o, hon⟩ : ∃ o, (ls.take j).any (oB s) = o := ⟨_, rfl⟩
    rw [hbn] at HBA HLB' hbge
    rw [hfn] at HFA HLF' hfge
    rw [hon] at HO1
    rw [hbn, hfn, hon]
    have HLB : Hid (lfi (qB s) ls (j + 1) = if (begB s r.pre && (decide (b < 0) || decide (psz ls b < r.pre.size))) = true then (j : Int) else b) := HLB'
    have HLF : Hid (lfi (qF s) ls (j + 1) = if (qF s r && (decide (f < 0) || decide (psz ls f < r.pre.size))) = true then (j : Int) else f) := HLF'
    obtain ⟨p1, p2, p3, p4⟩ := hps
    obtain ⟨tin, htd⟩ : ∃ tin, decide (r.le ≤ (s.size : Int) ∧ (s.size : Int) ≤ r.mo) = tin := ⟨_, rfl⟩
    have HTD : Hid (decide (r.le ≤ (s.size : Int) ∧ (s.size : Int) ≤ r.mo) = tin) := htd
    have HTI : Hid ((decide (r.le ≤ (s.size : Int)) && decide ((s.size : Int) ≤ r.mo)) = tin) := by
      show (decide (r.le ≤ (s.size : Int)) && decide ((s.size : Int) ≤ r.mo)) = tin
      rw [← Bool.decide_and]; exact htd
    have e0 := (KJ.out.1.cell (p := ⟨b0, off + j * 6, none⟩) hcb).trans hc.1
    have e1 := (KJ.out.1.cell (p := ⟨b0, off + j * 6 + 1, none⟩) hcb).trans hc.2.1
    have e2 := (KJ.out.1.cell (p := ⟨b0, off + j * 6 + 2, none⟩) hcb).trans hc.2.2.1
    have e3 := (KJ.out.1.cell (p := ⟨b0, off + j * 6 + 3, none⟩) hcb).trans hc.2.2.2.1
    have e4 := (KJ.out.1.cell (p := ⟨b0, off + j * 6 + 4, none⟩) hcb).trans hc.2.2.2.2.1
    have e5 := (KJ.out.1.cell (p := ⟨b0, off + j * 6 + 5, none⟩) hcb).trans hc.2.2.2.2.2
    obtain ⟨u0, hu0⟩ : ∃ x, wr.alloc (Obj.cells (R6 r) 31) = x := ⟨_, rfl⟩
    have bU : Below wr.heap.size wr u0 := hu0 ▸ (Below.refl _ _).alloc (Nat.le_refl _) _
    have KU : Hid (Below w.heap.size w u0 ∧ Blk u0 w.heap.size (D4 0 0 ⟨#[]⟩ 0) 28) := ⟨belowCall KJ.out.1 bU KJ.out.1.size, KJ.out.2.below bU KJ.out.2.lt⟩
    have KB : Hid (Blk u0 wr.heap.size (R6 r) 31) := hu0 ▸ Blk.new _ _ _
    have HU0 : Hid (wr.alloc (Obj.cells (R6 r) 31) = u0) := hu0
    clear h4 hc hr HLB' HLF' hbn hfn hon htd hu0 bU KJ
    by_cases hsz : (s.size : Int) < (r.pre.size : Int)
    case pos =>
      go_wp2_with (fail)
      rw [HU0.out]
      clear HU0 e0 e1 e2 e3 e4 e5
      refine (l4Begins_c r.pre s u0 (by omega) (by omega)).mono ?_
      rintro e u0' ⟨rfl, hu⟩
      obtain rfl : u0 = u0' := hu.symm
      have hsn : s.size < r.pre.size := by omega
      have c0 : u0.cell? ⟨wr.heap.size, 0, none⟩ = some (.string r.pre) := KB.out.cell 0
      cases hob : begB r.pre s with
      | true =>
        have HO2 : Hid ((ls.take (j + 1)).any (oB s) = true) := by show (ls.take (j + 1)).any (oB s) = true; rw [HO1.out, oB, decide_eq_true hsn, hob]; simp
        go_wp2_with (fail)
        refine (l4Begins_c s r.pre u0 (by omega) (by omega)).mono ?_
        rintro e u0' ⟨rfl, hu⟩
        obtain rfl : u0 = u0' := hu.symm
        cases hbeg : begB s r.pre with
        | false =>
          have HQF : Hid (qF s r = false) := by show qF s r = false; rw [qF, hbeg, Bool.false_and]
          have HB2 : Hid (lfi (qB s) ls (j + 1) = b) := by
            show lfi (qB s) ls (j + 1) = b
            rw [HLB.out, hbeg, Bool.false_and, if_neg (by decide)]
          have HF2 : Hid (lfi (qF s) ls (j + 1) = f) := by
            show lfi (qF s) ls (j + 1) = f
            rw [HLF.out, HQF.out, Bool.false_and, if_neg (by decide)]
          clear HLB HLF
          go_wp2
          go_roundw
          case rel => exact ⟨j + 1, by omega, by go_num, by rw [HB2.out], by rw [HF2.out], by rw [HO2.out], KU.out⟩
          case measure => simp [intOf]; omega
        | true =>
        have z0 : ∀ W : Ov u0, W.wd.cell? ⟨wr.heap.size, 0, none⟩ = some (.string r.pre) := ov_cell (KB.out.cell 0)
        have z1 : ∀ W : Ov u0, W.wd.cell? ⟨wr.heap.size, 1, none⟩ = some (.int .i64 r.le) := ov_cell (KB.out.cell 1)
        have z2 : ∀ W : Ov u0, W.wd.cell? ⟨wr.heap.size, 2, none⟩ = some (.int .i64 r.mo) := ov_cell (KB.out.cell 2)
        have z3 : ∀ W : Ov u0, W.wd.cell? ⟨wr.heap.size, 3, none⟩ = some (.int .i64 r.ro) := ov_cell (KB.out.cell 3)
        have ne : Nonempty (Ov u0) := ⟨⟨_, Below.refl _ _⟩⟩
        have HC35 : Hid (∀ W : Ov u0, Calls Try.prog 35 #[.int .i64 (s.size : Int), .int .i64 r.le, .int .i64 r.mo] W.wd fun e w'' => e = .returned (.bool tin) ∧ ∃ W' : Ov u0, w'' = W'.wd) := fun W => ov_call ((l1In_c (s.size : Int) r.le r.mo W.wd).mono fun e w' ⟨h1, h2⟩ => ⟨by rw [h1, HTD.out], by rw [h2]; exact Below.refl _ _⟩)
        by_cases hb0 : b < 0
        case pos =>
          go_wp2
          refine region_over (by kernel_rfl) (by kernel_rfl) ?_
          repeat (go_big_quiet_step (fail))
          refine wpQuiet_nil ?_
          rintro _ ⟨W, rfl⟩
          obtain ⟨u1, hu1⟩ : ∃ x, W.wd = x := ⟨_, rfl⟩
          have KB' : Hid (Blk u1 wr.heap.size (R6 r) 31) := hu1 ▸ KB.out.below W.ok KB.out.lt
          have KU' : Hid (Below w.heap.size w u1 ∧ Blk u1 w.heap.size (D4 0 0 ⟨#[]⟩ 0) 28) := hu1 ▸ ⟨belowCall KU.out.1 W.ok KU.out.1.size, KU.out.2.below W.ok KU.out.2.lt⟩
          rw [hu1]
          clear hu1 W z0 z1 z2 z3 ne HC35 KB KU
          have KB := KB'
          have KU := KU'
          clear KB' KU'
          have z0 : ∀ W : Ov u1, W.wd.cell? ⟨wr.heap.size, 0, none⟩ = some (.string r.pre) := ov_cell (KB.out.cell 0)
          have z1 : ∀ W : Ov u1, W.wd.cell? ⟨wr.heap.size, 1, none⟩ = some (.int .i64 r.le) := ov_cell (KB.out.cell 1)
          have z2 : ∀ W : Ov u1, W.wd.cell? ⟨wr.heap.size, 2, none⟩ = some (.int .i64 r.mo) := ov_cell (KB.out.cell 2)
          have z3 : ∀ W : Ov u1, W.wd.cell? ⟨wr.heap.size, 3, none⟩ = some (.int .i64 r.ro) := ov_cell (KB.out.cell 3)
          have ne : Nonempty (Ov u1) := ⟨⟨_, Below.refl _ _⟩⟩
          have HC35 : Hid (∀ W : Ov u1, Calls Try.prog 35 #[.int .i64 (s.size : Int), .int .i64 r.le, .int .i64 r.mo] W.wd fun e w'' => e = .returned (.bool tin) ∧ ∃ W' : Ov u1, w'' = W'.wd) := fun W => ov_call ((l1In_c (s.size : Int) r.le r.mo W.wd).mono fun e w' ⟨h1, h2⟩ => ⟨by rw [h1, HTD.out], by rw [h2]; exact Below.refl _ _⟩)
          have zf : True := trivial
          by_cases hro : r.ro = 0
          case neg =>
            have hrb : (r.ro == 0) = false := by simpa using hro
            have HQF : Hid (qF s r = false) := by show qF s r = false; rw [qF, hrb, Bool.false_and, Bool.and_false]
            clear hro
            go_wp2
            refine region_over (by kernel_rfl) (by kernel_rfl) ?_
            repeat (go_big_quiet_step (first | (go_at_call 35; exact HC35.out _)))
            have HB2 : Hid (lfi (qB s) ls (j + 1) = (j : Int)) := by
              show lfi (qB s) ls (j + 1) = (j : Int)
              rw [HLB.out, hbeg, decide_eq_true hb0, Bool.true_or, Bool.true_and, if_pos rfl]
            have HF2 : Hid (lfi (qF s) ls (j + 1) = f) := by
              show lfi (qF s) ls (j + 1) = f
              rw [HLF.out, HQF.out, Bool.false_and, if_neg (by decide)]
            refine wpQuiet_nil ?_
            rintro _ ⟨W, rfl⟩
            have KN : Hid (Below w.heap.size w W.wd ∧ Blk W.wd w.heap.size (D4 0 0 ⟨#[]⟩ 0) 28) := ⟨belowCall KU.out.1 W.ok KU.out.1.size, KU.out.2.below W.ok KU.out.2.lt⟩
            clear z0 z1 z2 z3 zf HC35 HLB HLF HQF ne
            go_wp2
            go_roundw
            case rel => exact ⟨j + 1, by omega, by go_num, by rw [HB2.out], by rw [HF2.out], by rw [HO2.out], KN.out⟩
            case measure => simp [intOf]; omega
          case pos =>
          have hrb : (r.ro == 0) = true := by simpa using hro
          clear hro
          cases tin with
          | false =>
            have HQF : Hid (qF s r = false) := by show qF s r = false; rw [qF, HTI.out, Bool.and_false, Bool.and_false]
            go_wp2
            refine region_over (by kernel_rfl) (by kernel_rfl) ?_
            repeat (go_big_quiet_step (first | (go_at_call 35; exact HC35.out _)))
            have HB2 : Hid (lfi (qB s) ls (j + 1) = (j : Int)) := by
              show lfi (qB s) ls (j + 1) = (j : Int)
              rw [HLB.out, hbeg, decide_eq_true hb0, Bool.true_or, Bool.true_and, if_pos rfl]
            have HF2 : Hid (lfi (qF s) ls (j + 1) = f) := by
              show lfi (qF s) ls (j + 1) = f
              rw [HLF.out, HQF.out, Bool.false_and, if_neg (by decide)]
            refine wpQuiet_nil ?_
            rintro _ ⟨W, rfl⟩
            have KN : Hid (Below w.heap.size w W.wd ∧ Blk W.wd w.heap.size (D4 0 0 ⟨#[]⟩ 0) 28) := ⟨belowCall KU.out.1 W.ok KU.out.1.size, KU.out.2.below W.ok KU.out.2.lt⟩
            clear z0 z1 z2 z3 zf HC35 HLB HLF HQF ne
            go_wp2
            go_roundw
            case rel => exact ⟨j + 1, by omega, by go_num, by rw [HB2.out], by rw [HF2.out], by rw [HO2.out], KN.out⟩
            case measure => simp [intOf]; omega
          | true =>
          have HQF : Hid (qF s r = true) := by show qF s r = true; rw [qF, HTI.out, hrb, hbeg]; rfl
          by_cases hf0 : f < 0
          case pos =>
            go_wp2
            refine region_over (by kernel_rfl) (by kernel_rfl) ?_
            repeat (go_big_quiet_step (first | (go_at_call 35; exact HC35.out _)))
            have HB2 : Hid (lfi (qB s) ls (j + 1) = (j : Int)) := by
              show lfi (qB s) ls (j + 1) = (j : Int)
              rw [HLB.out, hbeg, decide_eq_true hb0, Bool.true_or, Bool.true_and, if_pos rfl]
            have HF2 : Hid (lfi (qF s) ls (j + 1) = (j : Int)) := by
              show lfi (qF s) ls (j + 1) = (j : Int)
              rw [HLF.out, HQF.out, decide_eq_true hf0, Bool.true_or, Bool.true_and, if_pos rfl]
            refine wpQuiet_nil ?_
            rintro _ ⟨W, rfl⟩
            have KN : Hid (Below w.heap.size w W.wd ∧ Blk W.wd w.heap.size (D4 0 0 ⟨#[]⟩ 0) 28) := ⟨belowCall KU.out.1 W.ok KU.out.1.size, KU.out.2.below W.ok KU.out.2.lt⟩
            clear z0 z1 z2 z3 zf HC35 HLB HLF HQF ne
            go_wp2
            go_roundw
            case rel => exact ⟨j + 1, by omega, by go_num, by rw [HB2.out], by rw [HF2.out], by rw [HO2.out], KN.out⟩
            case measure => simp [intOf]; omega
          case neg =>
          obtain ⟨kf, hkf, ekf, hkfj, -⟩ := HFA.out (by omega)
          subst ekf
          have HF0 : Hid (¬ ((kf : Int) < 0)) := hf0
          have hfd : ((kf : Int) < 0) = False := eq_false hf0
          clear hf0
          have hpf := psz_at hkf
          have zf : ∀ W : Ov u1, W.wd.cell? ⟨b0, off + kf * 6, none⟩ = some (.string ls[kf].pre) := ov_cell ((KU.out.1.cell (p := ⟨b0, off + kf * 6, none⟩) hcb).trans (H4.out kf hkf).1)
          obtain ⟨pf, hpfe⟩ : ∃ pf, ls[kf].pre = pf := ⟨_, rfl⟩
          rw [hpfe] at zf hpf
          have hkfI : (kf : Int) < (n : Int) := by have := HN.out; omega
          have hkfn : kf < n := by have := HN.out; omega
          by_cases hg : (pf.size : Int) < (r.pre.size : Int)
          case pos =>
            go_wp2
            refine region_over (by kernel_rfl) (by kernel_rfl) ?_
            repeat (go_big_quiet_step (first | (go_at_call 35; exact HC35.out _)))
            have HB2 : Hid (lfi (qB s) ls (j + 1) = (j : Int)) := by
              show lfi (qB s) ls (j + 1) = (j : Int)
              rw [HLB.out, hbeg, decide_eq_true hb0, Bool.true_or, Bool.true_and, if_pos rfl]
            have HF2 : Hid (lfi (qF s) ls (j + 1) = (j : Int)) := by
              show lfi (qF s) ls (j + 1) = (j : Int)
              rw [HLF.out, HQF.out, decide_eq_false (show ¬ ((kf : Int) < 0) by omega), decide_eq_true (show psz ls (kf : Int) < r.pre.size by rw [hpf]; omega), Bool.false_or, Bool.true_and, if_pos rfl]
            refine wpQuiet_nil ?_
            rintro _ ⟨W, rfl⟩
            have KN : Hid (Below w.heap.size w W.wd ∧ Blk W.wd w.heap.size (D4 0 0 ⟨#[]⟩ 0) 28) := ⟨belowCall KU.out.1 W.ok KU.out.1.size, KU.out.2.below W.ok KU.out.2.lt⟩
            clear z0 z1 z2 z3 zf HC35 HLB HLF HQF ne
            go_wp2
            go_roundw
            case rel => exact ⟨j + 1, by omega, by go_num, by rw [HB2.out], by rw [HF2.out], by rw [HO2.out], KN.out⟩
            case measure => simp [intOf]; omega
          case neg =>
            have HG : Hid (¬ ((pf.size : Int) < (r.pre.size : Int))) := hg
            have hgd : ((pf.size : Int) < (r.pre.size : Int)) = False := eq_false hg
            have hgn : (pf.size < r.pre.size) = False := eq_false (by omega)
            clear hg
            go_wp2
            refine region_over (by kernel_rfl) (by kernel_rfl) ?_
            repeat (go_big_quiet_step (first | (go_at_call 35; exact HC35.out _)))
            have HB2 : Hid (lfi (qB s) ls (j + 1) = (j : Int)) := by
              show lfi (qB s) ls (j + 1) = (j : Int)
              rw [HLB.out, hbeg, decide_eq_true hb0, Bool.true_or, Bool.true_and, if_pos rfl]
            have HF2 : Hid (lfi (qF s) ls (j + 1) = (kf : Int)) := by
              show lfi (qF s) ls (j + 1) = (kf : Int)
              rw [HLF.out, HQF.out, decide_eq_false (show ¬ ((kf : Int) < 0) by omega), decide_eq_false (show ¬ psz ls (kf : Int) < r.pre.size by rw [hpf]; have := hgn; simp at this; omega), Bool.false_or, Bool.true_and, if_neg (by decide)]
            refine wpQuiet_nil ?_
            rintro _ ⟨W, rfl⟩
            have KN : Hid (Below w.heap.size w W.wd ∧ Blk W.wd w.heap.size (D4 0 0 ⟨#[]⟩ 0) 28) := ⟨belowCall KU.out.1 W.ok KU.out.1.size, KU.out.2.below W.ok KU.out.2.lt⟩
            clear z0 z1 z2 z3 zf HC35 HLB HLF HQF ne
            go_wp2
            go_roundw
            case rel => exact ⟨j + 1, by omega, by go_num, by rw [HB2.out], by rw [HF2.out], by rw [HO2.out], KN.out⟩
            case measure => simp [intOf]; omega
        case neg =>
        obtain ⟨kb, hkb, ekb, hkbj, -⟩ := HBA.out (by omega)
        subst ekb
        have HB0 : Hid (¬ ((kb : Int) < 0)) := hb0
        have hbd : ((kb : Int) < 0) = False := eq_false hb0
        clear hb0
        have hpb := psz_at hkb
        have zb : ∀ W : Ov u0, W.wd.cell? ⟨b0, off + kb * 6, none⟩ = some (.string ls[kb].pre) := ov_cell ((KU.out.1.cell (p := ⟨b0, off + kb * 6, none⟩) hcb).trans (H4.out kb hkb).1)
        obtain ⟨pb, hpbe⟩ : ∃ pb, ls[kb].pre = pb := ⟨_, rfl⟩
        rw [hpbe] at zb hpb
        have hkbI : (kb : Int) < (n : Int) := by have := HN.out; omega
        have hkbn : kb < n := by have := HN.out; omega
        by_cases hgb : (pb.size : Int) < (r.pre.size : Int)
        case pos =>
          go_wp2
          refine region_over (by kernel_rfl) (by kernel_rfl) ?_
          repeat (go_big_quiet_step (fail))
          clear zb
          refine wpQuiet_nil ?_
          rintro _ ⟨W, rfl⟩
          obtain ⟨u1, hu1⟩ : ∃ x, W.wd = x := ⟨_, rfl⟩
          have KB' : Hid (Blk u1 wr.heap.size (R6 r) 31) := hu1 ▸ KB.out.below W.ok KB.out.lt
          have KU' : Hid (Below w.heap.size w u1 ∧ Blk u1 w.heap.size (D4 0 0 ⟨#[]⟩ 0) 28) := hu1 ▸ ⟨belowCall KU.out.1 W.ok KU.out.1.size, KU.out.2.below W.ok KU.out.2.lt⟩
          rw [hu1]
          clear hu1 W z0 z1 z2 z3 ne HC35 KB KU
          have KB := KB'
          have KU := KU'
          clear KB' KU'
          have z0 : ∀ W : Ov u1, W.wd.cell? ⟨wr.heap.size, 0, none⟩ = some (.string r.pre) := ov_cell (KB.out.cell 0)
          have z1 : ∀ W : Ov u1, W.wd.cell? ⟨wr.heap.size, 1, none⟩ = some (.int .i64 r.le) := ov_cell (KB.out.cell 1)
          have z2 : ∀ W : Ov u1, W.wd.cell? ⟨wr.heap.size, 2, none⟩ = some (.int .i64 r.mo) := ov_cell (KB.out.cell 2)
          have z3 : ∀ W : Ov u1, W.wd.cell? ⟨wr.heap.size, 3, none⟩ = some (.int .i64 r.ro) := ov_cell (KB.out.cell 3)
          have ne : Nonempty (Ov u1) := ⟨⟨_, Below.refl _ _⟩⟩
          have HC35 : Hid (∀ W : Ov u1, Calls Try.prog 35 #[.int .i64 (s.size : Int), .int .i64 r.le, .int .i64 r.mo] W.wd fun e w'' => e = .returned (.bool tin) ∧ ∃ W' : Ov u1, w'' = W'.wd) := fun W => ov_call ((l1In_c (s.size : Int) r.le r.mo W.wd).mono fun e w' ⟨h1, h2⟩ => ⟨by rw [h1, HTD.out], by rw [h2]; exact Below.refl _ _⟩)
          have zf : True := trivial
          by_cases hro : r.ro = 0
          case neg =>
            have hrb : (r.ro == 0) = false := by simpa using hro
            have HQF : Hid (qF s r = false) := by show qF s r = false; rw [qF, hrb, Bool.false_and, Bool.and_false]
            clear hro
            go_wp2
            refine region_over (by kernel_rfl) (by kernel_rfl) ?_
            repeat (go_big_quiet_step (first | (go_at_call 35; exact HC35.out _)))
            have HB2 : Hid (lfi (qB s) ls (j + 1) = (j : Int)) := by
              show lfi (qB s) ls (j + 1) = (j : Int)
              rw [HLB.out, hbeg, decide_eq_false (show ¬ ((kb : Int) < 0) by omega), decide_eq_true (show psz ls (kb : Int) < r.pre.size by rw [hpb]; omega), Bool.false_or, Bool.true_and, if_pos rfl]
            have HF2 : Hid (lfi (qF s) ls (j + 1) = f) := by
              show lfi (qF s) ls (j + 1) = f
              rw [HLF.out, HQF.out, Bool.false_and, if_neg (by decide)]
            refine wpQuiet_nil ?_
            rintro _ ⟨W, rfl⟩
            have KN : Hid (Below w.heap.size w W.wd ∧ Blk W.wd w.heap.size (D4 0 0 ⟨#[]⟩ 0) 28) := ⟨belowCall KU.out.1 W.ok KU.out.1.size, KU.out.2.below W.ok KU.out.2.lt⟩
            clear z0 z1 z2 z3 zf HC35 HLB HLF HQF ne
            go_wp2
            go_roundw
            case rel => exact ⟨j + 1, by omega, by go_num, by rw [HB2.out], by rw [HF2.out], by rw [HO2.out], KN.out⟩
            case measure => simp [intOf]; omega
          case pos =>
          have hrb : (r.ro == 0) = true := by simpa using hro
          clear hro
          cases tin with
          | false =>
            have HQF : Hid (qF s r = false) := by show qF s r = false; rw [qF, HTI.out, Bool.and_false, Bool.and_false]
            go_wp2
            refine region_over (by kernel_rfl) (by kernel_rfl) ?_
            repeat (go_big_quiet_step (first | (go_at_call 35; exact HC35.out _)))
            have HB2 : Hid (lfi (qB s) ls (j + 1) = (j : Int)) := by
              show lfi (qB s) ls (j + 1) = (j : Int)
              rw [HLB.out, hbeg, decide_eq_false (show ¬ ((kb : Int) < 0) by omega), decide_eq_true (show psz ls (kb : Int) < r.pre.size by rw [hpb]; omega), Bool.false_or, Bool.true_and, if_pos rfl]
            have HF2 : Hid (lfi (qF s) ls (j + 1) = f) := by
              show lfi (qF s) ls (j + 1) = f
              rw [HLF.out, HQF.out, Bool.false_and, if_neg (by decide)]
            refine wpQuiet_nil ?_
            rintro _ ⟨W, rfl⟩
            have KN : Hid (Below w.heap.size w W.wd ∧ Blk W.wd w.heap.size (D4 0 0 ⟨#[]⟩ 0) 28) := ⟨belowCall KU.out.1 W.ok KU.out.1.size, KU.out.2.below W.ok KU.out.2.lt⟩
            clear z0 z1 z2 z3 zf HC35 HLB HLF HQF ne
            go_wp2
            go_roundw
            case rel => exact ⟨j + 1, by omega, by go_num, by rw [HB2.out], by rw [HF2.out], by rw [HO2.out], KN.out⟩
            case measure => simp [intOf]; omega
          | true =>
          have HQF : Hid (qF s r = true) := by show qF s r = true; rw [qF, HTI.out, hrb, hbeg]; rfl
          by_cases hf0 : f < 0
          case pos =>
            go_wp2
            refine region_over (by kernel_rfl) (by kernel_rfl) ?_
            repeat (go_big_quiet_step (first | (go_at_call 35; exact HC35.out _)))
            have HB2 : Hid (lfi (qB s) ls (j + 1) = (j : Int)) := by
              show lfi (qB s) ls (j + 1) = (j : Int)
              rw [HLB.out, hbeg, decide_eq_false (show ¬ ((kb : Int) < 0) by omega), decide_eq_true (show psz ls (kb : Int) < r.pre.size by rw [hpb]; omega), Bool.false_or, Bool.true_and, if_pos rfl]
            have HF2 : Hid (lfi (qF s) ls (j + 1) = (j : Int)) := by
              show lfi (qF s) ls (j + 1) = (j : Int)
              rw [HLF.out, HQF.out, decide_eq_true hf0, Bool.true_or, Bool.true_and, if_pos rfl]
            refine wpQuiet_nil ?_
            rintro _ ⟨W, rfl⟩
            have KN : Hid (Below w.heap.size w W.wd ∧ Blk W.wd w.heap.size (D4 0 0 ⟨#[]⟩ 0) 28) := ⟨belowCall KU.out.1 W.ok KU.out.1.size, KU.out.2.below W.ok KU.out.2.lt⟩
            clear z0 z1 z2 z3 zf HC35 HLB HLF HQF ne
            go_wp2
            go_roundw
            case rel => exact ⟨j + 1, by omega, by go_num, by rw [HB2.out], by rw [HF2.out], by rw [HO2.out], KN.out⟩
            case measure => simp [intOf]; omega
          case neg =>
          obtain ⟨kf, hkf, ekf, hkfj, -⟩ := HFA.out (by omega)
          subst ekf
          have HF0 : Hid (¬ ((kf : Int) < 0)) := hf0
          have hfd : ((kf : Int) < 0) = False := eq_false hf0
          clear hf0
          have hpf := psz_at hkf
          have zf : ∀ W : Ov u1, W.wd.cell? ⟨b0, off + kf * 6, none⟩ = some (.string ls[kf].pre) := ov_cell ((KU.out.1.cell (p := ⟨b0, off + kf * 6, none⟩) hcb).trans (H4.out kf hkf).1)
          obtain ⟨pf, hpfe⟩ : ∃ pf, ls[kf].pre = pf := ⟨_, rfl⟩
          rw [hpfe] at zf hpf
          have hkfI : (kf : Int) < (n : Int) := by have := HN.out; omega
          have hkfn : kf < n := by have := HN.out; omega
          by_cases hg : (pf.size : Int) < (r.pre.size : Int)
          case pos =>
            go_wp2
            refine region_over (by kernel_rfl) (by kernel_rfl) ?_
            repeat (go_big_quiet_step (first | (go_at_call 35; exact HC35.out _)))
            have HB2 : Hid (lfi (qB s) ls (j + 1) = (j : Int)) := by
              show lfi (qB s) ls (j + 1) = (j : Int)
              rw [HLB.out, hbeg, decide_eq_false (show ¬ ((kb : Int) < 0) by omega), decide_eq_true (show psz ls (kb : Int) < r.pre.size by rw [hpb]; omega), Bool.false_or, Bool.true_and, if_pos rfl]
            have HF2 : Hid (lfi (qF s) ls (j + 1) = (j : Int)) := by
              show lfi (qF s) ls (j + 1) = (j : Int)
              rw [HLF.out, HQF.out, decide_eq_false (show ¬ ((kf : Int) < 0) by omega), decide_eq_true (show psz ls (kf : Int) < r.pre.size by rw [hpf]; omega), Bool.false_or, Bool.true_and, if_pos rfl]
            refine wpQuiet_nil ?_
            rintro _ ⟨W, rfl⟩
            have KN : Hid (Below w.heap.size w W.wd ∧ Blk W.wd w.heap.size (D4 0 0 ⟨#[]⟩ 0) 28) := ⟨belowCall KU.out.1 W.ok KU.out.1.size, KU.out.2.below W.ok KU.out.2.lt⟩
            clear z0 z1 z2 z3 zf HC35 HLB HLF HQF ne
            go_wp2
            go_roundw
            case rel => exact ⟨j + 1, by omega, by go_num, by rw [HB2.out], by rw [HF2.out], by rw [HO2.out], KN.out⟩
            case measure => simp [intOf]; omega
          case neg =>
            have HG : Hid (¬ ((pf.size : Int) < (r.pre.size : Int))) := hg
            have hgd : ((pf.size : Int) < (r.pre.size : Int)) = False := eq_false hg
            have hgn : (pf.size < r.pre.size) = False := eq_false (by omega)
            clear hg
            go_wp2
            refine region_over (by kernel_rfl) (by kernel_rfl) ?_
            repeat (go_big_quiet_step (first | (go_at_call 35; exact HC35.out _)))
            have HB2 : Hid (lfi (qB s) ls (j + 1) = (j : Int)) := by
              show lfi (qB s) ls (j + 1) = (j : Int)
              rw [HLB.out, hbeg, decide_eq_false (show ¬ ((kb : Int) < 0) by omega), decide_eq_true (show psz ls (kb : Int) < r.pre.size by rw [hpb]; omega), Bool.false_or, Bool.true_and, if_pos rfl]
            have HF2 : Hid (lfi (qF s) ls (j + 1) = (kf : Int)) := by
              show lfi (qF s) ls (j + 1) = (kf : Int)
              rw [HLF.out, HQF.out, decide_eq_false (show ¬ ((kf : Int) < 0) by omega), decide_eq_false (show ¬ psz ls (kf : Int) < r.pre.size by rw [hpf]; have := hgn; simp at this; omega), Bool.false_or, Bool.true_and, if_neg (by decide)]
            refine wpQuiet_nil ?_
            rintro _ ⟨W, rfl⟩
            have KN : Hid (Below w.heap.size w W.wd ∧ Blk W.wd w.heap.size (D4 0 0 ⟨#[]⟩ 0) 28) := ⟨belowCall KU.out.1 W.ok KU.out.1.size, KU.out.2.below W.ok KU.out.2.lt⟩
            clear z0 z1 z2 z3 zf HC35 HLB HLF HQF ne
            go_wp2
            go_roundw
            case rel => exact ⟨j + 1, by omega, by go_num, by rw [HB2.out], by rw [HF2.out], by rw [HO2.out], KN.out⟩
            case measure => simp [intOf]; omega
        case neg =>
          have HGB : Hid (¬ ((pb.size : Int) < (r.pre.size : Int))) := hgb
          have hgbd : ((pb.size : Int) < (r.pre.size : Int)) = False := eq_false hgb
          have hgbn : (pb.size < r.pre.size) = False := eq_false (by omega)
          clear hgb
          go_wp2
          refine region_over (by kernel_rfl) (by kernel_rfl) ?_
          repeat (go_big_quiet_step (fail))
          clear zb
          refine wpQuiet_nil ?_
          rintro _ ⟨W, rfl⟩
          obtain ⟨u1, hu1⟩ : ∃ x, W.wd = x := ⟨_, rfl⟩
          have KB' : Hid (Blk u1 wr.heap.size (R6 r) 31) := hu1 ▸ KB.out.below W.ok KB.out.lt
          have KU' : Hid (Below w.heap.size w u1 ∧ Blk u1 w.heap.size (D4 0 0 ⟨#[]⟩ 0) 28) := hu1 ▸ ⟨belowCall KU.out.1 W.ok KU.out.1.size, KU.out.2.below W.ok KU.out.2.lt⟩
          rw [hu1]
          clear hu1 W z0 z1 z2 z3 ne HC35 KB KU
          have KB := KB'
          have KU := KU'
          clear KB' KU'
          have z0 : ∀ W : Ov u1, W.wd.cell? ⟨wr.heap.size, 0, none⟩ = some (.string r.pre) := ov_cell (KB.out.cell 0)
          have z1 : ∀ W : Ov u1, W.wd.cell? ⟨wr.heap.size, 1, none⟩ = some (.int .i64 r.le) := ov_cell (KB.out.cell 1)
          have z2 : ∀ W : Ov u1, W.wd.cell? ⟨wr.heap.size, 2, none⟩ = some (.int .i64 r.mo) := ov_cell (KB.out.cell 2)
          have z3 : ∀ W : Ov u1, W.wd.cell? ⟨wr.heap.size, 3, none⟩ = some (.int .i64 r.ro) := ov_cell (KB.out.cell 3)
          have ne : Nonempty (Ov u1) := ⟨⟨_, Below.refl _ _⟩⟩
          have HC35 : Hid (∀ W : Ov u1, Calls Try.prog 35 #[.int .i64 (s.size : Int), .int .i64 r.le, .int .i64 r.mo] W.wd fun e w'' => e = .returned (.bool tin) ∧ ∃ W' : Ov u1, w'' = W'.wd) := fun W => ov_call ((l1In_c (s.size : Int) r.le r.mo W.wd).mono fun e w' ⟨h1, h2⟩ => ⟨by rw [h1, HTD.out], by rw [h2]; exact Below.refl _ _⟩)
          have zf : True := trivial
          by_cases hro : r.ro = 0
          case neg =>
            have hrb : (r.ro == 0) = false := by simpa using hro
            have HQF : Hid (qF s r = false) := by show qF s r = false; rw [qF, hrb, Bool.false_and, Bool.and_false]
            clear hro
            go_wp2
            refine region_over (by kernel_rfl) (by kernel_rfl) ?_
            repeat (go_big_quiet_step (first | (go_at_call 35; exact HC35.out _)))
            have HB2 : Hid (lfi (qB s) ls (j + 1) = (kb : Int)) := by
              show lfi (qB s) ls (j + 1) = (kb : Int)
              rw [HLB.out, hbeg, decide_eq_false (show ¬ ((kb : Int) < 0) by omega), decide_eq_false (show ¬ psz ls (kb : Int) < r.pre.size by rw [hpb]; have := hgbn; simp at this; omega), Bool.false_or, Bool.true_and, if_neg (by decide)]
            have HF2 : Hid (lfi (qF s) ls (j + 1) = f) := by
              show lfi (qF s) ls (j + 1) = f
              rw [HLF.out, HQF.out, Bool.false_and, if_neg (by decide)]
            refine wpQuiet_nil ?_
            rintro _ ⟨W, rfl⟩
            have KN : Hid (Below w.heap.size w W.wd ∧ Blk W.wd w.heap.size (D4 0 0 ⟨#[]⟩ 0) 28) := ⟨belowCall KU.out.1 W.ok KU.out.1.size, KU.out.2.below W.ok KU.out.2.lt⟩
            clear z0 z1 z2 z3 zf HC35 HLB HLF HQF ne
            go_wp2
            go_roundw
            case rel => exact ⟨j + 1, by omega, by go_num, by rw [HB2.out], by rw [HF2.out], by rw [HO2.out], KN.out⟩
            case measure => simp [intOf]; omega
          case pos =>
          have hrb : (r.ro == 0) = true := by simpa using hro
          clear hro
          cases tin with
          | false =>
            have HQF : Hid (qF s r = false) := by show qF s r = false; rw [qF, HTI.out, Bool.and_false, Bool.and_false]
            go_wp2
            refine region_over (by kernel_rfl) (by kernel_rfl) ?_
            repeat (go_big_quiet_step (first | (go_at_call 35; exact HC35.out _)))
            have HB2 : Hid (lfi (qB s) ls (j + 1) = (kb : Int)) := by
              show lfi (qB s) ls (j + 1) = (kb : Int)
              rw [HLB.out, hbeg, decide_eq_false (show ¬ ((kb : Int) < 0) by omega), decide_eq_false (show ¬ psz ls (kb : Int) < r.pre.size by rw [hpb]; have := hgbn; simp at this; omega), Bool.false_or, Bool.true_and, if_neg (by decide)]
            have HF2 : Hid (lfi (qF s) ls (j + 1) = f) := by
              show lfi (qF s) ls (j + 1) = f
              rw [HLF.out, HQF.out, Bool.false_and, if_neg (by decide)]
            refine wpQuiet_nil ?_
            rintro _ ⟨W, rfl⟩
            have KN : Hid (Below w.heap.size w W.wd ∧ Blk W.wd w.heap.size (D4 0 0 ⟨#[]⟩ 0) 28) := ⟨belowCall KU.out.1 W.ok KU.out.1.size, KU.out.2.below W.ok KU.out.2.lt⟩
            clear z0 z1 z2 z3 zf HC35 HLB HLF HQF ne
            go_wp2
            go_roundw
            case rel => exact ⟨j + 1, by omega, by go_num, by rw [HB2.out], by rw [HF2.out], by rw [HO2.out], KN.out⟩
            case measure => simp [intOf]; omega
          | true =>
          have HQF : Hid (qF s r = true) := by show qF s r = true; rw [qF, HTI.out, hrb, hbeg]; rfl
          by_cases hf0 : f < 0
          case pos =>
            go_wp2
            refine region_over (by kernel_rfl) (by kernel_rfl) ?_
            repeat (go_big_quiet_step (first | (go_at_call 35; exact HC35.out _)))
            have HB2 : Hid (lfi (qB s) ls (j + 1) = (kb : Int)) := by
              show lfi (qB s) ls (j + 1) = (kb : Int)
              rw [HLB.out, hbeg, decide_eq_false (show ¬ ((kb : Int) < 0) by omega), decide_eq_false (show ¬ psz ls (kb : Int) < r.pre.size by rw [hpb]; have := hgbn; simp at this; omega), Bool.false_or, Bool.true_and, if_neg (by decide)]
            have HF2 : Hid (lfi (qF s) ls (j + 1) = (j : Int)) := by
              show lfi (qF s) ls (j + 1) = (j : Int)
              rw [HLF.out, HQF.out, decide_eq_true hf0, Bool.true_or, Bool.true_and, if_pos rfl]
            refine wpQuiet_nil ?_
            rintro _ ⟨W, rfl⟩
            have KN : Hid (Below w.heap.size w W.wd ∧ Blk W.wd w.heap.size (D4 0 0 ⟨#[]⟩ 0) 28) := ⟨belowCall KU.out.1 W.ok KU.out.1.size, KU.out.2.below W.ok KU.out.2.lt⟩
            clear z0 z1 z2 z3 zf HC35 HLB HLF HQF ne
            go_wp2
            go_roundw
            case rel => exact ⟨j + 1, by omega, by go_num, by rw [HB2.out], by rw [HF2.out], by rw [HO2.out], KN.out⟩
            case measure => simp [intOf]; omega
          case neg =>
          obtain ⟨kf, hkf, ekf, hkfj, -⟩ := HFA.out (by omega)
          subst ekf
          have HF0 : Hid (¬ ((kf : Int) < 0)) := hf0
          have hfd : ((kf : Int) < 0) = False := eq_false hf0
          clear hf0
          have hpf := psz_at hkf
          have zf : ∀ W : Ov u1, W.wd.cell? ⟨b0, off + kf * 6, none⟩ = some (.string ls[kf].pre) := ov_cell ((KU.out.1.cell (p := ⟨b0, off + kf * 6, none⟩) hcb).trans (H4.out kf hkf).1)
          obtain ⟨pf, hpfe⟩ : ∃ pf, ls[kf].pre = pf := ⟨_, rfl⟩
          rw [hpfe] at zf hpf
          have hkfI : (kf : Int) < (n : Int) := by have := HN.out; omega
          have hkfn : kf < n := by have := HN.out; omega
          by_cases hg : (pf.size : Int) < (r.pre.size : Int)
          case pos =>
            go_wp2
            refine region_over (by kernel_rfl) (by kernel_rfl) ?_
            repeat (go_big_quiet_step (first | (go_at_call 35; exact HC35.out _)))
            have HB2 : Hid (lfi (qB s) ls (j + 1) = (kb : Int)) := by
              show lfi (qB s) ls (j + 1) = (kb : Int)
              rw [HLB.out, hbeg, decide_eq_false (show ¬ ((kb : Int) < 0) by omega), decide_eq_false (show ¬ psz ls (kb : Int) < r.pre.size by rw [hpb]; have := hgbn; simp at this; omega), Bool.false_or, Bool.true_and, if_neg (by decide)]
            have HF2 : Hid (lfi (qF s) ls (j + 1) = (j : Int)) := by
              show lfi (qF s) ls (j + 1) = (j : Int)
              rw [HLF.out, HQF.out, decide_eq_false (show ¬ ((kf : Int) < 0) by omega), decide_eq_true (show psz ls (kf : Int) < r.pre.size by rw [hpf]; omega), Bool.false_or, Bool.true_and, if_pos rfl]
            refine wpQuiet_nil ?_
            rintro _ ⟨W, rfl⟩
            have KN : Hid (Below w.heap.size w W.wd ∧ Blk W.wd w.heap.size (D4 0 0 ⟨#[]⟩ 0) 28) := ⟨belowCall KU.out.1 W.ok KU.out.1.size, KU.out.2.below W.ok KU.out.2.lt⟩
            clear z0 z1 z2 z3 zf HC35 HLB HLF HQF ne
            go_wp2
            go_roundw
            case rel => exact ⟨j + 1, by omega, by go_num, by rw [HB2.out], by rw [HF2.out], by rw [HO2.out], KN.out⟩
            case measure => simp [intOf]; omega
          case neg =>
            have HG : Hid (¬ ((pf.size : Int) < (r.pre.size : Int))) := hg
            have hgd : ((pf.size : Int) < (r.pre.size : Int)) = False := eq_false hg
            have hgn : (pf.size < r.pre.size) = False := eq_false (by omega)
            clear hg
            go_wp2
            refine region_over (by kernel_rfl) (by kernel_rfl) ?_
            repeat (go_big_quiet_step (first | (go_at_call 35; exact HC35.out _)))
            have HB2 : Hid (lfi (qB s) ls (j + 1) = (kb : Int)) := by
              show lfi (qB s) ls (j + 1) = (kb : Int)
              rw [HLB.out, hbeg, decide_eq_false (show ¬ ((kb : Int) < 0) by omega), decide_eq_false (show ¬ psz ls (kb : Int) < r.pre.size by rw [hpb]; have := hgbn; simp at this; omega), Bool.false_or, Bool.true_and, if_neg (by decide)]
            have HF2 : Hid (lfi (qF s) ls (j + 1) = (kf : Int)) := by
              show lfi (qF s) ls (j + 1) = (kf : Int)
              rw [HLF.out, HQF.out, decide_eq_false (show ¬ ((kf : Int) < 0) by omega), decide_eq_false (show ¬ psz ls (kf : Int) < r.pre.size by rw [hpf]; have := hgn; simp at this; omega), Bool.false_or, Bool.true_and, if_neg (by decide)]
            refine wpQuiet_nil ?_
            rintro _ ⟨W, rfl⟩
            have KN : Hid (Below w.heap.size w W.wd ∧ Blk W.wd w.heap.size (D4 0 0 ⟨#[]⟩ 0) 28) := ⟨belowCall KU.out.1 W.ok KU.out.1.size, KU.out.2.below W.ok KU.out.2.lt⟩
            clear z0 z1 z2 z3 zf HC35 HLB HLF HQF ne
            go_wp2
            go_roundw
            case rel => exact ⟨j + 1, by omega, by go_num, by rw [HB2.out], by rw [HF2.out], by rw [HO2.out], KN.out⟩
            case measure => simp [intOf]; omega
      | false =>
        have HO2 : Hid ((ls.take (j + 1)).any (oB s) = o) := by show (ls.take (j + 1)).any (oB s) = o; rw [HO1.out, oB, hob]; simp
        go_wp2_with (fail)
        refine (l4Begins_c s r.pre u0 (by omega) (by omega)).mono ?_
        rintro e u0' ⟨rfl, hu⟩
        obtain rfl : u0 = u0' := hu.symm
        cases hbeg : begB s r.pre with
        | false =>
          have HQF : Hid (qF s r = false) := by show qF s r = false; rw [qF, hbeg, Bool.false_and]
          have HB2 : Hid (lfi (qB s) ls (j + 1) = b) := by
            show lfi (qB s) ls (j + 1) = b
            rw [HLB.out, hbeg, Bool.false_and, if_neg (by decide)]
          have HF2 : Hid (lfi (qF s) ls (j + 1) = f) := by
            show lfi (qF s) ls (j + 1) = f
            rw [HLF.out, HQF.out, Bool.false_and, if_neg (by decide)]
          clear HLB HLF
          go_wp2
          go_roundw
          case rel => exact ⟨j + 1, by omega, by go_num, by rw [HB2.out], by rw [HF2.out], by rw [HO2.out], KU.out⟩
          case measure => simp [intOf]; omega
        | true =>
        have z0 : ∀ W : Ov u0, W.wd.cell? ⟨wr.heap.size, 0, none⟩ = some (.string r.pre) := ov_cell (KB.out.cell 0)
        have z1 : ∀ W : Ov u0, W.wd.cell? ⟨wr.heap.size, 1, none⟩ = some (.int .i64 r.le) := ov_cell (KB.out.cell 1)
        have z2 : ∀ W : Ov u0, W.wd.cell? ⟨wr.heap.size, 2, none⟩ = some (.int .i64 r.mo) := ov_cell (KB.out.cell 2)
        have z3 : ∀ W : Ov u0, W.wd.cell? ⟨wr.heap.size, 3, none⟩ = some (.int .i64 r.ro) := ov_cell (KB.out.cell 3)
        have ne : Nonempty (Ov u0) := ⟨⟨_, Below.refl _ _⟩⟩
        have HC35 : Hid (∀ W : Ov u0, Calls Try.prog 35 #[.int .i64 (s.size : Int), .int .i64 r.le, .int .i64 r.mo] W.wd fun e w'' => e = .returned (.bool tin) ∧ ∃ W' : Ov u0, w'' = W'.wd) := fun W => ov_call ((l1In_c (s.size : Int) r.le r.mo W.wd).mono fun e w' ⟨h1, h2⟩ => ⟨by rw [h1, HTD.out], by rw [h2]; exact Below.refl _ _⟩)
        by_cases hb0 : b < 0
        case pos =>
          go_wp2
          refine region_over (by kernel_rfl) (by kernel_rfl) ?_
          repeat (go_big_quiet_step (fail))
          refine wpQuiet_nil ?_
          rintro _ ⟨W, rfl⟩
          obtain ⟨u1, hu1⟩ : ∃ x, W.wd = x := ⟨_, rfl⟩
          have KB' : Hid (Blk u1 wr.heap.size (R6 r) 31) := hu1 ▸ KB.out.below W.ok KB.out.lt
          have KU' : Hid (Below w.heap.size w u1 ∧ Blk u1 w.heap.size (D4 0 0 ⟨#[]⟩ 0) 28) := hu1 ▸ ⟨belowCall KU.out.1 W.ok KU.out.1.size, KU.out.2.below W.ok KU.out.2.lt⟩
          rw [hu1]
          clear hu1 W z0 z1 z2 z3 ne HC35 KB KU
          have KB := KB'
          have KU := KU'
          clear KB' KU'
          have z0 : ∀ W : Ov u1, W.wd.cell? ⟨wr.heap.size, 0, none⟩ = some (.string r.pre) := ov_cell (KB.out.cell 0)
          have z1 : ∀ W : Ov u1, W.wd.cell? ⟨wr.heap.size, 1, none⟩ = some (.int .i64 r.le) := ov_cell (KB.out.cell 1)
          have z2 : ∀ W : Ov u1, W.wd.cell? ⟨wr.heap.size, 2, none⟩ = some (.int .i64 r.mo) := ov_cell (KB.out.cell 2)
          have z3 : ∀ W : Ov u1, W.wd.cell? ⟨wr.heap.size, 3, none⟩ = some (.int .i64 r.ro) := ov_cell (KB.out.cell 3)
          have ne : Nonempty (Ov u1) := ⟨⟨_, Below.refl _ _⟩⟩
          have HC35 : Hid (∀ W : Ov u1, Calls Try.prog 35 #[.int .i64 (s.size : Int), .int .i64 r.le, .int .i64 r.mo] W.wd fun e w'' => e = .returned (.bool tin) ∧ ∃ W' : Ov u1, w'' = W'.wd) := fun W => ov_call ((l1In_c (s.size : Int) r.le r.mo W.wd).mono fun e w' ⟨h1, h2⟩ => ⟨by rw [h1, HTD.out], by rw [h2]; exact Below.refl _ _⟩)
          have zf : True := trivial
          by_cases hro : r.ro = 0
          case neg =>
            have hrb : (r.ro == 0) = false := by simpa using hro
            have HQF : Hid (qF s r = false) := by show qF s r = false; rw [qF, hrb, Bool.false_and, Bool.and_false]
            clear hro
            go_wp2
            refine region_over (by kernel_rfl) (by kernel_rfl) ?_
            repeat (go_big_quiet_step (first | (go_at_call 35; exact HC35.out _)))
            have HB2 : Hid (lfi (qB s) ls (j + 1) = (j : Int)) := by
              show lfi (qB s) ls (j + 1) = (j : Int)
              rw [HLB.out, hbeg, decide_eq_true hb0, Bool.true_or, Bool.true_and, if_pos rfl]
            have HF2 : Hid (lfi (qF s) ls (j + 1) = f) := by
              show lfi (qF s) ls (j + 1) = f
              rw [HLF.out, HQF.out, Bool.false_and, if_neg (by decide)]
            refine wpQuiet_nil ?_
            rintro _ ⟨W, rfl⟩
            have KN : Hid (Below w.heap.size w W.wd ∧ Blk W.wd w.heap.size (D4 0 0 ⟨#[]⟩ 0) 28) := ⟨belowCall KU.out.1 W.ok KU.out.1.size, KU.out.2.below W.ok KU.out.2.lt⟩
            clear z0 z1 z2 z3 zf HC35 HLB HLF HQF ne
            go_wp2
            go_roundw
            case rel => exact ⟨j + 1, by omega, by go_num, by rw [HB2.out], by rw [HF2.out], by rw [HO2.out], KN.out⟩
            case measure => simp [intOf]; omega
          case pos =>
          have hrb : (r.ro == 0) = true := by simpa using hro
          clear hro
          cases tin with
          | false =>
            have HQF : Hid (qF s r = false) := by show qF s r = false; rw [qF, HTI.out, Bool.and_false, Bool.and_false]
            go_wp2
            refine region_over (by kernel_rfl) (by kernel_rfl) ?_
            repeat (go_big_quiet_step (first | (go_at_call 35; exact HC35.out _)))
            have HB2 : Hid (lfi (qB s) ls (j + 1) = (j : Int)) := by
              show lfi (qB s) ls (j + 1) = (j : Int)
              rw [HLB.out, hbeg, decide_eq_true hb0, Bool.true_or, Bool.true_and, if_pos rfl]
            have HF2 : Hid (lfi (qF s) ls (j + 1) = f) := by
              show lfi (qF s) ls (j + 1) = f
              rw [HLF.out, HQF.out, Bool.false_and, if_neg (by decide)]
            refine wpQuiet_nil ?_
            rintro _ ⟨W, rfl⟩
            have KN : Hid (Below w.heap.size w W.wd ∧ Blk W.wd w.heap.size (D4 0 0 ⟨#[]⟩ 0) 28) := ⟨belowCall KU.out.1 W.ok KU.out.1.size, KU.out.2.below W.ok KU.out.2.lt⟩
            clear z0 z1 z2 z3 zf HC35 HLB HLF HQF ne
            go_wp2
            go_roundw
            case rel => exact ⟨j + 1, by omega, by go_num, by rw [HB2.out], by rw [HF2.out], by rw [HO2.out], KN.out⟩
            case measure => simp [intOf]; omega
          | true =>
          have HQF : Hid (qF s r = true) := by show qF s r = true; rw [qF, HTI.out, hrb, hbeg]; rfl
          by_cases hf0 : f < 0
          case pos =>
            go_wp2
            refine region_over (by kernel_rfl) (by kernel_rfl) ?_
            repeat (go_big_quiet_step (first | (go_at_call 35; exact HC35.out _)))
            have HB2 : Hid (lfi (qB s) ls (j + 1) = (j : Int)) := by
              show lfi (qB s) ls (j + 1) = (j : Int)
              rw [HLB.out, hbeg, decide_eq_true hb0, Bool.true_or, Bool.true_and, if_pos rfl]
            have HF2 : Hid (lfi (qF s) ls (j + 1) = (j : Int)) := by
              show lfi (qF s) ls (j + 1) = (j : Int)
              rw [HLF.out, HQF.out, decide_eq_true hf0, Bool.true_or, Bool.true_and, if_pos rfl]
            refine wpQuiet_nil ?_
            rintro _ ⟨W, rfl⟩
            have KN : Hid (Below w.heap.size w W.wd ∧ Blk W.wd w.heap.size (D4 0 0 ⟨#[]⟩ 0) 28) := ⟨belowCall KU.out.1 W.ok KU.out.1.size, KU.out.2.below W.ok KU.out.2.lt⟩
            clear z0 z1 z2 z3 zf HC35 HLB HLF HQF ne
            go_wp2
            go_roundw
            case rel => exact ⟨j + 1, by omega, by go_num, by rw [HB2.out], by rw [HF2.out], by rw [HO2.out], KN.out⟩
            case measure => simp [intOf]; omega
          case neg =>
          obtain ⟨kf, hkf, ekf, hkfj, -⟩ := HFA.out (by omega)
          subst ekf
          have HF0 : Hid (¬ ((kf : Int) < 0)) := hf0
          have hfd : ((kf : Int) < 0) = False := eq_false hf0
          clear hf0
          have hpf := psz_at hkf
          have zf : ∀ W : Ov u1, W.wd.cell? ⟨b0, off + kf * 6, none⟩ = some (.string ls[kf].pre) := ov_cell ((KU.out.1.cell (p := ⟨b0, off + kf * 6, none⟩) hcb).trans (H4.out kf hkf).1)
          obtain ⟨pf, hpfe⟩ : ∃ pf, ls[kf].pre = pf := ⟨_, rfl⟩
          rw [hpfe] at zf hpf
          have hkfI : (kf : Int) < (n : Int) := by have := HN.out; omega
          have hkfn : kf < n := by have := HN.out; omega
          by_cases hg : (pf.size : Int) < (r.pre.size : Int)
          case pos =>
            go_wp2
            refine region_over (by kernel_rfl) (by kernel_rfl) ?_
            repeat (go_big_quiet_step (first | (go_at_call 35; exact HC35.out _)))
            have HB2 : Hid (lfi (qB s) ls (j + 1) = (j : Int)) := by
              show lfi (qB s) ls (j + 1) = (j : Int)
              rw [HLB.out, hbeg, decide_eq_true hb0, Bool.true_or, Bool.true_and, if_pos rfl]
            have HF2 : Hid (lfi (qF s) ls (j + 1) = (j : Int)) := by
              show lfi (qF s) ls (j + 1) = (j : Int)
              rw [HLF.out, HQF.out, decide_eq_false (show ¬ ((kf : Int) < 0) by omega), decide_eq_true (show psz ls (kf : Int) < r.pre.size by rw [hpf]; omega), Bool.false_or, Bool.true_and, if_pos rfl]
            refine wpQuiet_nil ?_
            rintro _ ⟨W, rfl⟩
            have KN : Hid (Below w.heap.size w W.wd ∧ Blk W.wd w.heap.size (D4 0 0 ⟨#[]⟩ 0) 28) := ⟨belowCall KU.out.1 W.ok KU.out.1.size, KU.out.2.below W.ok KU.out.2.lt⟩
            clear z0 z1 z2 z3 zf HC35 HLB HLF HQF ne
            go_wp2
            go_roundw
            case rel => exact ⟨j + 1, by omega, by go_num, by rw [HB2.out], by rw [HF2.out], by rw [HO2.out], KN.out⟩
            case measure => simp [intOf]; omega
          case neg =>
            have HG : Hid (¬ ((pf.size : Int) < (r.pre.size : Int))) := hg
            have hgd : ((pf.size : Int) < (r.pre.size : Int)) = False := eq_false hg
            have hgn : (pf.size < r.pre.size) = False := eq_false (by omega)
            clear hg
            go_wp2
            refine region_over (by kernel_rfl) (by kernel_rfl) ?_
            repeat (go_big_quiet_step (first | (go_at_call 35; exact HC35.out _)))
            have HB2 : Hid (lfi (qB s) ls (j + 1) = (j : Int)) := by
              show lfi (qB s) ls (j + 1) = (j : Int)
              rw [HLB.out, hbeg, decide_eq_true hb0, Bool.true_or, Bool.true_and, if_pos rfl]
            have HF2 : Hid (lfi (qF s) ls (j + 1) = (kf : Int)) := by
              show lfi (qF s) ls (j + 1) = (kf : Int)
              rw [HLF.out, HQF.out, decide_eq_false (show ¬ ((kf : Int) < 0) by omega), decide_eq_false (show ¬ psz ls (kf : Int) < r.pre.size by rw [hpf]; have := hgn; simp at this; omega), Bool.false_or, Bool.true_and, if_neg (by decide)]
            refine wpQuiet_nil ?_
            rintro _ ⟨W, rfl⟩
            have KN : Hid (Below w.heap.size w W.wd ∧ Blk W.wd w.heap.size (D4 0 0 ⟨#[]⟩ 0) 28) := ⟨belowCall KU.out.1 W.ok KU.out.1.size, KU.out.2.below W.ok KU.out.2.lt⟩
            clear z0 z1 z2 z3 zf HC35 HLB HLF HQF ne
            go_wp2
            go_roundw
            case rel => exact ⟨j + 1, by omega, by go_num, by rw [HB2.out], by rw [HF2.out], by rw [HO2.out], KN.out⟩
            case measure => simp [intOf]; omega
        case neg =>
        obtain ⟨kb, hkb, ekb, hkbj, -⟩ := HBA.out (by omega)
        subst ekb
        have HB0 : Hid (¬ ((kb : Int) < 0)) := hb0
        have hbd : ((kb : Int) < 0) = False := eq_false hb0
        clear hb0
        have hpb := psz_at hkb
        have zb : ∀ W : Ov u0, W.wd.cell? ⟨b0, off + kb * 6, none⟩ = some (.string ls[kb].pre) := ov_cell ((KU.out.1.cell (p := ⟨b0, off + kb * 6, none⟩) hcb).trans (H4.out kb hkb).1)
        obtain ⟨pb, hpbe⟩ : ∃ pb, ls[kb].pre = pb := ⟨_, rfl⟩
        rw [hpbe] at zb hpb
        have hkbI : (kb : Int) < (n : Int) := by have := HN.out; omega
        have hkbn : kb < n := by have := HN.out; omega
        by_cases hgb : (pb.size : Int) < (r.pre.size : Int)
        case pos =>
          go_wp2
          refine region_over (by kernel_rfl) (by kernel_rfl) ?_
          repeat (go_big_quiet_step (fail))
          clear zb
          refine wpQuiet_nil ?_
          rintro _ ⟨W, rfl⟩
          obtain ⟨u1, hu1⟩ : ∃ x, W.wd = x := ⟨_, rfl⟩
          have KB' : Hid (Blk u1 wr.heap.size (R6 r) 31) := hu1 ▸ KB.out.below W.ok KB.out.lt
          have KU' : Hid (Below w.heap.size w u1 ∧ Blk u1 w.heap.size (D4 0 0 ⟨#[]⟩ 0) 28) := hu1 ▸ ⟨belowCall KU.out.1 W.ok KU.out.1.size, KU.out.2.below W.ok KU.out.2.lt⟩
          rw [hu1]
          clear hu1 W z0 z1 z2 z3 ne HC35 KB KU
          have KB := KB'
          have KU := KU'
          clear KB' KU'
          have z0 : ∀ W : Ov u1, W.wd.cell? ⟨wr.heap.size, 0, none⟩ = some (.string r.pre) := ov_cell (KB.out.cell 0)
          have z1 : ∀ W : Ov u1, W.wd.cell? ⟨wr.heap.size, 1, none⟩ = some (.int .i64 r.le) := ov_cell (KB.out.cell 1)
          have z2 : ∀ W : Ov u1, W.wd.cell? ⟨wr.heap.size, 2, none⟩ = some (.int .i64 r.mo) := ov_cell (KB.out.cell 2)
          have z3 : ∀ W : Ov u1, W.wd.cell? ⟨wr.heap.size, 3, none⟩ = some (.int .i64 r.ro) := ov_cell (KB.out.cell 3)
          have ne : Nonempty (Ov u1) := ⟨⟨_, Below.refl _ _⟩⟩
          have HC35 : Hid (∀ W : Ov u1, Calls Try.prog 35 #[.int .i64 (s.size : Int), .int .i64 r.le, .int .i64 r.mo] W.wd fun e w'' => e = .returned (.bool tin) ∧ ∃ W' : Ov u1, w'' = W'.wd) := fun W => ov_call ((l1In_c (s.size : Int) r.le r.mo W.wd).mono fun e w' ⟨h1, h2⟩ => ⟨by rw [h1, HTD.out], by rw [h2]; exact Below.refl _ _⟩)
          have zf : True := trivial
          by_cases hro : r.ro = 0
          case neg =>
            have hrb : (r.ro == 0) = false := by simpa using hro
            have HQF : Hid (qF s r = false) := by show qF s r = false; rw [qF, hrb, Bool.false_and, Bool.and_false]
            clear hro
            go_wp2
            refine region_over (by kernel_rfl) (by kernel_rfl) ?_
            repeat (go_big_quiet_step (first | (go_at_call 35; exact HC35.out _)))
            have HB2 : Hid (lfi (qB s) ls (j + 1) = (j : Int)) := by
              show lfi (qB s) ls (j + 1) = (j : Int)
              rw [HLB.out, hbeg, decide_eq_false (show ¬ ((kb : Int) < 0) by omega), decide_eq_true (show psz ls (kb : Int) < r.pre.size by rw [hpb]; omega), Bool.false_or, Bool.true_and, if_pos rfl]
            have HF2 : Hid (lfi (qF s) ls (j + 1) = f) := by
              show lfi (qF s) ls (j + 1) = f
              rw [HLF.out, HQF.out, Bool.false_and, if_neg (by decide)]
            refine wpQuiet_nil ?_
            rintro _ ⟨W, rfl⟩
            have KN : Hid (Below w.heap.size w W.wd ∧ Blk W.wd w.heap.size (D4 0 0 ⟨#[]⟩ 0) 28) := ⟨belowCall KU.out.1 W.ok KU.out.1.size, KU.out.2.below W.ok KU.out.2.lt⟩
            clear z0 z1 z2 z3 zf HC35 HLB HLF HQF ne
            go_wp2
            go_roundw
            case rel => exact ⟨j + 1, by omega, by go_num, by rw [HB2.out], by rw [HF2.out], by rw [HO2.out], KN.out⟩
            case measure => simp [intOf]; omega
          case pos =>
          have hrb : (r.ro == 0) = true := by simpa using hro
          clear hro
          cases tin with
          | false =>
            have HQF : Hid (qF s r = false) := by show qF s r = false; rw [qF, HTI.out, Bool.and_false, Bool.and_false]
            go_wp2
            refine region_over (by kernel_rfl) (by kernel_rfl) ?_
            repeat (go_big_quiet_step (first | (go_at_call 35; exact HC35.out _)))
            have HB2 : Hid (lfi (qB s) ls (j + 1) = (j : Int)) := by
              show lfi (qB s) ls (j + 1) = (j : Int)
              rw [HLB.out, hbeg, decide_eq_false (show ¬ ((kb : Int) < 0) by omega), decide_eq_true (show psz ls (kb : Int) < r.pre.size by rw [hpb]; omega), Bool.false_or, Bool.true_and, if_pos rfl]
            have HF2 : Hid (lfi (qF s) ls (j + 1) = f) := by
              show lfi (qF s) ls (j + 1) = f
              rw [HLF.out, HQF.out, Bool.false_and, if_neg (by decide)]
            refine wpQuiet_nil ?_
            rintro _ ⟨W, rfl⟩
            have KN : Hid (Below w.heap.size w W.wd ∧ Blk W.wd w.heap.size (D4 0 0 ⟨#[]⟩ 0) 28) := ⟨belowCall KU.out.1 W.ok KU.out.1.size, KU.out.2.below W.ok KU.out.2.lt⟩
            clear z0 z1 z2 z3 zf HC35 HLB HLF HQF ne
            go_wp2
            go_roundw
            case rel => exact ⟨j + 1, by omega, by go_num, by rw [HB2.out], by rw [HF2.out], by rw [HO2.out], KN.out⟩
            case measure => simp [intOf]; omega
          | true =>
          have HQF : Hid (qF s r = true) := by show qF s r = true; rw [qF, HTI.out, hrb, hbeg]; rfl
          by_cases hf0 : f < 0
          case pos =>
            go_wp2
            refine region_over (by kernel_rfl) (by kernel_rfl) ?_
            repeat (go_big_quiet_step (first | (go_at_call 35; exact HC35.out _)))
            have HB2 : Hid (lfi (qB s) ls (j + 1) = (j : Int)) := by
              show lfi (qB s) ls (j + 1) = (j : Int)
              rw [HLB.out, hbeg, decide_eq_false (show ¬ ((kb : Int) < 0) by omega), decide_eq_true (show psz ls (kb : Int) < r.pre.size by rw [hpb]; omega), Bool.false_or, Bool.true_and, if_pos rfl]
            have HF2 : Hid (lfi (qF s) ls (j + 1) = (j : Int)) := by
              show lfi (qF s) ls (j + 1) = (j : Int)
              rw [HLF.out, HQF.out, decide_eq_true hf0, Bool.true_or, Bool.true_and, if_pos rfl]
            refine wpQuiet_nil ?_
            rintro _ ⟨W, rfl⟩
            have KN : Hid (Below w.heap.size w W.wd ∧ Blk W.wd w.heap.size (D4 0 0 ⟨#[]⟩ 0) 28) := ⟨belowCall KU.out.1 W.ok KU.out.1.size, KU.out.2.below W.ok KU.out.2.lt⟩
            clear z0 z1 z2 z3 zf HC35 HLB HLF HQF ne
            go_wp2
            go_roundw
            case rel => exact ⟨j + 1, by omega, by go_num, by rw [HB2.out], by rw [HF2.out], by rw [HO2.out], KN.out⟩
            case measure => simp [intOf]; omega
          case neg =>
          obtain ⟨kf, hkf, ekf, hkfj, -⟩ := HFA.out (by omega)
          subst ekf
          have HF0 : Hid (¬ ((kf : Int) < 0)) := hf0
          have hfd : ((kf : Int) < 0) = False := eq_false hf0
          clear hf0
          have hpf := psz_at hkf
          have zf : ∀ W : Ov u1, W.wd.cell? ⟨b0, off + kf * 6, none⟩ = some (.string ls[kf].pre) := ov_cell ((KU.out.1.cell (p := ⟨b0, off + kf * 6, none⟩) hcb).trans (H4.out kf hkf).1)
          obtain ⟨pf, hpfe⟩ : ∃ pf, ls[kf].pre = pf := ⟨_, rfl⟩
          rw [hpfe] at zf hpf
          have hkfI : (kf : Int) < (n : Int) := by have := HN.out; omega
          have hkfn : kf < n := by have := HN.out; omega
          by_cases hg : (pf.size : Int) < (r.pre.size : Int)
          case pos =>
            go_wp2
            refine region_over (by kernel_rfl) (by kernel_rfl) ?_
            repeat (go_big_quiet_step (first | (go_at_call 35; exact HC35.out _)))
            have HB2 : Hid (lfi (qB s) ls (j + 1) = (j : Int)) := by
              show lfi (qB s) ls (j + 1) = (j : Int)
              rw [HLB.out, hbeg, decide_eq_false (show ¬ ((kb : Int) < 0) by omega), decide_eq_true (show psz ls (kb : Int) < r.pre.size by rw [hpb]; omega), Bool.false_or, Bool.true_and, if_pos rfl]
            have HF2 : Hid (lfi (qF s) ls (j + 1) = (j : Int)) := by
              show lfi (qF s) ls (j + 1) = (j : Int)
              rw [HLF.out, HQF.out, decide_eq_false (show ¬ ((kf : Int) < 0) by omega), decide_eq_true (show psz ls (kf : Int) < r.pre.size by rw [hpf]; omega), Bool.false_or, Bool.true_and, if_pos rfl]
            refine wpQuiet_nil ?_
            rintro _ ⟨W, rfl⟩
            have KN : Hid (Below w.heap.size w W.wd ∧ Blk W.wd w.heap.size (D4 0 0 ⟨#[]⟩ 0) 28) := ⟨belowCall KU.out.1 W.ok KU.out.1.size, KU.out.2.below W.ok KU.out.2.lt⟩
            clear z0 z1 z2 z3 zf HC35 HLB HLF HQF ne
            go_wp2
            go_roundw
            case rel => exact ⟨j + 1, by omega, by go_num, by rw [HB2.out], by rw [HF2.out], by rw [HO2.out], KN.out⟩
            case measure => simp [intOf]; omega
          case neg =>
            have HG : Hid (¬ ((pf.size : Int) < (r.pre.size : Int))) := hg
            have hgd : ((pf.size : Int) < (r.pre.size : Int)) = False := eq_false hg
            have hgn : (pf.size < r.pre.size) = False := eq_false (by omega)
            clear hg
            go_wp2
            refine region_over (by kernel_rfl) (by kernel_rfl) ?_
            repeat (go_big_quiet_step (first | (go_at_call 35; exact HC35.out _)))
            have HB2 : Hid (lfi (qB s) ls (j + 1) = (j : Int)) := by
              show lfi (qB s) ls (j + 1) = (j : Int)
              rw [HLB.out, hbeg, decide_eq_false (show ¬ ((kb : Int) < 0) by omega), decide_eq_true (show psz ls (kb : Int) < r.pre.size by rw [hpb]; omega), Bool.false_or, Bool.true_and, if_pos rfl]
            have HF2 : Hid (lfi (qF s) ls (j + 1) = (kf : Int)) := by
              show lfi (qF s) ls (j + 1) = (kf : Int)
              rw [HLF.out, HQF.out, decide_eq_false (show ¬ ((kf : Int) < 0) by omega), decide_eq_false (show ¬ psz ls (kf : Int) < r.pre.size by rw [hpf]; have := hgn; simp at this; omega), Bool.false_or, Bool.true_and, if_neg (by decide)]
            refine wpQuiet_nil ?_
            rintro _ ⟨W, rfl⟩
            have KN : Hid (Below w.heap.size w W.wd ∧ Blk W.wd w.heap.size (D4 0 0 ⟨#[]⟩ 0) 28) := ⟨belowCall KU.out.1 W.ok KU.out.1.size, KU.out.2.below W.ok KU.out.2.lt⟩
            clear z0 z1 z2 z3 zf HC35 HLB HLF HQF ne
            go_wp2
            go_roundw
            case rel => exact ⟨j + 1, by omega, by go_num, by rw [HB2.out], by rw [HF2.out], by rw [HO2.out], KN.out⟩
            case measure => simp [intOf]; omega
        case neg =>
          have HGB : Hid (¬ ((pb.size : Int) < (r.pre.size : Int))) := hgb
          have hgbd : ((pb.size : Int) < (r.pre.size : Int)) = False := eq_false hgb
          have hgbn : (pb.size < r.pre.size) = False := eq_false (by omega)
          clear hgb
          go_wp2
          refine region_over (by kernel_rfl) (by kernel_rfl) ?_
          repeat (go_big_quiet_step (fail))
          clear zb
          refine wpQuiet_nil ?_
          rintro _ ⟨W, rfl⟩
          obtain ⟨u1, hu1⟩ : ∃ x, W.wd = x := ⟨_, rfl⟩
          have KB' : Hid (Blk u1 wr.heap.size (R6 r) 31) := hu1 ▸ KB.out.below W.ok KB.out.lt
          have KU' : Hid (Below w.heap.size w u1 ∧ Blk u1 w.heap.size (D4 0 0 ⟨#[]⟩ 0) 28) := hu1 ▸ ⟨belowCall KU.out.1 W.ok KU.out.1.size, KU.out.2.below W.ok KU.out.2.lt⟩
          rw [hu1]
          clear hu1 W z0 z1 z2 z3 ne HC35 KB KU
          have KB := KB'
          have KU := KU'
          clear KB' KU'
          have z0 : ∀ W : Ov u1, W.wd.cell? ⟨wr.heap.size, 0, none⟩ = some (.string r.pre) := ov_cell (KB.out.cell 0)
          have z1 : ∀ W : Ov u1, W.wd.cell? ⟨wr.heap.size, 1, none⟩ = some (.int .i64 r.le) := ov_cell (KB.out.cell 1)
          have z2 : ∀ W : Ov u1, W.wd.cell? ⟨wr.heap.size, 2, none⟩ = some (.int .i64 r.mo) := ov_cell (KB.out.cell 2)
          have z3 : ∀ W : Ov u1, W.wd.cell? ⟨wr.heap.size, 3, none⟩ = some (.int .i64 r.ro) := ov_cell (KB.out.cell 3)
          have ne : Nonempty (Ov u1) := ⟨⟨_, Below.refl _ _⟩⟩
          have HC35 : Hid (∀ W : Ov u1, Calls Try.prog 35 #[.int .i64 (s.size : Int), .int .i64 r.le, .int .i64 r.mo] W.wd fun e w'' => e = .returned (.bool tin) ∧ ∃ W' : Ov u1, w'' = W'.wd) := fun W => ov_call ((l1In_c (s.size : Int) r.le r.mo W.wd).mono fun e w' ⟨h1, h2⟩ => ⟨by rw [h1, HTD.out], by rw [h2]; exact Below.refl _ _⟩)
          have zf : True := trivial
          by_cases hro : r.ro = 0
          case neg =>
            have hrb : (r.ro == 0) = false := by simpa using hro
            have HQF : Hid (qF s r = false) := by show qF s r = false; rw [qF, hrb, Bool.false_and, Bool.and_false]
            clear hro
            go_wp2
            refine region_over (by kernel_rfl) (by kernel_rfl) ?_
            repeat (go_big_quiet_step (first | (go_at_call 35; exact HC35.out _)))
            have HB2 : Hid (lfi (qB s) ls (j + 1) = (kb : Int)) := by
              show lfi (qB s) ls (j + 1) = (kb : Int)
              rw [HLB.out, hbeg, decide_eq_false (show ¬ ((kb : Int) < 0) by omega), decide_eq_false (show ¬ psz ls (kb : Int) < r.pre.size by rw [hpb]; have := hgbn; simp at this; omega), Bool.false_or, Bool.true_and, if_neg (by decide)]
            have HF2 : Hid (lfi (qF s) ls (j + 1) = f) := by
              show lfi (qF s) ls (j + 1) = f
              rw [HLF.out, HQF.out, Bool.false_and, if_neg (by decide)]
            refine wpQuiet_nil ?_
            rintro _ ⟨W, rfl⟩
            have KN : Hid (Below w.heap.size w W.wd ∧ Blk W.wd w.heap.size (D4 0 0 ⟨#[]⟩ 0) 28) := ⟨belowCall KU.out.1 W.ok KU.out.1.size, KU.out.2.below W.ok KU.out.2.lt⟩
            clear z0 z1 z2 z3 zf HC35 HLB HLF HQF ne
            go_wp2
            go_roundw
            case rel => exact ⟨j + 1, by omega, by go_num, by rw [HB2.out], by rw [HF2.out], by rw [HO2.out], KN.out⟩
            case measure => simp [intOf]; omega
          case pos =>
          have hrb : (r.ro == 0) = true := by simpa using hro
          clear hro
          cases tin with
          | false =>
            have HQF : Hid (qF s r = false) := by show qF s r = false; rw [qF, HTI.out, Bool.and_false, Bool.and_false]
            go_wp2
            refine region_over (by kernel_rfl) (by kernel_rfl) ?_
            repeat (go_big_quiet_step (first | (go_at_call 35; exact HC35.out _)))
            have HB2 : Hid (lfi (qB s) ls (j + 1) = (kb : Int)) := by
              show lfi (qB s) ls (j + 1) = (kb : Int)
              rw [HLB.out, hbeg, decide_eq_false (show ¬ ((kb : Int) < 0) by omega), decide_eq_false (show ¬ psz ls (kb : Int) < r.pre.size by rw [hpb]; have := hgbn; simp at this; omega), Bool.false_or, Bool.true_and, if_neg (by decide)]
            have HF2 : Hid (lfi (qF s) ls (j + 1) = f) := by
              show lfi (qF s) ls (j + 1) = f
              rw [HLF.out, HQF.out, Bool.false_and, if_neg (by decide)]
            refine wpQuiet_nil ?_
            rintro _ ⟨W, rfl⟩
            have KN : Hid (Below w.heap.size w W.wd ∧ Blk W.wd w.heap.size (D4 0 0 ⟨#[]⟩ 0) 28) := ⟨belowCall KU.out.1 W.ok KU.out.1.size, KU.out.2.below W.ok KU.out.2.lt⟩
            clear z0 z1 z2 z3 zf HC35 HLB HLF HQF ne
            go_wp2
            go_roundw
            case rel => exact ⟨j + 1, by omega, by go_num, by rw [HB2.out], by rw [HF2.out], by rw [HO2.out], KN.out⟩
            case measure => simp [intOf]; omega
          | true =>
          have HQF : Hid (qF s r = true) := by show qF s r = true; rw [qF, HTI.out, hrb, hbeg]; rfl
          by_cases hf0 : f < 0
          case pos =>
            go_wp2
            refine region_over (by kernel_rfl) (by kernel_rfl) ?_
            repeat (go_big_quiet_step (first | (go_at_call 35; exact HC35.out _)))
            have HB2 : Hid (lfi (qB s) ls (j + 1) = (kb : Int)) := by
              show lfi (qB s) ls (j + 1) = (kb : Int)
              rw [HLB.out, hbeg, decide_eq_false (show ¬ ((kb : Int) < 0) by omega), decide_eq_false (show ¬ psz ls (kb : Int) < r.pre.size by rw [hpb]; have := hgbn; simp at this; omega), Bool.false_or, Bool.true_and, if_neg (by decide)]
            have HF2 : Hid (lfi (qF s) ls (j + 1) = (j : Int)) := by
              show lfi (qF s) ls (j + 1) = (j : Int)
              rw [HLF.out, HQF.out, decide_eq_true hf0, Bool.true_or, Bool.true_and, if_pos rfl]
            refine wpQuiet_nil ?_
            rintro _ ⟨W, rfl⟩
            have KN : Hid (Below w.heap.size w W.wd ∧ Blk W.wd w.heap.size (D4 0 0 ⟨#[]⟩ 0) 28) := ⟨belowCall KU.out.1 W.ok KU.out.1.size, KU.out.2.below W.ok KU.out.2.lt⟩
            clear z0 z1 z2 z3 zf HC35 HLB HLF HQF ne
            go_wp2
            go_roundw
            case rel => exact ⟨j + 1, by omega, by go_num, by rw [HB2.out], by rw [HF2.out], by rw [HO2.out], KN.out⟩
            case measure => simp [intOf]; omega
          case neg =>
          obtain ⟨kf, hkf, ekf, hkfj, -⟩ := HFA.out (by omega)
          subst ekf
          have HF0 : Hid (¬ ((kf : Int) < 0)) := hf0
          have hfd : ((kf : Int) < 0) = False := eq_false hf0
          clear hf0
          have hpf := psz_at hkf
          have zf : ∀ W : Ov u1, W.wd.cell? ⟨b0, off + kf * 6, none⟩ = some (.string ls[kf].pre) := ov_cell ((KU.out.1.cell (p := ⟨b0, off + kf * 6, none⟩) hcb).trans (H4.out kf hkf).1)
          obtain ⟨pf, hpfe⟩ : ∃ pf, ls[kf].pre = pf := ⟨_, rfl⟩
          rw [hpfe] at zf hpf
          have hkfI : (kf : Int) < (n : Int) := by have := HN.out; omega
          have hkfn : kf < n := by have := HN.out; omega
          by_cases hg : (pf.size : Int) < (r.pre.size : Int)
          case pos =>
            go_wp2
            refine region_over (by kernel_rfl) (by kernel_rfl) ?_
            repeat (go_big_quiet_step (first | (go_at_call 35; exact HC35.out _)))
            have HB2 : Hid (lfi (qB s) ls (j + 1) = (kb : Int)) := by
              show lfi (qB s) ls (j + 1) = (kb : Int)
              rw [HLB.out, hbeg, decide_eq_false (show ¬ ((kb : Int) < 0) by omega), decide_eq_false (show ¬ psz ls (kb : Int) < r.pre.size by rw [hpb]; have := hgbn; simp at this; omega), Bool.false_or, Bool.true_and, if_neg (by decide)]
            have HF2 : Hid (lfi (qF s) ls (j + 1) = (j : Int)) := by
              show lfi (qF s) ls (j + 1) = (j : Int)
              rw [HLF.out, HQF.out, decide_eq_false (show ¬ ((kf : Int) < 0) by omega), decide_eq_true (show psz ls (kf : Int) < r.pre.size by rw [hpf]; omega), Bool.false_or, Bool.true_and, if_pos rfl]
            refine wpQuiet_nil ?_
            rintro _ ⟨W, rfl⟩
            have KN : Hid (Below w.heap.size w W.wd ∧ Blk W.wd w.heap.size (D4 0 0 ⟨#[]⟩ 0) 28) := ⟨belowCall KU.out.1 W.ok KU.out.1.size, KU.out.2.below W.ok KU.out.2.lt⟩
            clear z0 z1 z2 z3 zf HC35 HLB HLF HQF ne
            go_wp2
            go_roundw
            case rel => exact ⟨j + 1, by omega, by go_num, by rw [HB2.out], by rw [HF2.out], by rw [HO2.out], KN.out⟩
            case measure => simp [intOf]; omega
          case neg =>
            have HG : Hid (¬ ((pf.size : Int) < (r.pre.size : Int))) := hg
            have hgd : ((pf.size : Int) < (r.pre.size : Int)) = False := eq_false hg
            have hgn : (pf.size < r.pre.size) = False := eq_false (by omega)
            clear hg
            go_wp2
            refine region_over (by kernel_rfl) (by kernel_rfl) ?_
            repeat (go_big_quiet_step (first | (go_at_call 35; exact HC35.out _)))
            have HB2 : Hid (lfi (qB s) ls (j + 1) = (kb : Int)) := by
              show lfi (qB s) ls (j + 1) = (kb : Int)
              rw [HLB.out, hbeg, decide_eq_false (show ¬ ((kb : Int) < 0) by omega), decide_eq_false (show ¬ psz ls (kb : Int) < r.pre.size by rw [hpb]; have := hgbn; simp at this; omega), Bool.false_or, Bool.true_and, if_neg (by decide)]
            have HF2 : Hid (lfi (qF s) ls (j + 1) = (kf : Int)) := by
              show lfi (qF s) ls (j + 1) = (kf : Int)
              rw [HLF.out, HQF.out, decide_eq_false (show ¬ ((kf : Int) < 0) by omega), decide_eq_false (show ¬ psz ls (kf : Int) < r.pre.size by rw [hpf]; have := hgn; simp at this; omega), Bool.false_or, Bool.true_and, if_neg (by decide)]
            refine wpQuiet_nil ?_
            rintro _ ⟨W, rfl⟩
            have KN : Hid (Below w.heap.size w W.wd ∧ Blk W.wd w.heap.size (D4 0 0 ⟨#[]⟩ 0) 28) := ⟨belowCall KU.out.1 W.ok KU.out.1.size, KU.out.2.below W.ok KU.out.2.lt⟩
            clear z0 z1 z2 z3 zf HC35 HLB HLF HQF ne
            go_wp2
            go_roundw
            case rel => exact ⟨j + 1, by omega, by go_num, by rw [HB2.out], by rw [HF2.out], by rw [HO2.out], KN.out⟩
            case measure => simp [intOf]; omega
    case neg =>
      have hsn : ¬ (s.size < r.pre.size) := by omega
      have HO2 : Hid ((ls.take (j + 1)).any (oB s) = o) := by show (ls.take (j + 1)).any (oB s) = o; rw [HO1.out, oB, decide_eq_false hsn]; simp
      have c0 : u0.cell? ⟨wr.heap.size, 0, none⟩ = some (.string r.pre) := KB.out.cell 0
      go_wp2_with (fail)
      rw [HU0.out]
      clear HU0 e0 e1 e2 e3 e4 e5
      refine (l4Begins_c s r.pre u0 (by omega) (by omega)).mono ?_
      rintro e u0' ⟨rfl, hu⟩
      obtain rfl : u0 = u0' := hu.symm
      cases hbeg : begB s r.pre with
      | false =>
        have HQF : Hid (qF s r = false) := by show qF s r = false; rw [qF, hbeg, Bool.false_and]
        have HB2 : Hid (lfi (qB s) ls (j + 1) = b) := by
          show lfi (qB s) ls (j + 1) = b
          rw [HLB.out, hbeg, Bool.false_and, if_neg (by decide)]
        have HF2 : Hid (lfi (qF s) ls (j + 1) = f) := by
          show lfi (qF s) ls (j + 1) = f
          rw [HLF.out, HQF.out, Bool.false_and, if_neg (by decide)]
        clear HLB HLF
        go_wp2
        go_roundw
        case rel => exact ⟨j + 1, by omega, by go_num, by rw [HB2.out], by rw [HF2.out], by rw [HO2.out], KU.out⟩
        case measure => simp [intOf]; omega
      | true =>
      have z0 : ∀ W : Ov u0, W.wd.cell? ⟨wr.heap.size, 0, none⟩ = some (.string r.pre) := ov_cell (KB.out.cell 0)
      have z1 : ∀ W : Ov u0, W.wd.cell? ⟨wr.heap.size, 1, none⟩ = some (.int .i64 r.le) := ov_cell (KB.out.cell 1)
      have z2 : ∀ W : Ov u0, W.wd.cell? ⟨wr.heap.size, 2, none⟩ = some (.int .i64 r.mo) := ov_cell (KB.out.cell 2)
      have z3 : ∀ W : Ov u0, W.wd.cell? ⟨wr.heap.size, 3, none⟩ = some (.int .i64 r.ro) := ov_cell (KB.out.cell 3)
      have ne : Nonempty (Ov u0) := ⟨⟨_, Below.refl _ _⟩⟩
      have HC35 : Hid (∀ W : Ov u0, Calls Try.prog 35 #[.int .i64 (s.size : Int), .int .i64 r.le, .int .i64 r.mo] W.wd fun e w'' => e = .returned (.bool tin) ∧ ∃ W' : Ov u0, w'' = W'.wd) := fun W => ov_call ((l1In_c (s.size : Int) r.le r.mo W.wd).mono fun e w' ⟨h1, h2⟩ => ⟨by rw [h1, HTD.out], by rw [h2]; exact Below.refl _ _⟩)
      by_cases hb0 : b < 0
      case pos =>
        go_wp2
        refine region_over (by kernel_rfl) (by kernel_rfl) ?_
        repeat (go_big_quiet_step (fail))
        refine wpQuiet_nil ?_
        rintro _ ⟨W, rfl⟩
        obtain ⟨u1, hu1⟩ : ∃ x, W.wd = x := ⟨_, rfl⟩
        have KB' : Hid (Blk u1 wr.heap.size (R6 r) 31) := hu1 ▸ KB.out.below W.ok KB.out.lt
        have KU' : Hid (Below w.heap.size w u1 ∧ Blk u1 w.heap.size (D4 0 0 ⟨#[]⟩ 0) 28) := hu1 ▸ ⟨belowCall KU.out.1 W.ok KU.out.1.size, KU.out.2.below W.ok KU.out.2.lt⟩
        rw [hu1]
        clear hu1 W z0 z1 z2 z3 ne HC35 KB KU
        have KB := KB'
        have KU := KU'
        clear KB' KU'
        have z0 : ∀ W : Ov u1, W.wd.cell? ⟨wr.heap.size, 0, none⟩ = some (.string r.pre) := ov_cell (KB.out.cell 0)
        have z1 : ∀ W : Ov u1, W.wd.cell? ⟨wr.heap.size, 1, none⟩ = some (.int .i64 r.le) := ov_cell (KB.out.cell 1)
        have z2 : ∀ W : Ov u1, W.wd.cell? ⟨wr.heap.size, 2, none⟩ = some (.int .i64 r.mo) := ov_cell (KB.out.cell 2)
        have z3 : ∀ W : Ov u1, W.wd.cell? ⟨wr.heap.size, 3, none⟩ = some (.int .i64 r.ro) := ov_cell (KB.out.cell 3)
        have ne : Nonempty (Ov u1) := ⟨⟨_, Below.refl _ _⟩⟩
        have HC35 : Hid (∀ W : Ov u1, Calls Try.prog 35 #[.int .i64 (s.size : Int), .int .i64 r.le, .int .i64 r.mo] W.wd fun e w'' => e = .returned (.bool tin) ∧ ∃ W' : Ov u1, w'' = W'.wd) := fun W => ov_call ((l1In_c (s.size : Int) r.le r.mo W.wd).mono fun e w' ⟨h1, h2⟩ => ⟨by rw [h1, HTD.out], by rw [h2]; exact Below.refl _ _⟩)
        have zf : True := trivial
        by_cases hro : r.ro = 0
        case neg =>
          have hrb : (r.ro == 0) = false := by simpa using hro
          have HQF : Hid (qF s r = false) := by show qF s r = false; rw [qF, hrb, Bool.false_and, Bool.and_false]
          clear hro
          go_wp2
          refine region_over (by kernel_rfl) (by kernel_rfl) ?_
          repeat (go_big_quiet_step (first | (go_at_call 35; exact HC35.out _)))
          have HB2 : Hid (lfi (qB s) ls (j + 1) = (j : Int)) := by
            show lfi (qB s) ls (j + 1) = (j : Int)
            rw [HLB.out, hbeg, decide_eq_true hb0, Bool.true_or, Bool.true_and, if_pos rfl]
          have HF2 : Hid (lfi (qF s) ls (j + 1) = f) := by
            show lfi (qF s) ls (j + 1) = f
            rw [HLF.out, HQF.out, Bool.false_and, if_neg (by decide)]
          refine wpQuiet_nil ?_
          rintro _ ⟨W, rfl⟩
          have KN : Hid (Below w.heap.size w W.wd ∧ Blk W.wd w.heap.size (D4 0 0 ⟨#[]⟩ 0) 28) := ⟨belowCall KU.out.1 W.ok KU.out.1.size, KU.out.2.below W.ok KU.out.2.lt⟩
          clear z0 z1 z2 z3 zf HC35 HLB HLF HQF ne
          go_wp2
          go_roundw
          case rel => exact ⟨j + 1, by omega, by go_num, by rw [HB2.out], by rw [HF2.out], by rw [HO2.out], KN.out⟩
          case measure => simp [intOf]; omega
        case pos =>
        have hrb : (r.ro == 0) = true := by simpa using hro
        clear hro
        cases tin with
        | false =>
          have HQF : Hid (qF s r = false) := by show qF s r = false; rw [qF, HTI.out, Bool.and_false, Bool.and_false]
          go_wp2
          refine region_over (by kernel_rfl) (by kernel_rfl) ?_
          repeat (go_big_quiet_step (first | (go_at_call 35; exact HC35.out _)))
          have HB2 : Hid (lfi (qB s) ls (j + 1) = (j : Int)) := by
            show lfi (qB s) ls (j + 1) = (j : Int)
            rw [HLB.out, hbeg, decide_eq_true hb0, Bool.true_or, Bool.true_and, if_pos rfl]
          have HF2 : Hid (lfi (qF s) ls (j + 1) = f) := by
            show lfi (qF s) ls (j + 1) = f
            rw [HLF.out, HQF.out, Bool.false_and, if_neg (by decide)]
          refine wpQuiet_nil ?_
          rintro _ ⟨W, rfl⟩
          have KN : Hid (Below w.heap.size w W.wd ∧ Blk W.wd w.heap.size (D4 0 0 ⟨#[]⟩ 0) 28) := ⟨belowCall KU.out.1 W.ok KU.out.1.size, KU.out.2.below W.ok KU.out.2.lt⟩
          clear z0 z1 z2 z3 zf HC35 HLB HLF HQF ne
          go_wp2
          go_roundw
          case rel => exact ⟨j + 1, by omega, by go_num, by rw [HB2.out], by rw [HF2.out], by rw [HO2.out], KN.out⟩
          case measure => simp [intOf]; omega
        | true =>
        have HQF : Hid (qF s r = true) := by show qF s r = true; rw [qF, HTI.out, hrb, hbeg]; rfl
        by_cases hf0 : f < 0
        case pos =>
          go_wp2
          refine region_over (by kernel_rfl) (by kernel_rfl) ?_
          repeat (go_big_quiet_step (first | (go_at_call 35; exact HC35.out _)))
          have HB2 : Hid (lfi (qB s) ls (j + 1) = (j : Int)) := by
            show lfi (qB s) ls (j + 1) = (j : Int)
            rw [HLB.out, hbeg, decide_eq_true hb0, Bool.true_or, Bool.true_and, if_pos rfl]
          have HF2 : Hid (lfi (qF s) ls (j + 1) = (j : Int)) := by
            show lfi (qF s) ls (j + 1) = (j : Int)
            rw [HLF.out, HQF.out, decide_eq_true hf0, Bool.true_or, Bool.true_and, if_pos rfl]
          refine wpQuiet_nil ?_
          rintro _ ⟨W, rfl⟩
          have KN : Hid (Below w.heap.size w W.wd ∧ Blk W.wd w.heap.size (D4 0 0 ⟨#[]⟩ 0) 28) := ⟨belowCall KU.out.1 W.ok KU.out.1.size, KU.out.2.below W.ok KU.out.2.lt⟩
          clear z0 z1 z2 z3 zf HC35 HLB HLF HQF ne
          go_wp2
          go_roundw
          case rel => exact ⟨j + 1, by omega, by go_num, by rw [HB2.out], by rw [HF2.out], by rw [HO2.out], KN.out⟩
          case measure => simp [intOf]; omega
        case neg =>
        obtain ⟨kf, hkf, ekf, hkfj, -⟩ := HFA.out (by omega)
        subst ekf
        have HF0 : Hid (¬ ((kf : Int) < 0)) := hf0
        have hfd : ((kf : Int) < 0) = False := eq_false hf0
        clear hf0
        have hpf := psz_at hkf
        have zf : ∀ W : Ov u1, W.wd.cell? ⟨b0, off + kf * 6, none⟩ = some (.string ls[kf].pre) := ov_cell ((KU.out.1.cell (p := ⟨b0, off + kf * 6, none⟩) hcb).trans (H4.out kf hkf).1)
        obtain ⟨pf, hpfe⟩ : ∃ pf, ls[kf].pre = pf := ⟨_, rfl⟩
        rw [hpfe] at zf hpf
        have hkfI : (kf : Int) < (n : Int) := by have := HN.out; omega
        have hkfn : kf < n := by have := HN.out; omega
        by_cases hg : (pf.size : Int) < (r.pre.size : Int)
        case pos =>
          go_wp2
          refine region_over (by kernel_rfl) (by kernel_rfl) ?_
          repeat (go_big_quiet_step (first | (go_at_call 35; exact HC35.out _)))
          have HB2 : Hid (lfi (qB s) ls (j + 1) = (j : Int)) := by
            show lfi (qB s) ls (j + 1) = (j : Int)
            rw [HLB.out, hbeg, decide_eq_true hb0, Bool.true_or, Bool.true_and, if_pos rfl]
          have HF2 : Hid (lfi (qF s) ls (j + 1) = (j : Int)) := by
            show lfi (qF s) ls (j + 1) = (j : Int)
            rw [HLF.out, HQF.out, decide_eq_false (show ¬ ((kf : Int) < 0) by omega), decide_eq_true (show psz ls (kf : Int) < r.pre.size by rw [hpf]; omega), Bool.false_or, Bool.true_and, if_pos rfl]
          refine wpQuiet_nil ?_
          rintro _ ⟨W, rfl⟩
          have KN : Hid (Below w.heap.size w W.wd ∧ Blk W.wd w.heap.size (D4 0 0 ⟨#[]⟩ 0) 28) := ⟨belowCall KU.out.1 W.ok KU.out.1.size, KU.out.2.below W.ok KU.out.2.lt⟩
          clear z0 z1 z2 z3 zf HC35 HLB HLF HQF ne
          go_wp2
          go_roundw
          case rel => exact ⟨j + 1, by omega, by go_num, by rw [HB2.out], by rw [HF2.out], by rw [HO2.out], KN.out⟩
          case measure => simp [intOf]; omega
        case neg =>
          have HG : Hid (¬ ((pf.size : Int) < (r.pre.size : Int))) := hg
          have hgd : ((pf.size : Int) < (r.pre.size : Int)) = False := eq_false hg
          have hgn : (pf.size < r.pre.size) = False := eq_false (by omega)
          clear hg
          go_wp2
          refine region_over (by kernel_rfl) (by kernel_rfl) ?_
          repeat (go_big_quiet_step (first | (go_at_call 35; exact HC35.out _)))
          have HB2 : Hid (lfi (qB s) ls (j + 1) = (j : Int)) := by
            show lfi (qB s) ls (j + 1) = (j : Int)
            rw [HLB.out, hbeg, decide_eq_true hb0, Bool.true_or, Bool.true_and, if_pos rfl]
          have HF2 : Hid (lfi (qF s) ls (j + 1) = (kf : Int)) := by
            show lfi (qF s) ls (j + 1) = (kf : Int)
            rw [HLF.out, HQF.out, decide_eq_false (show ¬ ((kf : Int) < 0) by omega), decide_eq_false (show ¬ psz ls (kf : Int) < r.pre.size by rw [hpf]; have := hgn; simp at this; omega), Bool.false_or, Bool.true_and, if_neg (by decide)]
          refine wpQuiet_nil ?_
          rintro _ ⟨W, rfl⟩
          have KN : Hid (Below w.heap.size w W.wd ∧ Blk W.wd w.heap.size (D4 0 0 ⟨#[]⟩ 0) 28) := ⟨belowCall KU.out.1 W.ok KU.out.1.size, KU.out.2.below W.ok KU.out.2.lt⟩
          clear z0 z1 z2 z3 zf HC35 HLB HLF HQF ne
          go_wp2
          go_roundw
          case rel => exact ⟨j + 1, by omega, by go_num, by rw [HB2.out], by rw [HF2.out], by rw [HO2.out], KN.out⟩
          case measure => simp [intOf]; omega
      case neg =>
      obtain ⟨kb, hkb, ekb, hkbj, -⟩ := HBA.out (by omega)
      subst ekb
      have HB0 : Hid (¬ ((kb : Int) < 0)) := hb0
      have hbd : ((kb : Int) < 0) = False := eq_false hb0
      clear hb0
      have hpb := psz_at hkb
      have zb : ∀ W : Ov u0, W.wd.cell? ⟨b0, off + kb * 6, none⟩ = some (.string ls[kb].pre) := ov_cell ((KU.out.1.cell (p := ⟨b0, off + kb * 6, none⟩) hcb).trans (H4.out kb hkb).1)
      obtain ⟨pb, hpbe⟩ : ∃ pb, ls[kb].pre = pb := ⟨_, rfl⟩
      rw [hpbe] at zb hpb
      have hkbI : (kb : Int) < (n : Int) := by have := HN.out; omega
      have hkbn : kb < n := by have := HN.out; omega
      by_cases hgb : (pb.size : Int) < (r.pre.size : Int)
      case pos =>
        go_wp2
        refine region_over (by kernel_rfl) (by kernel_rfl) ?_
        repeat (go_big_quiet_step (fail))
        clear zb
        refine wpQuiet_nil ?_
        rintro _ ⟨W, rfl⟩
        obtain ⟨u1, hu1⟩ : ∃ x, W.wd = x := ⟨_, rfl⟩
        have KB' : Hid (Blk u1 wr.heap.size (R6 r) 31) := hu1 ▸ KB.out.below W.ok KB.out.lt
        have KU' : Hid (Below w.heap.size w u1 ∧ Blk u1 w.heap.size (D4 0 0 ⟨#[]⟩ 0) 28) := hu1 ▸ ⟨belowCall KU.out.1 W.ok KU.out.1.size, KU.out.2.below W.ok KU.out.2.lt⟩
        rw [hu1]
        clear hu1 W z0 z1 z2 z3 ne HC35 KB KU
        have KB := KB'
        have KU := KU'
        clear KB' KU'
        have z0 : ∀ W : Ov u1, W.wd.cell? ⟨wr.heap.size, 0, none⟩ = some (.string r.pre) := ov_cell (KB.out.cell 0)
        have z1 : ∀ W : Ov u1, W.wd.cell? ⟨wr.heap.size, 1, none⟩ = some (.int .i64 r.le) := ov_cell (KB.out.cell 1)
        have z2 : ∀ W : Ov u1, W.wd.cell? ⟨wr.heap.size, 2, none⟩ = some (.int .i64 r.mo) := ov_cell (KB.out.cell 2)
        have z3 : ∀ W : Ov u1, W.wd.cell? ⟨wr.heap.size, 3, none⟩ = some (.int .i64 r.ro) := ov_cell (KB.out.cell 3)
        have ne : Nonempty (Ov u1) := ⟨⟨_, Below.refl _ _⟩⟩
        have HC35 : Hid (∀ W : Ov u1, Calls Try.prog 35 #[.int .i64 (s.size : Int), .int .i64 r.le, .int .i64 r.mo] W.wd fun e w'' => e = .returned (.bool tin) ∧ ∃ W' : Ov u1, w'' = W'.wd) := fun W => ov_call ((l1In_c (s.size : Int) r.le r.mo W.wd).mono fun e w' ⟨h1, h2⟩ => ⟨by rw [h1, HTD.out], by rw [h2]; exact Below.refl _ _⟩)
        have zf : True := trivial
        by_cases hro : r.ro = 0
        case neg =>
          have hrb : (r.ro == 0) = false := by simpa using hro
          have HQF : Hid (qF s r = false) := by show qF s r = false; rw [qF, hrb, Bool.false_and, Bool.and_false]
          clear hro
          go_wp2
          refine region_over (by kernel_rfl) (by kernel_rfl) ?_
          repeat (go_big_quiet_step (first | (go_at_call 35; exact HC35.out _)))
          have HB2 : Hid (lfi (qB s) ls (j + 1) = (j : Int)) := by
            show lfi (qB s) ls (j + 1) = (j : Int)
            rw [HLB.out, hbeg, decide_eq_false (show ¬ ((kb : Int) < 0) by omega), decide_eq_true (show psz ls (kb : Int) < r.pre.size by rw [hpb]; omega), Bool.false_or, Bool.true_and, if_pos rfl]
          have HF2 : Hid (lfi (qF s) ls (j + 1) = f) := by
            show lfi (qF s) ls (j + 1) = f
            rw [HLF.out, HQF.out, Bool.false_and, if_neg (by decide)]
          refine wpQuiet_nil ?_
          rintro _ ⟨W, rfl⟩
          have KN : Hid (Below w.heap.size w W.wd ∧ Blk W.wd w.heap.size (D4 0 0 ⟨#[]⟩ 0) 28) := ⟨belowCall KU.out.1 W.ok KU.out.1.size, KU.out.2.below W.ok KU.out.2.lt⟩
          clear z0 z1 z2 z3 zf HC35 HLB HLF HQF ne
          go_wp2
          go_roundw
          case rel => exact ⟨j + 1, by omega, by go_num, by rw [HB2.out], by rw [HF2.out], by rw [HO2.out], KN.out⟩
          case measure => simp [intOf]; omega
        case pos =>
        have hrb : (r.ro == 0) = true := by simpa using hro
        clear hro
        cases tin with
        | false =>
          have HQF : Hid (qF s r = false) := by show qF s r = false; rw [qF, HTI.out, Bool.and_false, Bool.and_false]
          go_wp2
          refine region_over (by kernel_rfl) (by kernel_rfl) ?_
          repeat (go_big_quiet_step (first | (go_at_call 35; exact HC35.out _)))
          have HB2 : Hid (lfi (qB s) ls (j + 1) = (j : Int)) := by
            show lfi (qB s) ls (j + 1) = (j : Int)
            rw [HLB.out, hbeg, decide_eq_false (show ¬ ((kb : Int) < 0) by omega), decide_eq_true (show psz ls (kb : Int) < r.pre.size by rw [hpb]; omega), Bool.false_or, Bool.true_and, if_pos rfl]
          have HF2 : Hid (lfi (qF s) ls (j + 1) = f) := by
            show lfi (qF s) ls (j + 1) = f
            rw [HLF.out, HQF.out, Bool.false_and, if_neg (by decide)]
          refine wpQuiet_nil ?_
          rintro _ ⟨W, rfl⟩
          have KN : Hid (Below w.heap.size w W.wd ∧ Blk W.wd w.heap.size (D4 0 0 ⟨#[]⟩ 0) 28) := ⟨belowCall KU.out.1 W.ok KU.out.1.size, KU.out.2.below W.ok KU.out.2.lt⟩
          clear z0 z1 z2 z3 zf HC35 HLB HLF HQF ne
          go_wp2
          go_roundw
          case rel => exact ⟨j + 1, by omega, by go_num, by rw [HB2.out], by rw [HF2.out], by rw [HO2.out], KN.out⟩
          case measure => simp [intOf]; omega
        | true =>
        have HQF : Hid (qF s r = true) := by show qF s r = true; rw [qF, HTI.out, hrb, hbeg]; rfl
        by_cases hf0 : f < 0
        case pos =>
          go_wp2
          refine region_over (by kernel_rfl) (by kernel_rfl) ?_
          repeat (go_big_quiet_step (first | (go_at_call 35; exact HC35.out _)))
          have HB2 : Hid (lfi (qB s) ls (j + 1) = (j : Int)) := by
            show lfi (qB s) ls (j + 1) = (j : Int)
            rw [HLB.out, hbeg, decide_eq_false (show ¬ ((kb : Int) < 0) by omega), decide_eq_true (show psz ls (kb : Int) < r.pre.size by rw [hpb]; omega), Bool.false_or, Bool.true_and, if_pos rfl]
          have HF2 : Hid (lfi (qF s) ls (j + 1) = (j : Int)) := by
            show lfi (qF s) ls (j + 1) = (j : Int)
            rw [HLF.out, HQF.out, decide_eq_true hf0, Bool.true_or, Bool.true_and, if_pos rfl]
          refine wpQuiet_nil ?_
          rintro _ ⟨W, rfl⟩
          have KN : Hid (Below w.heap.size w W.wd ∧ Blk W.wd w.heap.size (D4 0 0 ⟨#[]⟩ 0) 28) := ⟨belowCall KU.out.1 W.ok KU.out.1.size, KU.out.2.below W.ok KU.out.2.lt⟩
          clear z0 z1 z2 z3 zf HC35 HLB HLF HQF ne
          go_wp2
          go_roundw
          case rel => exact ⟨j + 1, by omega, by go_num, by rw [HB2.out], by rw [HF2.out], by rw [HO2.out], KN.out⟩
          case measure => simp [intOf]; omega
        case neg =>
        obtain ⟨kf, hkf, ekf, hkfj, -⟩ := HFA.out (by omega)
        subst ekf
        have HF0 : Hid (¬ ((kf : Int) < 0)) := hf0
        have hfd : ((kf : Int) < 0) = False := eq_false hf0
        clear hf0
        have hpf := psz_at hkf
        have zf : ∀ W : Ov u1, W.wd.cell? ⟨b0, off + kf * 6, none⟩ = some (.string ls[kf].pre) := ov_cell ((KU.out.1.cell (p := ⟨b0, off + kf * 6, none⟩) hcb).trans (H4.out kf hkf).1)
        obtain ⟨pf, hpfe⟩ : ∃ pf, ls[kf].pre = pf := ⟨_, rfl⟩
        rw [hpfe] at zf hpf
        have hkfI : (kf : Int) < (n : Int) := by have := HN.out; omega
        have hkfn : kf < n := by have := HN.out; omega
        by_cases hg : (pf.size : Int) < (r.pre.size : Int)
        case pos =>
          go_wp2
          refine region_over (by kernel_rfl) (by kernel_rfl) ?_
          repeat (go_big_quiet_step (first | (go_at_call 35; exact HC35.out _)))
          have HB2 : Hid (lfi (qB s) ls (j + 1) = (j : Int)) := by
            show lfi (qB s) ls (j + 1) = (j : Int)
            rw [HLB.out, hbeg, decide_eq_false (show ¬ ((kb : Int) < 0) by omega), decide_eq_true (show psz ls (kb : Int) < r.pre.size by rw [hpb]; omega), Bool.false_or, Bool.true_and, if_pos rfl]
          have HF2 : Hid (lfi (qF s) ls (j + 1) = (j : Int)) := by
            show lfi (qF s) ls (j + 1) = (j : Int)
            rw [HLF.out, HQF.out, decide_eq_false (show ¬ ((kf : Int) < 0) by omega), decide_eq_true (show psz ls (kf : Int) < r.pre.size by rw [hpf]; omega), Bool.false_or, Bool.true_and, if_pos rfl]
          refine wpQuiet_nil ?_
          rintro _ ⟨W, rfl⟩
          have KN : Hid (Below w.heap.size w W.wd ∧ Blk W.wd w.heap.size (D4 0 0 ⟨#[]⟩ 0) 28) := ⟨belowCall KU.out.1 W.ok KU.out.1.size, KU.out.2.below W.ok KU.out.2.lt⟩
          clear z0 z1 z2 z3 zf HC35 HLB HLF HQF ne
          go_wp2
          go_roundw
          case rel => exact ⟨j + 1, by omega, by go_num, by rw [HB2.out], by rw [HF2.out], by rw [HO2.out], KN.out⟩
          case measure => simp [intOf]; omega
        case neg =>
          have HG : Hid (¬ ((pf.size : Int) < (r.pre.size : Int))) := hg
          have hgd : ((pf.size : Int) < (r.pre.size : Int)) = False := eq_false hg
          have hgn : (pf.size < r.pre.size) = False := eq_false (by omega)
          clear hg
          go_wp2
          refine region_over (by kernel_rfl) (by kernel_rfl) ?_
          repeat (go_big_quiet_step (first | (go_at_call 35; exact HC35.out _)))
          have HB2 : Hid (lfi (qB s) ls (j + 1) = (j : Int)) := by
            show lfi (qB s) ls (j + 1) = (j : Int)
            rw [HLB.out, hbeg, decide_eq_false (show ¬ ((kb : Int) < 0) by omega), decide_eq_true (show psz ls (kb : Int) < r.pre.size by rw [hpb]; omega), Bool.false_or, Bool.true_and, if_pos rfl]
          have HF2 : Hid (lfi (qF s) ls (j + 1) = (kf : Int)) := by
            show lfi (qF s) ls (j + 1) = (kf : Int)
            rw [HLF.out, HQF.out, decide_eq_false (show ¬ ((kf : Int) < 0) by omega), decide_eq_false (show ¬ psz ls (kf : Int) < r.pre.size by rw [hpf]; have := hgn; simp at this; omega), Bool.false_or, Bool.true_and, if_neg (by decide)]
          refine wpQuiet_nil ?_
          rintro _ ⟨W, rfl⟩
          have KN : Hid (Below w.heap.size w W.wd ∧ Blk W.wd w.heap.size (D4 0 0 ⟨#[]⟩ 0) 28) := ⟨belowCall KU.out.1 W.ok KU.out.1.size, KU.out.2.below W.ok KU.out.2.lt⟩
          clear z0 z1 z2 z3 zf HC35 HLB HLF HQF ne
          go_wp2
          go_roundw
          case rel => exact ⟨j + 1, by omega, by go_num, by rw [HB2.out], by rw [HF2.out], by rw [HO2.out], KN.out⟩
          case measure => simp [intOf]; omega
      case neg =>
        have HGB : Hid (¬ ((pb.size : Int) < (r.pre.size : Int))) := hgb
        have hgbd : ((pb.size : Int) < (r.pre.size : Int)) = False := eq_false hgb
        have hgbn : (pb.size < r.pre.size) = False := eq_false (by omega)
        clear hgb
        go_wp2
        refine region_over (by kernel_rfl) (by kernel_rfl) ?_
        repeat (go_big_quiet_step (fail))
        clear zb
        refine wpQuiet_nil ?_
        rintro _ ⟨W, rfl⟩
        obtain ⟨u1, hu1⟩ : ∃ x, W.wd = x := ⟨_, rfl⟩
        have KB' : Hid (Blk u1 wr.heap.size (R6 r) 31) := hu1 ▸ KB.out.below W.ok KB.out.lt
        have KU' : Hid (Below w.heap.size w u1 ∧ Blk u1 w.heap.size (D4 0 0 ⟨#[]⟩ 0) 28) := hu1 ▸ ⟨belowCall KU.out.1 W.ok KU.out.1.size, KU.out.2.below W.ok KU.out.2.lt⟩
        rw [hu1]
        clear hu1 W z0 z1 z2 z3 ne HC35 KB KU
        have KB := KB'
        have KU := KU'
        clear KB' KU'
        have z0 : ∀ W : Ov u1, W.wd.cell? ⟨wr.heap.size, 0, none⟩ = some (.string r.pre) := ov_cell (KB.out.cell 0)
        have z1 : ∀ W : Ov u1, W.wd.cell? ⟨wr.heap.size, 1, none⟩ = some (.int .i64 r.le) := ov_cell (KB.out.cell 1)
        have z2 : ∀ W : Ov u1, W.wd.cell? ⟨wr.heap.size, 2, none⟩ = some (.int .i64 r.mo) := ov_cell (KB.out.cell 2)
        have z3 : ∀ W : Ov u1, W.wd.cell? ⟨wr.heap.size, 3, none⟩ = some (.int .i64 r.ro) := ov_cell (KB.out.cell 3)
        have ne : Nonempty (Ov u1) := ⟨⟨_, Below.refl _ _⟩⟩
        have HC35 : Hid (∀ W : Ov u1, Calls Try.prog 35 #[.int .i64 (s.size : Int), .int .i64 r.le, .int .i64 r.mo] W.wd fun e w'' => e = .returned (.bool tin) ∧ ∃ W' : Ov u1, w'' = W'.wd) := fun W => ov_call ((l1In_c (s.size : Int) r.le r.mo W.wd).mono fun e w' ⟨h1, h2⟩ => ⟨by rw [h1, HTD.out], by rw [h2]; exact Below.refl _ _⟩)
        have zf : True := trivial
        by_cases hro : r.ro = 0
        case neg =>
          have hrb : (r.ro == 0) = false := by simpa using hro
          have HQF : Hid (qF s r = false) := by show qF s r = false; rw [qF, hrb, Bool.false_and, Bool.and_false]
          clear hro
          go_wp2
          refine region_over (by kernel_rfl) (by kernel_rfl) ?_
          repeat (go_big_quiet_step (first | (go_at_call 35; exact HC35.out _)))
          have HB2 : Hid (lfi (qB s) ls (j + 1) = (kb : Int)) := by
            show lfi (qB s) ls (j + 1) = (kb : Int)
            rw [HLB.out, hbeg, decide_eq_false (show ¬ ((kb : Int) < 0) by omega), decide_eq_false (show ¬ psz ls (kb : Int) < r.pre.size by rw [hpb]; have := hgbn; simp at this; omega), Bool.false_or, Bool.true_and, if_neg (by decide)]
          have HF2 : Hid (lfi (qF s) ls (j + 1) = f) := by
            show lfi (qF s) ls (j + 1) = f
            rw [HLF.out, HQF.out, Bool.false_and, if_neg (by decide)]
          refine wpQuiet_nil ?_
          rintro _ ⟨W, rfl⟩
          have KN : Hid (Below w.heap.size w W.wd ∧ Blk W.wd w.heap.size (D4 0 0 ⟨#[]⟩ 0) 28) := ⟨belowCall KU.out.1 W.ok KU.out.1.size, KU.out.2.below W.ok KU.out.2.lt⟩
          clear z0 z1 z2 z3 zf HC35 HLB HLF HQF ne
          go_wp2
          go_roundw
          case rel => exact ⟨j + 1, by omega, by go_num, by rw [HB2.out], by rw [HF2.out], by rw [HO2.out], KN.out⟩
          case measure => simp [intOf]; omega
        case pos =>
        have hrb : (r.ro == 0) = true := by simpa using hro
        clear hro
        cases tin with
        | false =>
          have HQF : Hid (qF s r = false) := by show qF s r = false; rw [qF, HTI.out, Bool.and_false, Bool.and_false]
          go_wp2
          refine region_over (by kernel_rfl) (by kernel_rfl) ?_
          repeat (go_big_quiet_step (first | (go_at_call 35; exact HC35.out _)))
          have HB2 : Hid (lfi (qB s) ls (j + 1) = (kb : Int)) := by
            show lfi (qB s) ls (j + 1) = (kb : Int)
            rw [HLB.out, hbeg, decide_eq_false (show ¬ ((kb : Int) < 0) by omega), decide_eq_false (show ¬ psz ls (kb : Int) < r.pre.size by rw [hpb]; have := hgbn; simp at this; omega), Bool.false_or, Bool.true_and, if_neg (by decide)]
          have HF2 : Hid (lfi (qF s) ls (j + 1) = f) := by
            show lfi (qF s) ls (j + 1) = f
            rw [HLF.out, HQF.out, Bool.false_and, if_neg (by decide)]
          refine wpQuiet_nil ?_
          rintro _ ⟨W, rfl⟩
          have KN : Hid (Below w.heap.size w W.wd ∧ Blk W.wd w.heap.size (D4 0 0 ⟨#[]⟩ 0) 28) := ⟨belowCall KU.out.1 W.ok KU.out.1.size, KU.out.2.below W.ok KU.out.2.lt⟩
          clear z0 z1 z2 z3 zf HC35 HLB HLF HQF ne
          go_wp2
          go_roundw
          case rel => exact ⟨j + 1, by omega, by go_num, by rw [HB2.out], by rw [HF2.out], by rw [HO2.out], KN.out⟩
          case measure => simp [intOf]; omega
        | true =>
        have HQF : Hid (qF s r = true) := by show qF s r = true; rw [qF, HTI.out, hrb, hbeg]; rfl
        by_cases hf0 : f < 0
        case pos =>
          go_wp2
          refine region_over (by kernel_rfl) (by kernel_rfl) ?_
          repeat (go_big_quiet_step (first | (go_at_call 35; exact HC35.out _)))
          have HB2 : Hid (lfi (qB s) ls (j + 1) = (kb : Int)) := by
            show lfi (qB s) ls (j + 1) = (kb : Int)
            rw [HLB.out, hbeg, decide_eq_false (show ¬ ((kb : Int) < 0) by omega), decide_eq_false (show ¬ psz ls (kb : Int) < r.pre.size by rw [hpb]; have := hgbn; simp at this; omega), Bool.false_or, Bool.true_and, if_neg (by decide)]
          have HF2 : Hid (lfi (qF s) ls (j + 1) = (j : Int)) := by
            show lfi (qF s) ls (j + 1) = (j : Int)
            rw [HLF.out, HQF.out, decide_eq_true hf0, Bool.true_or, Bool.true_and, if_pos rfl]
          refine wpQuiet_nil ?_
          rintro _ ⟨W, rfl⟩
          have KN : Hid (Below w.heap.size w W.wd ∧ Blk W.wd w.heap.size (D4 0 0 ⟨#[]⟩ 0) 28) := ⟨belowCall KU.out.1 W.ok KU.out.1.size, KU.out.2.below W.ok KU.out.2.lt⟩
          clear z0 z1 z2 z3 zf HC35 HLB HLF HQF ne
          go_wp2
          go_roundw
          case rel => exact ⟨j + 1, by omega, by go_num, by rw [HB2.out], by rw [HF2.out], by rw [HO2.out], KN.out⟩
          case measure => simp [intOf]; omega
        case neg =>
        obtain ⟨kf, hkf, ekf, hkfj, -⟩ := HFA.out (by omega)
        subst ekf
        have HF0 : Hid (¬ ((kf : Int) < 0)) := hf0
        have hfd : ((kf : Int) < 0) = False := eq_false hf0
        clear hf0
        have hpf := psz_at hkf
        have zf : ∀ W : Ov u1, W.wd.cell? ⟨b0, off + kf * 6, none⟩ = some (.string ls[kf].pre) := ov_cell ((KU.out.1.cell (p := ⟨b0, off + kf * 6, none⟩) hcb).trans (H4.out kf hkf).1)
        obtain ⟨pf, hpfe⟩ : ∃ pf, ls[kf].pre = pf := ⟨_, rfl⟩
        rw [hpfe] at zf hpf
        have hkfI : (kf : Int) < (n : Int) := by have := HN.out; omega
        have hkfn : kf < n := by have := HN.out; omega
        by_cases hg : (pf.size : Int) < (r.pre.size : Int)
        case pos =>
          go_wp2
          refine region_over (by kernel_rfl) (by kernel_rfl) ?_
          repeat (go_big_quiet_step (first | (go_at_call 35; exact HC35.out _)))
          have HB2 : Hid (lfi (qB s) ls (j + 1) = (kb : Int)) := by
            show lfi (qB s) ls (j + 1) = (kb : Int)
            rw [HLB.out, hbeg, decide_eq_false (show ¬ ((kb : Int) < 0) by omega), decide_eq_false (show ¬ psz ls (kb : Int) < r.pre.size by rw [hpb]; have := hgbn; simp at this; omega), Bool.false_or, Bool.true_and, if_neg (by decide)]
          have HF2 : Hid (lfi (qF s) ls (j + 1) = (j : Int)) := by
            show lfi (qF s) ls (j + 1) = (j : Int)
            rw [HLF.out, HQF.out, decide_eq_false (show ¬ ((kf : Int) < 0) by omega), decide_eq_true (show psz ls (kf : Int) < r.pre.size by rw [hpf]; omega), Bool.false_or, Bool.true_and, if_pos rfl]
          refine wpQuiet_nil ?_
          rintro _ ⟨W, rfl⟩
          have KN : Hid (Below w.heap.size w W.wd ∧ Blk W.wd w.heap.size (D4 0 0 ⟨#[]⟩ 0) 28) := ⟨belowCall KU.out.1 W.ok KU.out.1.size, KU.out.2.below W.ok KU.out.2.lt⟩
          clear z0 z1 z2 z3 zf HC35 HLB HLF HQF ne
          go_wp2
          go_roundw
          case rel => exact ⟨j + 1, by omega, by go_num, by rw [HB2.out], by rw [HF2.out], by rw [HO2.out], KN.out⟩
          case measure => simp [intOf]; omega
        case neg =>
          have HG : Hid (¬ ((pf.size : Int) < (r.pre.size : Int))) := hg
          have hgd : ((pf.size : Int) < (r.pre.size : Int)) = False := eq_false hg
          have hgn : (pf.size < r.pre.size) = False := eq_false (by omega)
          clear hg
          go_wp2
          refine region_over (by kernel_rfl) (by kernel_rfl) ?_
          repeat (go_big_quiet_step (first | (go_at_call 35; exact HC35.out _)))
          have HB2 : Hid (lfi (qB s) ls (j + 1) = (kb : Int)) := by
            show lfi (qB s) ls (j + 1) = (kb : Int)
            rw [HLB.out, hbeg, decide_eq_false (show ¬ ((kb : Int) < 0) by omega), decide_eq_false (show ¬ psz ls (kb : Int) < r.pre.size by rw [hpb]; have := hgbn; simp at this; omega), Bool.false_or, Bool.true_and, if_neg (by decide)]
          have HF2 : Hid (lfi (qF s) ls (j + 1) = (kf : Int)) := by
            show lfi (qF s) ls (j + 1) = (kf : Int)
            rw [HLF.out, HQF.out, decide_eq_false (show ¬ ((kf : Int) < 0) by omega), decide_eq_false (show ¬ psz ls (kf : Int) < r.pre.size by rw [hpf]; have := hgn; simp at this; omega), Bool.false_or, Bool.true_and, if_neg (by decide)]
          refine wpQuiet_nil ?_
          rintro _ ⟨W, rfl⟩
          have KN : Hid (Below w.heap.size w W.wd ∧ Blk W.wd w.heap.size (D4 0 0 ⟨#[]⟩ 0) 28) := ⟨belowCall KU.out.1 W.ok KU.out.1.size, KU.out.2.below W.ok KU.out.2.lt⟩
          clear z0 z1 z2 z3 zf HC35 HLB HLF HQF ne
          go_wp2
          go_roundw
          case rel => exact ⟨j + 1, by omega, by go_num, by rw [HB2.out], by rw [HF2.out], by rw [HO2.out], KN.out⟩
          case measure => simp [intOf]; omega
end Go.Proofs.Ytpnglbnebkggkaa

/- The program's Dial; no condition. -/
import Derived.Test.YtpnglbnebkggkaaDiD
namespace Go.Proofs.Ytpnglbnebkggkaa
open Go.RowKit Go.ChangeShapes Go.WideShapes Go.ChangeAt
set_option linter.unusedVariables false
set_option linter.unusedSimpArgs false
set_option maxRecDepth 8000
theorem dialled_c (v : Value) (ls : Rls) (s : ByteArray) (o : Value) (w : World) (h : Rr w v ls) (hok : RsOk ls) (hd : DgOk s) (ho : OutS ls s o) : Calls Try.prog 30 #[v, .string s, o] w (DiR ls s w) := by
  have hs : s.size ≤ 1048576 := by have := hd.1; omega
  have hru : ∀ k (hk : k < ls.length), 0 ≤ ls[k].st ∧ ls[k].st ≤ ls[k].le ∧ ls[k].ad.size ≤ 1048576 := fun k hk => by
    have hru := (hok.2 k hk hk).1
    exact ⟨hru.2.2.2.2.2.1.1, hru.2.2.2.2.2.1.2, by have := hru.2.2.2.2.2.2.1.1; omega⟩
  rcases ho with ⟨h0, rfl⟩ | ⟨h0, ⟨hb, rfl⟩ | ⟨k, hk, hb, ⟨hm, rfl⟩ | ⟨hl, rfl⟩ | ⟨hl, rfl⟩ | ⟨hl, rfl⟩⟩⟩
  · obtain ⟨k, hk, e, -, hq⟩ := lfi_at (q := qF s) ls.length (Nat.le_refl _) h0
    have := hru k hk
    simp only [qF, Bool.and_eq_true, decide_eq_true_eq] at hq
    rw [e]
    refine (dial93_c v ls s k w h hk this.1 (by omega) hs this.2.2).mono ?_
    rintro e' w' ⟨rfl, b⟩
    exact ⟨_, _, _, _, rfl, .inr ⟨⟨hok, hd⟩, .inl ⟨h0, k, hk, e, rfl⟩⟩, b⟩
  · by_cases ha : ls.any (oB s) = true
    · rw [if_pos ha]
      refine (dial72_c v ls s w h).mono ?_
      rintro e' w' ⟨rfl, b⟩
      exact ⟨_, _, _, _, rfl, .inr ⟨⟨hok, hd⟩, .inr ⟨h0, .inl ⟨hb, by rw [if_pos ha]; rfl⟩⟩⟩, b⟩
    · rw [if_neg ha]
      refine (dial98_c v ls s w h).mono ?_
      rintro e' w' ⟨rfl, b⟩
      exact ⟨_, _, _, _, rfl, .inr ⟨⟨hok, hd⟩, .inr ⟨h0, .inl ⟨hb, by rw [if_neg ha]; rfl⟩⟩⟩, b⟩
  · by_cases ha : ls.any (oB s) = true
    · rw [if_pos ha]
      refine (dial72_c v ls s w h).mono ?_
      rintro e' w' ⟨rfl, b⟩
      exact ⟨_, _, _, _, rfl, .inr ⟨⟨hok, hd⟩, .inr ⟨h0, .inr ⟨k, hk, hb, .inr (.inl ⟨hm, by rw [if_pos ha]; rfl⟩)⟩⟩⟩, b⟩
    · rw [if_neg ha]
      refine (dial98_c v ls s w h).mono ?_
      rintro e' w' ⟨rfl, b⟩
      exact ⟨_, _, _, _, rfl, .inr ⟨⟨hok, hd⟩, .inr ⟨h0, .inr ⟨k, hk, hb, .inr (.inl ⟨hm, by rw [if_neg ha]; rfl⟩)⟩⟩⟩, b⟩
  · refine (dial72_c v ls s w h).mono ?_
    rintro e' w' ⟨rfl, b⟩
    exact ⟨_, _, _, _, rfl, .inr ⟨⟨hok, hd⟩, .inr ⟨h0, .inr ⟨k, hk, hb, .inl ⟨hl, rfl⟩⟩⟩⟩, b⟩
  · have := hru k hk
    refine (dial93_c v ls s k w h hk this.1 (by omega) hs this.2.2).mono ?_
    rintro e' w' ⟨rfl, b⟩
    exact ⟨_, _, _, _, rfl, .inr ⟨⟨hok, hd⟩, .inr ⟨h0, .inr ⟨k, hk, hb, .inr (.inr (.inl ⟨hl, k, hk, rfl, rfl⟩))⟩⟩⟩, b⟩
  · have := hru k hk
    refine (dial92_c v ls s k w h hk this.1 (by omega) hs this.2.2).mono ?_
    rintro e' w' ⟨rfl, b⟩
    exact ⟨_, _, _, _, rfl, .inr ⟨⟨hok, hd⟩, .inr ⟨h0, .inr ⟨k, hk, hb, .inr (.inr (.inr ⟨hl, k, hk, rfl, rfl⟩))⟩⟩⟩, b⟩
set_option maxHeartbeats 6400000 in
theorem diI_c (v : Value) (ls : Rls) (s : ByteArray) (w : World) (h : Rr w v ls) (hz : Szs ls) (hs : s.size ≤ 1048576) : Calls Try.prog 10 #[v, .string s] w (DiR ls s w) := by
  have HRR : Hid (Rr w v ls) := h
  have HZ : Hid (Szs ls) := hz
  obtain ⟨a, cap, rfl, -⟩ := h
  obtain ⟨n, hn⟩ : ∃ n, ls.length = n := ⟨_, rfl⟩
  rw [hn] at HRR ⊢
  clear hn hz
  obtain ⟨W1, hW1⟩ : ∃ W1, w.alloc (Obj.cells (D4 0 0 ⟨#[]⟩ 0) 28) = W1 := ⟨_, rfl⟩
  have K1 : Hid (Below w.heap.size w W1 ∧ Blk W1 w.heap.size (D4 0 0 ⟨#[]⟩ 0) 28) := ⟨hW1 ▸ (Below.refl _ _).alloc (Nat.le_refl _) _, hW1 ▸ Blk.new _ _ _⟩
  have HW1 : Hid (w.alloc (Obj.cells (D4 0 0 ⟨#[]⟩ 0) 28) = W1) := hW1
  clear hW1
  go_enter Try.func10, Try.ntmps10
  go_wp2_with (fail)
  rw [HW1.out]
  clear HW1
  refine (rulesI_c _ ls W1 (HRR.out.below K1.out.1) HZ.out).mono ?_
  rintro e w2 ⟨q, rfl, hq, b2⟩
  have K2 : Hid (Below w.heap.size w w2 ∧ Blk w2 w.heap.size (D4 0 0 ⟨#[]⟩ 0) 28) := ⟨belowCall K1.out.1 b2 K1.out.1.size, K1.out.2.below b2 K1.out.2.lt⟩
  have HQ1 : Hid (q = true ↔ RsOk ls) := hq
  clear b2 K1 hq
  cases q with
  | false =>
    have HNO : Hid (¬ RsOk ls) := fun h => by have := HQ1.out.2 h; cases this
    clear HQ1
    go_wp2_with (fail)
    refine (without_c 5 w2).mono ?_
    rintro e w9 ⟨rfl, b9⟩
    have K9 : Hid (Below w.heap.size w w9 ∧ Blk w9 w.heap.size (D4 0 0 ⟨#[]⟩ 0) 28) := ⟨belowCall K2.out.1 b9 K2.out.1.size, K2.out.2.below b9 K2.out.2.lt⟩
    clear K2 b9
    have HS : Hid (DialS ls s (5, -1, ⟨#[]⟩, -1)) := .inl ⟨fun h => HNO.out h.1, rfl⟩
    have HF : Hid (∀ W4, (((w9.setCell ⟨w.heap.size, 0, none⟩ (.int .i64 (5))).setCell ⟨w.heap.size, 1, none⟩ (.int .i64 (-1))).setCell ⟨w.heap.size, 2, none⟩ (.string (⟨#[]⟩))).setCell ⟨w.heap.size, 3, none⟩ (.int .i64 (-1)) = W4 → Blk W4 w.heap.size (D4 (5) (-1) (⟨#[]⟩) (-1)) 28 ∧ Below w.heap.size w W4) := finD K9.out.2 K9.out.1 (Nat.le_refl _) _ _ _ _
    have d0 := K9.out.2.cell 0
    have d1 := K9.out.2.cell 1
    have d2 := K9.out.2.cell 2
    have d3 := K9.out.2.cell 3
    have f0 := K9.out.2.frozen 0
    have f1 := K9.out.2.frozen 1
    have f2 := K9.out.2.frozen 2
    have f3 := K9.out.2.frozen 3
    simp at d0 d1 d2 d3
    clear K9
    go_wp2
    exact bodyPost_ret (v := .agg (D4 (5) (-1) (⟨#[]⟩) (-1))) (results_cell_row rfl _ _ _ 28 _ (0, 0) _ rfl (HF.out _ rfl).1 Try.underlying28 rfl size28) rfl ⟨_, _, _, _, rfl, HS.out, (HF.out _ rfl).2⟩
  | true =>
  have HOK : Hid (RsOk ls) := HQ1.out.1 rfl
  clear HQ1
  go_wp2_with (fail)
  refine (areDigits_c s w2 (by omega)).mono ?_
  rintro e w3 ⟨q, rfl, hq, b3⟩
  have K3 : Hid (Below w.heap.size w w3 ∧ Blk w3 w.heap.size (D4 0 0 ⟨#[]⟩ 0) 28) := ⟨belowCall K2.out.1 b3 K2.out.1.size, K2.out.2.below b3 K2.out.2.lt⟩
  have HQ1 : Hid (q = true ↔ DgOk s) := hq
  clear b3 K2 hq
  cases q with
  | false =>
    have HNO : Hid (¬ DgOk s) := fun h => by have := HQ1.out.2 h; cases this
    clear HQ1
    go_wp2_with (fail)
    refine (without_c 5 w3).mono ?_
    rintro e w9 ⟨rfl, b9⟩
    have K9 : Hid (Below w.heap.size w w9 ∧ Blk w9 w.heap.size (D4 0 0 ⟨#[]⟩ 0) 28) := ⟨belowCall K3.out.1 b9 K3.out.1.size, K3.out.2.below b9 K3.out.2.lt⟩
    clear K3 b9
    have HS : Hid (DialS ls s (5, -1, ⟨#[]⟩, -1)) := .inl ⟨fun h => HNO.out h.2, rfl⟩
    have HF : Hid (∀ W4, (((w9.setCell ⟨w.heap.size, 0, none⟩ (.int .i64 (5))).setCell ⟨w.heap.size, 1, none⟩ (.int .i64 (-1))).setCell ⟨w.heap.size, 2, none⟩ (.string (⟨#[]⟩))).setCell ⟨w.heap.size, 3, none⟩ (.int .i64 (-1)) = W4 → Blk W4 w.heap.size (D4 (5) (-1) (⟨#[]⟩) (-1)) 28 ∧ Below w.heap.size w W4) := finD K9.out.2 K9.out.1 (Nat.le_refl _) _ _ _ _
    have d0 := K9.out.2.cell 0
    have d1 := K9.out.2.cell 1
    have d2 := K9.out.2.cell 2
    have d3 := K9.out.2.cell 3
    have f0 := K9.out.2.frozen 0
    have f1 := K9.out.2.frozen 1
    have f2 := K9.out.2.frozen 2
    have f3 := K9.out.2.frozen 3
    simp at d0 d1 d2 d3
    clear K9
    go_wp2
    exact bodyPost_ret (v := .agg (D4 (5) (-1) (⟨#[]⟩) (-1))) (results_cell_row rfl _ _ _ 28 _ (0, 0) _ rfl (HF.out _ rfl).1 Try.underlying28 rfl size28) rfl ⟨_, _, _, _, rfl, HS.out, (HF.out _ rfl).2⟩
  | true =>
  have HDG : Hid (DgOk s) := HQ1.out.1 rfl
  clear HQ1
  go_wp2_with (fail)
  refine (outcome_c _ ls s w3 (HRR.out.below K3.out.1) HOK.out hs).mono ?_
  rintro e w4 ⟨o, rfl, ho, b4⟩
  have K4 : Hid (Below w.heap.size w w4 ∧ Blk w4 w.heap.size (D4 0 0 ⟨#[]⟩ 0) 28) := ⟨belowCall K3.out.1 b4 K3.out.1.size, K3.out.2.below b4 K3.out.2.lt⟩
  have HO : Hid (OutS ls s o) := ho
  clear b4 ho K3
  go_wp2_with (fail)
  refine (dialled_c _ ls s o w4 (HRR.out.below K4.out.1) HOK.out HDG.out HO.out).mono ?_
  rintro e w9 ⟨c, r, nu, k, rfl, hD, b9⟩
  have K9 : Hid (Below w.heap.size w w9 ∧ Blk w9 w.heap.size (D4 0 0 ⟨#[]⟩ 0) 28) := ⟨belowCall K4.out.1 b9 K4.out.1.size, K4.out.2.below b9 K4.out.2.lt⟩
  have HD : Hid (DialS ls s (c, r, nu, k)) := hD
  clear b9 hD K4 HO
  have HS : Hid (DialS ls s (c, r, nu, k)) := HD.out
  have HF : Hid (∀ W4, (((w9.setCell ⟨w.heap.size, 0, none⟩ (.int .i64 (c))).setCell ⟨w.heap.size, 1, none⟩ (.int .i64 (r))).setCell ⟨w.heap.size, 2, none⟩ (.string (nu))).setCell ⟨w.heap.size, 3, none⟩ (.int .i64 (k)) = W4 → Blk W4 w.heap.size (D4 (c) (r) (nu) (k)) 28 ∧ Below w.heap.size w W4) := finD K9.out.2 K9.out.1 (Nat.le_refl _) _ _ _ _
  have d0 := K9.out.2.cell 0
  have d1 := K9.out.2.cell 1
  have d2 := K9.out.2.cell 2
  have d3 := K9.out.2.cell 3
  have f0 := K9.out.2.frozen 0
  have f1 := K9.out.2.frozen 1
  have f2 := K9.out.2.frozen 2
  have f3 := K9.out.2.frozen 3
  simp at d0 d1 d2 d3
  clear K9
  go_wp2
  exact bodyPost_ret (v := .agg (D4 (c) (r) (nu) (k))) (results_cell_row rfl _ _ _ 28 _ (0, 0) _ rfl (HF.out _ rfl).1 Try.underlying28 rfl size28) rfl ⟨_, _, _, _, rfl, HS.out, (HF.out _ rfl).2⟩
end Go.Proofs.Ytpnglbnebkggkaa

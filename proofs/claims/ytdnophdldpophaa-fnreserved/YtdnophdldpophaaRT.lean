/- Reserve of the model; no condition. -/
import Derived.Test.YtdnophdldpophaaRS
namespace Go.Proofs.Ytdnophdldpophaa
open Go.RowKit Go.ChangeShapes Go.WideShapes Go.ChangeAt
set_option linter.unusedVariables false
set_option linter.unusedSimpArgs false
set_option maxRecDepth 8000
set_option maxHeartbeats 25600000 in
theorem resM_c (l k : Int) (v : Value) (ls : List Tf) (z b m : Int) (w : World) (h : Rg 5 tfC w v ls) : Calls Try.prog 12 #[.agg (P2 l k), v, .int .i64 z, .int .i64 b, .int .i64 m] w (ReR ls l k z b m w) := by
  obtain ⟨W0, hW0⟩ : ∃ W0, (w.alloc (Obj.cells (P2 l k) 25)).alloc (Obj.cells (P2 0 0) 25) = W0 := ⟨_, rfl⟩
  have hb0 : Below w.heap.size w W0 := hW0 ▸ ((Below.refl _ _).alloc (Nat.le_refl _) _).alloc (by simp) _
  have hs0 : W0.heap.size = w.heap.size + 2 := by rw [← hW0]; simp
  have HA0 : Hid (Blk W0 w.heap.size (P2 l k) 25) := hW0 ▸ (Blk.new _ _ _).alloc _
  have HK0 : Hid (Blk W0 (w.heap.size + 1) (P2 0 0) 25) := hW0 ▸ Blk.newAt _ (w.heap.size + 1) _ 25 (by simp)
  have HH : Hid (Rg 5 tfC w v ls) := h
  have HB0 : Hid (Below w.heap.size w W0) := hb0
  have HS0 : Hid (W0.heap.size = w.heap.size + 2) := hs0
  obtain ⟨a, cap, rfl, h1, h2, h3⟩ := h
  unfold maxLen at h2
  obtain ⟨P, hP⟩ : ∃ P, w.heap.size = P := ⟨_, rfl⟩
  have HW0 : Hid ((w.alloc (Obj.cells (P2 l k) 25)).alloc (Obj.cells (P2 0 0) 25) = W0) := hW0
  have HP : Hid (w.heap.size = P) := hP
  rw [hP] at HA0 HK0
  clear hW0 hb0 hs0
  go_enter Try.func12, Try.ntmps12
  go_wp2_with (fail)
  clear hP
  rw [HW0.out]
  refine (atM_c _ ls z b W0 (HH.out.below HB0.out)).mono ?_
  have HNO : Hid (∀ W, Blk W (P + 1) (P2 0 0) 25 → Below w.heap.size w W → ¬ ReOk ls l k z b m → Blk ((W.setCell ⟨P + 1, 0, none⟩ (.int .i64 l)).setCell ⟨P + 1, 1, none⟩ (.int .i64 k)) (P + 1) (P2 l k) 25 ∧ ReR ls l k z b m w (.returned (.tuple #[.agg (P2 l k), .int .i64 0, .bool false])) ((W.setCell ⟨P + 1, 0, none⟩ (.int .i64 l)).setCell ⟨P + 1, 1, none⟩ (.int .i64 k))) := by
    intro W hk hW hn
    have hP := HP.out
    subst hP
    exact ⟨(hk.set 0 _).set 1 _, k, 0, false, rfl, .inr ⟨hn, rfl, rfl, rfl⟩, (hW.setCell (p := ⟨w.heap.size + 1, 0, none⟩) (by dsimp only; omega) _).setCell (p := ⟨w.heap.size + 1, 1, none⟩) (by dsimp only; omega) _⟩
  rintro x w1 ⟨p, rfl, hp, hpn, b1⟩
  have HB1 : Hid (Below w.heap.size w w1) := HB0.out.trans (b1.mono HB0.out.size)
  have HK1 : Hid (Blk w1 (P + 1) (P2 0 0) 25) := HK0.out.below b1 HK0.out.lt
  have HA1 : Hid (Blk w1 P (P2 l k) 25) := HA0.out.below b1 HA0.out.lt
  have c0 := HK1.out.cell 0
  have c1 := HK1.out.cell 1
  have f0 := HK1.out.frozen 0
  have f1 := HK1.out.frozen 1
  have a0 := HA1.out.cell 0
  have a1 := HA1.out.cell 1
  simp at c0 c1 a0 a1
  clear b1 HK0 HA0
  by_cases hc : TfOk ls ∧ 0 ≤ b ∧ b ≤ 1000000000 ∧ HasZ ls z
  case neg =>
    have hp1 : p < 0 := by
      by_cases h5 : TfOk ls ∧ 0 ≤ b ∧ b ≤ 1000000000
      · have h6 := hp h5
        by_cases h7 : 0 ≤ p
        · exact absurd ⟨h5.1, h5.2.1, h5.2.2, hasZ_of (h6 ▸ h7)⟩ hc
        · omega
      · rw [hpn h5]; decide
    have hd : decide (0 ≤ p) = false := by simp; omega
    rw [hd]
    obtain ⟨h1, h2⟩ := HNO.out w1 HK1.out HB1.out (fun h => hc h.1.1)
    have H1 : Hid _ := h1
    have H2 : Hid _ := h2
    clear h1 h2 hc hp hpn hp1 hd h3
    go_wp2
    exact bodyPost_ret (results_P3 rfl _ _ _ l k (.int .i64 0) (.bool false) rfl rfl rfl H1.out) rfl H2.out
  case pos =>
  have HC : Hid (TfOk ls ∧ 0 ≤ b ∧ b ≤ 1000000000 ∧ HasZ ls z) := hc
  obtain ⟨i0, hi0, hil0, -⟩ := hoF_neg (t := b) hc.2.2.2
  have hpi : p = i0 := by rw [hp ⟨hc.1, hc.2.1, hc.2.2.1⟩, hi0]
  subst hpi
  have hd : decide (0 ≤ (i0 : Int)) = true := by simp
  rw [hd]
  have HF0 : Hid (tfA ls z b = ls[i0]) := tfA_at hi0 hil0
  clear hc hp hpn hd hi0
  go_wp2_with (fail)
  refine (purseM_c l k w1).mono ?_
  rintro x w2 ⟨rfl, b2⟩
  have HB2 : Hid (Below w.heap.size w w2) := belowCall HB1.out b2 HB1.out.size
  have HK2 : Hid (Blk w2 (P + 1) (P2 0 0) 25) := HK1.out.below b2 HK1.out.lt
  have HA2 : Hid (Blk w2 P (P2 l k) 25) := HA1.out.below b2 HA1.out.lt
  clear c0 c1 f0 f1 a0 a1 b2 HB1 HK1 HA1
  have c0 := HK2.out.cell 0
  have c1 := HK2.out.cell 1
  have f0 := HK2.out.frozen 0
  have f1 := HK2.out.frozen 1
  have a0 := HA2.out.cell 0
  have a1 := HA2.out.cell 1
  simp at c0 c1 a0 a1
  cases hpk : pOk l k with
  | false =>
    obtain ⟨h1, h2⟩ := HNO.out w2 HK2.out HB2.out (fun h => by have := h.1.2.1; rw [hpk] at this; cases this)
    have H1 : Hid _ := h1
    have H2 : Hid _ := h2
    clear h1 h2 hpk h3
    go_wp2
    exact bodyPost_ret (results_P3 rfl _ _ _ l k (.int .i64 0) (.bool false) rfl rfl rfl H1.out) rfl H2.out
  | true =>
  have HPK : Hid (pOk l k = true) := hpk
  clear hpk
  go_wp2_with (fail)
  refine (l1In_c _ _ _ _).mono ?_
  rintro x w3 ⟨rfl, hw⟩
  rw [hw]
  clear hw w3
  by_cases hm : 1 ≤ m ∧ m ≤ 86400
  case neg =>
    have hd : decide (1 ≤ m ∧ m ≤ 86400) = false := by simpa using hm
    rw [hd]
    obtain ⟨h1, h2⟩ := HNO.out w2 HK2.out HB2.out (fun h => hm h.1.2.2)
    have H1 : Hid _ := h1
    have H2 : Hid _ := h2
    clear h1 h2 hd hm h3
    go_wp2
    exact bodyPost_ret (results_P3 rfl _ _ _ l k (.int .i64 0) (.bool false) rfl rfl rfl H1.out) rfl H2.out
  case pos =>
  have hd : decide (1 ≤ m ∧ m ≤ 86400) = true := by simpa using hm
  rw [hd]
  have HMM : Hid (1 ≤ m ∧ m ≤ 86400) := hm
  have hbo := HC.out.2
  have hwm : -9223372036854775808 ≤ b + m ∧ b + m ≤ 9223372036854775807 := by omega
  have hpk := HPK.out
  simp [pOk] at hpk
  have hwr : -9223372036854775808 ≤ l - k ∧ l - k ≤ 9223372036854775807 := by omega
  clear hd hm hbo hpk
  rcases h3 with h3 | ⟨bb, off, rfl, h4⟩
  · subst h3; simp at hil0
  have H4 : Hid (∀ W, Below w.heap.size w W → ∀ i (h : i < ls.length), W.rangeAt bb (off + i * 5) (tfC ls[i])) := fun W hW i hi => rangeAt_below (h4 i hi) hW (block_lt_of_cell (h4 i hi 0 _ rfl))
  have e4 : w2.cell? ⟨bb, off + i0 * 5 + 4, none⟩ = some (.int .i64 (tfA ls z b).2.2.2.2) := by
    rw [HF0.out]; exact H4.out w2 HB2.out i0 hil0 4 _ rfl
  obtain ⟨cc, hcc⟩ : ∃ c, (tfA ls z b).2.2.2.2 = c := ⟨_, rfl⟩
  rw [hcc] at e4
  have HC0 : Hid ((tfA ls z b).2.2.2.2 = cc) := hcc
  have hiI0 : (i0 : Int) < (ls.length : Int) := by omega
  clear h4 hcc
  obtain ⟨E, hE⟩ : ∃ E, reE b m = E := ⟨_, rfl⟩
  have HE : Hid (reE b m = E) := hE
  have HE2 : Hid (E ≤ b + m ∧ E ≤ 1000000000 ∧ (E = b + m ∨ E = 1000000000) ∧ b ≤ E) := by
    have := HC.out.2
    have := HMM.out
    rw [← hE]
    show reE b m ≤ b + m ∧ _
    unfold reE
    omega
  clear hE
  go_wp2
  clear e4 c0 c1 f0 f1 a0 a1
  go_loopw [13, 16, 17] (fun av cv tv wr => ∃ (qa t s c : Int) (f : Nat), av = .int .i64 qa ∧ cv = .int .i64 c ∧ tv = .int .i64 t ∧ Hid (Blk wr (P + 1) (P2 0 0) 25) ∧ Hid (Blk wr P (P2 l k) 25) ∧ Hid (Below w.heap.size w wr) ∧ Hid (reQ ls l k z b m = cN ls z E (l - k) f t s c) ∧ Hid (E - t ≤ f) ∧ Hid (MtOk b t s c) ∧ Hid (t ≤ E + 10000)) (fun _ _ tv _ => (E - intOf tv).toNat)
  case atStart => exact ⟨i0, b, 0, cc, (E - b).toNat, rfl, rfl, rfl, HK2.out, HA2.out, HB2.out, by show reQ _ _ _ _ _ _ = _; rw [reQ, HE.out, HC0.out], by have := HE2.out; show E - b ≤ _; omega, by have := MtOk.zero (b := b) HC.out.1 HC.out.2.2.2; rw [HC0.out] at this; exact this, by have := HE2.out; show b ≤ E + 10000; omega⟩
  case round =>
    obtain ⟨qa, t, s, c, f, rfl, rfl, rfl, hK, hA0, hbr, hcn, hf, hmt, hte⟩ := hrel
    clear HK2 HA2 HB2 HC0
    by_cases hlt : t < E
    case neg =>
      have HQ : Hid (reQ ls l k z b m = (t, s, c)) := by show _ = _; rw [hcn.out]; exact cN_stop _ _ _ _ _ _ _ _ (.inl (by omega))
      have HMT : Hid (MtOk b t s c) := hmt.out
      have ht1 := hte.out
      have ht2 := HE2.out
      by_cases hq1 : t < b + m
      · have hq2 : (t < 1000000000) = False := eq_false (by omega)
        clear hlt
        have hbo := HC.out.2
        have hmo := HMM.out
        have hst := HMT.out.st
        have hs0 := HMT.out.s0
        have hcs := HMT.out.cs
        have hc0 := HMT.out.c0
        have hw1 : -9223372036854775808 ≤ t - b ∧ t - b ≤ 9223372036854775807 := by omega
        have hw2 : -9223372036854775808 ≤ b + m ∧ b + m ≤ 9223372036854775807 := by omega
        have hw3 : -9223372036854775808 ≤ 1000000000 - b ∧ 1000000000 - b ≤ 9223372036854775807 := by omega
        have hw4 : -9223372036854775808 ≤ b + (t - b) ∧ b + (t - b) ≤ 9223372036854775807 := by omega
        have hpk := HPK.out
        simp [pOk] at hpk
        have hw5 : -9223372036854775808 ≤ k + c ∧ k + c ≤ 9223372036854775807 := by omega
        have HBO : Hid (b ≤ 1000000000 ∧ 0 ≤ b ∧ 1 ≤ m ∧ m ≤ 86400 ∧ b ≤ t) := ⟨hbo.2.1, hbo.1, hmo.1, hmo.2, by omega⟩
        have c0 := hK.out.cell 0
        have c1 := hK.out.cell 1
        have f0 := hK.out.frozen 0
        have f1 := hK.out.frozen 1
        have a0 := hA0.out.cell 0
        have a1 := hA0.out.cell 1
        have af1 := hA0.out.frozen 1
        simp at c0 c1 a0 a1
        clear hbo hmo hst hs0 hcs hc0 hpk
        by_cases hA : t - b > m
        · have hA' : t - b > m := hA
          by_cases hX : b + m > 1000000000
          · have hX' : b + m > 1000000000 := by omega
            try (exfalso; omega)
            all_goals
              have HRN : Hid (reN ls l k z b m = (1000000000 - b)) := by show reN ls l k z b m = (1000000000 - b); unfold reN; rw [HQ.out]; unfold reE; have := HBO.out; dsimp only; omega
              by_cases hn : (1000000000 - b) < 1
              · obtain ⟨h1, h2⟩ := HNO.out wr hK.out hbr.out (fun h => by have := h.2; rw [HRN.out] at this; omega)
                have H1 : Hid _ := h1
                have H2 : Hid _ := h2
                clear h1 h2
                go_wp2
                exact bodyPost_ret (results_P3 rfl _ _ _ l k (.int .i64 0) (.bool false) rfl rfl rfl H1.out) rfl H2.out
              · have hn' : ((1000000000 - b) < 1) = False := eq_false hn
                have H1 : Hid (Blk (((wr.setCell ⟨P, 1, none⟩ (.int .i64 (k + c))).setCell ⟨P + 1, 0, none⟩ (.int .i64 l)).setCell ⟨P + 1, 1, none⟩ (.int .i64 (k + c))) (P + 1) (P2 l (k + c)) 25) := (((hK.out.other ⟨P, 1, none⟩ (.int .i64 (k + c)) (by dsimp only; omega)).set 0 _).set 1 _ : Blk _ _ _ _)
                have H2 : Hid (ReR ls l k z b m w (.returned (.tuple #[.agg (P2 l (k + c)), .int .i64 (1000000000 - b), .bool true])) (((wr.setCell ⟨P, 1, none⟩ (.int .i64 (k + c))).setCell ⟨P + 1, 0, none⟩ (.int .i64 l)).setCell ⟨P + 1, 1, none⟩ (.int .i64 (k + c)))) := by
                  have hP := HP.out
                  refine ⟨_, _, _, rfl, .inl ⟨⟨⟨HC.out, HPK.out, HMM.out⟩, by rw [HRN.out]; omega⟩, by rw [HQ.out], by rw [HRN.out], rfl⟩, ?_⟩
                  exact (((hbr.out.setCell (p := ⟨P, 1, none⟩) (by dsimp only; omega) _).setCell (p := ⟨P + 1, 0, none⟩) (by dsimp only; omega) _).setCell (p := ⟨P + 1, 1, none⟩) (by dsimp only; omega) _)
                clear hn
                go_wp2
                exact bodyPost_ret (results_P3 rfl _ _ _ l (k + c) (.int .i64 (1000000000 - b)) (.bool true) rfl rfl rfl H1.out) rfl H2.out
          · have hX' : (b + m > 1000000000) = False := eq_false (by omega)
            have hX2 : (b + m > 1000000000) = False := eq_false hX
            have hX3 : b + m ≤ 1000000000 := by omega
            clear hX
            try (exfalso; omega)
            all_goals
              have HRN : Hid (reN ls l k z b m = m) := by show reN ls l k z b m = m; unfold reN; rw [HQ.out]; unfold reE; have := HBO.out; dsimp only; omega
              by_cases hn : m < 1
              · obtain ⟨h1, h2⟩ := HNO.out wr hK.out hbr.out (fun h => by have := h.2; rw [HRN.out] at this; omega)
                have H1 : Hid _ := h1
                have H2 : Hid _ := h2
                clear h1 h2
                go_wp2
                exact bodyPost_ret (results_P3 rfl _ _ _ l k (.int .i64 0) (.bool false) rfl rfl rfl H1.out) rfl H2.out
              · have hn' : (m < 1) = False := eq_false hn
                have H1 : Hid (Blk (((wr.setCell ⟨P, 1, none⟩ (.int .i64 (k + c))).setCell ⟨P + 1, 0, none⟩ (.int .i64 l)).setCell ⟨P + 1, 1, none⟩ (.int .i64 (k + c))) (P + 1) (P2 l (k + c)) 25) := (((hK.out.other ⟨P, 1, none⟩ (.int .i64 (k + c)) (by dsimp only; omega)).set 0 _).set 1 _ : Blk _ _ _ _)
                have H2 : Hid (ReR ls l k z b m w (.returned (.tuple #[.agg (P2 l (k + c)), .int .i64 m, .bool true])) (((wr.setCell ⟨P, 1, none⟩ (.int .i64 (k + c))).setCell ⟨P + 1, 0, none⟩ (.int .i64 l)).setCell ⟨P + 1, 1, none⟩ (.int .i64 (k + c)))) := by
                  have hP := HP.out
                  refine ⟨_, _, _, rfl, .inl ⟨⟨⟨HC.out, HPK.out, HMM.out⟩, by rw [HRN.out]; omega⟩, by rw [HQ.out], by rw [HRN.out], rfl⟩, ?_⟩
                  exact (((hbr.out.setCell (p := ⟨P, 1, none⟩) (by dsimp only; omega) _).setCell (p := ⟨P + 1, 0, none⟩) (by dsimp only; omega) _).setCell (p := ⟨P + 1, 1, none⟩) (by dsimp only; omega) _)
                clear hn
                go_wp2
                exact bodyPost_ret (results_P3 rfl _ _ _ l (k + c) (.int .i64 m) (.bool true) rfl rfl rfl H1.out) rfl H2.out
        · have hA' : (t - b > m) = False := eq_false hA
          have hA2 : t - b ≤ m := by omega
          clear hA
          by_cases hX : t > 1000000000
          · have hX' : b + (t - b) > 1000000000 := by omega
            try (exfalso; omega)
            all_goals
              have HRN : Hid (reN ls l k z b m = (1000000000 - b)) := by show reN ls l k z b m = (1000000000 - b); unfold reN; rw [HQ.out]; unfold reE; have := HBO.out; dsimp only; omega
              by_cases hn : (1000000000 - b) < 1
              · obtain ⟨h1, h2⟩ := HNO.out wr hK.out hbr.out (fun h => by have := h.2; rw [HRN.out] at this; omega)
                have H1 : Hid _ := h1
                have H2 : Hid _ := h2
                clear h1 h2
                go_wp2
                exact bodyPost_ret (results_P3 rfl _ _ _ l k (.int .i64 0) (.bool false) rfl rfl rfl H1.out) rfl H2.out
              · have hn' : ((1000000000 - b) < 1) = False := eq_false hn
                have H1 : Hid (Blk (((wr.setCell ⟨P, 1, none⟩ (.int .i64 (k + c))).setCell ⟨P + 1, 0, none⟩ (.int .i64 l)).setCell ⟨P + 1, 1, none⟩ (.int .i64 (k + c))) (P + 1) (P2 l (k + c)) 25) := (((hK.out.other ⟨P, 1, none⟩ (.int .i64 (k + c)) (by dsimp only; omega)).set 0 _).set 1 _ : Blk _ _ _ _)
                have H2 : Hid (ReR ls l k z b m w (.returned (.tuple #[.agg (P2 l (k + c)), .int .i64 (1000000000 - b), .bool true])) (((wr.setCell ⟨P, 1, none⟩ (.int .i64 (k + c))).setCell ⟨P + 1, 0, none⟩ (.int .i64 l)).setCell ⟨P + 1, 1, none⟩ (.int .i64 (k + c)))) := by
                  have hP := HP.out
                  refine ⟨_, _, _, rfl, .inl ⟨⟨⟨HC.out, HPK.out, HMM.out⟩, by rw [HRN.out]; omega⟩, by rw [HQ.out], by rw [HRN.out], rfl⟩, ?_⟩
                  exact (((hbr.out.setCell (p := ⟨P, 1, none⟩) (by dsimp only; omega) _).setCell (p := ⟨P + 1, 0, none⟩) (by dsimp only; omega) _).setCell (p := ⟨P + 1, 1, none⟩) (by dsimp only; omega) _)
                clear hn
                go_wp2
                exact bodyPost_ret (results_P3 rfl _ _ _ l (k + c) (.int .i64 (1000000000 - b)) (.bool true) rfl rfl rfl H1.out) rfl H2.out
          · have hX' : (b + (t - b) > 1000000000) = False := eq_false (by omega)
            have hX2 : (t > 1000000000) = False := eq_false hX
            have hX3 : t ≤ 1000000000 := by omega
            clear hX
            try (exfalso; omega)
            all_goals
              have HRN : Hid (reN ls l k z b m = (t - b)) := by show reN ls l k z b m = (t - b); unfold reN; rw [HQ.out]; unfold reE; have := HBO.out; dsimp only; omega
              by_cases hn : (t - b) < 1
              · obtain ⟨h1, h2⟩ := HNO.out wr hK.out hbr.out (fun h => by have := h.2; rw [HRN.out] at this; omega)
                have H1 : Hid _ := h1
                have H2 : Hid _ := h2
                clear h1 h2
                go_wp2
                exact bodyPost_ret (results_P3 rfl _ _ _ l k (.int .i64 0) (.bool false) rfl rfl rfl H1.out) rfl H2.out
              · have hn' : ((t - b) < 1) = False := eq_false hn
                have H1 : Hid (Blk (((wr.setCell ⟨P, 1, none⟩ (.int .i64 (k + c))).setCell ⟨P + 1, 0, none⟩ (.int .i64 l)).setCell ⟨P + 1, 1, none⟩ (.int .i64 (k + c))) (P + 1) (P2 l (k + c)) 25) := (((hK.out.other ⟨P, 1, none⟩ (.int .i64 (k + c)) (by dsimp only; omega)).set 0 _).set 1 _ : Blk _ _ _ _)
                have H2 : Hid (ReR ls l k z b m w (.returned (.tuple #[.agg (P2 l (k + c)), .int .i64 (t - b), .bool true])) (((wr.setCell ⟨P, 1, none⟩ (.int .i64 (k + c))).setCell ⟨P + 1, 0, none⟩ (.int .i64 l)).setCell ⟨P + 1, 1, none⟩ (.int .i64 (k + c)))) := by
                  have hP := HP.out
                  refine ⟨_, _, _, rfl, .inl ⟨⟨⟨HC.out, HPK.out, HMM.out⟩, by rw [HRN.out]; omega⟩, by rw [HQ.out], by rw [HRN.out], rfl⟩, ?_⟩
                  exact (((hbr.out.setCell (p := ⟨P, 1, none⟩) (by dsimp only; omega) _).setCell (p := ⟨P + 1, 0, none⟩) (by dsimp only; omega) _).setCell (p := ⟨P + 1, 1, none⟩) (by dsimp only; omega) _)
                clear hn
                go_wp2
                exact bodyPost_ret (results_P3 rfl _ _ _ l (k + c) (.int .i64 (t - b)) (.bool true) rfl rfl rfl H1.out) rfl H2.out
      · have hq1' : (t < b + m) = False := eq_false hq1
        clear hlt hq1
        have hbo := HC.out.2
        have hmo := HMM.out
        have hst := HMT.out.st
        have hs0 := HMT.out.s0
        have hcs := HMT.out.cs
        have hc0 := HMT.out.c0
        have hw1 : -9223372036854775808 ≤ t - b ∧ t - b ≤ 9223372036854775807 := by omega
        have hw2 : -9223372036854775808 ≤ b + m ∧ b + m ≤ 9223372036854775807 := by omega
        have hw3 : -9223372036854775808 ≤ 1000000000 - b ∧ 1000000000 - b ≤ 9223372036854775807 := by omega
        have hw4 : -9223372036854775808 ≤ b + (t - b) ∧ b + (t - b) ≤ 9223372036854775807 := by omega
        have hpk := HPK.out
        simp [pOk] at hpk
        have hw5 : -9223372036854775808 ≤ k + c ∧ k + c ≤ 9223372036854775807 := by omega
        have HBO : Hid (b ≤ 1000000000 ∧ 0 ≤ b ∧ 1 ≤ m ∧ m ≤ 86400 ∧ b ≤ t) := ⟨hbo.2.1, hbo.1, hmo.1, hmo.2, by omega⟩
        have c0 := hK.out.cell 0
        have c1 := hK.out.cell 1
        have f0 := hK.out.frozen 0
        have f1 := hK.out.frozen 1
        have a0 := hA0.out.cell 0
        have a1 := hA0.out.cell 1
        have af1 := hA0.out.frozen 1
        simp at c0 c1 a0 a1
        clear hbo hmo hst hs0 hcs hc0 hpk
        by_cases hA : t - b > m
        · have hA' : t - b > m := hA
          by_cases hX : b + m > 1000000000
          · have hX' : b + m > 1000000000 := by omega
            try (exfalso; omega)
            all_goals
              have HRN : Hid (reN ls l k z b m = (1000000000 - b)) := by show reN ls l k z b m = (1000000000 - b); unfold reN; rw [HQ.out]; unfold reE; have := HBO.out; dsimp only; omega
              by_cases hn : (1000000000 - b) < 1
              · obtain ⟨h1, h2⟩ := HNO.out wr hK.out hbr.out (fun h => by have := h.2; rw [HRN.out] at this; omega)
                have H1 : Hid _ := h1
                have H2 : Hid _ := h2
                clear h1 h2
                go_wp2
                exact bodyPost_ret (results_P3 rfl _ _ _ l k (.int .i64 0) (.bool false) rfl rfl rfl H1.out) rfl H2.out
              · have hn' : ((1000000000 - b) < 1) = False := eq_false hn
                have H1 : Hid (Blk (((wr.setCell ⟨P, 1, none⟩ (.int .i64 (k + c))).setCell ⟨P + 1, 0, none⟩ (.int .i64 l)).setCell ⟨P + 1, 1, none⟩ (.int .i64 (k + c))) (P + 1) (P2 l (k + c)) 25) := (((hK.out.other ⟨P, 1, none⟩ (.int .i64 (k + c)) (by dsimp only; omega)).set 0 _).set 1 _ : Blk _ _ _ _)
                have H2 : Hid (ReR ls l k z b m w (.returned (.tuple #[.agg (P2 l (k + c)), .int .i64 (1000000000 - b), .bool true])) (((wr.setCell ⟨P, 1, none⟩ (.int .i64 (k + c))).setCell ⟨P + 1, 0, none⟩ (.int .i64 l)).setCell ⟨P + 1, 1, none⟩ (.int .i64 (k + c)))) := by
                  have hP := HP.out
                  refine ⟨_, _, _, rfl, .inl ⟨⟨⟨HC.out, HPK.out, HMM.out⟩, by rw [HRN.out]; omega⟩, by rw [HQ.out], by rw [HRN.out], rfl⟩, ?_⟩
                  exact (((hbr.out.setCell (p := ⟨P, 1, none⟩) (by dsimp only; omega) _).setCell (p := ⟨P + 1, 0, none⟩) (by dsimp only; omega) _).setCell (p := ⟨P + 1, 1, none⟩) (by dsimp only; omega) _)
                clear hn
                go_wp2
                exact bodyPost_ret (results_P3 rfl _ _ _ l (k + c) (.int .i64 (1000000000 - b)) (.bool true) rfl rfl rfl H1.out) rfl H2.out
          · have hX' : (b + m > 1000000000) = False := eq_false (by omega)
            have hX2 : (b + m > 1000000000) = False := eq_false hX
            have hX3 : b + m ≤ 1000000000 := by omega
            clear hX
            try (exfalso; omega)
            all_goals
              have HRN : Hid (reN ls l k z b m = m) := by show reN ls l k z b m = m; unfold reN; rw [HQ.out]; unfold reE; have := HBO.out; dsimp only; omega
              by_cases hn : m < 1
              · obtain ⟨h1, h2⟩ := HNO.out wr hK.out hbr.out (fun h => by have := h.2; rw [HRN.out] at this; omega)
                have H1 : Hid _ := h1
                have H2 : Hid _ := h2
                clear h1 h2
                go_wp2
                exact bodyPost_ret (results_P3 rfl _ _ _ l k (.int .i64 0) (.bool false) rfl rfl rfl H1.out) rfl H2.out
              · have hn' : (m < 1) = False := eq_false hn
                have H1 : Hid (Blk (((wr.setCell ⟨P, 1, none⟩ (.int .i64 (k + c))).setCell ⟨P + 1, 0, none⟩ (.int .i64 l)).setCell ⟨P + 1, 1, none⟩ (.int .i64 (k + c))) (P + 1) (P2 l (k + c)) 25) := (((hK.out.other ⟨P, 1, none⟩ (.int .i64 (k + c)) (by dsimp only; omega)).set 0 _).set 1 _ : Blk _ _ _ _)
                have H2 : Hid (ReR ls l k z b m w (.returned (.tuple #[.agg (P2 l (k + c)), .int .i64 m, .bool true])) (((wr.setCell ⟨P, 1, none⟩ (.int .i64 (k + c))).setCell ⟨P + 1, 0, none⟩ (.int .i64 l)).setCell ⟨P + 1, 1, none⟩ (.int .i64 (k + c)))) := by
                  have hP := HP.out
                  refine ⟨_, _, _, rfl, .inl ⟨⟨⟨HC.out, HPK.out, HMM.out⟩, by rw [HRN.out]; omega⟩, by rw [HQ.out], by rw [HRN.out], rfl⟩, ?_⟩
                  exact (((hbr.out.setCell (p := ⟨P, 1, none⟩) (by dsimp only; omega) _).setCell (p := ⟨P + 1, 0, none⟩) (by dsimp only; omega) _).setCell (p := ⟨P + 1, 1, none⟩) (by dsimp only; omega) _)
                clear hn
                go_wp2
                exact bodyPost_ret (results_P3 rfl _ _ _ l (k + c) (.int .i64 m) (.bool true) rfl rfl rfl H1.out) rfl H2.out
        · have hA' : (t - b > m) = False := eq_false hA
          have hA2 : t - b ≤ m := by omega
          clear hA
          by_cases hX : t > 1000000000
          · have hX' : b + (t - b) > 1000000000 := by omega
            try (exfalso; omega)
            all_goals
              have HRN : Hid (reN ls l k z b m = (1000000000 - b)) := by show reN ls l k z b m = (1000000000 - b); unfold reN; rw [HQ.out]; unfold reE; have := HBO.out; dsimp only; omega
              by_cases hn : (1000000000 - b) < 1
              · obtain ⟨h1, h2⟩ := HNO.out wr hK.out hbr.out (fun h => by have := h.2; rw [HRN.out] at this; omega)
                have H1 : Hid _ := h1
                have H2 : Hid _ := h2
                clear h1 h2
                go_wp2
                exact bodyPost_ret (results_P3 rfl _ _ _ l k (.int .i64 0) (.bool false) rfl rfl rfl H1.out) rfl H2.out
              · have hn' : ((1000000000 - b) < 1) = False := eq_false hn
                have H1 : Hid (Blk (((wr.setCell ⟨P, 1, none⟩ (.int .i64 (k + c))).setCell ⟨P + 1, 0, none⟩ (.int .i64 l)).setCell ⟨P + 1, 1, none⟩ (.int .i64 (k + c))) (P + 1) (P2 l (k + c)) 25) := (((hK.out.other ⟨P, 1, none⟩ (.int .i64 (k + c)) (by dsimp only; omega)).set 0 _).set 1 _ : Blk _ _ _ _)
                have H2 : Hid (ReR ls l k z b m w (.returned (.tuple #[.agg (P2 l (k + c)), .int .i64 (1000000000 - b), .bool true])) (((wr.setCell ⟨P, 1, none⟩ (.int .i64 (k + c))).setCell ⟨P + 1, 0, none⟩ (.int .i64 l)).setCell ⟨P + 1, 1, none⟩ (.int .i64 (k + c)))) := by
                  have hP := HP.out
                  refine ⟨_, _, _, rfl, .inl ⟨⟨⟨HC.out, HPK.out, HMM.out⟩, by rw [HRN.out]; omega⟩, by rw [HQ.out], by rw [HRN.out], rfl⟩, ?_⟩
                  exact (((hbr.out.setCell (p := ⟨P, 1, none⟩) (by dsimp only; omega) _).setCell (p := ⟨P + 1, 0, none⟩) (by dsimp only; omega) _).setCell (p := ⟨P + 1, 1, none⟩) (by dsimp only; omega) _)
                clear hn
                go_wp2
                exact bodyPost_ret (results_P3 rfl _ _ _ l (k + c) (.int .i64 (1000000000 - b)) (.bool true) rfl rfl rfl H1.out) rfl H2.out
          · have hX' : (b + (t - b) > 1000000000) = False := eq_false (by omega)
            have hX2 : (t > 1000000000) = False := eq_false hX
            have hX3 : t ≤ 1000000000 := by omega
            clear hX
            try (exfalso; omega)
            all_goals
              have HRN : Hid (reN ls l k z b m = (t - b)) := by show reN ls l k z b m = (t - b); unfold reN; rw [HQ.out]; unfold reE; have := HBO.out; dsimp only; omega
              by_cases hn : (t - b) < 1
              · obtain ⟨h1, h2⟩ := HNO.out wr hK.out hbr.out (fun h => by have := h.2; rw [HRN.out] at this; omega)
                have H1 : Hid _ := h1
                have H2 : Hid _ := h2
                clear h1 h2
                go_wp2
                exact bodyPost_ret (results_P3 rfl _ _ _ l k (.int .i64 0) (.bool false) rfl rfl rfl H1.out) rfl H2.out
              · have hn' : ((t - b) < 1) = False := eq_false hn
                have H1 : Hid (Blk (((wr.setCell ⟨P, 1, none⟩ (.int .i64 (k + c))).setCell ⟨P + 1, 0, none⟩ (.int .i64 l)).setCell ⟨P + 1, 1, none⟩ (.int .i64 (k + c))) (P + 1) (P2 l (k + c)) 25) := (((hK.out.other ⟨P, 1, none⟩ (.int .i64 (k + c)) (by dsimp only; omega)).set 0 _).set 1 _ : Blk _ _ _ _)
                have H2 : Hid (ReR ls l k z b m w (.returned (.tuple #[.agg (P2 l (k + c)), .int .i64 (t - b), .bool true])) (((wr.setCell ⟨P, 1, none⟩ (.int .i64 (k + c))).setCell ⟨P + 1, 0, none⟩ (.int .i64 l)).setCell ⟨P + 1, 1, none⟩ (.int .i64 (k + c)))) := by
                  have hP := HP.out
                  refine ⟨_, _, _, rfl, .inl ⟨⟨⟨HC.out, HPK.out, HMM.out⟩, by rw [HRN.out]; omega⟩, by rw [HQ.out], by rw [HRN.out], rfl⟩, ?_⟩
                  exact (((hbr.out.setCell (p := ⟨P, 1, none⟩) (by dsimp only; omega) _).setCell (p := ⟨P + 1, 0, none⟩) (by dsimp only; omega) _).setCell (p := ⟨P + 1, 1, none⟩) (by dsimp only; omega) _)
                clear hn
                go_wp2
                exact bodyPost_ret (results_P3 rfl _ _ _ l (k + c) (.int .i64 (t - b)) (.bool true) rfl rfl rfl H1.out) rfl H2.out
    case pos =>
    have ht2 := HE2.out
    have hq1 : t < b + m := by omega
    have hq2 : t < 1000000000 := by omega
    have HLT : Hid (t < E) := hlt
    have HT : Hid (0 ≤ t ∧ t ≤ 1000000000) := ⟨by have := HC.out.2.1; have := hmt.out.st; have := hmt.out.s0; omega, by omega⟩
    obtain ⟨i, hi, hil, -⟩ := hoF_neg (t := t) HC.out.2.2.2
    obtain ⟨r, hr⟩ : ∃ r, ls[i] = r := ⟨_, rfl⟩
    have HTA : Hid (tfA ls z t = r) := by show tfA ls z t = r; rw [tfA_at hi hil, hr]
    have HRR : Hid (∀ W, Below w.heap.size w W → W.rangeAt bb (off + i * 5) (tfC r)) := fun W hW => by have := H4.out W hW i hil; rw [hr] at this; exact this
    have HHI : Hid (hoF ls z t = i) := hi
    have hiI : (i : Int) < (ls.length : Int) := by omega
    clear hr hi hlt ht2
    go_wp2_with (fail)
    refine (atM_c _ ls z t wr (HH.out.below hbr.out)).mono ?_
    rintro x w3 ⟨q, rfl, hq, -, b3⟩
    have hqi : q = i := by rw [hq ⟨HC.out.1, HT.out.1, HT.out.2⟩, HHI.out]
    subst hqi
    have hd : decide (0 ≤ (i : Int)) = true := by simp
    rw [hd]
    have HK3 : Hid (Blk w3 (P + 1) (P2 0 0) 25) := hK.out.below b3 hK.out.lt
    have HA3 : Hid (Blk w3 P (P2 l k) 25) := hA0.out.below b3 hA0.out.lt
    have HB3 : Hid (Below w.heap.size w w3) := belowCall hbr.out b3 hbr.out.size
    clear b3 hq hd hK hA0 hbr
    have g3 : w3.cell? ⟨bb, off + i * 5 + 3, none⟩ = some (.int .i64 r.2.2.2.1) := HRR.out w3 HB3.out 3 _ rfl
    have g2 : w3.cell? ⟨bb, off + i * 5 + 2, none⟩ = some (.int .i64 r.2.2.1) := HRR.out w3 HB3.out 2 _ rfl
    have hra := tfA_bd HC.out.1 HC.out.2.2.2 t
    rw [HTA.out] at hra
    have hm1 := hmt.out.s0
    have hm2 := hmt.out.st
    have hm3 := hmt.out.c0
    have hm4 := hmt.out.cs
    have HN : Hid (MtOk b (t + r.2.2.1) (s + 1) (c + r.2.2.2.1)) := by have := hmt.out.step HC.out.1 HC.out.2.2.2; rw [HTA.out] at this; exact this
    have hwa : -9223372036854775808 ≤ c + r.2.2.2.1 ∧ c + r.2.2.2.1 ≤ 9223372036854775807 := by have := HT.out; have := HC.out.2; omega
    have hwb : -9223372036854775808 ≤ t + r.2.2.1 ∧ t + r.2.2.1 ≤ 9223372036854775807 := by have := HT.out; omega
    have HTE : Hid (t + r.2.2.1 ≤ E + 10000) := by have := HLT.out; show t + r.2.2.1 ≤ E + 10000; omega
    have HMS : Hid (1 ≤ r.2.2.1) := hra.1
    have HMT : Hid (MtOk b t s c) := hmt.out
    clear hra hm1 hm2 hm3 hm4 hmt hte
    by_cases hov : c + r.2.2.2.1 > l - k
    · have HQ : Hid (reQ ls l k z b m = (t, s, c)) := by show _ = _; rw [hcn.out]; exact cN_stop _ _ _ _ _ _ _ _ (.inr (by rw [HTA.out]; omega))
      have ht1 : t < E := HLT.out
      have ht2 := HE2.out
      have hbo := HC.out.2
      have hmo := HMM.out
      have hst := HMT.out.st
      have hs0 := HMT.out.s0
      have hcs := HMT.out.cs
      have hc0 := HMT.out.c0
      have hw1 : -9223372036854775808 ≤ t - b ∧ t - b ≤ 9223372036854775807 := by omega
      have hw2 : -9223372036854775808 ≤ b + m ∧ b + m ≤ 9223372036854775807 := by omega
      have hw3 : -9223372036854775808 ≤ 1000000000 - b ∧ 1000000000 - b ≤ 9223372036854775807 := by omega
      have hw4 : -9223372036854775808 ≤ b + (t - b) ∧ b + (t - b) ≤ 9223372036854775807 := by omega
      have hpk := HPK.out
      simp [pOk] at hpk
      have hw5 : -9223372036854775808 ≤ k + c ∧ k + c ≤ 9223372036854775807 := by omega
      have HBO : Hid (b ≤ 1000000000 ∧ 0 ≤ b ∧ 1 ≤ m ∧ m ≤ 86400 ∧ b ≤ t) := ⟨hbo.2.1, hbo.1, hmo.1, hmo.2, by omega⟩
      have c0 := HK3.out.cell 0
      have c1 := HK3.out.cell 1
      have f0 := HK3.out.frozen 0
      have f1 := HK3.out.frozen 1
      have a0 := HA3.out.cell 0
      have a1 := HA3.out.cell 1
      have af1 := HA3.out.frozen 1
      simp at c0 c1 a0 a1
      clear hbo hmo hst hs0 hcs hc0 hpk
      by_cases hA : t - b > m
      · have hA' : t - b > m := hA
        by_cases hX : b + m > 1000000000
        · have hX' : b + m > 1000000000 := by omega
          try (exfalso; omega)
          all_goals
            have HRN : Hid (reN ls l k z b m = (1000000000 - b)) := by show reN ls l k z b m = (1000000000 - b); unfold reN; rw [HQ.out]; unfold reE; have := HBO.out; dsimp only; omega
            by_cases hn : (1000000000 - b) < 1
            · obtain ⟨h1, h2⟩ := HNO.out w3 HK3.out HB3.out (fun h => by have := h.2; rw [HRN.out] at this; omega)
              have H1 : Hid _ := h1
              have H2 : Hid _ := h2
              clear h1 h2
              go_wp2
              exact bodyPost_ret (results_P3 rfl _ _ _ l k (.int .i64 0) (.bool false) rfl rfl rfl H1.out) rfl H2.out
            · have hn' : ((1000000000 - b) < 1) = False := eq_false hn
              have H1 : Hid (Blk (((w3.setCell ⟨P, 1, none⟩ (.int .i64 (k + c))).setCell ⟨P + 1, 0, none⟩ (.int .i64 l)).setCell ⟨P + 1, 1, none⟩ (.int .i64 (k + c))) (P + 1) (P2 l (k + c)) 25) := (((HK3.out.other ⟨P, 1, none⟩ (.int .i64 (k + c)) (by dsimp only; omega)).set 0 _).set 1 _ : Blk _ _ _ _)
              have H2 : Hid (ReR ls l k z b m w (.returned (.tuple #[.agg (P2 l (k + c)), .int .i64 (1000000000 - b), .bool true])) (((w3.setCell ⟨P, 1, none⟩ (.int .i64 (k + c))).setCell ⟨P + 1, 0, none⟩ (.int .i64 l)).setCell ⟨P + 1, 1, none⟩ (.int .i64 (k + c)))) := by
                have hP := HP.out
                refine ⟨_, _, _, rfl, .inl ⟨⟨⟨HC.out, HPK.out, HMM.out⟩, by rw [HRN.out]; omega⟩, by rw [HQ.out], by rw [HRN.out], rfl⟩, ?_⟩
                exact (((HB3.out.setCell (p := ⟨P, 1, none⟩) (by dsimp only; omega) _).setCell (p := ⟨P + 1, 0, none⟩) (by dsimp only; omega) _).setCell (p := ⟨P + 1, 1, none⟩) (by dsimp only; omega) _)
              clear hn
              go_wp2
              exact bodyPost_ret (results_P3 rfl _ _ _ l (k + c) (.int .i64 (1000000000 - b)) (.bool true) rfl rfl rfl H1.out) rfl H2.out
        · have hX' : (b + m > 1000000000) = False := eq_false (by omega)
          have hX2 : (b + m > 1000000000) = False := eq_false hX
          have hX3 : b + m ≤ 1000000000 := by omega
          clear hX
          try (exfalso; omega)
          all_goals
            have HRN : Hid (reN ls l k z b m = m) := by show reN ls l k z b m = m; unfold reN; rw [HQ.out]; unfold reE; have := HBO.out; dsimp only; omega
            by_cases hn : m < 1
            · obtain ⟨h1, h2⟩ := HNO.out w3 HK3.out HB3.out (fun h => by have := h.2; rw [HRN.out] at this; omega)
              have H1 : Hid _ := h1
              have H2 : Hid _ := h2
              clear h1 h2
              go_wp2
              exact bodyPost_ret (results_P3 rfl _ _ _ l k (.int .i64 0) (.bool false) rfl rfl rfl H1.out) rfl H2.out
            · have hn' : (m < 1) = False := eq_false hn
              have H1 : Hid (Blk (((w3.setCell ⟨P, 1, none⟩ (.int .i64 (k + c))).setCell ⟨P + 1, 0, none⟩ (.int .i64 l)).setCell ⟨P + 1, 1, none⟩ (.int .i64 (k + c))) (P + 1) (P2 l (k + c)) 25) := (((HK3.out.other ⟨P, 1, none⟩ (.int .i64 (k + c)) (by dsimp only; omega)).set 0 _).set 1 _ : Blk _ _ _ _)
              have H2 : Hid (ReR ls l k z b m w (.returned (.tuple #[.agg (P2 l (k + c)), .int .i64 m, .bool true])) (((w3.setCell ⟨P, 1, none⟩ (.int .i64 (k + c))).setCell ⟨P + 1, 0, none⟩ (.int .i64 l)).setCell ⟨P + 1, 1, none⟩ (.int .i64 (k + c)))) := by
                have hP := HP.out
                refine ⟨_, _, _, rfl, .inl ⟨⟨⟨HC.out, HPK.out, HMM.out⟩, by rw [HRN.out]; omega⟩, by rw [HQ.out], by rw [HRN.out], rfl⟩, ?_⟩
                exact (((HB3.out.setCell (p := ⟨P, 1, none⟩) (by dsimp only; omega) _).setCell (p := ⟨P + 1, 0, none⟩) (by dsimp only; omega) _).setCell (p := ⟨P + 1, 1, none⟩) (by dsimp only; omega) _)
              clear hn
              go_wp2
              exact bodyPost_ret (results_P3 rfl _ _ _ l (k + c) (.int .i64 m) (.bool true) rfl rfl rfl H1.out) rfl H2.out
      · have hA' : (t - b > m) = False := eq_false hA
        have hA2 : t - b ≤ m := by omega
        clear hA
        by_cases hX : t > 1000000000
        · have hX' : b + (t - b) > 1000000000 := by omega
          try (exfalso; omega)
          all_goals
            have HRN : Hid (reN ls l k z b m = (1000000000 - b)) := by show reN ls l k z b m = (1000000000 - b); unfold reN; rw [HQ.out]; unfold reE; have := HBO.out; dsimp only; omega
            by_cases hn : (1000000000 - b) < 1
            · obtain ⟨h1, h2⟩ := HNO.out w3 HK3.out HB3.out (fun h => by have := h.2; rw [HRN.out] at this; omega)
              have H1 : Hid _ := h1
              have H2 : Hid _ := h2
              clear h1 h2
              go_wp2
              exact bodyPost_ret (results_P3 rfl _ _ _ l k (.int .i64 0) (.bool false) rfl rfl rfl H1.out) rfl H2.out
            · have hn' : ((1000000000 - b) < 1) = False := eq_false hn
              have H1 : Hid (Blk (((w3.setCell ⟨P, 1, none⟩ (.int .i64 (k + c))).setCell ⟨P + 1, 0, none⟩ (.int .i64 l)).setCell ⟨P + 1, 1, none⟩ (.int .i64 (k + c))) (P + 1) (P2 l (k + c)) 25) := (((HK3.out.other ⟨P, 1, none⟩ (.int .i64 (k + c)) (by dsimp only; omega)).set 0 _).set 1 _ : Blk _ _ _ _)
              have H2 : Hid (ReR ls l k z b m w (.returned (.tuple #[.agg (P2 l (k + c)), .int .i64 (1000000000 - b), .bool true])) (((w3.setCell ⟨P, 1, none⟩ (.int .i64 (k + c))).setCell ⟨P + 1, 0, none⟩ (.int .i64 l)).setCell ⟨P + 1, 1, none⟩ (.int .i64 (k + c)))) := by
                have hP := HP.out
                refine ⟨_, _, _, rfl, .inl ⟨⟨⟨HC.out, HPK.out, HMM.out⟩, by rw [HRN.out]; omega⟩, by rw [HQ.out], by rw [HRN.out], rfl⟩, ?_⟩
                exact (((HB3.out.setCell (p := ⟨P, 1, none⟩) (by dsimp only; omega) _).setCell (p := ⟨P + 1, 0, none⟩) (by dsimp only; omega) _).setCell (p := ⟨P + 1, 1, none⟩) (by dsimp only; omega) _)
              clear hn
              go_wp2
              exact bodyPost_ret (results_P3 rfl _ _ _ l (k + c) (.int .i64 (1000000000 - b)) (.bool true) rfl rfl rfl H1.out) rfl H2.out
        · have hX' : (b + (t - b) > 1000000000) = False := eq_false (by omega)
          have hX2 : (t > 1000000000) = False := eq_false hX
          have hX3 : t ≤ 1000000000 := by omega
          clear hX
          try (exfalso; omega)
          all_goals
            have HRN : Hid (reN ls l k z b m = (t - b)) := by show reN ls l k z b m = (t - b); unfold reN; rw [HQ.out]; unfold reE; have := HBO.out; dsimp only; omega
            by_cases hn : (t - b) < 1
            · obtain ⟨h1, h2⟩ := HNO.out w3 HK3.out HB3.out (fun h => by have := h.2; rw [HRN.out] at this; omega)
              have H1 : Hid _ := h1
              have H2 : Hid _ := h2
              clear h1 h2
              go_wp2
              exact bodyPost_ret (results_P3 rfl _ _ _ l k (.int .i64 0) (.bool false) rfl rfl rfl H1.out) rfl H2.out
            · have hn' : ((t - b) < 1) = False := eq_false hn
              have H1 : Hid (Blk (((w3.setCell ⟨P, 1, none⟩ (.int .i64 (k + c))).setCell ⟨P + 1, 0, none⟩ (.int .i64 l)).setCell ⟨P + 1, 1, none⟩ (.int .i64 (k + c))) (P + 1) (P2 l (k + c)) 25) := (((HK3.out.other ⟨P, 1, none⟩ (.int .i64 (k + c)) (by dsimp only; omega)).set 0 _).set 1 _ : Blk _ _ _ _)
              have H2 : Hid (ReR ls l k z b m w (.returned (.tuple #[.agg (P2 l (k + c)), .int .i64 (t - b), .bool true])) (((w3.setCell ⟨P, 1, none⟩ (.int .i64 (k + c))).setCell ⟨P + 1, 0, none⟩ (.int .i64 l)).setCell ⟨P + 1, 1, none⟩ (.int .i64 (k + c)))) := by
                have hP := HP.out
                refine ⟨_, _, _, rfl, .inl ⟨⟨⟨HC.out, HPK.out, HMM.out⟩, by rw [HRN.out]; omega⟩, by rw [HQ.out], by rw [HRN.out], rfl⟩, ?_⟩
                exact (((HB3.out.setCell (p := ⟨P, 1, none⟩) (by dsimp only; omega) _).setCell (p := ⟨P + 1, 0, none⟩) (by dsimp only; omega) _).setCell (p := ⟨P + 1, 1, none⟩) (by dsimp only; omega) _)
              clear hn
              go_wp2
              exact bodyPost_ret (results_P3 rfl _ _ _ l (k + c) (.int .i64 (t - b)) (.bool true) rfl rfl rfl H1.out) rfl H2.out
    · have hov' : (c + r.2.2.2.1 > l - k) = False := eq_false hov
      have HCN : Hid (reQ ls l k z b m = cN ls z E (l - k) (f - 1) (t + r.2.2.1) (s + 1) (c + r.2.2.2.1) ∧ E - (t + r.2.2.1) ≤ ((f - 1 : Nat) : Int)) := by
        have hfo := hf.out
        have hlo := HLT.out
        have hms := HMS.out
        refine ⟨?_, by omega⟩
        rw [hcn.out, show f = (f - 1) + 1 by omega, cN_step _ _ _ _ _ _ _ _ (by rw [HTA.out]; omega), HTA.out]
        rfl
      clear hov hcn hf
      go_wp2
      go_roundw
      case rel => exact ⟨i, t + r.2.2.1, s + 1, c + r.2.2.2.1, f - 1, rfl, rfl, rfl, HK3.out, HA3.out, HB3.out, HCN.out.1, HCN.out.2, HN.out, HTE.out⟩
      case measure => have h1 := HMS.out; have h2 := HLT.out; simp [intOf]; omega
end Go.Proofs.Ytdnophdldpophaa

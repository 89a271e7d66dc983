/- The model's Rate; no condition. -/
import Derived.Test.YtdnophdldpophaaRI
namespace Go.Proofs.Ytdnophdldpophaa
open Go.RowKit Go.ChangeShapes Go.WideShapes Go.ChangeAt
set_option linter.unusedVariables false
set_option linter.unusedSimpArgs false
set_option maxRecDepth 8000
set_option maxHeartbeats 12800000 in
theorem rateM_c (v : Value) (ls : List Tf) (z b e : Int) (w : World) (h : Rg 5 tfC w v ls) : Calls Try.prog 23 #[v, .int .i64 z, .int .i64 b, .int .i64 e] w (RtR ls z b e w) := by
  obtain ⟨W0, hW0⟩ : ∃ W0, w.alloc (Obj.cells (P2 0 0) 34) = W0 := ⟨_, rfl⟩
  have hb0 : Below w.heap.size w W0 := hW0 ▸ (Below.refl _ _).alloc (Nat.le_refl _) _
  have hs0 : W0.heap.size = w.heap.size + 1 := by rw [← hW0]; simp
  have HK0 : Hid (Blk W0 w.heap.size (P2 0 0) 34) := hW0 ▸ Blk.new _ _ _
  have HH : Hid (Rg 5 tfC w v ls) := h
  have HB0 : Hid (Below w.heap.size w W0) := hb0
  have HS0 : Hid (W0.heap.size = w.heap.size + 1) := hs0
  obtain ⟨a, cap, rfl, h1, h2, h3⟩ := h
  unfold maxLen at h2
  obtain ⟨P, hP⟩ : ∃ P, w.heap.size = P := ⟨_, rfl⟩
  have HW0 : Hid (w.alloc (Obj.cells (P2 0 0) 34) = W0) := hW0
  have HP : Hid (w.heap.size = P) := hP
  clear hW0 hb0 hs0
  go_enter Try.func23, Try.ntmps23
  go_wp2_with (fail)
  clear hP
  rw [HW0.out]
  refine (atM_c _ ls z b W0 (HH.out.below HB0.out)).mono ?_
  have HNO : Hid (∀ W, Below W0.heap.size W0 W → ¬ RtOk ls z b e → Blk ((W.setCell ⟨P, 0, none⟩ (.int .i64 0)).setCell ⟨P, 1, none⟩ (.int .i64 0)) P (P2 0 0) 34 ∧ RtR ls z b e w (.returned (.tuple #[.agg (P2 0 0), .bool false])) ((W.setCell ⟨P, 0, none⟩ (.int .i64 0)).setCell ⟨P, 1, none⟩ (.int .i64 0))) := by
    intro W hW hn
    have hk := HK0.out.below hW HK0.out.lt
    have hP := HP.out
    subst hP
    exact ⟨(hk.set 0 _).set 1 _, 0, 0, false, rfl, .inr ⟨hn, rfl, rfl, rfl⟩, ((HB0.out.trans (hW.mono HB0.out.size)).setCell (p := ⟨w.heap.size, 0, none⟩) (Nat.le_refl _) _).setCell (p := ⟨w.heap.size, 1, none⟩) (Nat.le_refl _) _⟩
  rintro x w1 ⟨p, rfl, hp, hpn, b1⟩
  have HB1 : Hid (Below W0.heap.size W0 w1) := b1
  have hk := HK0.out.below b1 HK0.out.lt
  rw [HP.out] at hk
  have HK1 : Hid (Blk w1 P (P2 0 0) 34) := hk
  clear hk b1
  by_cases hc : TfOk ls ∧ 0 ≤ b ∧ b ≤ 1000000000 ∧ HasZ ls z
  case neg =>
    have hp1 : p < 0 := by
      by_cases h5 : TfOk ls ∧ 0 ≤ b ∧ b ≤ 1000000000
      · have h6 := hp h5
        by_cases h7 : 0 ≤ p
        · exact absurd ⟨h5.1, h5.2.1, h5.2.2, hasZ_of (h6 ▸ h7)⟩ hc
        · omega
      · rw [hpn h5]; decide
    have hd : decide (0 ≤ p) = false := by simp; omega
    rw [hd]
    have c0 := HK1.out.cell 0
    have c1 := HK1.out.cell 1
    have f0 := HK1.out.frozen 0
    have f1 := HK1.out.frozen 1
    simp at c0 c1
    obtain ⟨h1, h2⟩ := HNO.out w1 HB1.out (fun h => hc h.1)
    have H1 : Hid _ := h1
    have H2 : Hid _ := h2
    clear h1 h2 hc hp hpn hp1 hd h3
    go_wp2
    exact bodyPost_ret (results_C2 rfl _ _ P 0 0 (.bool false) rfl rfl H1.out) rfl H2.out
  case pos =>
  have HC : Hid (TfOk ls ∧ 0 ≤ b ∧ b ≤ 1000000000 ∧ HasZ ls z) := hc
  obtain ⟨i0, hi0, hil0, -⟩ := hoF_neg (t := b) hc.2.2.2
  have hpi : p = i0 := by rw [hp ⟨hc.1, hc.2.1, hc.2.2.1⟩, hi0]
  subst hpi
  have hd : decide (0 ≤ (i0 : Int)) = true := by simp
  rw [hd]
  have HF0 : Hid (tfA ls z b = ls[i0]) := tfA_at hi0 hil0
  clear hc hp hpn hd hi0
  go_wp2_with (fail)
  refine (l9Ticks_c b e ⟨HC.out.2.1, HC.out.2.2.1⟩ _).mono ?_
  rintro x w2 ⟨rfl, hw⟩
  rw [hw]
  clear hw w2
  by_cases he : b ≤ e ∧ e ≤ 1000000000 ∧ e ≤ b + 86400
  case neg =>
    have hd : decide (b ≤ e ∧ e ≤ 1000000000 ∧ e ≤ b + 86400) = false := by
      cases hq : decide (b ≤ e ∧ e ≤ 1000000000 ∧ e ≤ b + 86400) with
      | false => rfl
      | true => exact absurd (of_decide_eq_true hq) he
    rw [hd]
    have c0 := HK1.out.cell 0
    have c1 := HK1.out.cell 1
    have f0 := HK1.out.frozen 0
    have f1 := HK1.out.frozen 1
    simp at c0 c1
    obtain ⟨h1, h2⟩ := HNO.out w1 HB1.out (fun h => he h.2)
    have H1 : Hid _ := h1
    have H2 : Hid _ := h2
    clear h1 h2 hd he h3
    go_wp2
    exact bodyPost_ret (results_C2 rfl _ _ P 0 0 (.bool false) rfl rfl H1.out) rfl H2.out
  case pos =>
  have hd : decide (b ≤ e ∧ e ≤ 1000000000 ∧ e ≤ b + 86400) = true := by simpa using he
  rw [hd]
  have HE : Hid (b ≤ e ∧ e ≤ 1000000000 ∧ e ≤ b + 86400) := he
  clear hd he HNO
  rcases h3 with h3 | ⟨bb, off, rfl, h4⟩
  · subst h3; simp at hil0
  have H4 : Hid (∀ W, Below w.heap.size w W → ∀ i (h : i < ls.length), W.rangeAt bb (off + i * 5) (tfC ls[i])) := fun W hW i hi => rangeAt_below (h4 i hi) hW (block_lt_of_cell (h4 i hi 0 _ rfl))
  have HBw1 : Hid (Below w.heap.size w w1) := HB0.out.trans (HB1.out.mono HB0.out.size)
  have e4 : w1.cell? ⟨bb, off + i0 * 5 + 4, none⟩ = some (.int .i64 (tfA ls z b).2.2.2.2) := by
    rw [HF0.out]; exact H4.out w1 HBw1.out i0 hil0 4 _ rfl
  obtain ⟨c0, hc0⟩ : ∃ c, (tfA ls z b).2.2.2.2 = c := ⟨_, rfl⟩
  rw [hc0] at e4
  have HC0 : Hid ((tfA ls z b).2.2.2.2 = c0) := hc0
  have hiI0 : (i0 : Int) < (ls.length : Int) := by omega
  obtain ⟨W2, hW2⟩ : ∃ W, w1.alloc (Obj.cells (P2 0 c0) 34) = W := ⟨_, rfl⟩
  obtain ⟨X, hX⟩ : ∃ X, w1.heap.size = X := ⟨_, rfl⟩
  have HX2 : Hid (Blk W2 X (P2 0 c0) 34) := by show Blk _ _ _ _; rw [← hW2, ← hX]; exact Blk.new _ _ _
  have HK2 : Hid (Blk W2 P (P2 0 0) 34) := hW2 ▸ HK1.out.alloc _
  have HB2 : Hid (Below w.heap.size w W2) := hW2 ▸ HBw1.out.alloc HBw1.out.size _
  have HPX : Hid (P < X ∧ w.heap.size ≤ X) := ⟨by rw [← hX]; exact HK1.out.lt, by rw [← hX]; exact HBw1.out.size⟩
  clear h4 hc0
  go_wp2
  try rw [hW2]
  try rw [hX]
  clear hW2 hX
  clear e4
  go_loopw [10, 13] (fun av tv wr => ∃ (qa t s c : Int) (f : Nat), av = .int .i64 qa ∧ tv = .int .i64 t ∧ Hid (Blk wr X (P2 s c) 34) ∧ Hid (Blk wr P (P2 0 0) 34) ∧ Hid (Below w.heap.size w wr) ∧ Hid (rtF ls z b e 9223372036854775807 = cN ls z e 9223372036854775807 f t s c) ∧ Hid (e - t ≤ f) ∧ Hid (MtOk b t s c) ∧ Hid (t ≤ e + 10000)) (fun _ tv _ => (e - intOf tv).toNat)
  case atStart => exact ⟨i0, b, 0, c0, (e - b).toNat, rfl, rfl, HX2.out, HK2.out, HB2.out, by show rtF _ _ _ _ _ = _; rw [rtF, HC0.out], by have := HE.out; show e - b ≤ _; omega, by have := MtOk.zero (b := b) HC.out.1 HC.out.2.2.2; rw [HC0.out] at this; exact this, by have := HE.out; show b ≤ e + 10000; omega⟩
  case round =>
    obtain ⟨qa, t, s, c, f, rfl, rfl, hX, hK, hbr, hcn, hf, hmt, hte⟩ := hrel
    clear HX2 HK2 HB2 HC0
    by_cases hlt : t < e
    case neg =>
      have hlt' : (t < e) = False := eq_false hlt
      have HQ : Hid (rtF ls z b e 9223372036854775807 = (t, s, c)) := by show _ = _; rw [hcn.out]; exact cN_stop _ _ _ _ _ _ _ _ (.inl (by omega))
      have c0 := hK.out.cell 0
      have c1 := hK.out.cell 1
      have f0 := hK.out.frozen 0
      have f1 := hK.out.frozen 1
      have m0 := hX.out.cell 0
      have m1 := hX.out.cell 1
      simp at c0 c1 m0 m1
      have h1 : Blk ((wr.setCell ⟨P, 0, none⟩ (.int .i64 s)).setCell ⟨P, 1, none⟩ (.int .i64 c)) P (P2 s c) 34 := (hK.out.set 0 _).set 1 _
      have h2 : RtR ls z b e w (.returned (.tuple #[.agg (P2 s c), .bool true])) ((wr.setCell ⟨P, 0, none⟩ (.int .i64 s)).setCell ⟨P, 1, none⟩ (.int .i64 c)) := by
        have hP := HP.out
        subst hP
        exact ⟨_, _, _, rfl, .inl ⟨⟨HC.out, HE.out⟩, rfl, by rw [HQ.out], by rw [HQ.out]⟩, (hbr.out.setCell (p := ⟨w.heap.size, 0, none⟩) (Nat.le_refl _) _).setCell (p := ⟨w.heap.size, 1, none⟩) (Nat.le_refl _) _⟩
      have H1 : Hid _ := h1
      have H2 : Hid _ := h2
      clear h1 h2 hlt
      go_wp2
      exact bodyPost_ret (results_C2 rfl _ _ P s c (.bool true) rfl rfl H1.out) rfl H2.out
    case pos =>
    have HLT : Hid (t < e) := hlt
    have HT : Hid (0 ≤ t ∧ t ≤ 1000000000) := ⟨by have := HC.out.2.1; have := hmt.out.st; have := hmt.out.s0; omega, by have := HE.out; omega⟩
    obtain ⟨i, hi, hil, -⟩ := hoF_neg (t := t) HC.out.2.2.2
    obtain ⟨r, hr⟩ : ∃ r, ls[i] = r := ⟨_, rfl⟩
    have HTA : Hid (tfA ls z t = r) := by show tfA ls z t = r; rw [tfA_at hi hil, hr]
    have HRR : Hid (∀ W, Below w.heap.size w W → W.rangeAt bb (off + i * 5) (tfC r)) := fun W hW => by have := H4.out W hW i hil; rw [hr] at this; exact this
    have HHI : Hid (hoF ls z t = i) := hi
    have hiI : (i : Int) < (ls.length : Int) := by omega
    clear hr hi
    go_wp2_with (fail)
    refine (atM_c _ ls z t wr (HH.out.below hbr.out)).mono ?_
    rintro x w3 ⟨q, rfl, hq, -, b3⟩
    have hqi : q = i := by rw [hq ⟨HC.out.1, HT.out.1, HT.out.2⟩, HHI.out]
    subst hqi
    have hd : decide (0 ≤ (i : Int)) = true := by simp
    rw [hd]
    have HX3 : Hid (Blk w3 X (P2 s c) 34) := hX.out.below b3 hX.out.lt
    have HK3 : Hid (Blk w3 P (P2 0 0) 34) := hK.out.below b3 hK.out.lt
    have HB3 : Hid (Below w.heap.size w w3) := belowCall hbr.out b3 hbr.out.size
    clear b3 hq hd hX hK hbr
    have hra := tfA_bd HC.out.1 HC.out.2.2.2 t
    rw [HTA.out] at hra
    have hm1 := hmt.out.s0
    have hm2 := hmt.out.st
    have hm3 := hmt.out.c0
    have hm4 := hmt.out.cs
    have HN : Hid (MtOk b (t + r.2.2.1) (s + 1) (c + r.2.2.2.1)) := by have := hmt.out.step HC.out.1 HC.out.2.2.2; rw [HTA.out] at this; exact this
    have hbig : c + r.2.2.2.1 ≤ 100000000000 := by have := HE.out; have := HT.out; omega
    have hw1 : -9223372036854775808 ≤ c + r.2.2.2.1 ∧ c + r.2.2.2.1 ≤ 9223372036854775807 := by omega
    have hw2 : -9223372036854775808 ≤ s + 1 ∧ s + 1 ≤ 9223372036854775807 := by have := HE.out; have := HT.out; omega
    have hw3 : -9223372036854775808 ≤ t + r.2.2.1 ∧ t + r.2.2.1 ≤ 9223372036854775807 := by have := HE.out; have := HT.out; omega
    have HTE : Hid (t + r.2.2.1 ≤ e + 10000) := by show t + r.2.2.1 ≤ e + 10000; omega
    have HCN : Hid (rtF ls z b e 9223372036854775807 = cN ls z e 9223372036854775807 (f - 1) (t + r.2.2.1) (s + 1) (c + r.2.2.2.1) ∧ e - (t + r.2.2.1) ≤ ((f - 1 : Nat) : Int)) := by
      have hfo := hf.out
      refine ⟨?_, by omega⟩
      rw [hcn.out, show f = (f - 1) + 1 by omega, cN_step _ _ _ _ _ _ _ _ (by rw [HTA.out]; omega), HTA.out]
      rfl
    have HMS : Hid (1 ≤ r.2.2.1) := hra.1
    clear hra hm1 hm2 hm3 hm4 hbig hcn hf hmt hte hlt
    obtain ⟨V5, hV5⟩ : ∃ V5, w3.setCell ⟨X, 0, none⟩ (.int .i64 (s + 1)) = V5 := ⟨_, rfl⟩
    have HV5 : Hid (w3.setCell ⟨X, 0, none⟩ (.int .i64 (s + 1)) = V5) := hV5
    have HX5 : Hid (Blk V5 X (P2 (s + 1) c) 34) := hV5 ▸ HX3.out.set 0 _
    have HK5 : Hid (Blk V5 P (P2 0 0) 34) := hV5 ▸ HK3.out.other _ _ (by have := HPX.out; dsimp only; omega)
    have HB5 : Hid (Below w.heap.size w V5) := hV5 ▸ HB3.out.setCell (p := ⟨X, 0, none⟩) HPX.out.2 _
    have g0 := HX3.out.cell 0
    have gf0 := HX3.out.frozen 0
    simp at g0
    clear hV5
    go_wp2
    rw [HV5.out]
    clear g0 gf0 HX3 HK3 HB3
    obtain ⟨V6, hV6⟩ : ∃ V6, (V5.setCell ⟨X, 1, none⟩ (.int .i64 (c + r.2.2.2.1))).drew = V6 := ⟨_, rfl⟩
    have HV6 : Hid ((V5.setCell ⟨X, 1, none⟩ (.int .i64 (c + r.2.2.2.1))).drew = V6) := hV6
    have HX6 : Hid (Blk V6 X (P2 (s + 1) (c + r.2.2.2.1)) 34) := hV6 ▸ (HX5.out.set 1 _).drew
    have HK6 : Hid (Blk V6 P (P2 0 0) 34) := hV6 ▸ (HK5.out.other _ _ (by have := HPX.out; dsimp only; omega)).drew
    have HB6 : Hid (Below w.heap.size w V6) := hV6 ▸ (HB5.out.setCell (p := ⟨X, 1, none⟩) HPX.out.2 _).drew
    clear hV6
    have g0 : V5.drew.cell? ⟨X, 1, none⟩ = some (.int .i64 c) := HX5.out.drew.cell 1
    have gf0 : V5.drew.frozen? ⟨X, 1, none⟩ = false := HX5.out.drew.frozen 1
    have g1 : V5.drew.cell? ⟨bb, off + i * 5 + 3, none⟩ = some (.int .i64 r.2.2.2.1) := HRR.out V5.drew HB5.out.drew 3 _ rfl
    refine region_det [.pointer (some ⟨X, 1, none⟩), .int .i64 c, .slice (some ⟨bb, off, none⟩) ls.length cap, .int .i64 (i : Int), .pointer (some ⟨bb, off + i * 5, none⟩), .pointer (some ⟨bb, off + i * 5 + 3, none⟩), .int .i64 r.2.2.2.1, .int .i64 (c + r.2.2.2.1), .pointer (some ⟨X, 1, none⟩), undef] (DsS V5.drew V6 1 6 7 9) (by kernel_rfl) (by kernel_rfl)
      (by simp only [putAll, Act.put, List.setIfInBounds_toArray, List.set_cons_succ, List.set_cons_zero]; exact rfl) (DsS.begin _ _ _ _ _ _) ⟨?_, ?_, ?_, ?_, ?_, ?_, ?_, ?_, ?_, ?_, trivial⟩ ?_
    · rintro d W H hn hd
      have HH1 : Hid (DsS V5.drew V6 1 6 7 9 (doneSet d 0) W) := H.other 0 (by decide) (fun h => by cases h)
      clear H hn hd
      go_wp2
      exact ⟨rfl, rfl, HH1.out⟩
    · rintro d W H hn hd
      have HH1 : Hid (DsS V5.drew V6 1 6 7 9 (doneSet d 1) W) := H.other 1 (by decide) (fun h => by cases h)
      obtain rfl := H.ld1 hn
      clear H hn hd
      go_wp2
      exact ⟨rfl, rfl, HH1.out⟩
    · rintro d W H hn hd
      have HH1 : Hid (DsS V5.drew V6 1 6 7 9 (doneSet d 2) W) := H.other 2 (by decide) (fun h => by cases h)
      clear H hn hd
      go_wp2
      exact ⟨rfl, rfl, HH1.out⟩
    · rintro d W H hn hd
      have HH1 : Hid (DsS V5.drew V6 1 6 7 9 (doneSet d 3) W) := H.other 3 (by decide) (fun h => by cases h)
      clear H hn hd
      go_wp2
      exact ⟨rfl, rfl, HH1.out⟩
    · rintro d W H hn hd
      have HH1 : Hid (DsS V5.drew V6 1 6 7 9 (doneSet d 4) W) := H.other 4 (by decide) (fun h => by cases h)
      clear H hn hd
      go_wp2
      exact ⟨rfl, rfl, HH1.out⟩
    · rintro d W H hn hd
      have HH1 : Hid (DsS V5.drew V6 1 6 7 9 (doneSet d 5) W) := H.other 5 (by decide) (fun h => by cases h)
      clear H hn hd
      go_wp2
      exact ⟨rfl, rfl, HH1.out⟩
    · rintro d W H hn hd
      have HH1 : Hid (DsS V5.drew V6 1 6 7 9 (doneSet d 6) W) := H.other 6 (by decide) (fun h => by cases h)
      obtain rfl := H.ld2 hn
      clear H hn hd
      go_wp2
      exact ⟨rfl, rfl, HH1.out⟩
    · rintro d W H hn hd
      have hA : d 1 = true ∧ d 6 = true := ⟨hd { on := 1, ground := .data } (by simp) rfl, hd { on := 6, ground := .data } (by simp) rfl⟩
      have HH1 : Hid (DsS V5.drew V6 1 6 7 9 (doneSet d 7) W) := H.other 7 (by decide) (fun _ => hA)
      clear H hn hd hA
      go_wp2
      exact ⟨rfl, rfl, HH1.out⟩
    · rintro d W H hn hd
      have HH1 : Hid (DsS V5.drew V6 1 6 7 9 (doneSet d 8) W) := H.other 8 (by decide) (fun h => by cases h)
      clear H hn hd
      go_wp2
      exact ⟨rfl, rfl, HH1.out⟩
    · rintro d W H hn hd
      have hA : d 7 = true := hd { on := 7, ground := .data } (by simp) rfl
      have HH1 : Hid (DsS V5.drew V6 1 6 7 9 (doneSet d 9) V6) := H.store (by decide) hA
      obtain rfl := H.1 hn
      clear H hn hd hA
      go_wp2
      first | rw [HV6.out] | skip
      exact ⟨rfl, rfl, HH1.out⟩
    rintro d W H hn
    rw [H.2.1 (hn 9 (by decide))]
    clear H hn
    clear g0 gf0 g1
    have g2 : V6.cell? ⟨bb, off + i * 5 + 2, none⟩ = some (.int .i64 r.2.2.1) := HRR.out V6 HB6.out 2 _ rfl
    go_wp2
    go_roundw
    case rel => exact ⟨i, t + r.2.2.1, s + 1, c + r.2.2.2.1, f - 1, rfl, rfl, HX6.out, HK6.out, HB6.out, HCN.out.1, HCN.out.2, HN.out, HTE.out⟩
    case measure => have h1 := HMS.out; have h2 := HLT.out; simp [intOf]; omega
end Go.Proofs.Ytdnophdldpophaa

/- The model's DeskOk; no condition. -/
import Derived.Test.YtpmmgbinogokfaaDMath
namespace Go.Proofs.Ytpmmgbinogokfaa
open Go.RowKit Go.ChangeShapes Go.WideShapes Go.ChangeAt
set_option linter.unusedVariables false
set_option linter.unusedSimpArgs false
set_option maxRecDepth 8000
set_option maxHeartbeats 12800000 in
theorem deskM_c (n g : Int) (va vq : Value) (gs : List Ag) (qs : List Wt) (w : World) (ha : Rg 3 agC w va gs) (hq : Rg 4 wtC w vq qs) : Calls Try.prog 11 #[.agg (D4 n va vq g)] w (BoR (DkM n g gs qs) w) := by
  have HA : Hid (Rg 3 agC w va gs) := ha
  obtain ⟨ga, gcap, rfl, gl, -, g3⟩ := ha
  obtain ⟨a, cap, rfl, ql, -, q3⟩ := hq
  obtain ⟨gm, hgm⟩ : ∃ m, gs.length = m := ⟨_, rfl⟩
  obtain ⟨m, hm⟩ : ∃ m, qs.length = m := ⟨_, rfl⟩
  have HM : Hid (gs.length = gm ∧ qs.length = m) := ⟨hgm, hm⟩
  have G3 : Hid (gs = [] ∨ ∃ b off, ga = some ⟨b, off, none⟩ ∧ ∀ i (h : i < gs.length), w.rangeAt b (off + i * 3) (agC gs[i])) := g3
  have Q3 : Hid (qs = [] ∨ ∃ b off, a = some ⟨b, off, none⟩ ∧ ∀ i (h : i < qs.length), w.rangeAt b (off + i * 4) (wtC qs[i])) := q3
  rw [hgm] at HA
  rw [hgm, hm]
  clear hgm hm gl ql g3 q3
  obtain ⟨W0, hW0⟩ : ∃ W0, w.alloc (Obj.cells (D4 n (.slice ga gm gcap) (.slice a m cap) g) 27) = W0 := ⟨_, rfl⟩
  have B0 : Hid (Below w.heap.size w W0) := hW0 ▸ (Below.refl _ _).alloc (Nat.le_refl _) _
  have k0 : Blk W0 w.heap.size (D4 n (.slice ga gm gcap) (.slice a m cap) g) 27 := hW0 ▸ Blk.new _ _ _
  have K0 : Hid (Blk W0 w.heap.size (D4 n (.slice ga gm gcap) (.slice a m cap) g) 27) := k0
  have HW0 : Hid (w.alloc (Obj.cells (D4 n (.slice ga gm gcap) (.slice a m cap) g) 27) = W0) := hW0
  clear k0 hW0
  obtain ⟨t, ht⟩ : ∃ t, tkB n = t := ⟨_, rfl⟩
  obtain ⟨p, hp⟩ : ∃ p, decide ((1 : Int) ≤ (gm : Int) ∧ (gm : Int) ≤ 12) = p := ⟨_, rfl⟩
  obtain ⟨G, hG⟩ : ∃ p, decide (0 ≤ g ∧ g ≤ 1000000) = p := ⟨_, rfl⟩
  have HT : Hid (tkB n = t) := ht
  have HP : Hid (decide ((1 : Int) ≤ (gm : Int) ∧ (gm : Int) ≤ 12) = p) := hp
  have HG : Hid (decide (0 ≤ g ∧ g ≤ 1000000) = G) := hG
  clear ht hp hG
  by_cases hall : (t = true ∧ p = true) ∧ ¬ (m : Int) > 40 ∧ G = true
  case neg =>
    have HY : Hid (¬ DkM n g gs qs) := fun h => hall ⟨⟨by rw [← HT.out]; exact h.2.2.1, by rw [← HP.out]; exact decide_eq_true (by have := h.1; have := HM.out.1; omega)⟩, by have := h.2.1; have := HM.out.2; omega, by rw [← HG.out]; exact decide_eq_true h.2.2.2.1⟩
    have HB : Hid (∀ W, w.alloc (Obj.cells (D4 n (.slice ga gm gcap) (.slice a m cap) g) 27) = W → BoR (DkM n g gs qs) w (.returned (.bool false)) W) := fun W e => BoR.no HY.out (e ▸ (Below.refl _ _).alloc (Nat.le_refl _) _)
    clear HA G3 Q3 B0 K0 HW0
    cases t with
    | false =>
      clear hall
      go_enter Try.func11, Try.ntmps11
      go_wp2_with (first | (go_at_call 40; refine (tickM_c _ _).mono ?_; rintro e w2 ⟨rfl, rfl⟩; rw [HT.out]))
      go_ret
      exact HB.out _ rfl
    | true =>
    cases p with
    | false =>
      clear hall
      go_enter Try.func11, Try.ntmps11
      go_wp2_with (first | (go_at_call 40; refine (tickM_c _ _).mono ?_; rintro e w2 ⟨rfl, rfl⟩; rw [HT.out]) | (go_at_call 41; refine (in_c _ _ _ _).mono ?_; rintro e w2 ⟨rfl, rfl⟩; rw [HP.out]))
      go_ret
      exact HB.out _ rfl
    | true =>
    by_cases h40 : (m : Int) > 40
    · clear hall
      go_enter Try.func11, Try.ntmps11
      go_wp2_with (first | (go_at_call 40; refine (tickM_c _ _).mono ?_; rintro e w2 ⟨rfl, rfl⟩; rw [HT.out]) | (go_at_call 41; refine (in_c _ _ _ _).mono ?_; rintro e w2 ⟨rfl, rfl⟩; rw [HP.out]))
      go_ret
      exact HB.out _ rfl
    · cases G with
      | true => exact absurd ⟨⟨rfl, rfl⟩, h40, rfl⟩ hall
      | false =>
        clear hall
        go_enter Try.func11, Try.ntmps11
        go_wp2_with (first | (go_at_call 40; refine (tickM_c _ _).mono ?_; rintro e w2 ⟨rfl, rfl⟩; rw [HT.out]) | (go_at_call 41; refine (in_c _ _ _ _).mono ?_; rintro e w2 ⟨rfl, rfl⟩; first | rw [HP.out] | rw [HG.out]))
        go_ret
        exact HB.out _ rfl
  case pos =>
  obtain ⟨⟨rfl, rfl⟩, h40, rfl⟩ := hall
  have HLIM : Hid ((1 ≤ gs.length ∧ gs.length ≤ 12) ∧ qs.length ≤ 40 ∧ tkB n = true ∧ (0 ≤ g ∧ g ≤ 1000000)) := ⟨by have := of_decide_eq_true HP.out; have := HM.out.1; omega, by have := HM.out.2; omega, HT.out, of_decide_eq_true HG.out⟩
  have hgm12 : gm ≤ 12 := by have := of_decide_eq_true HP.out; omega
  have hm40 : m ≤ 40 := by omega
  have hs0 : W0.heap.size = w.heap.size + 1 := by rw [← HW0.out]; simp
  have e0 := Ow.empty .i64 3 (w.heap.size + 1) W0 (by have := K0.out.lt; omega)
  obtain ⟨W1, hW1⟩ : ∃ W1, W0.alloc (Obj.cells #[] 3) = W1 := ⟨_, rfl⟩
  have b1 : Below W0.heap.size W0 W1 := hW1 ▸ (Below.refl _ _).alloc (Nat.le_refl _) _
  have B1 : Hid (Below w.heap.size w W1) := belowCall B0.out b1 B0.out.size
  have K1 : Hid (Blk W1 w.heap.size (D4 n (.slice ga gm gcap) (.slice a m cap) g) 27) := K0.out.below b1 K0.out.lt
  rw [hW1, hs0] at e0
  have E0 : Hid (Ow .i64 3 (w.heap.size + 1) W1 (.slice (some ⟨w.heap.size + 1, 0, none⟩) 0 0) []) := e0
  have HW1 : Hid (W0.alloc (Obj.cells #[] 3) = W1) := hW1
  clear b1 hW1 e0 hs0 B0 K0
  go_enter Try.func11, Try.ntmps11
  go_wp2_with (first | (go_at_call 40; refine (tickM_c _ _).mono ?_; rintro e w2 ⟨rfl, rfl⟩; rw [HT.out]) | (go_at_call 41; refine (in_c _ _ _ _).mono ?_; rintro e w2 ⟨rfl, rfl⟩; first | rw [HP.out] | rw [HG.out]))
  rw [HW0.out, HW1.out]
  clear HW0 HW1 HT HP HG
  have hbz0 : bz (gs.take 0) = [] := rfl
  go_loopw [3, 4] (fun v i wr => ∃ j : Nat, j ≤ gm ∧ i = .int .i64 j ∧ (∃ sa sc zl, zl ≤ j ∧ v = .slice sa zl sc ∧ Hid ((bz (gs.take j)).length = zl)) ∧ Hid (Ow .i64 3 (w.heap.size + 1) wr v (bz (gs.take j))) ∧ Hid (Below w.heap.size w wr) ∧ Hid (Blk wr w.heap.size (D4 n (.slice ga gm gcap) (.slice a m cap) g) 27) ∧ Hid (∀ i (h : i < gs.length), i < j → agB n gs[i] = true)) (fun _ i _ => gm - (intOf i).toNat)
  case atStart => exact ⟨0, Nat.zero_le _, rfl, ⟨_, _, 0, Nat.le_refl _, rfl, by show (bz (gs.take 0)).length = 0; rw [hbz0]; rfl⟩, by show Ow _ _ _ _ _ (bz (gs.take 0)); rw [hbz0]; exact E0.out, B1.out, K1.out, fun i _ h => by omega⟩
  case round =>
    clear hbz0
    obtain ⟨j, hj, rfl, ⟨sa, sc, zl, hzl, rfl, HZL⟩, OJ, BJ, KJ, AJ⟩ := hrel
    have x0 := KJ.out.cell 0
    have x1 := KJ.out.cell 1
    simp at x0 x1
    have hl0 := KJ.out.lt
    by_cases hlt : j < gm
    case pos =>
      have hjl : j < gs.length := by rw [HM.out.1]; exact hlt
      obtain ⟨b, off, rfl, h4⟩ : ∃ b off, ga = some ⟨b, off, none⟩ ∧ _ := by
        rcases G3.out with h | h
        · rw [h] at hjl; simp at hjl
        · exact h
      have hcb : b < w.heap.size := block_lt_of_cell (h4 j hjl 0 _ rfl)
      have hcb' : b < wr.heap.size := Nat.lt_of_lt_of_le hcb BJ.out.size
      obtain ⟨r, hr⟩ : ∃ r, gs[j] = r := ⟨_, rfl⟩
      have hc := rangeAt_below (h4 j hjl) BJ.out hcb
      rw [hr] at hc
      obtain ⟨r1, r2, r3⟩ := r
      have e0 : wr.cell? ⟨b, off + j * 3, none⟩ = some (.int .i64 r1) := hc 0 _ rfl
      have e1 : wr.cell? ⟨b, off + j * 3 + 1, none⟩ = some (.int .i64 r2) := hc 1 _ rfl
      have e2 : wr.cell? ⟨b, off + j * 3 + 2, none⟩ = some (.int .i64 r3) := hc 2 _ rfl
      have HR : Hid (gs[j] = (r1, r2, r3)) := hr
      obtain ⟨p1, hp1⟩ : ∃ p, decide (0 ≤ r1 ∧ r1 ≤ 255) = p := ⟨_, rfl⟩
      obtain ⟨p2, hp2⟩ : ∃ p, decide (-1 ≤ r2 ∧ r2 ≤ 1000000000) = p := ⟨_, rfl⟩
      obtain ⟨p3, hp3⟩ : ∃ p, decide (0 ≤ r3 ∧ r3 ≤ n) = p := ⟨_, rfl⟩
      have HPP : Hid (agB n gs[j] = (p1 && p2 && p3)) := by
        show agB n gs[j] = (p1 && p2 && p3)
        rw [HR.out, ← hp1, ← hp2, ← hp3, Bool.eq_iff_iff]
        simp [agB, tkB]
        omega
      have H1 : Hid (decide (0 ≤ r1 ∧ r1 ≤ 255) = p1) := hp1
      have H2 : Hid (decide (-1 ≤ r2 ∧ r2 ≤ 1000000000) = p2) := hp2
      have H3 : Hid (decide (0 ≤ r3 ∧ r3 ≤ n) = p3) := hp3
      clear h4 hc hr hp1 hp2 hp3
      have bA : Below wr.heap.size wr (wr.alloc (Obj.cells #[.int .i64 r1, .int .i64 r2, .int .i64 r3] 36)) := (Below.refl _ _).alloc (Nat.le_refl _) _
      have BA : Hid (Below w.heap.size w (wr.alloc (Obj.cells #[.int .i64 r1, .int .i64 r2, .int .i64 r3] 36))) := belowCall BJ.out bA BJ.out.size
      by_cases hok : p1 && p2 && p3
      case neg =>
        have HY : Hid (¬ DkM n g gs qs) := fun h => by
          have := h.2.2.2.2.1 _ (List.getElem_mem hjl)
          rw [HPP.out] at this; exact hok this
        clear bA
        cases p1 with
        | false =>
          go_wp2_with (go_at_call 41; refine (in_c _ _ _ _).mono ?_; rintro e w2 ⟨rfl, rfl⟩; first | rw [H1.out] | rw [H2.out] | rw [H3.out])
          go_ret
          exact BoR.no HY.out BA.out
        | true =>
        cases p2 with
        | false =>
          go_wp2_with (go_at_call 41; refine (in_c _ _ _ _).mono ?_; rintro e w2 ⟨rfl, rfl⟩; first | rw [H1.out] | rw [H2.out] | rw [H3.out])
          go_ret
          exact BoR.no HY.out BA.out
        | true =>
        cases p3 with
        | false =>
          go_wp2_with (go_at_call 41; refine (in_c _ _ _ _).mono ?_; rintro e w2 ⟨rfl, rfl⟩; first | rw [H1.out] | rw [H2.out] | rw [H3.out])
          go_ret
          exact BoR.no HY.out BA.out
        | true => exact absurd rfl hok
      case pos =>
      simp only [Bool.and_eq_true] at hok
      obtain ⟨⟨rfl, rfl⟩, rfl⟩ := hok
      have HAJ : Hid (∀ i (h : i < gs.length), i < j + 1 → agB n gs[i] = true) := fun i hi hij => by
        by_cases e : i < j
        · exact AJ.out i hi e
        · obtain rfl : i = j := by omega
          rw [HPP.out]; rfl
      by_cases hb0 : 0 ≤ r2
      · have HBS : Hid (bz (gs.take (j + 1)) = bz (gs.take j) ++ [r2]) := by
          show bz (gs.take (j + 1)) = bz (gs.take j) ++ [r2]
          rw [bz_snoc gs j hjl, HR.out]; simp [hb0]
        obtain ⟨W2, hW2⟩ : ∃ W2, (wr.alloc (Obj.cells #[.int .i64 r1, .int .i64 r2, .int .i64 r3] 36)).alloc (Obj.cells #[.int .i64 r2] 3) = W2 := ⟨_, rfl⟩
        have b2 : Below wr.heap.size wr W2 := hW2 ▸ bA.alloc (by simp) _
        have B2 : Hid (Below w.heap.size w W2) := belowCall BJ.out b2 BJ.out.size
        have K2 : Hid (Blk W2 w.heap.size (D4 n (.slice (some ⟨b, off, none⟩) gm gcap) (.slice a m cap) g) 27) := KJ.out.below b2 KJ.out.lt
        have O2 : Hid (Ow .i64 3 (w.heap.size + 1) W2 (.slice sa zl sc) (bz (gs.take j))) := OJ.out.below b2
        have X2 : Hid (W2.cell? ⟨wr.heap.size + 1, 0, none⟩ = some (.int .i64 r2)) := by
          show W2.cell? ⟨wr.heap.size + 1, 0, none⟩ = some (.int .i64 r2)
          rw [← hW2]; exact (Blk.newAt (wr.alloc (Obj.cells #[.int .i64 r1, .int .i64 r2, .int .i64 r3] 36)) (wr.heap.size + 1) #[.int .i64 r2] 3 (by simp)).cell 0
        have hsz : w.heap.size + 1 ≤ W2.heap.size := by have := b2.size; omega
        have HW2 : Hid ((wr.alloc (Obj.cells #[.int .i64 r1, .int .i64 r2, .int .i64 r3] 36)).alloc (Obj.cells #[.int .i64 r2] 3) = W2) := hW2
        have hb0' : r2 ≥ 0 := hb0
        clear bA b2 hW2 OJ KJ BJ BA
        go_wp2_with (first | (go_at_call 41; refine (in_c _ _ _ _).mono ?_; rintro e w2 ⟨rfl, rfl⟩; first | rw [H1.out] | rw [H2.out] | rw [H3.out]) | (at_builtin; rw [HW2.out]; refine appI rfl _ _ rfl (w.heap.size + 1) _ (bz (gs.take j)) rfl O2.out (wr.heap.size + 1) r2 rfl X2.out (by rw [HZL.out]; omega) hsz ?_))
        intro v9 w10 o10 b10
        have hl9 : (bz (gs.take j) ++ [r2]).length = zl + 1 := by simp [HZL.out]
        have O10 : Hid (Ow .i64 3 (w.heap.size + 1) w10 v9 (bz (gs.take (j + 1)))) := by show Ow _ _ _ _ _ _; rw [HBS.out]; exact o10
        have HL10 : Hid ((bz (gs.take (j + 1))).length = zl + 1) := by show _ = zl + 1; rw [HBS.out]; exact hl9
        have B10 : Hid (Below w.heap.size w w10) := B2.out.trans (b10.mono (by omega))
        have K10 : Hid (Blk w10 w.heap.size (D4 n (.slice (some ⟨b, off, none⟩) gm gcap) (.slice a m cap) g) 27) := K2.out.below b10 (by omega)
        obtain ⟨a9, cap9, h9, -⟩ := own_form o10
        rw [hl9] at h9
        subst h9
        clear o10 b10 hl9 O2 K2 B2 X2 x0 x1 HBS
        go_wp2
        go_roundw
        case rel => exact ⟨j + 1, by omega, by go_num, ⟨_, _, zl + 1, by omega, rfl, HL10.out⟩, O10.out, B10.out, K10.out, HAJ.out⟩
        case measure => simp [intOf]; omega
      · have HBS : Hid (bz (gs.take (j + 1)) = bz (gs.take j)) := by
          show bz (gs.take (j + 1)) = bz (gs.take j)
          rw [bz_snoc gs j hjl, HR.out]; simp [hb0]
        have O10 : Hid (Ow .i64 3 (w.heap.size + 1) (wr.alloc (Obj.cells #[.int .i64 r1, .int .i64 r2, .int .i64 r3] 36)) (.slice sa zl sc) (bz (gs.take (j + 1)))) := by show Ow _ _ _ _ _ _; rw [HBS.out]; exact OJ.out.below bA
        have HL10 : Hid ((bz (gs.take (j + 1))).length = zl) := by show _ = zl; rw [HBS.out]; exact HZL.out
        have K10 : Hid (Blk (wr.alloc (Obj.cells #[.int .i64 r1, .int .i64 r2, .int .i64 r3] 36)) w.heap.size (D4 n (.slice (some ⟨b, off, none⟩) gm gcap) (.slice a m cap) g) 27) := KJ.out.below bA KJ.out.lt
        have hb0' : ¬ r2 ≥ 0 := hb0
        clear bA
        go_wp2_with (first | (go_at_call 41; refine (in_c _ _ _ _).mono ?_; rintro e w2 ⟨rfl, rfl⟩; first | rw [H1.out] | rw [H2.out] | rw [H3.out]))
        go_roundw
        case rel => exact ⟨j + 1, by omega, by go_num, ⟨_, _, zl, by omega, rfl, HL10.out⟩, O10.out, BA.out, K10.out, HAJ.out⟩
        case measure => simp [intOf]; omega
    case neg =>
    obtain rfl : gm = j := by omega
    have HTK : Hid (gs.take gm = gs) := by show gs.take gm = gs; rw [← HM.out.1]; simp
    have HAG : Hid (∀ x ∈ gs, agB n x = true) := fun x hx => by
      obtain ⟨i, hi, rfl⟩ := List.getElem_of_mem hx
      exact AJ.out i hi (by rw [← HM.out.1]; exact hi)
    have HSK : Hid (SkOk gs) := fun x hx => by have := HAG.out x hx; simp [agB] at this; exact this.1.1
    have HBZ : Hid (BzOk gs) := fun x hx => (agB_bz (HAG.out x hx)).1
    have O1 : Hid (Ow .i64 3 (w.heap.size + 1) wr (.slice sa zl sc) (bz gs ++ cl (qs.take 0))) := by show Ow _ _ _ _ _ (bz gs ++ cl (qs.take 0)); have := OJ.out; rw [HTK.out] at this; simpa [cl] using this
    have HL1 : Hid ((bz gs ++ cl (qs.take 0)).length = zl) := by show (bz gs ++ cl (qs.take 0)).length = zl; have := HZL.out; rw [HTK.out] at this; simpa [cl] using this
    clear AJ OJ HZL hlt HTK
    go_wp2
    clear x0 x1
    go_loopw [3, 6] (fun v i wr => ∃ j : Nat, j ≤ m ∧ i = .int .i64 j ∧ (∃ sa sc zl, zl ≤ 12 + j ∧ v = .slice sa zl sc ∧ Hid ((bz gs ++ cl (qs.take j)).length = zl)) ∧ Hid (Ow .i64 3 (w.heap.size + 1) wr v (bz gs ++ cl (qs.take j))) ∧ Hid (Below w.heap.size w wr) ∧ Hid (Blk wr w.heap.size (D4 n (.slice ga gm gcap) (.slice a m cap) g) 27) ∧ Hid (∀ i (h : i < qs.length), i < j → wtB n qs[i] = true ∧ taker gs qs[i].2.1 = none)) (fun _ i _ => m - (intOf i).toNat)
    case atStart => exact ⟨0, Nat.zero_le _, rfl, ⟨_, _, zl, by omega, rfl, HL1.out⟩, O1.out, BJ.out, KJ.out, fun i _ h => by omega⟩
    case round =>
      clear O1 HL1 BJ KJ
      clear hl0
      clear hzl
      clear E0 B1 K1
      obtain ⟨j, hj, rfl, ⟨sa, sc, zl, hzl, rfl, HZL⟩, OJ, BJ, KJ, AJ⟩ := hrel
      have x0 := KJ.out.cell 0
      have x1 := KJ.out.cell 1
      have x2 := KJ.out.cell 2
      have x3 := KJ.out.cell 3
      simp at x0 x1 x2 x3
      have hl0 := KJ.out.lt
      by_cases hlt : j < m
      case pos =>
        have hjl : j < qs.length := by rw [HM.out.2]; exact hlt
        obtain ⟨b, off, rfl, h4⟩ : ∃ b off, a = some ⟨b, off, none⟩ ∧ _ := by
          rcases Q3.out with h | h
          · rw [h] at hjl; simp at hjl
          · exact h
        have hcb : b < w.heap.size := block_lt_of_cell (h4 j hjl 0 _ rfl)
        have hcb' : b < wr.heap.size := Nat.lt_of_lt_of_le hcb BJ.out.size
        obtain ⟨r, hr⟩ : ∃ r, qs[j] = r := ⟨_, rfl⟩
        have hc := rangeAt_below (h4 j hjl) BJ.out hcb
        rw [hr] at hc
        obtain ⟨r1, r2, r3, r4⟩ := r
        have e0 : wr.cell? ⟨b, off + j * 4, none⟩ = some (.int .i64 r1) := hc 0 _ rfl
        have e1 : wr.cell? ⟨b, off + j * 4 + 1, none⟩ = some (.int .i64 r2) := hc 1 _ rfl
        have e2 : wr.cell? ⟨b, off + j * 4 + 2, none⟩ = some (.int .i64 r3) := hc 2 _ rfl
        have e3 : wr.cell? ⟨b, off + j * 4 + 3, none⟩ = some (.int .i64 r4) := hc 3 _ rfl
        have HR : Hid (qs[j] = (r1, r2, r3, r4)) := hr
        obtain ⟨p1, hp1⟩ : ∃ p, tkB r1 = p := ⟨_, rfl⟩
        obtain ⟨p2, hp2⟩ : ∃ p, skB r2 = p := ⟨_, rfl⟩
        obtain ⟨p3, hp3⟩ : ∃ p, decide (0 ≤ r3 ∧ r3 ≤ 9) = p := ⟨_, rfl⟩
        obtain ⟨p4, hp4⟩ : ∃ p, decide (0 ≤ r4 ∧ r4 ≤ n) = p := ⟨_, rfl⟩
        have HPP : Hid (wtB n qs[j] = (p1 && p2 && p3 && p4)) := by
          show wtB n qs[j] = (p1 && p2 && p3 && p4)
          rw [HR.out, ← hp1, ← hp2, ← hp3, ← hp4]; rfl
        have H1 : Hid (tkB r1 = p1) := hp1
        have H2 : Hid (skB r2 = p2) := hp2
        have H3 : Hid (decide (0 ≤ r3 ∧ r3 ≤ 9) = p3) := hp3
        have H4 : Hid (decide (0 ≤ r4 ∧ r4 ≤ n) = p4) := hp4
        clear h4 hc hr hp1 hp2 hp3 hp4
        obtain ⟨WA, hWA⟩ : ∃ WA, wr.alloc (Obj.cells #[.int .i64 r1, .int .i64 r2, .int .i64 r3, .int .i64 r4] 74) = WA := ⟨_, rfl⟩
        have bA : Below wr.heap.size wr WA := hWA ▸ (Below.refl _ _).alloc (Nat.le_refl _) _
        have BA : Hid (Below w.heap.size w WA) := belowCall BJ.out bA BJ.out.size
        have HWA : Hid (wr.alloc (Obj.cells #[.int .i64 r1, .int .i64 r2, .int .i64 r3, .int .i64 r4] 74) = WA) := hWA
        have KA : Hid (Blk WA w.heap.size (D4 n (.slice ga gm gcap) (.slice (some ⟨b, off, none⟩) m cap) g) 27 ∧ Blk WA wr.heap.size #[.int .i64 r1, .int .i64 r2, .int .i64 r3, .int .i64 r4] 74) := ⟨KJ.out.below bA KJ.out.lt, hWA ▸ Blk.new _ _ _⟩
        have OA : Hid (Ow .i64 3 (w.heap.size + 1) WA (.slice sa zl sc) (bz gs ++ cl (qs.take j))) := OJ.out.below bA
        clear hWA bA OJ KJ
        by_cases hok : p1 && p2 && p3 && p4
        case neg =>
          have HY : Hid (¬ DkM n g gs qs) := fun h => by
            have := (h.2.2.2.2.2.1 _ (List.getElem_mem hjl)).1
            rw [HPP.out] at this; exact hok this
          have HF : Hid (∀ W, wr.alloc (Obj.cells #[.int .i64 r1, .int .i64 r2, .int .i64 r3, .int .i64 r4] 74) = W → BoR (DkM n g gs qs) w (.returned (.bool false)) W) := fun W e => BoR.no HY.out (by rw [← e, HWA.out]; exact BA.out)
          clear OA KA BA HWA
          cases p1 with
          | false =>
            go_wp2_with (first | (go_at_call 40; refine (tickM_c _ _).mono ?_; rintro e w2 ⟨rfl, rfl⟩; rw [H1.out]) | (go_at_call 42; refine (skillM_c _ _).mono ?_; rintro e w2 ⟨rfl, rfl⟩; rw [H2.out]) | (go_at_call 41; refine (in_c _ _ _ _).mono ?_; rintro e w2 ⟨rfl, rfl⟩; first | rw [H3.out] | rw [H4.out]))
            go_ret
            exact HF.out _ rfl
          | true =>
          cases p2 with
          | false =>
            go_wp2_with (first | (go_at_call 40; refine (tickM_c _ _).mono ?_; rintro e w2 ⟨rfl, rfl⟩; rw [H1.out]) | (go_at_call 42; refine (skillM_c _ _).mono ?_; rintro e w2 ⟨rfl, rfl⟩; rw [H2.out]) | (go_at_call 41; refine (in_c _ _ _ _).mono ?_; rintro e w2 ⟨rfl, rfl⟩; first | rw [H3.out] | rw [H4.out]))
            go_ret
            exact HF.out _ rfl
          | true =>
          cases p3 with
          | false =>
            go_wp2_with (first | (go_at_call 40; refine (tickM_c _ _).mono ?_; rintro e w2 ⟨rfl, rfl⟩; rw [H1.out]) | (go_at_call 42; refine (skillM_c _ _).mono ?_; rintro e w2 ⟨rfl, rfl⟩; rw [H2.out]) | (go_at_call 41; refine (in_c _ _ _ _).mono ?_; rintro e w2 ⟨rfl, rfl⟩; first | rw [H3.out] | rw [H4.out]))
            go_ret
            exact HF.out _ rfl
          | true =>
          cases p4 with
          | false =>
            go_wp2_with (first | (go_at_call 40; refine (tickM_c _ _).mono ?_; rintro e w2 ⟨rfl, rfl⟩; rw [H1.out]) | (go_at_call 42; refine (skillM_c _ _).mono ?_; rintro e w2 ⟨rfl, rfl⟩; rw [H2.out]) | (go_at_call 41; refine (in_c _ _ _ _).mono ?_; rintro e w2 ⟨rfl, rfl⟩; first | rw [H3.out] | rw [H4.out]))
            go_ret
            exact HF.out _ rfl
          | true => exact absurd rfl hok
        case pos =>
        simp only [Bool.and_eq_true] at hok
        obtain ⟨⟨⟨rfl, rfl⟩, rfl⟩, rfl⟩ := hok
        have HTC : Hid (Calls Try.prog 43 #[.agg (D4 n (.slice ga gm gcap) (.slice (some ⟨b, off, none⟩) m cap) g), .agg #[.int .i64 r1, .int .i64 r2, .int .i64 r3, .int .i64 r4]] WA fun e w' => e = .returned (.int .i64 (optI (taker gs r2))) ∧ Below WA.heap.size WA w') := taker_c n g _ _ gs (r1, r2, r3, r4) WA (HA.out.below BA.out) ⟨_, _, _, rfl⟩ HSK.out HBZ.out
        go_wp2_with (first | (go_at_call 40; refine (tickM_c _ _).mono ?_; rintro e w2 ⟨rfl, rfl⟩; rw [H1.out]) | (go_at_call 42; refine (skillM_c _ _).mono ?_; rintro e w2 ⟨rfl, rfl⟩; rw [H2.out]) | (go_at_call 41; refine (in_c _ _ _ _).mono ?_; rintro e w2 ⟨rfl, rfl⟩; first | rw [H3.out] | rw [H4.out]))
        rw [HWA.out]
        refine HTC.out.mono ?_
        rintro e w2 ⟨rfl, b2⟩
        have B2 : Hid (Below w.heap.size w w2) := belowCall BA.out b2 BA.out.size
        have k2 := KA.out.1.below b2 KA.out.1.lt
        have k3 := KA.out.2.below b2 KA.out.2.lt
        have K2 : Hid (Blk w2 w.heap.size (D4 n (.slice ga gm gcap) (.slice (some ⟨b, off, none⟩) m cap) g) 27) := k2
        have O2 : Hid (Ow .i64 3 (w.heap.size + 1) w2 (.slice sa zl sc) (bz gs ++ cl (qs.take j))) := OA.out.below b2
        have y0 := k3.cell 0
        have y1 := k3.lt
        have hl2 := k2.lt
        simp at y0
        obtain ⟨u, hu⟩ : ∃ u, optI (taker gs r2) = u := ⟨_, rfl⟩
        have HU : Hid (optI (taker gs qs[j].2.1) = u) := by show optI (taker gs qs[j].2.1) = u; rw [HR.out]; exact hu
        rw [hu]
        clear hu b2 k2 k3 HTC HWA KA OA BA x0 x1 x2 x3 e0 e1 e2 e3
        by_cases hu0 : 0 ≤ u
        · have HY : Hid (¬ DkM n g gs qs) := fun h => some_of HU.out hu0 (h.2.2.2.2.2.1 _ (List.getElem_mem hjl)).2
          clear O2 K2
          go_wp2
          go_ret
          exact BoR.no HY.out B2.out
        · have HAJ : Hid (∀ i (h : i < qs.length), i < j + 1 → wtB n qs[i] = true ∧ taker gs qs[i].2.1 = none) := fun i hi hij => by
            by_cases e : i < j
            · exact AJ.out i hi e
            · obtain rfl : i = j := by omega
              exact ⟨by rw [HPP.out]; rfl, none_of HU.out hu0⟩
          have HBS : Hid (bz gs ++ cl (qs.take (j + 1)) = bz gs ++ cl (qs.take j) ++ [r1]) := by
            show bz gs ++ cl (qs.take (j + 1)) = bz gs ++ cl (qs.take j) ++ [r1]
            rw [cl_snoc qs j hjl, HR.out, List.append_assoc]
          obtain ⟨W3, hW3⟩ : ∃ W3, w2.alloc (Obj.cells #[.int .i64 r1] 3) = W3 := ⟨_, rfl⟩
          have b3 : Below w2.heap.size w2 W3 := hW3 ▸ (Below.refl _ _).alloc (Nat.le_refl _) _
          have B3 : Hid (Below w.heap.size w W3) := belowCall B2.out b3 B2.out.size
          have K3 : Hid (Blk W3 w.heap.size (D4 n (.slice ga gm gcap) (.slice (some ⟨b, off, none⟩) m cap) g) 27) := K2.out.below b3 K2.out.lt
          have O3 : Hid (Ow .i64 3 (w.heap.size + 1) W3 (.slice sa zl sc) (bz gs ++ cl (qs.take j))) := O2.out.below b3
          have X3 : Hid (W3.cell? ⟨w2.heap.size, 0, none⟩ = some (.int .i64 r1)) := by
            show W3.cell? ⟨w2.heap.size, 0, none⟩ = some (.int .i64 r1)
            rw [← hW3]; exact (Blk.new w2 #[.int .i64 r1] 3).cell 0
          have hsz : w.heap.size + 1 ≤ W3.heap.size := by have := b3.size; omega
          have HW3 : Hid (w2.alloc (Obj.cells #[.int .i64 r1] 3) = W3) := hW3
          clear b3 hW3 O2 K2 B2
          go_wp2_with (first | (at_builtin; rw [HW3.out]; refine appI rfl _ _ rfl (w.heap.size + 1) _ (bz gs ++ cl (qs.take j)) rfl O3.out w2.heap.size r1 rfl X3.out (by rw [HZL.out]; omega) hsz ?_))
          intro v9 w10 o10 b10
          try rw [← List.append_assoc] at o10
          have hl9 : (bz gs ++ cl (qs.take j) ++ [r1]).length = zl + 1 := by rw [List.length_append, HZL.out]; rfl
          have O10 : Hid (Ow .i64 3 (w.heap.size + 1) w10 v9 (bz gs ++ cl (qs.take (j + 1)))) := by show Ow _ _ _ _ _ _; rw [HBS.out]; exact o10
          have HL10 : Hid ((bz gs ++ cl (qs.take (j + 1))).length = zl + 1) := by show _ = zl + 1; rw [HBS.out]; exact hl9
          have B10 : Hid (Below w.heap.size w w10) := B3.out.trans (b10.mono (by omega))
          have K10 : Hid (Blk w10 w.heap.size (D4 n (.slice ga gm gcap) (.slice (some ⟨b, off, none⟩) m cap) g) 27) := K3.out.below b10 (by omega)
          obtain ⟨a9, cap9, h9, -⟩ := own_form o10
          rw [hl9] at h9
          subst h9
          clear o10 b10 hl9 O3 K3 B3 X3 HBS y0
          go_wp2
          go_roundw
          case rel => exact ⟨j + 1, by omega, by go_num, ⟨_, _, zl + 1, by omega, rfl, HL10.out⟩, O10.out, B10.out, K10.out, HAJ.out⟩
          case measure => simp [intOf]; omega
      case neg =>
      obtain rfl : m = j := by omega
      have HTK : Hid (qs.take m = qs) := by show qs.take m = qs; rw [← HM.out.2]; simp
      have HQG : Hid (∀ q ∈ qs, wtB n q = true ∧ taker gs q.2.1 = none) := fun q hx => by
        obtain ⟨i, hi, rfl⟩ := List.getElem_of_mem hx
        exact AJ.out i hi (by rw [← HM.out.2]; exact hi)
      obtain ⟨Z, hZ⟩ : ∃ Z, bz gs ++ cl qs = Z := ⟨_, rfl⟩
      have HZ : Hid (bz gs ++ cl qs = Z) := hZ
      rw [HTK.out, hZ] at OJ HZL
      have RZ : Hid (Rd .i64 wr (.slice sa zl sc) Z) := OJ.out.rd
      have HDK : Hid (DkM n g gs qs ↔ Z.Nodup) := ⟨fun h => by rw [← hZ]; exact h.2.2.2.2.2.2, fun h => ⟨HLIM.out.1, HLIM.out.2.1, HLIM.out.2.2.1, HLIM.out.2.2.2, HAG.out, HQG.out, by rw [hZ]; exact h⟩⟩
      have hzl2 : zl ≤ 52 := by omega
      obtain ⟨W5, hW5⟩ : ∃ W5, W5 = wr := ⟨_, rfl⟩
      subst hW5
      clear AJ OJ HTK HQG hZ HZ hlt x0 x1 x3 KJ HAG HSK HBZ HA
      go_wp2
      clear x2
      go_loopw [8] (fun i ww => ∃ j : Nat, j ≤ zl ∧ i = .int .i64 j ∧ Hid (∀ i (h : i < Z.length), i < j → Z[i] ∉ Z.take i) ∧ Hid (Below W5.heap.size W5 ww)) (fun i _ => zl - (intOf i).toNat)
      case atStart => exact ⟨0, Nat.zero_le _, rfl, fun i _ h => by omega, Below.refl _ _⟩
      case round =>
        obtain ⟨j, hj, rfl, AJ, BK⟩ := hrel
        have BF : Hid (Below w.heap.size w wr) := belowCall BJ.out BK.out BJ.out.size
        by_cases hlt : j < zl
        case neg =>
          obtain rfl : zl = j := by omega
          have HY : Hid (DkM n g gs qs) := HDK.out.2 ((nodup_take Z).2 fun i hi => AJ.out i hi (by rw [← HZL.out]; exact hi))
          go_wp2
          go_ret
          exact BoR.yes HY.out BF.out
        case pos =>
        have hjl : j < Z.length := by rw [HZL.out]; exact hlt
        obtain ⟨b, off, c, rfl, hcz, hmz, h4⟩ : ∃ b off c, (sa = some ⟨b, off, none⟩) ∧ zl ≤ sc ∧ sc ≤ maxLen ∧ ∀ i, i < Z.length → W5.cell? ⟨b, off + i, none⟩ = some (.int .i64 (Z.getD i 0)) := by
          obtain ⟨a', c', e1, e2, e3, h⟩ := RZ.out
          cases e1
          rcases h with h | ⟨b, off, rfl, h⟩
          · rw [h] at hjl; simp at hjl
          · exact ⟨b, off, 0, rfl, by rw [← HZL.out]; exact e2, e3, h⟩
        have hcb : b < W5.heap.size := block_lt_of_cell (h4 j hjl)
        obtain ⟨x, hx⟩ : ∃ x, Z.getD j 0 = x := ⟨_, rfl⟩
        have HX : Hid (Z[j] = x) := by show Z[j] = x; rw [← hx]; simp [List.getElem?_eq_getElem hjl]
        have z0 : ∀ W : Ov wr, W.wd.cell? ⟨b, off + j, none⟩ = some (.int .i64 x) := fun W => by
          rw [← hx, ← h4 j hjl]; exact (belowCall BK.out W.ok BK.out.size).cell hcb
        have ne : Nonempty (Ov wr) := ⟨⟨_, Below.refl _ _⟩⟩
        obtain ⟨q, hqq⟩ : ∃ q, decide (x ∈ Z.take j) = q := ⟨_, rfl⟩
        have HC : Hid (∀ W : Ov wr, Calls Try.prog 44 #[.slice (some ⟨b, off, none⟩) j sc, .int .i64 x] W.wd fun e w'' => e = .returned (.bool q) ∧ ∃ W' : Ov wr, w'' = W'.wd) := fun W => by
          refine (within_c _ (Z.take j) x W.wd ?_).mono fun e w' h => ⟨by rw [h.1, hqq], W, h.2⟩
          have hl : (Z.take j).length = j := by simp; omega
          refine ⟨_, sc, by rw [hl], by rw [hl]; omega, hmz, .inr ⟨b, off, rfl, fun i hi => ?_⟩⟩
          rw [hl] at hi
          rw [(belowCall BK.out W.ok BK.out.size).cell hcb, h4 i (by omega)]
          simp [List.getElem?_take, hi]
        have HQ : Hid (decide (Z[j] ∈ Z.take j) = q) := by show decide (Z[j] ∈ Z.take j) = q; rw [HX.out]; exact hqq
        unfold maxLen at hmz
        clear h4 hx hqq
        cases q with
        | true =>
          have HY : Hid (¬ DkM n g gs qs) := fun h => (nodup_take Z).1 (HDK.out.1 h) j hjl (of_decide_eq_true HQ.out)
          go_wp2_with (fail)
          refine region_over (by kernel_rfl) (by kernel_rfl) ?_
          repeat (go_big_quiet_step (first | (go_at_call 44; exact HC.out _)))
          refine wpQuiet_nil ?_
          rintro _ ⟨W, rfl⟩
          have HBW : Hid (Below w.heap.size w W.wd) := belowCall BF.out W.ok BF.out.size
          clear z0
          go_wp2
          go_ret
          exact BoR.no HY.out HBW.out
        | false =>
          have HY : Hid (∀ i (h : i < Z.length), i < j + 1 → Z[i] ∉ Z.take i) := fun i hi hij => by
            by_cases e : i < j
            · exact AJ.out i hi e
            · obtain rfl : i = j := by omega
              exact of_decide_eq_false HQ.out
          go_wp2_with (fail)
          refine region_over (by kernel_rfl) (by kernel_rfl) ?_
          repeat (go_big_quiet_step (first | (go_at_call 44; exact HC.out _)))
          refine wpQuiet_nil ?_
          rintro _ ⟨W, rfl⟩
          have HBW : Hid (Below W5.heap.size W5 W.wd) := belowCall BK.out W.ok BK.out.size
          clear z0
          go_wp2
          go_roundw
          case rel => exact ⟨j + 1, by omega, by go_num, HY.out, HBW.out⟩
          case measure => simp [intOf]; omega
theorem deskM (n g : Int) (va vq : Value) (gs : List Ag) (qs : List Wt) (w : World) (ha : Rg 3 agC w va gs) (hq : Rg 4 wtC w vq qs) : Calls Try.prog 11 #[.agg (D4 n va vq g)] w (BoR (DkOk n g gs qs) w) :=
  (deskM_c n g va vq gs qs w ha hq).mono fun e w' ⟨r, h1, h2, h3⟩ => ⟨r, h1, h2.trans (dk_iff n g gs qs), h3⟩
end Go.Proofs.Ytpmmgbinogokfaa

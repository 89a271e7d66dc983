/- Contracts of the model's Uncells and of what it asks of each cell; no condition. -/
import Derived.Test.YtadhiddnjhjioaaUncI
namespace Go.Proofs.Ytadhiddnjhjioaa
open Go.RowKit Go.ChangeShapes Go.WideShapes Go.ChangeAt
set_option linter.unusedVariables false
set_option linter.unusedSimpArgs false
theorem pad_bad {c : List Int} {t : Nat} (ht : t < 16) (hc : cnt c < (t : Int)) (hz : c.getD t 0 ≠ 0) : c ≠ noPad c := by
  intro h
  have := noPad_at c t ht
  rw [← h, if_neg (by omega)] at this
  exact hz this
theorem pad_good {c : List Int} (hB : B16 c) (h : ∀ s : Nat, cnt c < (s : Int) → s < 16 → c.getD s 0 = 0) : c = noPad c :=
  B16_ext hB (noPad_B hB) fun i hi => by
    rw [noPad_at c i hi]
    split
    · rfl
    · exact h i (by omega) hi
set_option maxHeartbeats 1600000 in
theorem l1Cell_c (c : List Int) (hc : B16 c) (j : Nat) (over : Bool) (hj : j ≤ 1000000) (w : World) : Calls Try.prog 63 #[.agg (A16 c), .int .i64 j, .bool over] w fun e w' => e = .returned (.int .i64 (faultF c j over)) ∧ Below w.heap.size w w' := by
  have hb := cnt_bd c
  have hs := A16_size hc
  have k0 := Blk.new w (A16 c) 29
  have c0 : Below w.heap.size w (w.alloc (.cells (A16 c) 29)) := (Below.refl _ _).alloc (Nat.le_refl _) _
  have H1 : Hid (cnt c = 0 ∨ (cnt c < 15 ∧ lastB c = false) → faultF c j over = 1) := fun h => faultF_1 h
  have H2 : Hid (¬ (cnt c = 0 ∨ (cnt c < 15 ∧ lastB c = false)) → faultF c j over = if c ≠ noPad c then 2 else if numB c ≠ (j : Int) % 8 then 3 else if over then 4 else 0) := fun h => faultF_go h
  have hcell0 := k0.cell 0
  rw [A16_at hc 0 (by omega)] at hcell0
  have hz := B16_at hc 0
  have HCN : Hid (cnt c = c.getD 0 0 % 16) := rfl
  have HLB : Hid (lastB c = decide (128 ≤ c.getD 0 0)) := rfl
  have HNB : Hid (numB c = c.getD 0 0 / 16 % 8) := rfl
  have HCELL : Hid (∀ t : Nat, t < 16 → (w.alloc (.cells (A16 c) 29)).cell? ⟨w.heap.size, t, none⟩ = some (.int .u8 (c.getD t 0))) := by
    intro t ht; rw [k0.cell t, A16_at hc t ht]
  clear k0
  generalize c.getD 0 0 = z at hcell0 hz HCN HLB HNB
  obtain ⟨n, hn⟩ := Int.eq_ofNat_of_zero_le hb.1
  have hzn : z % 16 = (n : Int) := by rw [← HCN.out, hn]
  have hn15 : n ≤ 15 := by omega
  have HN : Hid (cnt c = (n : Int)) := hn
  clear hn
  by_cases h0 : n = 0
  · have hF := H1.out (.inl (by rw [HN.out, h0]; rfl))
    subst h0
    clear H1 H2
    go_enter Try.func63, Try.ntmps63
    go_wp2
    go_ret
    exact ⟨by first | rfl | (rw [hF]; rfl), c0⟩
  have h0b : ((n : Int) == 0) = false := by simp; omega
  by_cases hbad : n < 15 ∧ z < 128
  · have hF := H1.out (.inr ⟨by rw [HN.out]; omega, by rw [HLB.out]; simp; omega⟩)
    obtain ⟨hb1, hb2⟩ := hbad
    clear H1 H2
    go_enter Try.func63, Try.ntmps63
    go_wp2
    go_ret
    exact ⟨by first | rfl | (rw [hF]; rfl), c0⟩
  have hF := H2.out (by rw [HN.out, HLB.out]; simp; omega)
  have HF : Hid _ := hF
  clear H1 H2 hF
  have hloop : ∀ (W : World), W = w.alloc (.cells (A16 c) 29) → True := fun _ _ => trivial
  clear hloop
  by_cases h15 : n < 15
  · have h128 : ¬ z < 128 := by omega
    clear hbad
    go_enter Try.func63, Try.ntmps63
    go_wp2
    go_loop [8] (fun i => ∃ t : Nat, n + 1 ≤ t ∧ t ≤ 16 ∧ i = .int .i64 t ∧ Hid (∀ s : Nat, cnt c < (s : Int) → s < t → c.getD s 0 = 0)) (fun i => 16 - (intOf i).toNat)
    case atStart => exact ⟨n + 1, by omega, by omega, by go_num, fun s h1 h2 => by have := HN.out; omega⟩
    case round =>
      obtain ⟨t, ht1, ht2, rfl, hall⟩ := hrel
      by_cases hlt : t < 16
      · have hct := HCELL.out t hlt
        have hbt := B16_at hc t
        generalize hzt : c.getD t 0 = q at hct hbt
        have HZT : Hid (c.getD t 0 = q) := hzt
        clear hzt
        by_cases hq : q = 0
        · subst hq
          go_wp2
          go_round
          case rel =>
            refine ⟨t + 1, by omega, by omega, by go_num, fun s h1 h2 => ?_⟩
            by_cases hst : s < t
            · exact hall.out s h1 hst
            · obtain rfl : s = t := by omega
              exact HZT.out
          case measure => simp [intOf]; omega
        · have hqb : (q != 0) = true := by rw [bne_iff_ne]; exact hq
          have hF := HF.out
          rw [if_pos (pad_bad hlt (by have := HN.out; omega) (by rw [HZT.out]; exact hq))] at hF
          clear HF hq
          go_wp2
          go_ret
          exact ⟨by first | rfl | (rw [hF]; rfl), c0⟩
      · have hgood := pad_good hc (fun s h1 h2 => hall.out s h1 (by omega))
        have hF := HF.out
        rw [if_neg (by simpa using hgood), HNB.out] at hF
        have HF2 : Hid _ := hF
        clear HF hF hgood hall
        by_cases hnum : z / 16 % 8 = (j : Int) % 8
        · have hF := HF2.out
          rw [if_neg (by simpa using hnum)] at hF
          have hnb : (z / 16 % 8 != (j : Int) % 8) = false := by simpa using hnum
          clear HF2 hnum
          cases over with
          | true =>
            go_wp2
            go_ret
            exact ⟨by first | rfl | (rw [hF]; rfl), c0⟩
          | false =>
            go_wp2
            go_ret
            exact ⟨by first | rfl | (rw [hF]; rfl), c0⟩
        · have hF := HF2.out
          rw [if_pos hnum] at hF
          have hnb : (z / 16 % 8 != (j : Int) % 8) = true := by rw [bne_iff_ne]; exact hnum
          clear HF2 hnum
          go_wp2
          go_ret
          exact ⟨by first | rfl | (rw [hF]; rfl), c0⟩
  · obtain rfl : n = 15 := by omega
    have hgood := pad_good hc (fun s h1 h2 => by have := HN.out; omega)
    have hF := HF.out
    rw [if_neg (by simpa using hgood), HNB.out] at hF
    have HF2 : Hid _ := hF
    clear HF hF hgood hbad
    go_enter Try.func63, Try.ntmps63
    go_wp2
    refine wp_loop_rounds 1 ?_
    rw [rounds_succ]
    by_cases hnum : z / 16 % 8 = (j : Int) % 8
    · have hF := HF2.out
      rw [if_neg (by simpa using hnum)] at hF
      have hnb : (z / 16 % 8 != (j : Int) % 8) = false := by simpa using hnum
      clear HF2 hnum
      cases over with
      | true =>
        go_wp2
        go_ret
        exact ⟨by first | rfl | (rw [hF]; rfl), c0⟩
      | false =>
        go_wp2
        go_ret
        exact ⟨by first | rfl | (rw [hF]; rfl), c0⟩
    · have hF := HF2.out
      rw [if_pos hnum] at hF
      have hnb : (z / 16 % 8 != (j : Int) % 8) = true := by rw [bne_iff_ne]; exact hnum
      clear HF2 hnum
      go_wp2
      go_ret
      exact ⟨by first | rfl | (rw [hF]; rfl), c0⟩
theorem bytesOf_take {c : List Int} (hc : B16 c) (t : Nat) (ht : t < (cnt c).toNat) : (bytesOf c).take (t + 1) = (bytesOf c).take t ++ [c.getD (t + 1) 0] := by
  have hl := bytesOf_len hc
  rw [List.take_succ_eq_append_getElem (by omega)]
  have := bytesOf_at c t ht
  simp [List.getElem?_eq_getElem (show t < (bytesOf c).length by omega)] at this
  simp [this]
set_option maxHeartbeats 3200000 in
theorem unc_spec (v : Value) (n : Nat) (zs : List Int) (w : World) (h : RdA w v n zs) :
   Calls Try.prog 37 #[v] w fun e w' => ∃ v', e = .returned (.tuple #[v', .int .i64 (uncRes zs n).2]) ∧ Ow .u8 5 w.heap.size w' v' (uncRes zs n).1 ∧ Below w.heap.size w w' := by
  obtain ⟨a, cap, rfl, h1, h2, hl, hbx, h3⟩ := h
  unfold maxLen at h2
  have hb0 : Below w.heap.size w (w.alloc (.cells #[] 5)) := (Below.refl _ _).alloc (Nat.le_refl _) _
  have he0 := Ow.empty .u8 5 w.heap.size w (Nat.le_refl _)
  by_cases hbig : 60 < n
  · have hR : uncRes zs n = ([], 5) := by rw [uncRes, if_neg (by omega)]
    rw [hR]
    have hd : decide ((60 : Int) < (n : Int)) = true := by simp; omega
    clear h3 hbx hR
    go_enter Try.func37, Try.ntmps37
    go_wp2
    go_ret2
    exact ⟨_, rfl, he0, hb0⟩
  have hR : uncAt zs n 0 = uncRes zs n := by rw [uncRes, if_pos (by omega)]
  generalize uncRes zs n = R at hR
  have HR0 : Hid (uncAt zs n 0 = R) := hR
  clear hR
  have hd : decide ((60 : Int) < (n : Int)) = false := by simp; omega
  go_enter Try.func37, Try.ntmps37
  go_wp2
  go_loopw [4, 5, 6] (fun u o i wr => ∃ j : Nat, j ≤ n ∧ i = .int .i64 j ∧ o = .bool (overAt zs j) ∧ Hid (uncAt zs (n - j) j = R) ∧ Ow .u8 5 w.heap.size wr u (outTo zs j) ∧ Below w.heap.size w wr) (fun _ _ i _ => n - (intOf i).toNat)
  case atStart => exact ⟨0, Nat.zero_le _, rfl, rfl, HR0, he0, hb0⟩
  case round =>
    rename World => wo
    clear HR0 he0 hb0
    obtain ⟨j, hj, rfl, rfl, HR, hw, hbr⟩ := hrel
    have hs0 := hbr.size
    by_cases hlt : j < n
    · rcases h3 with h3 | ⟨b, off, rfl, h4⟩
      · omega
      have hX := ch_B hl hbx j hlt
      have hsX := A16_size hX
      have hr : wo.rangeAt b (off + j * 16) ((ch zs j).map (Value.int .u8)) := range_ch hl (fun i hi => by have := h4 i hi; rw [hbr.cell (block_lt_of_cell this)]; exact this) j hlt _ rfl
      have HRG : Hid _ := hr
      have HCL : Hid (∀ (t : Nat) (W : World), t < 16 → Below w.heap.size w W → W.cell? ⟨b, off + j * 16 + t, none⟩ = some (.int .u8 ((ch zs j).getD t 0))) := by
        intro t W ht hW
        have := h4 (j * 16 + t) (by omega)
        rw [show off + j * 16 + t = off + (j * 16 + t) by omega, hW.cell (block_lt_of_cell this), this, ch_at zs j t ht]
      have hol := outTo_len zs j
      have HO1 : Hid (outTo zs (j + 1) = outTo zs j ++ bytesOf (ch zs j)) := rfl
      have HV1 : Hid (overAt zs (j + 1) = lastB (ch zs j)) := rfl
      have HRn : Hid (uncAt zs (n - (j + 1) + 1) j = R) := by
        have := HR.out
        rw [show n - j = n - (j + 1) + 1 by omega] at this; exact this
      clear h4 hr HR
      have hi : (0 : Int) ≤ (j : Int) := by omega
      have hi2 : (j : Int) < (n : Int) := by omega
      have HST : Hid (faultF (ch zs j) j (overAt zs j) = 0 → uncAt zs (n - (j + 1)) (j + 1) = R) := fun h0 => unc_step HRn.out h0
      have HFT : Hid (faultF (ch zs j) j (overAt zs j) ≠ 0 → R = (outTo zs j, faultF (ch zs j) j (overAt zs j))) := fun h0 => unc_fault HRn.out h0
      clear HRn
      have hfc := fun W => l1Cell_c (ch zs j) hX j (overAt zs j) (by omega) W
      have HFC : Hid _ := hfc
      clear hfc
      generalize faultF (ch zs j) j (overAt zs j) = f at HST HFT HFC
      generalize overAt zs j = ov at HFC
      generalize ch zs j = c at hX hsX HRG HO1 HV1 HFC HCL
      generalize outTo zs j = O at hw hol HO1 HFT
      go_wp2_with (refine ldm rfl (.tmp 22) rfl b (off + j * 16) rfl c hX HRG.out ?_)
      refine (HFC.out _).mono ?_
      rintro e w1 ⟨rfl, b1⟩
      have hw1 := hw.below b1
      have c1 := belowCall hbr b1 hs0
      clear hw hbr HFC HRG b1
      by_cases hf : f = 0
      · subst hf
        have HN : Hid (uncAt zs (n - (j + 1)) (j + 1) = R) := HST.out rfl
        clear HST HFT
        have hb := cnt_bd c
        obtain ⟨m, hm⟩ := Int.eq_ofNat_of_zero_le hb.1
        have hz := B16_at hX 0
        have hzm : c.getD 0 0 % 16 = (m : Int) := hm
        have HM : Hid ((cnt c).toNat = m) := by show (cnt c).toNat = m; omega
        have HBL : Hid ((bytesOf c).length = m) := by show (bytesOf c).length = m; rw [bytesOf_len hX]; omega
        have HLB : Hid (lastB c = decide (128 ≤ c.getD 0 0)) := rfl
        have HC0 : Hid (∀ W : World, Below w.heap.size w W → W.cell? ⟨b, off + j * 16, none⟩ = some (.int .u8 (c.getD 0 0))) := fun W hW => HCL.out 0 W (by omega) hW
        have hm15 : m ≤ 15 := by omega
        generalize c.getD 0 0 = z at hz hzm HLB HC0
        clear hm hb
        go_wp2
        go_loopw [4, 8] (fun u i wr => ∃ t : Nat, 1 ≤ t ∧ t ≤ m + 1 ∧ i = .int .i64 t ∧ Ow .u8 5 w.heap.size wr u (O ++ (bytesOf c).take (t - 1)) ∧ Below w.heap.size w wr) (fun _ i _ => m + 1 - (intOf i).toNat)
        case atStart => exact ⟨1, by omega, by omega, rfl, by simpa using hw1, c1⟩
        case round =>
          clear hw1 c1
          obtain ⟨t, ht1, ht2, rfl, hq, hbq⟩ := hrel
          have hc0 := HC0.out wr hbq
          have hs1 := hbq.size
          by_cases htm : t ≤ m
          · have hct := HCL.out t wr (by omega) hbq
            have HTK := bytesOf_take hX (t - 1) (by rw [HM.out]; omega)
            rw [show t - 1 + 1 = t by omega] at HTK
            have HTK' : Hid _ := HTK
            clear HTK
            have hti : (t : Int) ≤ (m : Int) := by omega
            have htl : ((O ++ (bytesOf c).take (t - 1)).length) ≤ 2000 := by
              have := HBL.out
              simp; omega
            generalize c.getD t 0 = q at hct HTK'
            go_wp2_with (at_builtin; refine appB rfl (.tmp 42) (.tmp 49) rfl w.heap.size _ (O ++ (bytesOf c).take (t - 1)) rfl (hq.alloc _) wr.heap.size q rfl (by simp) (by omega) (by simp; omega) ?_)
            intro v2 w2 ho2 hb2
            have hbr2 : Below w.heap.size w w2 := (hbq.alloc hs1 _).trans hb2
            clear hb2 hbq hq hc0 hct
            go_wp2
            go_roundw
            case rel => exact ⟨t + 1, by omega, by omega, by go_num, by rw [Nat.add_sub_cancel, HTK'.out]; simpa using ho2, hbr2⟩
            case measure => simp [intOf]; omega
          · obtain rfl : t = m + 1 := by omega
            have hti : ¬ ((m + 1 : Nat) : Int) ≤ (m : Int) := by omega
            rw [Nat.add_sub_cancel, List.take_of_length_le (by rw [HBL.out]; omega)] at hq
            go_wp2
            go_roundw
            case rel => exact ⟨j + 1, by omega, by go_num, by rw [HV1.out, HLB.out], HN, by rw [HO1.out]; exact hq, hbq⟩
            case measure => simp [intOf]; omega
      · have hR := HFT.out hf
        have hfb : (f != 0) = true := by rw [bne_iff_ne]; exact hf
        clear HST HFT hf
        go_wp2
        go_ret2
        exact ⟨_, by rw [hR]; rfl, by rw [hR]; exact hw1, c1⟩
    · obtain rfl : j = n := by omega
      have hR := HR.out
      rw [Nat.sub_self, uncAt] at hR
      clear h3 hbx HR
      cases hov : overAt zs j with
      | true =>
        rw [hov] at hR
        go_wp2
        go_ret2
        exact ⟨_, by rw [← hR]; rfl, by rw [← hR]; exact hw, hbr⟩
      | false =>
        rw [hov] at hR
        go_wp2
        go_ret2
        exact ⟨_, by rw [← hR]; rfl, by rw [← hR]; exact hw, hbr⟩
end Go.Proofs.Ytadhiddnjhjioaa

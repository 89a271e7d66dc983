/- Burst, as the program has it; no condition. -/
import Derived.Test.YtomgdlnpajfjhaaBbo
import Derived.Test.YtomgdlnpajfjhaaIns
import Derived.Test.YtomgdlnpajfjhaaMixT
namespace Go.Proofs.Ytomgdlnpajfjhaa
open Go.RowKit Go.ChangeShapes Go.WideShapes Go.ChangeAt
set_option linter.unusedVariables false
set_option linter.unusedSimpArgs false
set_option maxRecDepth 8000

set_option maxHeartbeats 25600000 in
theorem burstI_c (v : Value) (zs : List Int) (w : World) (h : Rd .i64 w v zs) : Calls Try.prog 7 #[v] w (BrR zs w) := by
  have hst := storeC
  have HR : Hid (Rd .i64 w v zs) := h
  obtain ⟨a, cap, rfl, h1, h2, h3⟩ := h
  unfold maxLen at h2
  have HB : Hid (Below w.heap.size w w) := Below.refl _ _
  have HE : Hid (brB zs = (decide (2 ≤ (zs.length : Int)) && decide ((zs.length : Int) ≤ 320) && decide (zs.length % 2 = 0) && bsB zs)) := rfl
  have HNO : Hid (brB zs = false → ∀ W, Below w.heap.size w W → BrR zs w (.returned (.tuple #[.slice none 0 0, .bool false])) W) := fun e W hW => ⟨_, by rw [e], by rw [brL_no e]; exact Og.nil 2 smC 27 _ _, hW⟩
  go_enter Try.func7, Try.ntmps7
  by_cases hl2 : (zs.length : Int) < 2
  case pos =>
    have HF : Hid (brB zs = false) := by show _ = _; rw [HE.out, decide_eq_false (show ¬ 2 ≤ (zs.length : Int) by omega)]; rfl
    have hd : decide ((zs.length : Int) < 2) = true := decide_eq_true hl2
    clear h3
    go_wp2
    go_ret2
    exact HNO.out HF.out _ HB.out
  have l0 : 2 ≤ zs.length := by omega
  have hd2 : decide ((zs.length : Int) < 2) = false := decide_eq_false hl2
  have he2 : ((zs.length : Int) < 2) = False := eq_false hl2
  clear hl2
  have hm : ((zs.length : Int)).tmod 2 = ((zs.length % 2 : Nat) : Int) := by rw [Int.tmod_eq_emod_of_nonneg (by omega)]; omega
  by_cases hev : zs.length % 2 = 0
  case neg =>
    have HF : Hid (brB zs = false) := by show _ = _; rw [HE.out, decide_eq_false hev]; simp
    have hmi : (zs.length : Int) % 2 = 1 := by omega
    have hnz : (((zs.length : Int) % 2) != 0) = true := by rw [hmi]; rfl
    clear hev h3 hmi hm
    go_wp2
    go_ret2
    exact HNO.out HF.out _ HB.out
  case pos =>
  have hmi : (zs.length : Int) % 2 = 0 := by omega
  have hnz : (((zs.length : Int) % 2) != 0) = false := by rw [hmi]; rfl
  have HEV : Hid (decide (zs.length % 2 = 0) = true) := decide_eq_true hev
  have HEV2 : Hid (zs.length % 2 = 0) := hev
  clear hev hmi hm
  go_wp2_with (fail)
  refine (burstBits_c _ zs _ HR.out).mono ?_
  rintro e w1 ⟨rfl, b1⟩
  have HB1 : Hid (Below w.heap.size w w1) := b1
  obtain ⟨q, hq⟩ : ∃ q, bbB zs = q := ⟨_, rfl⟩
  rw [hq]
  have HQ : Hid (bbB zs = q) := hq
  clear hq b1 hd2 he2
  cases q with
  | false =>
    have HF : Hid (brB zs = false) := by
      show _ = _
      have := HQ.out
      unfold bbB at this
      rw [HE.out]
      cases hb : bsB zs with
      | false => simp
      | true =>
        rw [hb, Bool.true_and] at this
        rw [this]; simp
    clear h3
    go_wp2
    go_ret2
    exact HNO.out HF.out _ HB1.out
  | true =>
  have hqq := HQ.out
  unfold bbB at hqq
  rw [Bool.and_eq_true, decide_eq_true_eq] at hqq
  have l1 : zs.length ≤ 320 := by omega
  have HQ1 : Hid ((decide (2 ≤ (zs.length : Int)) && decide ((zs.length : Int) ≤ 320)) = true) := by show _ = _; rw [decide_eq_true (show 2 ≤ (zs.length : Int) by omega), decide_eq_true hqq.2]; rfl
  clear HQ
  have HQ : Hid (bsB zs = true) := hqq.1
  clear hqq
  have HT : Hid (brB zs = true) := by show _ = _; rw [HE.out, HQ1.out, HEV.out, HQ.out]; rfl
  obtain ⟨n, hn⟩ : ∃ n : Nat, zs.length / 2 = n := ⟨_, rfl⟩
  have hn2 : 2 * n = zs.length := by have := HEV2.out; omega
  have hdv : ((zs.length : Int)).tdiv 2 = (n : Int) := by rw [Int.tdiv_eq_ediv_of_nonneg (by omega)]; omega
  have hdv' : (zs.length : Int) / 2 = (n : Int) := by omega
  have HSL : Hid ((brS zs).length = n) := by show _ = _; rw [brS_len, hn]
  have HSA : Hid (∀ k (h : k < (brS zs).length), (brS zs)[k] = brP zs k) := brS_at zs
  have HBL : Hid (brL zs = (brS zs).take (n / 2) ++ (trL ++ (brS zs).drop (n / 2))) := by show _ = _; unfold brL; rw [HT.out, if_pos rfl, hn]
  obtain ⟨ss, hss⟩ : ∃ ss, brS zs = ss := ⟨_, rfl⟩
  rw [hss] at HSL HSA HBL
  clear hss hn HE HNO HQ1 HEV HEV2
  rcases h3 with h3 | ⟨b, off, rfl, h4⟩
  · subst h3; simp at l0
  have HC : Hid (∀ W k, k < zs.length → Below w.heap.size w W → W.cell? ⟨b, off + k, none⟩ = some (.int .i64 (zs.getD k 0))) := fun W k hk hW => by
    rw [hW.cell (block_lt_of_cell (h4 k hk))]; exact h4 k hk
  obtain ⟨i0, hi, hz0, hz1, hz2⟩ := info_parts infoCp
  clear h4
  obtain ⟨L, hL⟩ : ∃ L, zs.length = L := ⟨_, rfl⟩
  have HLL : Hid (zs.length = L) := hL
  rw [hL] at hn2 hdv hdv' l0 l1 h1 ⊢
  clear hL
  go_wp2_with (at_make; refine wpList_make_full _ rfl _ _ 54 rfl w1.heap.size 55 i0 (.complex .f32 0 0) 1 Try.underlying54 hi hz0 hz1 .i64 .i64 _ _ n rfl rfl (by first | rfl | (show Value.int .i64 _ = _; exact val_int (by omega))) (by first | rfl | (show Value.int .i64 _ = _; exact val_int (by omega))) (by rw [hz2]; omega) (by unfold maxLen; omega) (Nat.le_refl _) ?_)
  intro w2 ho hg
  have hx : w2.ownsRow w1.heap.size 55 1 (.slice (some ⟨w1.heap.size, 0, none⟩) n n) n ((filg ((0, 0) : Nat × Nat) ss 0).flatMap cpC) := by
    have e : (filg ((0, 0) : Nat × Nat) ss 0).flatMap cpC = (madeCells #[.complex .f32 0 0] n).toList := by
      have := fm_rep cpC_len (by decide) ((0, 0) : Nat × Nat) #[.complex .f32 0 0] rfl n
      rw [Nat.mul_one] at this
      rw [this]; simp [filg, HSL.out]
    rw [e]; exact ho
  have HB2 : Hid (Below w.heap.size w w2) := belowCall HB1.out (grown_below hg (Nat.le_refl _) (by simp)) HB1.out.size
  have HG : Hid (w.heap.size ≤ w1.heap.size) := HB1.out.size
  obtain ⟨g, hgg⟩ : ∃ g, w1.heap.size = g := ⟨_, rfl⟩
  rw [hgg] at hx HG ⊢
  have HX : Hid (w2.ownsRow g 55 1 (.slice (some ⟨g, 0, none⟩) n n) n ((filg ((0, 0) : Nat × Nat) ss 0).flatMap cpC)) := hx
  clear hx ho hg hgg HB1 hdv hdv'
  go_wp2
  go_loopw [26] (fun i wr => ∃ j : Nat, j ≤ n ∧ i = .int .i64 j ∧ Hid (wr.ownsRow g 55 1 (.slice (some ⟨g, 0, none⟩) n n) n ((filg ((0, 0) : Nat × Nat) ss j).flatMap cpC)) ∧ Hid (Below w.heap.size w wr)) (fun i _ => n - (intOf i).toNat)
  case atStart => exact ⟨0, by omega, rfl, HX.out, HB2.out⟩
  case round =>
    obtain ⟨j, hj, rfl, hO, hB⟩ := hrel
    clear HX HB2
    by_cases hlt : j < n
    case pos =>
      have hjs : j < ss.length := by rw [HSL.out]; exact hlt
      have hx0 := HC.out wr (2 * j) (by have := HLL.out; omega) hB.out
      have hx1 := HC.out wr (2 * j + 1) (by have := HLL.out; omega) hB.out
      obtain ⟨x, hx⟩ : ∃ x, zs.getD (2 * j) 0 = x := ⟨_, rfl⟩
      obtain ⟨y, hy⟩ : ∃ y, zs.getD (2 * j + 1) 0 = y := ⟨_, rfl⟩
      rw [hx] at hx0
      rw [hy] at hx1
      have HSJ : Hid (ss[j] = (sgB x, sgB y)) := by show _ = _; rw [HSA.out j hjs]; unfold brP; rw [hx, hy]
      have HNE : Hid (b ≠ g) := by
        have hlt2 : b < w.heap.size := by
          have h0 := HC.out w 0 (by have := HLL.out; omega) (Below.refl _ _)
          exact block_lt_of_cell h0
        have := HG.out
        show b ≠ g
        omega
      obtain ⟨S, hS⟩ : ∃ S : World → Prop, ∀ W, S W ↔ (W.cell? ⟨b, off + 2 * j, none⟩ = some (.int .i64 x) ∧ W.cell? ⟨b, off + (2 * j + 1), none⟩ = some (.int .i64 y)) := ⟨_, fun _ => Iff.rfl⟩
      have y0 : ∀ W : At S, W.wd.cell? ⟨b, off + 2 * j, none⟩ = some (.int .i64 x) := fun W => ((hS _).1 W.ok).1
      have y1 : ∀ W : At S, W.wd.cell? ⟨b, off + (2 * j + 1), none⟩ = some (.int .i64 y) := fun W => ((hS _).1 W.ok).2
      have HSD : Hid (S wr.drew) := (hS _).2 ⟨hx0, hx1⟩
      have ne : Nonempty (At S) := ⟨⟨_, HSD.out⟩⟩
      have hltI : (j : Int) < (n : Int) := by omega
      have hj0 : (0 : Int) ≤ (j : Int) := by omega
      have ha0 : (0 : Int) ≤ 2 * (j : Int) := by omega
      have ha1 : 2 * (j : Int) < (L : Int) := by omega
      have ha2 : 2 * (j : Int) + 1 < (L : Int) := by omega
      have ha3 : (2 * (j : Int)).toNat = 2 * j := by omega
      have ha4 : (2 * (j : Int) + 1).toNat = 2 * j + 1 := by omega
      clear hS hx hy hx0 hx1
      go_wp2
      refine region_mixT [true, true, true, true, true, true, true, false, true, true, true, true, true, true, false, false, false, false] 17 4 S (by kernel_rfl) rfl (by kernel_rfl) (fun _ _ _ _ _ h => h) HSD.out ?_
      simp only [selT, selF]
      try simp only [Act.put]
      repeat (go_big_quiet_step (fail))
      refine wpQuiet_nil ?_
      refine tail_step ?_
      clear y0 y1 ne
      go_wp2_with (fail)
      refine (signOf_c _ _).mono ?_
      rintro e w4 ⟨rfl, hw⟩
      rw [hw]
      clear hw w4
      go_wp2
      refine ⟨HSD.out, tail_step ?_⟩
      go_wp2_with (fail)
      refine (signOf_c _ _).mono ?_
      rintro e w4 ⟨rfl, hw⟩
      rw [hw]
      clear hw w4
      obtain ⟨p, hp⟩ : ∃ p, sgB x = p := ⟨_, rfl⟩
      obtain ⟨r, hr⟩ : ∃ r, sgB y = r := ⟨_, rfl⟩
      rw [hp, hr] at HSJ ⊢
      clear hp hr
      go_wp2
      refine ⟨HSD.out, tail_step ?_⟩
      go_wp2
      refine ⟨HSD.out, tail_step ?_⟩
      go_wp2
      refine ⟨HSD.out, tail_end ?_⟩
      have hOd : wr.drew.ownsRow g 55 1 (.slice (some ⟨g, 0, none⟩) n n) n ((filg ((0, 0) : Nat × Nat) ss j).flatMap cpC) := World.ownsRow.drew hO.out
      have hfl : (filg ((0, 0) : Nat × Nat) ss j).length = n := by rw [filg_len _ _ _ (by rw [HSL.out]; omega), HSL.out]
      have hfl2 : (filg ((0, 0) : Nat × Nat) ss (j + 1)).length = n := by rw [filg_len _ _ _ (by rw [HSL.out]; omega), HSL.out]
      have hOg : Og 1 cpC 55 g wr.drew (.slice (some ⟨g, 0, none⟩) (filg ((0, 0) : Nat × Nat) ss j).length n) (filg ((0, 0) : Nat × Nat) ss j) := by rw [Og, hfl]; exact hOd
      obtain ⟨u0, hd0⟩ : ∃ u, wr.drew.cell? ⟨g, j, none⟩ = some u := ⟨_, by have := (hOd.cellAt (j * 1 + 0) (by omega)).trans (fm_at cpC_len (filg ((0, 0) : Nat × Nat) ss j) j 0 (by omega) (by decide)); rw [Nat.mul_one, Nat.add_zero] at this; exact this⟩
      have hf0 := hOd.frozenAt j
      have hS := own_setg cpC_len hOg j (by omega) ss[j]
      rw [filg_set, Og, hfl, hfl2, HSJ.out] at hS
      simp only [setW, cpC, Nat.mul_one] at hS
      have HS : Hid _ := hS
      have HBn : Hid (Below w.heap.size w (wr.drew.setCell ⟨g, j, none⟩ (.complex .f32 p r))) := hB.out.drew.setCell (by dsimp only; exact HG.out) _
      clear hOd hfl hfl2 hOg hS hO hB HSJ hjs
      go_wp2
      go_roundw
      case rel => exact ⟨j + 1, by omega, by go_num, HS.out, HBn.out⟩
      case measure => simp [intOf]; omega
    case neg =>
    obtain rfl : j = n := by omega
    have HOF : Hid (wr.ownsRow g 55 1 (.slice (some ⟨g, 0, none⟩) j j) j (ss.flatMap cpC)) := by
      have h1 := hO.out
      rw [show filg ((0, 0) : Nat × Nat) ss j = ss by have := filg_full ((0, 0) : Nat × Nat) ss; rw [HSL.out] at this; exact this] at h1
      exact h1
    have hq : ((j : Int)).tdiv 2 = ((j / 2 : Nat) : Int) := by rw [Int.tdiv_eq_ediv_of_nonneg (by omega)]; omega
    have hq' : (j : Int) / 2 = ((j / 2 : Nat) : Int) := by omega
    obtain ⟨i, hii⟩ : ∃ i : Nat, j / 2 = i := ⟨_, rfl⟩
    have hij : i < j := by omega
    rw [hii] at hq hq' HBL
    clear hO hlt hj hii
    go_wp2_with (fail)
    refine (training_c _).mono ?_
    rintro e w4 ⟨vt, rfl, ot, bt⟩
    have HB4 : Hid (Below w.heap.size w w4) := belowCall hB.out bt hB.out.size
    obtain ⟨gt, cT, hvt, HTC⟩ : ∃ gt cT, vt = .slice (some ⟨gt, 0, none⟩) 26 cT ∧ ∀ j v, (trL.flatMap cpC)[j]? = some v → w4.cell? ⟨gt, j, none⟩ = some v := by
      have hx := ot
      rcases ot.2 with ⟨-, h0⟩ | ⟨gg, cap', cur, hv, -⟩
      · rw [trL_len] at h0; cases h0
      · rw [trL_len] at hv
        refine ⟨gg, cap', hv, fun k v hk => ?_⟩
        subst hv
        have hlt := (List.getElem?_eq_some_iff.1 hk).1
        have h1 := World.ownsRow.cellAt hx k (by rw [cp_len] at hlt; rw [Nat.mul_one]; exact hlt)
        rw [hk] at h1; exact h1
    subst hvt
    have HTC' : Hid (∀ j v, (trL.flatMap cpC)[j]? = some v → w4.cell? ⟨gt, j, none⟩ = some v) := HTC
    have HSC : Hid (∀ k v, (ss.flatMap cpC)[k]? = some v → w4.cell? ⟨g, k, none⟩ = some v) := fun k v hv => by
      have hlt := (List.getElem?_eq_some_iff.1 hv).1
      have h1 := HOF.out.cellAt k (by rw [cp_len, HSL.out] at hlt; omega)
      rw [hv] at h1
      rw [bt.cell (block_lt_of_cell h1)]; exact h1
    clear ot bt HTC
    go_wp2_with (fail)
    refine (insert_c g gt j i cT ss trL w4 HSC.out HTC'.out HSL.out trL_len hij (by omega)).mono ?_
    rintro e w5 ⟨v5, rfl, r5, b5⟩
    rw [← HBL.out] at r5
    have HR5 : Hid (Rg 1 cpC w5 v5 (brL zs)) := r5
    have HB5 : Hid (Below w.heap.size w w5) := belowCall HB4.out b5 HB4.out.size
    have HLB : Hid ((brL zs).length ≤ 1000) := by show _ ≤ _; rw [HBL.out]; simp [HSL.out, trL_len]; omega
    clear r5 b5 HSC HTC'
    go_wp2_with (fail)
    refine (samplesOf_c v5 (brL zs) w5 HR5.out (by have := HLB.out; omega)).mono ?_
    rintro e w6 ⟨v6, rfl, o6, b6⟩
    have HO6 : Hid (Og 2 smC 27 w.heap.size w6 v6 (brL zs)) := o6.mono HB5.out.size
    have HB6 : Hid (Below w.heap.size w w6) := belowCall HB5.out b6 HB5.out.size
    clear o6 b6
    go_wp2
    go_ret2
    exact ⟨_, by rw [HT.out]; rfl, HO6.out, HB6.out⟩

end Go.Proofs.Ytomgdlnpajfjhaa

/- The model's TariffAt; no condition. -/
import Derived.Test.YtdnophdldpophaaTA
namespace Go.Proofs.Ytdnophdldpophaa
open Go.RowKit Go.ChangeShapes Go.WideShapes Go.ChangeAt
set_option linter.unusedVariables false
set_option linter.unusedSimpArgs false
set_option maxRecDepth 8000
set_option maxHeartbeats 12800000 in
theorem atM_c (v : Value) (ls : List Tf) (z t : Int) (w : World) (h : Rg 5 tfC w v ls) : Calls Try.prog 21 #[v, .int .i64 z, .int .i64 t] w (AtR ls z t w) := by
  have HH : Hid (Rg 5 tfC w v ls) := h
  obtain ⟨a, cap, rfl, h1, h2, h3⟩ := h
  unfold maxLen at h2
  go_enter Try.func21, Try.ntmps21
  go_wp2_with (fail)
  refine (tariffsM_c _ ls w HH.out).mono ?_
  rintro e w1 ⟨r, rfl, hr, b1⟩
  have HR : Hid (r = true ↔ TfOk ls) := hr
  have HB1 : Hid (Below w.heap.size w w1) := b1
  clear hr b1
  cases r with
  | false =>
    have HN : Hid (¬ (TfOk ls ∧ 0 ≤ t ∧ t ≤ 1000000000)) := fun h => by have := HR.out.2 h.1; cases this
    go_wp2
    go_ret2
    exact AtR.no HN.out HB1.out
  | true =>
  have HOK : Hid (TfOk ls) := HR.out.1 rfl
  clear HR
  go_wp2_with (fail)
  refine (l4Tick_c _ _).mono ?_
  rintro e w2 ⟨rfl, hw⟩
  rw [hw]
  clear hw w2
  by_cases ht : 0 ≤ t ∧ t ≤ 1000000000
  case neg =>
    have hd : decide (0 ≤ t ∧ t ≤ 1000000000) = false := by simpa using ht
    rw [hd]
    have HN : Hid (¬ (TfOk ls ∧ 0 ≤ t ∧ t ≤ 1000000000)) := fun h => ht h.2
    clear hd ht
    go_wp2
    go_ret2
    exact AtR.no HN.out HB1.out
  case pos =>
  have hd : decide (0 ≤ t ∧ t ≤ 1000000000) = true := by simpa using ht
  rw [hd]
  have HT : Hid (0 ≤ t ∧ t ≤ 1000000000) := ht
  clear hd
  obtain ⟨nw, hnw⟩ : ∃ nw, Int.tmod t 86400 = nw := ⟨_, rfl⟩
  have HNW : Hid (t % 86400 = nw) := by show t % 86400 = nw; rw [← hnw, Int.tmod_eq_emod_of_nonneg ht.1]
  clear ht
  go_wp2
  go_loopw [9, 10, 11] (fun p m i wr => ∃ j : Nat, ∃ pp mm : Int, j ≤ ls.length ∧ p = .int .i64 pp ∧ m = .int .i64 mm ∧ i = .int .i64 j ∧ Hid (HoM ls z (fun f => decide (f ≤ nw)) j pp) ∧ Hid (HoM ls z (fun _ => true) j mm) ∧ Hid (Below w.heap.size w wr)) (fun _ _ i _ => ls.length - (intOf i).toNat)
  case atStart => exact ⟨0, -1, -1, Nat.zero_le _, rfl, rfl, rfl, HoM.zero _ _ _, HoM.zero _ _ _, HB1.out⟩
  case round =>
    obtain ⟨j, pp, mm, hj, rfl, rfl, rfl, hA, hM, hbr⟩ := hrel
    by_cases hlt : j < ls.length
    case neg =>
      obtain rfl : j = ls.length := by omega
      have HP : Hid ((if pp < 0 then mm else pp) = hoF ls z t) := by
        have hA' := hA.out
        rw [← HNW.out] at hA'
        exact (HoM.done HOK.out HT.out.1 hA' hM.out).eq HOK.out
      clear h3
      by_cases hp : pp < 0
      · have HP' : Hid (mm = hoF ls z t) := by have := HP.out; rw [if_pos hp] at this; exact this
        clear HP
        go_wp2
        go_ret2
        exact ⟨mm, rfl, fun _ => HP'.out, fun h => absurd ⟨HOK.out, HT.out⟩ h, hbr.out⟩
      · have HP' : Hid (pp = hoF ls z t) := by have := HP.out; rw [if_neg hp] at this; exact this
        have hp' : (pp < 0) = False := eq_false hp
        clear HP hp
        go_wp2
        go_ret2
        exact ⟨pp, rfl, fun _ => HP'.out, fun h => absurd ⟨HOK.out, HT.out⟩ h, hbr.out⟩
    case pos =>
    rcases h3 with h3 | ⟨b, off, rfl, h4⟩
    · subst h3; simp at hlt
    have H4 : Hid (∀ W, Below w.heap.size w W → ∀ i (h : i < ls.length), W.rangeAt b (off + i * 5) (tfC ls[i])) := fun W hW i hi => rangeAt_below (h4 i hi) hW (block_lt_of_cell (h4 i hi 0 _ rfl))
    clear h4
    obtain ⟨r, hr⟩ : ∃ r, ls[j] = r := ⟨_, rfl⟩
    have HRJ : Hid (ls[j] = r) := hr
    have hc := H4.out wr hbr.out j hlt
    rw [hr] at hc
    have e0 : wr.cell? ⟨b, off + j * 5, none⟩ = some (.int .i64 r.1) := hc 0 _ rfl
    have hjI : (j : Int) < (ls.length : Int) := by omega
    have y1 : ∀ W : Ov wr, W.wd.cell? ⟨b, off + j * 5 + 1, none⟩ = some (.int .i64 r.2.1) := ov_cell (hc 1 _ rfl)
    have ne1 : Nonempty (Ov wr) := ⟨⟨_, Below.refl _ _⟩⟩
    clear hc hr
    by_cases hz : (r.1 == z) = true
    case neg =>
      have hz' : (r.1 != z) = true := by simpa using hz
      have HN : Hid (HoM ls z (fun f => decide (f ≤ nw)) (j + 1) pp ∧ HoM ls z (fun _ => true) (j + 1) mm) := ⟨hA.out.skip hlt (fun h => absurd h (by rw [HRJ.out]; simpa using hz)), hM.out.skip hlt (fun h => absurd h (by rw [HRJ.out]; simpa using hz))⟩
      clear hz y1 ne1
      go_wp2
      go_roundw
      case rel => exact ⟨j + 1, pp, mm, by omega, rfl, rfl, by go_num, HN.out.1, HN.out.2, hbr.out⟩
      case measure => simp [intOf]; omega
    case pos =>
    have hz' : (r.1 != z) = false := by simpa using hz
    have HZ : Hid (ls[j].1 = z) := by show ls[j].1 = z; rw [HRJ.out]; simpa using hz
    clear hz
    by_cases hq : r.2.1 ≤ nw
    case neg =>
      have hq' : decide (r.2.1 ≤ nw) = false := by simpa using hq
      have HBN : Hid (HoM ls z (fun f => decide (f ≤ nw)) (j + 1) pp) := hA.out.skip hlt (fun _ => by rw [HRJ.out]; exact hq')
      clear hq
      go_wp2
      refine region_over (by kernel_rfl) (by kernel_rfl) ?_
      repeat (go_big_quiet_step (fail))
      refine wpQuiet_nil ?_
      rintro _ ⟨W, rfl⟩
      have HBW : Hid (Below w.heap.size w W.wd) := belowCall hbr.out W.ok hbr.out.size
      obtain ⟨W3, hW3⟩ : ∃ W3, W.wd = W3 := ⟨_, rfl⟩
      rw [hW3] at HBW ⊢
      clear hW3 y1 ne1 e0 hq'
      have hc2 := H4.out W3 HBW.out j hlt
      rw [HRJ.out] at hc2
      have y2 : ∀ V : Ov W3, V.wd.cell? ⟨b, off + j * 5 + 1, none⟩ = some (.int .i64 r.2.1) := ov_cell (hc2 1 _ rfl)
      have ne2 : Nonempty (Ov W3) := ⟨⟨_, Below.refl _ _⟩⟩
      clear hc2
      rcases hM.out with ⟨hm, hmA⟩ | ⟨l, hm, hlj, hll, -⟩
      · have HN : Hid (HoM ls z (fun _ => true) (j + 1) j) := hM.out.take hlt HZ.out rfl (.inl (by omega))
        subst hm
        go_wp2
        refine region_over (by kernel_rfl) (by kernel_rfl) ?_
        repeat (go_big_quiet_step (fail))
        refine wpQuiet_nil ?_
        rintro _ ⟨V, rfl⟩
        go_wp2
        go_roundw
        case rel => exact ⟨j + 1, pp, j, by omega, rfl, rfl, by go_num, HBN.out, HN.out, belowCall HBW.out V.ok HBW.out.size⟩
        case measure => simp [intOf]; omega
      · obtain ⟨x, hx⟩ : ∃ x, ls[l] = x := ⟨_, rfl⟩
        have hc3 := H4.out W3 HBW.out l hll
        rw [hx] at hc3
        have y3 : ∀ V : Ov W3, V.wd.cell? ⟨b, off + l * 5 + 1, none⟩ = some (.int .i64 x.2.1) := ov_cell (hc3 1 _ rfl)
        have hlI : (l : Int) < (ls.length : Int) := by omega
        have hl0 : decide ((l : Int) < 0) = false := by simp
        clear hc3
        by_cases hg : x.2.1 < r.2.1
        · have HN : Hid (HoM ls z (fun _ => true) (j + 1) j) := hM.out.take hlt HZ.out rfl (.inr ⟨l, hm, hll, by rw [hx, HRJ.out]; exact hg⟩)
          have hg' : decide (x.2.1 < r.2.1) = true := by simpa using hg
          subst hm
          clear hg hx
          go_wp2
          refine region_over (by kernel_rfl) (by kernel_rfl) ?_
          repeat (go_big_quiet_step (fail))
          refine wpQuiet_nil ?_
          rintro _ ⟨V, rfl⟩
          go_wp2
          go_roundw
          case rel => exact ⟨j + 1, pp, j, by omega, rfl, rfl, by go_num, HBN.out, HN.out, belowCall HBW.out V.ok HBW.out.size⟩
          case measure => simp [intOf]; omega
        · have HN : Hid (HoM ls z (fun _ => true) (j + 1) l) := by
            have h7 := hM.out
            rw [hm] at h7
            exact h7.keep hlt hll (by rw [hx, HRJ.out]; exact hg)
          have hg' : decide (x.2.1 < r.2.1) = false := by simpa using hg
          subst hm
          clear hg hx
          go_wp2
          refine region_over (by kernel_rfl) (by kernel_rfl) ?_
          repeat (go_big_quiet_step (fail))
          refine wpQuiet_nil ?_
          rintro _ ⟨V, rfl⟩
          go_wp2
          go_roundw
          case rel => exact ⟨j + 1, pp, l, by omega, rfl, rfl, by go_num, HBN.out, HN.out, belowCall HBW.out V.ok HBW.out.size⟩
          case measure => simp [intOf]; omega
    case pos =>
    have hq' : decide (r.2.1 ≤ nw) = true := by simpa using hq
    have HQ : Hid (decide (ls[j].2.1 ≤ nw) = true) := by show decide _ = true; rw [HRJ.out]; exact hq'
    clear hq
    rcases hA.out with ⟨hp, -⟩ | ⟨i, hp, hij, hil, -⟩
    · have HBN : Hid (HoM ls z (fun f => decide (f ≤ nw)) (j + 1) j) := hA.out.take hlt HZ.out HQ.out (.inl (by omega))
      subst hp
      go_wp2
      refine region_over (by kernel_rfl) (by kernel_rfl) ?_
      repeat (go_big_quiet_step (fail))
      refine wpQuiet_nil ?_
      rintro _ ⟨W, rfl⟩
      have HBW : Hid (Below w.heap.size w W.wd) := belowCall hbr.out W.ok hbr.out.size
      obtain ⟨W3, hW3⟩ : ∃ W3, W.wd = W3 := ⟨_, rfl⟩
      rw [hW3] at HBW ⊢
      clear hW3 y1 ne1 e0 hq'
      have hc2 := H4.out W3 HBW.out j hlt
      rw [HRJ.out] at hc2
      have y2 : ∀ V : Ov W3, V.wd.cell? ⟨b, off + j * 5 + 1, none⟩ = some (.int .i64 r.2.1) := ov_cell (hc2 1 _ rfl)
      have ne2 : Nonempty (Ov W3) := ⟨⟨_, Below.refl _ _⟩⟩
      clear hc2
      rcases hM.out with ⟨hm, hmA⟩ | ⟨l, hm, hlj, hll, -⟩
      · have HN : Hid (HoM ls z (fun _ => true) (j + 1) j) := hM.out.take hlt HZ.out rfl (.inl (by omega))
        subst hm
        go_wp2
        refine region_over (by kernel_rfl) (by kernel_rfl) ?_
        repeat (go_big_quiet_step (fail))
        refine wpQuiet_nil ?_
        rintro _ ⟨V, rfl⟩
        go_wp2
        go_roundw
        case rel => exact ⟨j + 1, j, j, by omega, rfl, rfl, by go_num, HBN.out, HN.out, belowCall HBW.out V.ok HBW.out.size⟩
        case measure => simp [intOf]; omega
      · obtain ⟨x, hx⟩ : ∃ x, ls[l] = x := ⟨_, rfl⟩
        have hc3 := H4.out W3 HBW.out l hll
        rw [hx] at hc3
        have y3 : ∀ V : Ov W3, V.wd.cell? ⟨b, off + l * 5 + 1, none⟩ = some (.int .i64 x.2.1) := ov_cell (hc3 1 _ rfl)
        have hlI : (l : Int) < (ls.length : Int) := by omega
        have hl0 : decide ((l : Int) < 0) = false := by simp
        clear hc3
        by_cases hg : x.2.1 < r.2.1
        · have HN : Hid (HoM ls z (fun _ => true) (j + 1) j) := hM.out.take hlt HZ.out rfl (.inr ⟨l, hm, hll, by rw [hx, HRJ.out]; exact hg⟩)
          have hg' : decide (x.2.1 < r.2.1) = true := by simpa using hg
          subst hm
          clear hg hx
          go_wp2
          refine region_over (by kernel_rfl) (by kernel_rfl) ?_
          repeat (go_big_quiet_step (fail))
          refine wpQuiet_nil ?_
          rintro _ ⟨V, rfl⟩
          go_wp2
          go_roundw
          case rel => exact ⟨j + 1, j, j, by omega, rfl, rfl, by go_num, HBN.out, HN.out, belowCall HBW.out V.ok HBW.out.size⟩
          case measure => simp [intOf]; omega
        · have HN : Hid (HoM ls z (fun _ => true) (j + 1) l) := by
            have h7 := hM.out
            rw [hm] at h7
            exact h7.keep hlt hll (by rw [hx, HRJ.out]; exact hg)
          have hg' : decide (x.2.1 < r.2.1) = false := by simpa using hg
          subst hm
          clear hg hx
          go_wp2
          refine region_over (by kernel_rfl) (by kernel_rfl) ?_
          repeat (go_big_quiet_step (fail))
          refine wpQuiet_nil ?_
          rintro _ ⟨V, rfl⟩
          go_wp2
          go_roundw
          case rel => exact ⟨j + 1, j, l, by omega, rfl, rfl, by go_num, HBN.out, HN.out, belowCall HBW.out V.ok HBW.out.size⟩
          case measure => simp [intOf]; omega
    · obtain ⟨u, hu⟩ : ∃ u, ls[i] = u := ⟨_, rfl⟩
      have hc5 := H4.out wr hbr.out i hil
      rw [hu] at hc5
      have y5 : ∀ W : Ov wr, W.wd.cell? ⟨b, off + i * 5 + 1, none⟩ = some (.int .i64 u.2.1) := ov_cell (hc5 1 _ rfl)
      have hiI : (i : Int) < (ls.length : Int) := by omega
      have hi0 : decide ((i : Int) < 0) = false := by simp
      clear hc5
      by_cases hg : u.2.1 < r.2.1
      · have HBN : Hid (HoM ls z (fun f => decide (f ≤ nw)) (j + 1) j) := hA.out.take hlt HZ.out HQ.out (.inr ⟨i, hp, hil, by rw [hu, HRJ.out]; exact hg⟩)
        have hg' : decide (u.2.1 < r.2.1) = true := by simpa using hg
        subst hp
        clear hg hu
        go_wp2
        refine region_over (by kernel_rfl) (by kernel_rfl) ?_
        repeat (go_big_quiet_step (fail))
        refine wpQuiet_nil ?_
        rintro _ ⟨W, rfl⟩
        have HBW : Hid (Below w.heap.size w W.wd) := belowCall hbr.out W.ok hbr.out.size
        obtain ⟨W3, hW3⟩ : ∃ W3, W.wd = W3 := ⟨_, rfl⟩
        rw [hW3] at HBW ⊢
        clear hW3 y1 ne1 e0 hq' hg' y5 hi0 hiI
        have hc2 := H4.out W3 HBW.out j hlt
        rw [HRJ.out] at hc2
        have y2 : ∀ V : Ov W3, V.wd.cell? ⟨b, off + j * 5 + 1, none⟩ = some (.int .i64 r.2.1) := ov_cell (hc2 1 _ rfl)
        have ne2 : Nonempty (Ov W3) := ⟨⟨_, Below.refl _ _⟩⟩
        clear hc2
        rcases hM.out with ⟨hm, hmA⟩ | ⟨l, hm, hlj, hll, -⟩
        · have HN : Hid (HoM ls z (fun _ => true) (j + 1) j) := hM.out.take hlt HZ.out rfl (.inl (by omega))
          subst hm
          go_wp2
          refine region_over (by kernel_rfl) (by kernel_rfl) ?_
          repeat (go_big_quiet_step (fail))
          refine wpQuiet_nil ?_
          rintro _ ⟨V, rfl⟩
          go_wp2
          go_roundw
          case rel => exact ⟨j + 1, j, j, by omega, rfl, rfl, by go_num, HBN.out, HN.out, belowCall HBW.out V.ok HBW.out.size⟩
          case measure => simp [intOf]; omega
        · obtain ⟨x, hx⟩ : ∃ x, ls[l] = x := ⟨_, rfl⟩
          have hc3 := H4.out W3 HBW.out l hll
          rw [hx] at hc3
          have y3 : ∀ V : Ov W3, V.wd.cell? ⟨b, off + l * 5 + 1, none⟩ = some (.int .i64 x.2.1) := ov_cell (hc3 1 _ rfl)
          have hlI : (l : Int) < (ls.length : Int) := by omega
          have hl0 : decide ((l : Int) < 0) = false := by simp
          clear hc3
          by_cases hg : x.2.1 < r.2.1
          · have HN : Hid (HoM ls z (fun _ => true) (j + 1) j) := hM.out.take hlt HZ.out rfl (.inr ⟨l, hm, hll, by rw [hx, HRJ.out]; exact hg⟩)
            have hg' : decide (x.2.1 < r.2.1) = true := by simpa using hg
            subst hm
            clear hg hx
            go_wp2
            refine region_over (by kernel_rfl) (by kernel_rfl) ?_
            repeat (go_big_quiet_step (fail))
            refine wpQuiet_nil ?_
            rintro _ ⟨V, rfl⟩
            go_wp2
            go_roundw
            case rel => exact ⟨j + 1, j, j, by omega, rfl, rfl, by go_num, HBN.out, HN.out, belowCall HBW.out V.ok HBW.out.size⟩
            case measure => simp [intOf]; omega
          · have HN : Hid (HoM ls z (fun _ => true) (j + 1) l) := by
              have h7 := hM.out
              rw [hm] at h7
              exact h7.keep hlt hll (by rw [hx, HRJ.out]; exact hg)
            have hg' : decide (x.2.1 < r.2.1) = false := by simpa using hg
            subst hm
            clear hg hx
            go_wp2
            refine region_over (by kernel_rfl) (by kernel_rfl) ?_
            repeat (go_big_quiet_step (fail))
            refine wpQuiet_nil ?_
            rintro _ ⟨V, rfl⟩
            go_wp2
            go_roundw
            case rel => exact ⟨j + 1, j, l, by omega, rfl, rfl, by go_num, HBN.out, HN.out, belowCall HBW.out V.ok HBW.out.size⟩
            case measure => simp [intOf]; omega
      · have HBN : Hid (HoM ls z (fun f => decide (f ≤ nw)) (j + 1) i) := by
          have h7 := hA.out
          rw [hp] at h7
          exact h7.keep hlt hil (by rw [hu, HRJ.out]; exact hg)
        have hg' : decide (u.2.1 < r.2.1) = false := by simpa using hg
        subst hp
        clear hg hu
        go_wp2
        refine region_over (by kernel_rfl) (by kernel_rfl) ?_
        repeat (go_big_quiet_step (fail))
        refine wpQuiet_nil ?_
        rintro _ ⟨W, rfl⟩
        have HBW : Hid (Below w.heap.size w W.wd) := belowCall hbr.out W.ok hbr.out.size
        obtain ⟨W3, hW3⟩ : ∃ W3, W.wd = W3 := ⟨_, rfl⟩
        rw [hW3] at HBW ⊢
        clear hW3 y1 ne1 e0 hq' hg' y5 hi0 hiI
        have hc2 := H4.out W3 HBW.out j hlt
        rw [HRJ.out] at hc2
        have y2 : ∀ V : Ov W3, V.wd.cell? ⟨b, off + j * 5 + 1, none⟩ = some (.int .i64 r.2.1) := ov_cell (hc2 1 _ rfl)
        have ne2 : Nonempty (Ov W3) := ⟨⟨_, Below.refl _ _⟩⟩
        clear hc2
        rcases hM.out with ⟨hm, hmA⟩ | ⟨l, hm, hlj, hll, -⟩
        · have HN : Hid (HoM ls z (fun _ => true) (j + 1) j) := hM.out.take hlt HZ.out rfl (.inl (by omega))
          subst hm
          go_wp2
          refine region_over (by kernel_rfl) (by kernel_rfl) ?_
          repeat (go_big_quiet_step (fail))
          refine wpQuiet_nil ?_
          rintro _ ⟨V, rfl⟩
          go_wp2
          go_roundw
          case rel => exact ⟨j + 1, i, j, by omega, rfl, rfl, by go_num, HBN.out, HN.out, belowCall HBW.out V.ok HBW.out.size⟩
          case measure => simp [intOf]; omega
        · obtain ⟨x, hx⟩ : ∃ x, ls[l] = x := ⟨_, rfl⟩
          have hc3 := H4.out W3 HBW.out l hll
          rw [hx] at hc3
          have y3 : ∀ V : Ov W3, V.wd.cell? ⟨b, off + l * 5 + 1, none⟩ = some (.int .i64 x.2.1) := ov_cell (hc3 1 _ rfl)
          have hlI : (l : Int) < (ls.length : Int) := by omega
          have hl0 : decide ((l : Int) < 0) = false := by simp
          clear hc3
          by_cases hg : x.2.1 < r.2.1
          · have HN : Hid (HoM ls z (fun _ => true) (j + 1) j) := hM.out.take hlt HZ.out rfl (.inr ⟨l, hm, hll, by rw [hx, HRJ.out]; exact hg⟩)
            have hg' : decide (x.2.1 < r.2.1) = true := by simpa using hg
            subst hm
            clear hg hx
            go_wp2
            refine region_over (by kernel_rfl) (by kernel_rfl) ?_
            repeat (go_big_quiet_step (fail))
            refine wpQuiet_nil ?_
            rintro _ ⟨V, rfl⟩
            go_wp2
            go_roundw
            case rel => exact ⟨j + 1, i, j, by omega, rfl, rfl, by go_num, HBN.out, HN.out, belowCall HBW.out V.ok HBW.out.size⟩
            case measure => simp [intOf]; omega
          · have HN : Hid (HoM ls z (fun _ => true) (j + 1) l) := by
              have h7 := hM.out
              rw [hm] at h7
              exact h7.keep hlt hll (by rw [hx, HRJ.out]; exact hg)
            have hg' : decide (x.2.1 < r.2.1) = false := by simpa using hg
            subst hm
            clear hg hx
            go_wp2
            refine region_over (by kernel_rfl) (by kernel_rfl) ?_
            repeat (go_big_quiet_step (fail))
            refine wpQuiet_nil ?_
            rintro _ ⟨V, rfl⟩
            go_wp2
            go_roundw
            case rel => exact ⟨j + 1, i, l, by omega, rfl, rfl, by go_num, HBN.out, HN.out, belowCall HBW.out V.ok HBW.out.size⟩
            case measure => simp [intOf]; omega
end Go.Proofs.Ytdnophdldpophaa

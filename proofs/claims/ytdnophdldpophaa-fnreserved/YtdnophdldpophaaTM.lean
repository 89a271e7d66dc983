/- The model's TariffsOk; no condition. -/
import Derived.Test.YtdnophdldpophaaTS
namespace Go.Proofs.Ytdnophdldpophaa
open Go.RowKit Go.ChangeShapes Go.WideShapes Go.ChangeAt
set_option linter.unusedVariables false
set_option linter.unusedSimpArgs false
set_option maxRecDepth 8000
set_option maxHeartbeats 6400000 in
theorem tariffsM_c (v : Value) (ls : List Tf) (w : World) (h : Rg 5 tfC w v ls) : Calls Try.prog 17 #[v] w (BoR (TfOk ls) w) := by
  obtain ⟨a, cap, rfl, h1, h2, h3⟩ := h
  unfold maxLen at h2
  go_enter Try.func17, Try.ntmps17
  go_wp2
  go_loopw [3] (fun i wr => ∃ j : Nat, j ≤ ls.length ∧ i = .int .i64 j ∧ Hid (TfU ls j) ∧ Hid (Below w.heap.size w wr)) (fun i _ => ls.length - (intOf i).toNat)
  case atStart => exact ⟨0, Nat.zero_le _, rfl, fun t _ ht => by omega, Below.refl _ _⟩
  case round =>
    obtain ⟨j, hj, rfl, hA, hbr⟩ := hrel
    by_cases hlt : j < ls.length
    case neg =>
      obtain rfl : j = ls.length := by omega
      clear h3
      have hD : decide ((ls.length : Int) ≤ 40) = decide (ls.length ≤ 40) := by simp; omega
      go_wp2
      go_ret
      refine ⟨_, rfl, ?_, hbr.out⟩
      constructor
      · intro h; exact ⟨hA.out, by simpa using h⟩
      · intro h; have := h.2; simpa using this
    case pos =>
    rcases h3 with h3 | ⟨b, off, rfl, h4⟩
    · subst h3; simp at hlt
    have hcb : b < w.heap.size := block_lt_of_cell (h4 j hlt 0 _ rfl)
    obtain ⟨r, hr⟩ : ∃ r, ls[j] = r := ⟨_, rfl⟩
    have HR : Hid (ls[j] = r) := hr
    have hc := rangeAt_below (h4 j hlt) hbr.out hcb
    rw [hr] at hc
    have e0 : wr.cell? ⟨b, off + j * 5, none⟩ = some (.int .i64 r.1) := hc 0 _ rfl
    have e1 : wr.cell? ⟨b, off + j * 5 + 1, none⟩ = some (.int .i64 r.2.1) := hc 1 _ rfl
    have e2 : wr.cell? ⟨b, off + j * 5 + 2, none⟩ = some (.int .i64 r.2.2.1) := hc 2 _ rfl
    have e3 : wr.cell? ⟨b, off + j * 5 + 3, none⟩ = some (.int .i64 r.2.2.2.1) := hc 3 _ rfl
    have e4 : wr.cell? ⟨b, off + j * 5 + 4, none⟩ = some (.int .i64 r.2.2.2.2) := hc 4 _ rfl
    obtain ⟨W1, hW1⟩ : ∃ W1, wr.alloc (Obj.cells #[.int .i64 r.1, .int .i64 r.2.1, .int .i64 r.2.2.1, .int .i64 r.2.2.2.1, .int .i64 r.2.2.2.2] 32) = W1 := ⟨_, rfl⟩
    obtain ⟨X, hX⟩ : ∃ X, wr.heap.size = X := ⟨_, rfl⟩
    have HB2 : Hid (Below w.heap.size w W1) := hW1 ▸ hbr.out.alloc hbr.out.size _
    have hk : Blk W1 X #[.int .i64 r.1, .int .i64 r.2.1, .int .i64 r.2.2.1, .int .i64 r.2.2.2.1, .int .i64 r.2.2.2.2] 32 := by rw [← hW1, ← hX]; exact Blk.new _ _ _
    have HK : Hid (Blk W1 X #[.int .i64 r.1, .int .i64 r.2.1, .int .i64 r.2.2.1, .int .i64 r.2.2.2.1, .int .i64 r.2.2.2.2] 32) := hk
    have HW1 : Hid (wr.alloc (Obj.cells #[.int .i64 r.1, .int .i64 r.2.1, .int .i64 r.2.2.1, .int .i64 r.2.2.2.1, .int .i64 r.2.2.2.2] 32) = W1) := hW1
    have HX : Hid (wr.heap.size = X) := hX
    have H4 : Hid (∀ W, Below w.heap.size w W → ∀ i (h : i < ls.length), W.rangeAt b (off + i * 5) (tfC ls[i])) := fun W hW i hi => rangeAt_below (h4 i hi) hW (block_lt_of_cell (h4 i hi 0 _ rfl))
    obtain ⟨b0, g0⟩ : ∃ b, decide (0 ≤ r.1 ∧ r.1 ≤ 99) = b := ⟨_, rfl⟩
    obtain ⟨b1, g1⟩ : ∃ b, decide (0 ≤ r.2.1 ∧ r.2.1 ≤ 86399) = b := ⟨_, rfl⟩
    obtain ⟨b2, g2⟩ : ∃ b, decide (1 ≤ r.2.2.1 ∧ r.2.2.1 ≤ 10000) = b := ⟨_, rfl⟩
    obtain ⟨b3, g3⟩ : ∃ b, decide (0 ≤ r.2.2.2.1 ∧ r.2.2.2.1 ≤ 100000) = b := ⟨_, rfl⟩
    obtain ⟨b4, g4⟩ : ∃ b, decide (0 ≤ r.2.2.2.2 ∧ r.2.2.2.2 ≤ 100000) = b := ⟨_, rfl⟩
    have HT : Hid (tfB ls[j] = (b0 && b1 && b2 && b3 && b4)) := by show tfB _ = _; rw [HR.out, tfB, g0, g1, g2, g3, g4]
    have HQ : Hid (decide (0 ≤ r.1 ∧ r.1 ≤ 99) = b0 ∧ decide (0 ≤ r.2.1 ∧ r.2.1 ≤ 86399) = b1 ∧ decide (1 ≤ r.2.2.1 ∧ r.2.2.1 ≤ 10000) = b2 ∧ decide (0 ≤ r.2.2.2.1 ∧ r.2.2.2.1 ≤ 100000) = b3 ∧ decide (0 ≤ r.2.2.2.2 ∧ r.2.2.2.2 ≤ 100000) = b4) := ⟨g0, g1, g2, g3, g4⟩
    have HNO : Hid ((b0 && b1 && b2 && b3 && b4) = false → ¬ TfOk ls) := fun h hok => by have h5 := (hok.1 j hlt hlt).1; rw [HT.out, h] at h5; cases h5
    clear g0 g1 g2 g3 g4 h4 hc hr hW1 hX hcb
    go_wp2_with (fail)
    rw [HW1.out]
    refine (l1In_c _ _ _ _).mono ?_
    rintro e w1 ⟨rfl, hw⟩
    rw [hw, HQ.out.1]
    clear hw w1
    have x0 := hk.cell 0
    have x1 := hk.cell 1
    have x2 := hk.cell 2
    have x3 := hk.cell 3
    have x4 := hk.cell 4
    simp at x0 x1 x2 x3 x4
    rw [← HX.out] at x0 x1 x2 x3 x4
    clear hk
    cases b0
    · go_wp2
      go_ret
      exact BoR.no (HNO.out (by simp)) HB2.out
    go_wp2_with (fail)
    refine (l1In_c _ _ _ _).mono ?_
    rintro e w1 ⟨rfl, hw⟩
    rw [hw, HQ.out.2.1]
    clear hw w1
    cases b1
    · go_wp2
      go_ret
      exact BoR.no (HNO.out (by simp)) HB2.out
    go_wp2_with (fail)
    refine (l1In_c _ _ _ _).mono ?_
    rintro e w1 ⟨rfl, hw⟩
    rw [hw, HQ.out.2.2.1]
    clear hw w1
    cases b2
    · go_wp2
      go_ret
      exact BoR.no (HNO.out (by simp)) HB2.out
    go_wp2_with (fail)
    refine (l1In_c _ _ _ _).mono ?_
    rintro e w1 ⟨rfl, hw⟩
    rw [hw, HQ.out.2.2.2.1]
    clear hw w1
    cases b3
    · go_wp2
      go_ret
      exact BoR.no (HNO.out (by simp)) HB2.out
    go_wp2_with (fail)
    refine (l1In_c _ _ _ _).mono ?_
    rintro e w1 ⟨rfl, hw⟩
    rw [hw, HQ.out.2.2.2.2]
    clear hw w1
    cases b4
    · go_wp2
      go_ret
      exact BoR.no (HNO.out (by simp)) HB2.out
    have HTT : Hid (tfB ls[j] = true) := by show _ = _; rw [HT.out]; rfl
    clear HT HQ HNO
    go_wp2
    rw [HX.out]
    go_loopw [5] (fun i wr => ∃ k : Nat, k ≤ j ∧ i = .int .i64 k ∧ Hid (∀ t (ht : t < k) (h : t < ls.length), ¬ (ls[t].1 = r.1 ∧ ls[t].2.1 = r.2.1)) ∧ Hid (Below W1.heap.size W1 wr)) (fun i _ => j - (intOf i).toNat)
    case atStart => exact ⟨0, Nat.zero_le _, rfl, fun t ht => by omega, Below.refl _ _⟩
    case round =>
      obtain ⟨k, hk, rfl, hK, hbk⟩ := hrel
      clear x0 x1 x2 x3 x4 e0 e1 e2 e3 e4
      by_cases hkj : k < j
      · have hkl : k < ls.length := by omega
        obtain ⟨q, hq⟩ : ∃ q, ls[k] = q := ⟨_, rfl⟩
        have HQq : Hid (ls[k] = q) := hq
        have hb3 : Below w.heap.size w wr := HB2.out.trans (hbk.out.mono HB2.out.size)
        have HB3 : Hid (Below w.heap.size w wr) := hb3
        have hck := H4.out wr hb3 k hkl
        rw [hq] at hck
        have y0 : ∀ W : Ov wr, W.wd.cell? ⟨b, off + k * 5, none⟩ = some (.int .i64 q.1) := ov_cell (hck 0 _ rfl)
        have y1 : ∀ W : Ov wr, W.wd.cell? ⟨b, off + k * 5 + 1, none⟩ = some (.int .i64 q.2.1) := ov_cell (hck 1 _ rfl)
        have kk := HK.out.below hbk.out HK.out.lt
        have z0 : ∀ W : Ov wr, W.wd.cell? ⟨X, 0, none⟩ = some (.int .i64 r.1) := ov_cell (kk.cell 0)
        have z1 : ∀ W : Ov wr, W.wd.cell? ⟨X, 1, none⟩ = some (.int .i64 r.2.1) := ov_cell (kk.cell 1)
        have ne1 : Nonempty (Ov wr) := ⟨⟨_, Below.refl _ _⟩⟩
        have hkI : (k : Int) < (ls.length : Int) := by omega
        clear hck kk hq hb3
        have HS : Hid (¬ (q.1 = r.1 ∧ q.2.1 = r.2.1) → ∀ t (ht : t < k + 1) (h : t < ls.length), ¬ (ls[t].1 = r.1 ∧ ls[t].2.1 = r.2.1)) := fun hne t htt h => by
          by_cases htj : t < k
          · exact hK.out t htj h
          · obtain rfl : t = k := by omega
            rw [HQq.out]; exact hne
        obtain ⟨c0, hc0⟩ : ∃ c, (q.1 == r.1) = c := ⟨_, rfl⟩
        obtain ⟨c1, hc1⟩ : ∃ c, (q.2.1 == r.2.1) = c := ⟨_, rfl⟩
        have HCC : Hid ((q.1 == r.1) = c0 ∧ (q.2.1 == r.2.1) = c1) := ⟨hc0, hc1⟩
        cases c0 with
        | false =>
          have HS' : Hid (∀ t (ht : t < k + 1) (h : t < ls.length), ¬ (ls[t].1 = r.1 ∧ ls[t].2.1 = r.2.1)) := HS.out (fun h => by have := HCC.out.1; rw [h.1] at this; simp at this)
          clear HS
          go_wp2
          refine region_over (by kernel_rfl) (by kernel_rfl) ?_
          repeat (go_big_quiet_step (fail))
          refine wpQuiet_nil ?_
          rintro _ ⟨W, rfl⟩
          go_wp2
          go_roundw
          case rel => exact ⟨k + 1, by omega, by go_num, HS'.out, belowCall hbk.out W.ok hbk.out.size⟩
          case measure => simp [intOf]; omega
        | true =>
          cases c1 with
          | false =>
            have HS' : Hid (∀ t (ht : t < k + 1) (h : t < ls.length), ¬ (ls[t].1 = r.1 ∧ ls[t].2.1 = r.2.1)) := HS.out (fun h => by have := HCC.out.2; rw [h.2] at this; simp at this)
            clear HS
            go_wp2
            refine region_over (by kernel_rfl) (by kernel_rfl) ?_
            repeat (go_big_quiet_step (fail))
            refine wpQuiet_nil ?_
            rintro _ ⟨W, rfl⟩
            go_wp2
            go_roundw
            case rel => exact ⟨k + 1, by omega, by go_num, HS'.out, belowCall hbk.out W.ok hbk.out.size⟩
            case measure => simp [intOf]; omega
          | true =>
            have HNN : Hid (¬ TfOk ls) := fun hok => by
              have h5 := hok.lt_ne k j hkj hlt
              rw [HR.out, HQq.out] at h5
              have h6 := HCC.out
              exact h5 ⟨by simpa using h6.1, by simpa using h6.2⟩
            clear HS
            go_wp2
            refine region_over (by kernel_rfl) (by kernel_rfl) ?_
            repeat (go_big_quiet_step (fail))
            refine wpQuiet_nil ?_
            rintro _ ⟨W, rfl⟩
            go_wp2
            go_ret
            exact BoR.no HNN.out (belowCall HB3.out W.ok HB3.out.size)
      · obtain rfl : k = j := by omega
        have HN : Hid (TfU ls (k + 1)) := by
          refine hA.out.succ hlt HTT.out ?_
          cases hq : tkn (ls.take k) ls[k].1 ls[k].2.1 with
          | false => rfl
          | true =>
            obtain ⟨t, ht, he⟩ := (tkn_iff _ _ _).1 hq
            have ht' : t < k := by simp at ht; omega
            have h7 := hK.out t ht' (by omega)
            simp only [List.getElem_take, HR.out] at he
            exact absurd he h7
        have HB4 : Hid (Below w.heap.size w wr) := HB2.out.trans (hbk.out.mono HB2.out.size)
        go_wp2
        go_roundw
        case rel => exact ⟨k + 1, by omega, by go_num, HN.out, HB4.out⟩
        case measure => simp [intOf]; omega
end Go.Proofs.Ytdnophdldpophaa

/- Digits13 of the program; the two tables are as they were laid. -/
import Derived.Test.YtgdejlofkjdkoaaDoorDsn
import Derived.Test.YtgdejlofkjdkoaaDoorDgd
import Derived.Test.YtgdejlofkjdkoaaDoorApp
namespace Go.Proofs.YtgdejlofkjdkoaaDoor
open Go.RowKit Go.ChangeShapes Go.WideShapes Go.ChangeAt
set_option linter.unusedVariables false
set_option linter.unusedSimpArgs false
set_option maxRecDepth 8000

theorem toRInfo : (Tryd.prog.info? 21).map (fun i => (i.zero, i.size, i.bytes)) = some (some (.int .i32 0), 1, 4) := by kernel_rfl
theorem convR {W : World} {v : Value} {l : List Int} (h : Rd .i32 W v l) : (convert 44 9 v).run Tryd.prog W = .ok (.string (runesBytes l)) W := by
  obtain ⟨a, cap, rfl, h1, h2, h3⟩ := h
  cases a with
  | none =>
    rcases h3 with rfl | ⟨b, off, e, -⟩
    · exact run_convert_runes_nil W 44 9 21 _ _ Tryd.underlying44 Tryd.underlying21 Tryd.underlying9
    · cases e
  | some ad =>
    have := run_convert_runes (P := Tryd.prog) W 44 9 21 ad l.length cap l (Nat.le_refl _) Tryd.underlying44 Tryd.underlying21 Tryd.underlying9 (fun j hj => by
      rcases h3 with rfl | ⟨b, off, e, h4⟩
      · simp at hj
      · cases e
        have hadd : (⟨b, off, none⟩ : Addr).add j = ⟨b, off + j, none⟩ := by unfold Addr.add; split <;> simp_all
        rw [hadd]
        exact h4 j hj)
    rw [List.take_length] at this
    exact this
set_option maxHeartbeats 6400000 in
theorem digitsI_c (v : Value) (zs : List Int) (w : World) (h : Rd .i64 w v zs) (hG : RcG w) : Calls Tryd.prog 11 #[v] w fun e w' => e = .returned (.tuple #[.string (dsR zs), .bool (dsB zs)]) ∧ Below w.heap.size w w' := by
  have HR : Hid (Rd .i64 w v zs) := h
  have HG : Hid (RcG w) := hG
  have HB0 : Hid (Below w.heap.size w w) := Below.refl _ _
  clear hG
  obtain ⟨a, cap, rfl, h1, h2, h3⟩ := h
  have HM : Hid (cap ≤ maxLen) := h2
  unfold maxLen at h2
  have HB : Hid (dsB zs = (decide (zs.length ≤ 1024) && lvB zs)) := rfl
  have HD : Hid (dsR zs = if dsB zs = true then runesBytes (tdL zs (zs.length / 128)) else ByteArray.empty) := rfl
  by_cases hl : zs.length ≤ 1024
  case neg =>
    have hld : decide ((1024 : Int) < (zs.length : Int)) = true := by simp; omega
    have HX : Hid (dsB zs = false) := by show _ = _; rw [HB.out]; simp [hl]
    have HF : Hid (dsR zs = ByteArray.empty) := by show _ = _; rw [HD.out, HX.out]; simp
    clear hl h3
    go_enter Tryd.func11, Tryd.ntmps11
    go_wp2
    go_ret2
    exact ⟨by rw [HF.out, HX.out]; rfl, HB0.out⟩
  have hld : decide ((1024 : Int) < (zs.length : Int)) = false := by simp; omega
  go_enter Tryd.func11, Tryd.ntmps11
  go_wp2_with (fail)
  refine (levels_c _ zs _ HR.out).mono ?_
  rintro e w1 ⟨rfl, b1⟩
  have HB1 : Hid (Below w.heap.size w w1) := b1
  have hdx : dsB zs = lvB zs := by rw [HB.out]; simp [hl]
  rw [← hdx]
  obtain ⟨x, hx⟩ : ∃ x, dsB zs = x := ⟨_, rfl⟩
  rw [hx]
  have HX : Hid (dsB zs = x) := hx
  clear b1 hx hdx
  cases x with
  | false =>
    have HF : Hid (dsR zs = ByteArray.empty) := by show _ = _; rw [HD.out, HX.out]; simp
    clear h3
    go_wp2
    go_ret2
    exact ⟨by rw [HF.out, HX.out]; rfl, HB1.out⟩
  | true =>
  have HRS : Hid (dsR zs = runesBytes (tdL zs (zs.length / 128))) := by show _ = _; rw [HD.out, HX.out]; simp
  clear HB HD HB0
  obtain ⟨m, hm⟩ : ∃ m, zs.length / 128 = m := ⟨_, rfl⟩
  have hmI : ((zs.length : Int)) / 128 = (m : Int) := by omega
  have hml : 128 * m ≤ zs.length := by omega
  rw [hm] at HRS
  clear hm
  have HO0 : Hid (Ow .i32 21 w1.heap.size w1 (.slice none 0 0) []) := Ow.nil _ _ _ _
  go_wp2
  go_loopw [4, 5, 6, 20] (fun u1 u2 u3 i wr => ∃ (j : Nat) (vv : Value), j ≤ m ∧ i = .int .i64 j ∧ vv = u1 ∧ u2 = .int .i64 (bfF zs j) ∧ u3 = .int .i64 (lsF zs j) ∧ Hid (Ow .i32 21 w1.heap.size wr vv (tdL zs j) ∧ Below w1.heap.size w1 wr)) (fun _ _ _ i _ => m - (intOf i).toNat)
  case atStart => exact ⟨0, _, Nat.zero_le _, rfl, rfl, rfl, rfl, HO0.out, Below.refl _ _⟩
  case round =>
    obtain ⟨j, vv, hj, rfl, rfl, rfl, rfl, hOB⟩ := hrel
    clear HO0
    have hbr : Hid (Below w.heap.size w wr) := belowCall HB1.out hOB.out.2 HB1.out.size
    by_cases hlt : j < m
    case neg =>
      obtain rfl : j = m := by omega
      have hcv := convR hOB.out.1.rd
      rw [← HRS.out] at hcv
      clear h3 hOB
      go_wp2
      go_ret2
      exact ⟨by rw [HX.out]; rfl, hbr.out⟩
    case pos =>
    rcases h3 with h3 | ⟨b, off, rfl, h4⟩
    · subst h3; simp at hml; omega
    have hlt' : 128 * j + 128 ≤ zs.length := by omega
    have HWN : Hid (Rd .i64 wr (.slice (some ⟨b, off + 128 * j, none⟩) 128 (cap - 128 * j)) (wd zs j)) := Rd.win (fun i hi => by
      have := h4 i hi
      rw [hbr.out.cell (block_lt_of_cell this)]; exact this) h1 HM.out j hlt'
    obtain ⟨k, hk⟩ : ∃ k, 128 * j = k := ⟨_, rfl⟩
    have hk1 : (j : Int) * 128 = (k : Int) := by omega
    have hk2 : ((j : Int) + 1) * 128 = (k : Int) + 128 := by omega
    rw [hk] at HWN
    have hcap : k + 128 ≤ cap := by omega
    have hcapI : (k : Int) + 128 ≤ (cap : Int) := by omega
    have hk0 : (0 : Int) ≤ (k : Int) := by omega
    clear h4 hk
    go_wp2_with (fail)
    refine (digitI_c _ (wd zs j) wr HWN.out (HG.out.below hbr.out)).mono ?_
    rintro e w5 ⟨rfl, b5⟩
    have HO5 : Hid (Ow .i32 21 w1.heap.size w5 vv (tdL zs j)) := hOB.out.1.below b5
    have HB5 : Hid (Below w1.heap.size w1 w5) := belowCall hOB.out.2 b5 hOB.out.2.size
    clear b5 hbr HWN hOB hk1 hk2
    have HL1 : Hid (lsF zs (j + 1) = dgF (wd zs j)) := rfl
    have HF1 : Hid (bfF zs (j + 1) = lsF zs j) := rfl
    have HT1 : Hid (tdL zs (j + 1) = if tdB zs j = true then tdL zs j ++ [nmI (dgF (wd zs j)).toNat] else tdL zs j) := rfl
    have HTB : Hid (tdB zs j = (decide (0 ≤ dgF (wd zs j)) && (dgF (wd zs j) == lsF zs j) && (dgF (wd zs j) != bfF zs j))) := rfl
    have hdb := dgF_bd (wd zs j)
    have HLL : Hid ((tdL zs j).length ≤ j) := tdL_len zs j
    obtain ⟨d, hd⟩ : ∃ d, dgF (wd zs j) = d := ⟨_, rfl⟩
    obtain ⟨ls, hls⟩ : ∃ t, lsF zs j = t := ⟨_, rfl⟩
    obtain ⟨bf, hbf⟩ : ∃ t, bfF zs j = t := ⟨_, rfl⟩
    rw [hd] at HL1 HT1 HTB hdb ⊢
    rw [hls] at HF1 HTB ⊢
    rw [hbf] at HTB ⊢
    clear hd hls hbf
    have HREL : Hid (∀ v' W', (Ow .i32 21 w1.heap.size W' v' (tdL zs (j + 1)) ∧ Below w1.heap.size w1 W') → ∃ (j' : Nat) (vv : Value), j' ≤ m ∧ Value.int .i64 ((j : Int) + 1) = .int .i64 j' ∧ vv = v' ∧ Value.int .i64 ls = .int .i64 (bfF zs j') ∧ Value.int .i64 d = .int .i64 (lsF zs j') ∧ Hid (Ow .i32 21 w1.heap.size W' vv (tdL zs j') ∧ Below w1.heap.size w1 W')) := fun v' W' h => ⟨j + 1, v', by omega, by simp, rfl, by rw [HF1.out], by rw [HL1.out], h⟩
    have HN1 : Hid (tdB zs j = false → (Ow .i32 21 w1.heap.size w5 vv (tdL zs (j + 1)) ∧ Below w1.heap.size w1 w5)) := fun h => by
      rw [HT1.out, h]
      exact ⟨by simpa using (show Ow .i32 21 w1.heap.size w5 vv (tdL zs j) from HO5.out), HB5.out⟩
    by_cases c1 : 0 ≤ d
    case neg =>
      have n1 : decide (0 ≤ d) = false := by simp; omega
      have HE : Hid (Ow .i32 21 w1.heap.size w5 vv (tdL zs (j + 1)) ∧ Below w1.heap.size w1 w5) := HN1.out (by rw [HTB.out, n1]; rfl)
      clear HTB HT1 HN1
      go_wp2
      go_roundw
      case rel => exact HREL.out _ _ HE.out
      case measure => simp [intOf]; omega
    have n1 : decide (0 ≤ d) = true := by simp; omega
    by_cases c2 : d = ls
    case neg =>
      have n2 : (d == ls) = false := by simp; omega
      have HE : Hid (Ow .i32 21 w1.heap.size w5 vv (tdL zs (j + 1)) ∧ Below w1.heap.size w1 w5) := HN1.out (by rw [HTB.out, n2]; simp)
      clear HTB HT1 HN1
      go_wp2
      go_roundw
      case rel => exact HREL.out _ _ HE.out
      case measure => simp [intOf]; omega
    have n2 : (d == ls) = true := by simp; omega
    clear c2
    by_cases c3 : d = bf
    · have n3 : (d != bf) = false := by simp; omega
      clear c3
      have HE : Hid (Ow .i32 21 w1.heap.size w5 vv (tdL zs (j + 1)) ∧ Below w1.heap.size w1 w5) := HN1.out (by rw [HTB.out, n3]; simp)
      clear HTB HT1 HN1
      go_wp2
      go_roundw
      case rel => exact HREL.out _ _ HE.out
      case measure => simp [intOf]; omega
    have n3 : (d != bf) = true := by simp; omega
    obtain ⟨n, rfl⟩ := Int.eq_ofNat_of_zero_le c1
    have hn16 : n < 16 := by omega
    have HT2 : Hid (tdL zs (j + 1) = tdL zs j ++ [nmI n]) := by
      show _ = _
      rw [HT1.out, HTB.out, n1, n2, n3]
      simp only [Bool.and_self, if_true]
      rw [Int.toNat_natCast]
    clear HTB HT1 HN1
    go_wp2_with (fail)
    refine (nameI_c n hn16 w5).mono ?_
    rintro e w6 ⟨rfl, b6⟩
    have HOA : Hid (Ow .i32 21 w1.heap.size (w6.alloc (Obj.cells #[.int .i32 (nmI n)] 21)) vv (tdL zs j)) := (HO5.out.below b6).alloc _
    have B6 : Below w1.heap.size w1 w6 := belowCall HB5.out b6 HB5.out.size
    have HBA : Hid (Below w1.heap.size w1 (w6.alloc (Obj.cells #[.int .i32 (nmI n)] 21))) := B6.alloc B6.size _
    clear b6 B6
    go_wp2_with (at_builtin; refine app1 Tryd.underlying44 toRInfo (by decide) rfl (.tmp 43) (.tmp 46) rfl w1.heap.size _ (tdL zs j) rfl HOA.out w6.heap.size (nmI n) rfl (by simp) (by have := HLL.out; omega) HBA.out.size ?_)
    intro v7 w7 ho hb
    have HE : Hid (Ow .i32 21 w1.heap.size w7 v7 (tdL zs (j + 1)) ∧ Below w1.heap.size w1 w7) := ⟨by rw [HT2.out]; exact (show Ow .i32 21 w1.heap.size w7 v7 _ from ho), HBA.out.trans hb⟩
    clear ho hb
    go_wp2
    go_roundw
    case rel => exact HREL.out _ _ HE.out
    case measure => simp [intOf]; omega

end Go.Proofs.YtgdejlofkjdkoaaDoor

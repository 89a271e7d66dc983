/- Digits13 of the model; no condition. -/
import Derived.Test.YtgdejlofkjdkoaaDoorDss
import Derived.Test.YtgdejlofkjdkoaaDoorDmd
namespace Go.Proofs.YtgdejlofkjdkoaaDoor
open Go.RowKit Go.ChangeShapes Go.WideShapes Go.ChangeAt
set_option linter.unusedVariables false
set_option linter.unusedSimpArgs false
set_option maxRecDepth 8000

set_option maxHeartbeats 6400000 in
theorem digitsM_c (v : Value) (zs : List Int) (w : World) (h : Rd .i64 w v zs) : Calls Tryd.prog 22 #[v] w fun e w' => e = .returned (.tuple #[.string (dsR zs), .bool (dsB zs)]) ∧ Below w.heap.size w w' := by
  have HR : Hid (Rd .i64 w v zs) := h
  obtain ⟨a, cap, rfl, h1, h2, h3⟩ := h
  have HM : Hid (cap ≤ maxLen) := h2
  unfold maxLen at h2
  have HB : Hid (dsB zs = (decide (zs.length ≤ 1024) && lvB zs)) := rfl
  have HD : Hid (dsR zs = if dsB zs = true then runesBytes (tdL zs (zs.length / 128)) else ByteArray.empty) := rfl
  go_enter Tryd.func22, Tryd.ntmps22
  go_wp2_with (fail)
  refine (levelsM_c _ zs 1024 (by omega) _ HR.out).mono ?_
  rintro e w1 ⟨rfl, b1⟩
  have HB1 : Hid (Below w.heap.size w w1) := b1
  rw [← HB.out]
  obtain ⟨x, hx⟩ : ∃ x, dsB zs = x := ⟨_, rfl⟩
  rw [hx]
  have HX : Hid (dsB zs = x) := hx
  clear b1 hx
  cases x with
  | false =>
    have HF : Hid (dsR zs = ByteArray.empty) := by show _ = _; rw [HD.out, HX.out]; simp
    clear h3
    go_wp2
    go_ret2
    exact ⟨by rw [HF.out, HX.out]; rfl, HB1.out⟩
  | true =>
  have HRS : Hid (dsR zs = runesBytes (tdL zs (zs.length / 128))) := by show _ = _; rw [HD.out, HX.out]; simp
  have hl : zs.length ≤ 1024 := by
    have := HX.out
    rw [HB.out, Bool.and_eq_true, decide_eq_true_eq] at this
    exact this.1
  clear HB HD
  go_wp2
  go_loopw [4, 5, 6, 7] (fun u1 u2 u3 i wr => ∃ j : Nat, 128 * j ≤ zs.length ∧ i = .int .i64 (128 * j : Nat) ∧ u1 = .string (runesBytes (tdL zs j)) ∧ u2 = .int .i64 (bfF zs j) ∧ u3 = .int .i64 (lsF zs j) ∧ Hid (Below w.heap.size w wr)) (fun _ _ _ i _ => zs.length - (intOf i).toNat)
  case atStart => exact ⟨0, Nat.zero_le _, rfl, rfl, rfl, rfl, HB1.out⟩
  case round =>
    obtain ⟨j, hj, rfl, rfl, rfl, rfl, hbr⟩ := hrel
    clear HB1
    by_cases hlt : 128 * j + 128 ≤ zs.length
    case neg =>
      have hjj : zs.length / 128 = j := by omega
      have HE : Hid (dsR zs = runesBytes (tdL zs j)) := by show _ = _; rw [HRS.out, hjj]
      have hn : decide (((128 * j : Nat) : Int) + 128 ≤ (zs.length : Int)) = false := by simp; omega
      clear h3 hjj
      obtain ⟨t, ht⟩ : ∃ t, runesBytes (tdL zs j) = t := ⟨_, rfl⟩
      rw [ht] at HE ⊢
      clear ht
      go_wp2
      go_ret2
      exact ⟨by rw [HE.out, HX.out]; rfl, hbr.out⟩
    case pos =>
    rcases h3 with h3 | ⟨b, off, rfl, h4⟩
    · subst h3; simp at hlt
    have HWN : Hid (Rd .i64 wr (.slice (some ⟨b, off + 128 * j, none⟩) 128 (cap - 128 * j)) (wd zs j)) := Rd.win (fun i hi => by
      have := h4 i hi
      rw [hbr.out.cell (block_lt_of_cell this)]; exact this) h1 HM.out j hlt
    have hn : decide (((128 * j : Nat) : Int) + 128 ≤ (zs.length : Int)) = true := by simp; omega
    obtain ⟨k, hk⟩ : ∃ k, 128 * j = k := ⟨_, rfl⟩
    rw [hk] at hlt HWN hn ⊢
    have hcap : k + 128 ≤ cap := by omega
    have hcapI : (k : Int) + 128 ≤ (cap : Int) := by omega
    have hk0 : (0 : Int) ≤ (k : Int) := by omega
    clear h4
    go_wp2_with (fail)
    refine (digitM_c _ (wd zs j) wr HWN.out).mono ?_
    rintro e w5 ⟨rfl, b5⟩
    have HB5 : Hid (Below w.heap.size w w5) := belowCall hbr.out b5 hbr.out.size
    clear b5 hbr HWN
    have HL1 : Hid (lsF zs (j + 1) = dgF (wd zs j)) := rfl
    have HF1 : Hid (bfF zs (j + 1) = lsF zs j) := rfl
    have HT1 : Hid (tdL zs (j + 1) = if tdB zs j = true then tdL zs j ++ [nmI (dgF (wd zs j)).toNat] else tdL zs j) := rfl
    have HTB : Hid (tdB zs j = (decide (0 ≤ dgF (wd zs j)) && (dgF (wd zs j) == lsF zs j) && (dgF (wd zs j) != bfF zs j))) := rfl
    have hdb := dgF_bd (wd zs j)
    have hsz : (runesBytes (tdL zs j)).size ≤ 4 * 8 := by
      have h5 := runesBytes_size_le (tdL zs j)
      have h6 := tdL_len zs j
      omega
    obtain ⟨d, hd⟩ : ∃ d, dgF (wd zs j) = d := ⟨_, rfl⟩
    obtain ⟨t, ht⟩ : ∃ t, runesBytes (tdL zs j) = t := ⟨_, rfl⟩
    obtain ⟨ls, hls⟩ : ∃ t, lsF zs j = t := ⟨_, rfl⟩
    obtain ⟨bf, hbf⟩ : ∃ t, bfF zs j = t := ⟨_, rfl⟩
    have HTT : Hid (runesBytes (tdL zs j) = t) := ht
    rw [hd] at HL1 HT1 HTB hdb ⊢
    rw [ht] at hsz ⊢
    rw [hls] at HF1 HTB ⊢
    rw [hbf] at HTB ⊢
    clear hd ht hls hbf
    have HKK : Hid (128 * (j + 1) = k + 128) := by show _ = _; omega
    have HREL : Hid (∀ t', runesBytes (tdL zs (j + 1)) = t' → ∃ j' : Nat, 128 * j' ≤ zs.length ∧ Value.int .i64 ((k : Int) + 128) = .int .i64 (128 * j' : Nat) ∧ Value.string t' = .string (runesBytes (tdL zs j')) ∧ Value.int .i64 ls = .int .i64 (bfF zs j') ∧ Value.int .i64 d = .int .i64 (lsF zs j') ∧ Hid (Below w.heap.size w w5)) := fun t' ht => ⟨j + 1, by rw [HKK.out]; exact hlt, by rw [HKK.out]; simp, by rw [ht], by rw [HF1.out], by rw [HL1.out], HB5.out⟩
    have HN1 : Hid (tdB zs j = false → runesBytes (tdL zs (j + 1)) = t) := fun h => by rw [HT1.out, h]; simpa using HTT.out
    by_cases c1 : 0 ≤ d
    case neg =>
      have n1 : decide (0 ≤ d) = false := by simp; omega
      have HE : Hid (runesBytes (tdL zs (j + 1)) = t) := HN1.out (by rw [HTB.out, n1]; rfl)
      clear HTB HT1 HN1 HTT
      go_wp2
      go_roundw
      case rel => exact HREL.out _ HE.out
      case measure => simp [intOf]; omega
    have n1 : decide (0 ≤ d) = true := by simp; omega
    by_cases c2 : d = ls
    case neg =>
      have n2 : (d == ls) = false := by simp; omega
      have HE : Hid (runesBytes (tdL zs (j + 1)) = t) := HN1.out (by rw [HTB.out, n2]; simp)
      clear HTB HT1 HN1 HTT
      go_wp2
      go_roundw
      case rel => exact HREL.out _ HE.out
      case measure => simp [intOf]; omega
    have n2 : (d == ls) = true := by simp; omega
    clear c2
    by_cases c3 : d = bf
    · have n3 : (d != bf) = false := by simp; omega
      clear c3
      have HE : Hid (runesBytes (tdL zs (j + 1)) = t) := HN1.out (by rw [HTB.out, n3]; simp)
      clear HTB HT1 HN1 HTT
      go_wp2
      go_roundw
      case rel => exact HREL.out _ HE.out
      case measure => simp [intOf]; omega
    have n3 : (d != bf) = true := by simp; omega
    obtain ⟨n, rfl⟩ := Int.eq_ofNat_of_zero_le c1
    have hn16 : n < 16 := by omega
    have HE : Hid (runesBytes (tdL zs (j + 1)) = t ++ nms.extract n (n + 1)) := by
      show _ = _
      rw [HT1.out, HTB.out, n1, n2, n3]
      simp only [Bool.and_self, if_true]
      rw [Int.toNat_natCast, rb_app _ _ hn16, HTT.out]
    clear HTB HT1 HN1 HTT
    have hsl := fun W => nms_slice n hn16 W
    have hx1 : (nms.extract n (n + 1)).size ≤ 1 := by rw [ByteArray.size_extract]; omega
    obtain ⟨xx, hxx⟩ : ∃ x, nms.extract n (n + 1) = x := ⟨_, rfl⟩
    rw [hxx] at HE hx1
    simp only [hxx] at hsl
    clear hxx
    go_wp2
    go_roundw
    case rel => exact HREL.out _ HE.out
    case measure => simp [intOf]; omega

end Go.Proofs.YtgdejlofkjdkoaaDoor

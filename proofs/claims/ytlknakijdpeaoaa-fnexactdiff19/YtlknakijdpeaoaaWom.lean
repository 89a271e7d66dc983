/- The model's WordOk; no condition. -/
import Derived.Test.YtlknakijdpeaoaaRun
namespace Go.Proofs.Ytlknakijdpeaoaa
open Go.RowKit Go.ChangeShapes Go.WideShapes Go.ChangeAt
set_option linter.unusedVariables false
set_option linter.unusedSimpArgs false
set_option maxRecDepth 8000

/-- the first many runes of a text lie ahead of a place, and are those of a word so far -/
def WdT (s : ByteArray) (j k : Nat) : Prop := j ≤ s.size ∧ k ≤ j ∧ ∃ ps, rn s 0 = ps ++ rn s j ∧ ps.length = k ∧ ps.all (fun r => isL r || isM r) = true ∧ (k ≠ 0 → headL ps = true)
theorem WdT.zero (s : ByteArray) : WdT s 0 0 := ⟨Nat.zero_le _, Nat.le_refl _, [], rfl, rfl, rfl, fun h => absurd rfl h⟩
theorem WdT.bad {s : ByteArray} {j k : Nat} (h : WdT s j k) (hj : j < s.size) (hL : isL (Utf8.decode s j).1 = false) (hM : k = 0 ∨ isM (Utf8.decode s j).1 = false) : wB s = false := by
  obtain ⟨-, -, ps, h1, h2, h3, h4⟩ := h
  rw [rn_step hj] at h1
  unfold wB wdB
  rw [h1]
  rcases hM with hM | hM
  · subst hM
    have := List.eq_nil_of_length_eq_zero h2
    subst this
    simp [headL, hL]
  · rw [List.all_append, List.all_cons, hL, hM]
    simp
theorem WdT.far {s : ByteArray} {j k : Nat} (h : WdT s j k) (hj : j < s.size) (hf : 2048 ≤ (Utf8.decode s j).1) : wB s = false := by
  refine h.bad hj ?_ (.inr ?_)
  · cases e : isL (Utf8.decode s j).1 with
    | false => rfl
    | true => have := isL_lt e; omega
  · cases e : isM (Utf8.decode s j).1 with
    | false => rfl
    | true => have := isM_lt e; omega
theorem WdT.next {s : ByteArray} {j k r n : Nat} (h : WdT s j k) (hj : j < s.size) (he : Utf8.decode s j = (r, n)) (hn : 1 ≤ n) (hb : j + n ≤ s.size) (hr : isL r = true ∨ (k ≠ 0 ∧ isM r = true)) : WdT s (j + n) (k + 1) := by
  obtain ⟨h0, h00, ps, h1, h2, h3, h4⟩ := h
  rw [rn_step hj, he] at h1
  refine ⟨hb, by omega, ps ++ [r], ?_, by simp [h2], ?_, fun _ => ?_⟩
  · rw [h1, List.append_assoc]; rfl
  · rw [List.all_append, h3]
    rcases hr with hr | hr
    · simp [hr]
    · simp [hr.2]
  · by_cases hk : k = 0
    · subst hk
      have := List.eq_nil_of_length_eq_zero h2
      subst this
      rcases hr with hr | hr
      · exact hr
      · exact absurd rfl hr.1
    · have := h4 hk
      cases ps with
      | nil => simp [headL] at this
      | cons p ps => exact this
theorem WdT.fin {s : ByteArray} {k : Nat} (h : WdT s s.size k) : wB s = decide (1 ≤ k ∧ k ≤ 16) := by
  obtain ⟨-, -, ps, h1, h2, h3, h4⟩ := h
  rw [rn_end (Nat.le_refl _), List.append_nil] at h1
  unfold wB wdB
  rw [h1, h2, h3]
  by_cases hk : k = 0
  · subst hk
    have := List.eq_nil_of_length_eq_zero h2
    subst this
    simp [headL]
  · rw [h4 hk]
    by_cases h16 : k ≤ 16
    · rw [decide_eq_true h16, decide_eq_true (⟨by omega, h16⟩ : 1 ≤ k ∧ k ≤ 16)]; rfl
    · rw [decide_eq_false h16, decide_eq_false (fun h : 1 ≤ k ∧ k ≤ 16 => h16 h.2)]; rfl
set_option maxHeartbeats 6400000 in
theorem wordM_c (s : ByteArray) (w : World) (hs : s.size ≤ 4611686018427387904) : Calls Try.prog 14 #[.string s] w fun e w' => e = .returned (.bool (wB s)) ∧ w' = w := by
  go_enter Try.func14, Try.ntmps14
  go_wp2
  go_loopw [3, 4] (fun m i wr => ∃ j k : Nat, j ≤ s.size ∧ k ≤ j ∧ m = .int .i64 k ∧ i = .int .i64 j ∧ wr = w ∧ Hid (WdT s j k)) (fun _ i _ => s.size - (intOf i).toNat)
  case atStart => exact ⟨0, 0, Nat.zero_le _, Nat.le_refl _, rfl, rfl, rfl, WdT.zero s⟩
  case round =>
    obtain ⟨j, k, hj, hkj, rfl, rfl, rfl, hA⟩ := hrel
    by_cases hlt : j < s.size
    case neg =>
      obtain rfl : s.size = j := by omega
      have hF := hA.out.fin
      by_cases hk : 1 ≤ k ∧ k ≤ 16
      · rw [decide_eq_true hk] at hF
        have HF : Hid (wB s = true) := hF
        clear hF
        go_wp2_with (fail)
        refine (in_t (by omega) wr).mono ?_
        rintro e w2 ⟨rfl, hw2⟩
        obtain rfl : wr = w2 := hw2.symm
        go_wp2
        go_ret
        exact ⟨by rw [HF.out]; rfl, rfl⟩
      · rw [decide_eq_false hk] at hF
        have HF : Hid (wB s = false) := hF
        clear hF
        go_wp2_with (fail)
        refine (in_f (by omega) wr).mono ?_
        rintro e w2 ⟨rfl, hw2⟩
        obtain rfl : wr = w2 := hw2.symm
        go_wp2
        go_ret
        exact ⟨by rw [HF.out]; rfl, rfl⟩
    case pos =>
    have hI : (j : Int) < (s.size : Int) := by omega
    go_wp2_with (fail)
    refine (rune_c s j wr hlt hs).mono ?_
    rintro e w2 ⟨r, n, rfl, hw2, hd⟩
    obtain rfl : wr = w2 := hw2.symm
    rcases hd with ⟨rfl, hd⟩ | ⟨n1, n2, hd, hn⟩
    · have HF : Hid (wB s = false) := hA.out.far hlt hd
      clear hd
      go_wp2
      go_ret
      exact ⟨by rw [HF.out]; rfl, rfl⟩
    have hn0 : ((n : Int) == 0) = false := by simp; omega
    have HD : Hid (Utf8.decode s j = (r, n)) := hd
    clear hd
    cases hL : isL r with
    | true =>
      have HN : Hid (WdT s (j + n) (k + 1)) := hA.out.next hlt HD.out n1 hn (.inl hL)
      go_wp2_with (fail)
      refine (letM_c r wr).mono ?_
      rintro e w2 ⟨rfl, hw2⟩
      obtain rfl : wr = w2 := hw2.symm
      rw [hL]
      clear hL
      go_wp2
      go_roundw
      case rel => exact ⟨j + n, k + 1, hn, by omega, by go_num, by go_num, by first | rfl | trivial, HN.out⟩
      case measure => simp [intOf]; omega
    | false =>
      by_cases hk : k = 0
      · have HF : Hid (wB s = false) := hA.out.bad hlt (by rw [HD.out]; exact hL) (.inl hk)
        subst hk
        go_wp2_with (fail)
        refine (letM_c r wr).mono ?_
        rintro e w2 ⟨rfl, hw2⟩
        obtain rfl : wr = w2 := hw2.symm
        rw [hL]
        clear hL
        go_wp2
        go_ret
        exact ⟨by rw [HF.out]; rfl, rfl⟩
      have hk0 : ((k : Int) == 0) = false := by simp; omega
      cases hM : isM r with
      | false =>
        have HF : Hid (wB s = false) := hA.out.bad hlt (by rw [HD.out]; exact hL) (.inr (by rw [HD.out]; exact hM))
        have hM' : ¬ ((48 ≤ r ∧ r ≤ 57) ∨ r = 45 ∨ r = 95 ∨ r = 46) := of_decide_eq_false hM
        have g1 : ((r : Int) != 45) = true := by simp; omega
        have g2 : ((r : Int) != 95) = true := by simp; omega
        have g3 : ((r : Int) != 46) = true := by simp; omega
        go_wp2_with (fail)
        refine (letM_c r wr).mono ?_
        rintro e w2 ⟨rfl, hw2⟩
        obtain rfl : wr = w2 := hw2.symm
        rw [hL]
        clear hL hM
        go_wp2_with (fail)
        refine (in_f (by omega) wr).mono ?_
        rintro e w2 ⟨rfl, hw2⟩
        obtain rfl : wr = w2 := hw2.symm
        go_wp2
        go_ret
        exact ⟨by rw [HF.out]; rfl, rfl⟩
      | true =>
        have HN : Hid (WdT s (j + n) (k + 1)) := hA.out.next hlt HD.out n1 hn (.inr ⟨hk, hM⟩)
        have hM' : (48 ≤ r ∧ r ≤ 57) ∨ r = 45 ∨ r = 95 ∨ r = 46 := of_decide_eq_true hM
        go_wp2_with (fail)
        refine (letM_c r wr).mono ?_
        rintro e w2 ⟨rfl, hw2⟩
        obtain rfl : wr = w2 := hw2.symm
        rw [hL]
        clear hL hM
        rcases hM' with hM' | hM' | hM' | hM'
        · have g1 : ((r : Int) != 45) = true := by simp; omega
          have g2 : ((r : Int) != 95) = true := by simp; omega
          have g3 : ((r : Int) != 46) = true := by simp; omega
          go_wp2_with (fail)
          refine (in_t (by omega) wr).mono ?_
          rintro e w2 ⟨rfl, hw2⟩
          obtain rfl : wr = w2 := hw2.symm
          go_wp2
          go_roundw
          case rel => exact ⟨j + n, k + 1, hn, by omega, by go_num, by go_num, by first | rfl | trivial, HN.out⟩
          case measure => simp [intOf]; omega
        all_goals
          subst hM'
          go_wp2
          go_roundw
          case rel => exact ⟨j + n, k + 1, hn, by omega, by go_num, by go_num, by first | rfl | trivial, HN.out⟩
          case measure => simp [intOf]; omega

end Go.Proofs.Ytlknakijdpeaoaa

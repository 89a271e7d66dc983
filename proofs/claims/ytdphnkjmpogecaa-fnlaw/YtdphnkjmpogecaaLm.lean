/- The model's ToLaw; FnExactToLaw; no condition. -/
import Derived.Test.YtdphnkjmpogecaaLt
namespace Go.Proofs.Ytdphnkjmpogecaa
open Go.RowKit Go.ChangeShapes Go.WideShapes Go.ChangeAt
set_option linter.unusedVariables false
set_option linter.unusedSimpArgs false
set_option maxRecDepth 8000

theorem fl_bd (b : Int) : -32256 ≤ fl b ∧ fl b ≤ 32256 := by
  by_cases h : 0 ≤ b ∧ b ≤ 255
  · obtain ⟨k, rfl⟩ := Int.eq_ofNat_of_zero_le h.1
    by_cases c : k < 128
    · rw [fl_lo k c]; have := lw_pos k c; omega
    · rw [fl_up k (by omega) (by omega)]; have := lw_pos (k - 128) (by omega); omega
  · rw [fl_out b h]; omega
set_option maxHeartbeats 3200000 in
theorem toLawM_c (x : Int) (w : World) : Calls Try.prog 13 #[.int .i64 x] w fun e w' => ∃ v : Int, e = .returned (.int .i64 v) ∧ Tl x v ∧ Below w.heap.size w w' := by
  have HB : Hid (Below w.heap.size w w) := Below.refl _ _
  by_cases h : -32767 ≤ x ∧ x ≤ 32767
  case neg =>
    have hd : decide (-32767 ≤ x ∧ x ≤ 32767) = false := by simp; omega
    have HT : Hid (Tl x 0) := ⟨fun _ => rfl, fun h' => absurd ⟨by omega, h'.2⟩ h, fun h' => absurd ⟨h'.1, by omega⟩ h⟩
    clear h
    go_enter Try.func13, Try.ntmps13
    go_wp2_with (fail)
    refine (level_c _ _).mono ?_
    rintro e w1 ⟨rfl, hw1⟩
    rw [hd, hw1]
    clear hw1
    go_wp2
    go_ret
    exact ⟨0, rfl, HT.out, HB.out⟩
  case pos =>
  have hd : decide (-32767 ≤ x ∧ x ≤ 32767) = true := by simp; omega
  obtain ⟨n, hnp, hnm⟩ : ∃ n, (0 ≤ x → Nl x n) ∧ (x < 0 → Nl (-x) n) := by
    by_cases c : 0 ≤ x
    · obtain ⟨n, hn⟩ := nl_ex x; exact ⟨n, fun _ => hn, fun h => by omega⟩
    · obtain ⟨n, hn⟩ := nl_ex (-x); exact ⟨n, fun h => by omega, fun _ => hn⟩
  have HST : Hid (∀ j, 1 ≤ j → j < 256 → (tst x j (bst x n j) → bst x n (j + 1) = j) ∧ (¬ tst x j (bst x n j) → bst x n (j + 1) = bst x n j)) := fun j a b => bst_step x n j h hnp hnm a b
  have HFI : Hid (Tl x (bst x n 256)) := by
    refine ⟨fun h' => absurd h h', fun h' => ⟨n, ?_, hnp h'.1⟩, fun h' => ⟨n, ?_, hnm h'.2⟩⟩
    · have := (hnp h'.1).le; unfold bst; rw [if_pos h'.1]; omega
    · have := (hnm h'.2).le; unfold bst; rw [if_neg (by omega), if_neg (by omega)]; omega
  have HB1 : Hid (bst x n 1 = 0) := by show _ = _; unfold bst; split <;> simp
  obtain ⟨h0, h1⟩ := h
  clear hnp hnm
  go_enter Try.func13, Try.ntmps13
  go_wp2_with (fail)
  refine (level_c _ _).mono ?_
  rintro e w1 ⟨rfl, hw1⟩
  rw [hd, hw1]
  clear hw1 hd
  go_wp2
  go_loopw [3, 4] (fun bv i wr => ∃ j : Nat, i = .int .i64 j ∧ bv = .int .i64 (bst x n j) ∧ Hid (1 ≤ j ∧ j ≤ 256) ∧ Hid (Below w.heap.size w wr)) (fun _ i _ => 256 - (intOf i).toNat)
  case atStart => exact ⟨1, rfl, by rw [HB1.out]; rfl, ⟨by omega, by omega⟩, HB.out⟩
  case round =>
    obtain ⟨j, rfl, rfl, hA, hbr⟩ := hrel
    by_cases hlt : j < 256
    case neg =>
      obtain rfl : j = 256 := by have := hA.out; omega
      go_wp2
      go_ret
      exact ⟨_, rfl, HFI.out, hbr.out⟩
    case pos =>
    have HS := HST.out j hA.out.1 hlt
    obtain ⟨bb, hbb⟩ : ∃ b, bst x n j = b := ⟨_, rfl⟩
    obtain ⟨fx, hfx⟩ : ∃ f, fl j = f := ⟨_, rfl⟩
    obtain ⟨fy, hfy⟩ : ∃ f, fl bb = f := ⟨_, rfl⟩
    have q1 := fl_bd j
    have q2 := fl_bd bb
    rw [hfx] at q1
    rw [hfy] at q2
    rw [hbb] at HS ⊢
    have HS' : Hid (((szf (fx - x) < szf (fy - x) ∨ (szf (fx - x) = szf (fy - x) ∧ szf fx < szf fy)) → bst x n (j + 1) = j) ∧ (¬ (szf (fx - x) < szf (fy - x) ∨ (szf (fx - x) = szf (fy - x) ∧ szf fx < szf fy)) → bst x n (j + 1) = bb)) := by
      unfold tst at HS; rw [hfx, hfy] at HS; exact HS
    have FX : Hid (fl j = fx) := hfx
    have FY : Hid (fl bb = fy) := hfy
    clear HS hbb hfx hfy
    obtain ⟨p, hp⟩ : ∃ p, szf (fx - x) = p := ⟨_, rfl⟩
    obtain ⟨q, hq⟩ : ∃ q, szf (fy - x) = q := ⟨_, rfl⟩
    obtain ⟨r, hr⟩ : ∃ r, szf fx = r := ⟨_, rfl⟩
    obtain ⟨s, hs⟩ : ∃ s, szf fy = s := ⟨_, rfl⟩
    rw [hp, hq, hr, hs] at HS'
    have HP : Hid (szf (fx - x) = p ∧ szf (fy - x) = q ∧ szf fx = r ∧ szf fy = s) := ⟨hp, hq, hr, hs⟩
    clear hp hq hr hs
    go_wp2_with (fail)
    refine (fromLawM_c _ _).mono ?_
    rintro e w1 ⟨rfl, hw1⟩
    rw [FX.out, hw1]
    clear hw1
    go_wp2_with (fail)
    refine (fromLawM_c _ _).mono ?_
    rintro e w1 ⟨rfl, hw1⟩
    rw [FY.out, hw1]
    clear hw1
    go_wp2_with (fail)
    refine (size_c _ (by omega) _).mono ?_
    rintro e w1 ⟨rfl, hw1⟩
    rw [HP.out.1, hw1]
    clear hw1
    go_wp2_with (fail)
    refine (size_c _ (by omega) _).mono ?_
    rintro e w1 ⟨rfl, hw1⟩
    rw [HP.out.2.1, hw1]
    clear hw1
    by_cases c1 : p < q
    · have HN : Hid (bst x n (j + 1) = j) := HS'.out.1 (.inl c1)
      have c1d : decide (p < q) = true := by simp [c1]
      go_wp2
      go_roundw
      case rel => exact ⟨j + 1, by go_num, by rw [HN.out], ⟨by omega, by omega⟩, hbr.out⟩
      case measure => simp [intOf]; omega
    · have c1d : decide (p < q) = false := by simp; omega
      by_cases c2 : p = q
      · subst c2
        have c2d : (p == p) = true := by simp
        by_cases c3 : r < s
        · have HN : Hid (bst x n (j + 1) = j) := HS'.out.1 (.inr ⟨rfl, c3⟩)
          clear c1
          go_wp2_with (fail)
          refine (size_c _ (by omega) _).mono ?_
          rintro e w1 ⟨rfl, hw1⟩
          rw [HP.out.2.2.1, hw1]
          clear hw1
          go_wp2_with (fail)
          refine (size_c _ (by omega) _).mono ?_
          rintro e w1 ⟨rfl, hw1⟩
          rw [HP.out.2.2.2, hw1]
          clear hw1
          go_wp2
          go_roundw
          case rel => exact ⟨j + 1, by go_num, by rw [HN.out], ⟨by omega, by omega⟩, hbr.out⟩
          case measure => simp [intOf]; omega
        · have HN : Hid (bst x n (j + 1) = bb) := HS'.out.2 (fun h => by omega)
          have c3d : decide (r < s) = false := by simp; omega
          clear c1
          go_wp2_with (fail)
          refine (size_c _ (by omega) _).mono ?_
          rintro e w1 ⟨rfl, hw1⟩
          rw [HP.out.2.2.1, hw1]
          clear hw1
          go_wp2_with (fail)
          refine (size_c _ (by omega) _).mono ?_
          rintro e w1 ⟨rfl, hw1⟩
          rw [HP.out.2.2.2, hw1]
          clear hw1
          go_wp2
          go_roundw
          case rel => exact ⟨j + 1, by go_num, by rw [HN.out], ⟨by omega, by omega⟩, hbr.out⟩
          case measure => simp [intOf]; omega
      · have HN : Hid (bst x n (j + 1) = bb) := HS'.out.2 (fun h => by omega)
        have c2d : (p == q) = false := by simp [c2]
        clear c1
        go_wp2
        go_roundw
        case rel => exact ⟨j + 1, by go_num, by rw [HN.out], ⟨by omega, by omega⟩, hbr.out⟩
        case measure => simp [intOf]; omega
theorem toLaw (x : Int) (w : World) : Calls Try.prog 5 #[.int .i64 x] w fun e w' => e = .returned (.bool true) ∧ Below w.heap.size w w' := by
  have HB : Hid (Below w.heap.size w w) := Below.refl _ _
  go_enter Try.func5, Try.ntmps5
  go_wp2_with (fail)
  refine (toLawM_c _ _).mono ?_
  rintro e w1 ⟨v, rfl, hv, b1⟩
  have HV : Hid (Tl x v) := hv
  have HB1 : Hid (Below w.heap.size w w1) := b1
  clear hv b1
  go_wp2_with (fail)
  refine (toLawI_c _ _).mono ?_
  rintro e w2 ⟨u, rfl, hu, b2⟩
  obtain rfl : v = u := HV.out.uniq hu
  have HB2 : Hid (Below w.heap.size w w2) := belowCall HB1.out b2 HB1.out.size
  have e0 : (v != v) = false := by simp
  clear hu b2
  go_wp2
  go_ret
  exact ⟨rfl, HB2.out⟩
end Go.Proofs.Ytdphnkjmpogecaa

/- Which number of the law is nearest; no condition. -/
import Derived.Test.YtdphnkjmpogecaaLs
import Derived.Test.YtdphnkjmpogecaaOver
namespace Go.Proofs.Ytdphnkjmpogecaa
open Go.RowKit Go.ChangeShapes Go.WideShapes Go.ChangeAt
set_option linter.unusedVariables false
set_option linter.unusedSimpArgs false
set_option maxRecDepth 8000

/-- n is the number of the law whose size is nearest to L, the lesser one of two -/
structure Nl (L : Int) (n : Nat) : Prop where
  le : n ≤ 127
  lo : ∀ k, k < n → lw k + lw (k + 1) < 2 * L
  hi : n = 127 ∨ 2 * L ≤ lw n + lw (n + 1)
theorem Nl.uniq {L : Int} {a b : Nat} (h : Nl L a) (h' : Nl L b) : a = b := by
  rcases Nat.lt_trichotomy a b with e | e | e
  · have h1 := h'.lo a e
    have h2 := h'.le
    rcases h.hi with h3 | h3 <;> omega
  · exact e
  · have h1 := h.lo b e
    have h2 := h.le
    rcases h'.hi with h3 | h3 <;> omega
theorem nl_ex (L : Int) : ∃ n, Nl L n := by
  have key : ∀ m, m ≤ 127 → (∀ k, k < m → lw k + lw (k + 1) < 2 * L) ∨ ∃ n, Nl L n := by
    intro m
    induction m with
    | zero => exact fun _ => .inl (fun k hk => by omega)
    | succ m ih =>
      intro hm
      rcases ih (by omega) with h | h
      · by_cases h1 : lw m + lw (m + 1) < 2 * L
        · refine .inl fun k hk => ?_
          by_cases e : k = m
          · subst e; exact h1
          · exact h k (by omega)
        · exact .inr ⟨m, by omega, h, .inr (by omega)⟩
      · exact .inr h
  rcases key 127 (Nat.le_refl _) with h | h
  · exact ⟨127, Nat.le_refl _, h, .inl rfl⟩
  · exact h
/-- v is what ToLaw tells of a level -/
def Tl (x v : Int) : Prop := (¬ (-32767 ≤ x ∧ x ≤ 32767) → v = 0) ∧ ((0 ≤ x ∧ x ≤ 32767) → ∃ n : Nat, v = n ∧ Nl x n) ∧ ((-32767 ≤ x ∧ x < 0) → ∃ n : Nat, v = 128 + n ∧ Nl (-x) n)
theorem Tl.uniq {x a b : Int} (h : Tl x a) (h' : Tl x b) : a = b := by
  by_cases h1 : -32767 ≤ x ∧ x ≤ 32767
  · by_cases h2 : 0 ≤ x
    · obtain ⟨n, rfl, hn⟩ := h.2.1 ⟨h2, h1.2⟩
      obtain ⟨m, rfl, hm⟩ := h'.2.1 ⟨h2, h1.2⟩
      rw [hn.uniq hm]
    · obtain ⟨n, rfl, hn⟩ := h.2.2 ⟨h1.1, by omega⟩
      obtain ⟨m, rfl, hm⟩ := h'.2.2 ⟨h1.1, by omega⟩
      rw [hn.uniq hm]
  · rw [h.1 h1, h'.1 h1]
set_option maxHeartbeats 1600000 in
theorem nearest_c (L : Int) (hL : 0 ≤ L ∧ L ≤ 32767) (w : World) : Calls Try.prog 24 #[.int .i64 L] w fun e w' => ∃ n : Nat, e = .returned (.int .i64 n) ∧ Nl L n ∧ Below w.heap.size w w' := by
  obtain ⟨hL0, hL1⟩ := hL
  go_enter Try.func24, Try.ntmps24
  go_wp2
  go_loopw [3] (fun i wr => ∃ j : Nat, i = .int .i64 j ∧ Hid (j ≤ 127 ∧ ∀ k, k < j → lw k + lw (k + 1) < 2 * L) ∧ Hid (Below w.heap.size w wr)) (fun i _ => 127 - (intOf i).toNat)
  case atStart => exact ⟨0, rfl, ⟨by omega, fun k hk => by omega⟩, Below.refl _ _⟩
  case round =>
    obtain ⟨j, rfl, hA, hbr⟩ := hrel
    by_cases hlt : j < 127
    · have HP0 : Hid (8 ≤ lw j ∧ lw j ≤ 32256) := lw_pos j (by omega)
      have HP1 : Hid (8 ≤ lw (j + 1) ∧ lw (j + 1) ≤ 32256) := lw_pos (j + 1) (by omega)
      have hd : decide ((j : Int) < 127) = true := by simp; omega
      have HC1 : ∀ w : World, Calls Try.prog 25 #[.int .i64 ((j : Int) + 1)] w fun e w' => e = .returned (.int .i64 (lw (j + 1))) ∧ w' = w := fun w => lawSize_c (j + 1) (by omega) w
      obtain ⟨a, ha⟩ : ∃ a, lw j = a := ⟨_, rfl⟩
      obtain ⟨c, hc⟩ : ∃ c, lw (j + 1) = c := ⟨_, rfl⟩
      have HA : Hid (lw j = a) := ha
      have HCC : Hid (lw (j + 1) = c) := hc
      rw [hc] at HC1
      have hp0 := HP0.out
      have hp1 := HP1.out
      rw [ha] at hp0
      rw [hc] at hp1
      clear ha hc HP0 HP1
      go_wp2_with (fail)
      refine (lawSize_c j (by omega) _).mono ?_
      rintro e w1 ⟨rfl, hw1⟩
      rw [HA.out, hw1]
      go_wp2_with (fail)
      refine (HC1 _).mono ?_
      rintro e w2 ⟨rfl, hw2⟩
      rw [hw2]
      clear hw1 hw2
      by_cases hgt : a + c < 2 * L
      · have HN : Hid (∀ k, k < j + 1 → lw k + lw (k + 1) < 2 * L) := fun k hk => by
          by_cases e : k = j
          · subst e; rw [HA.out, HCC.out]; exact hgt
          · exact hA.out.2 k (by omega)
        go_wp2
        go_roundw
        case rel => exact ⟨j + 1, by go_num, ⟨by omega, HN.out⟩, hbr.out⟩
        case measure => simp [intOf]; omega
      · have hgt' : (a + c < 2 * L) = False := eq_false hgt
        have HN : Hid (Nl L j) := ⟨by omega, hA.out.2, .inr (by rw [HA.out, HCC.out]; omega)⟩
        go_wp2
        go_ret
        exact ⟨j, rfl, HN.out, hbr.out⟩
    · obtain rfl : j = 127 := by have := hA.out.1; omega
      have HN : Hid (Nl L 127) := ⟨by omega, hA.out.2, .inl rfl⟩
      go_wp2
      go_ret
      exact ⟨127, rfl, HN.out, hbr.out⟩
theorem toLawI_c (x : Int) (w : World) : Calls Try.prog 10 #[.int .i64 x] w fun e w' => ∃ v : Int, e = .returned (.int .i64 v) ∧ Tl x v ∧ Below w.heap.size w w' := by
  by_cases h : -32767 ≤ x ∧ x ≤ 32767
  · have hd : decide (-32767 ≤ x ∧ x ≤ 32767) = true := by simp; omega
    obtain ⟨h0, h1⟩ := h
    by_cases hn : x < 0
    · have HC := nearest_c (-x) (by omega) w
      go_enter Try.func10, Try.ntmps10
      go_wp2_with (fail)
      refine (within_c _ _ _ _).mono ?_
      rintro e w1 ⟨rfl, hw1⟩
      rw [hd, hw1]
      go_wp2_with (fail)
      refine HC.mono ?_
      rintro e w2 ⟨n, rfl, hN, hb⟩
      have HN : Hid (Nl (-x) n) := hN
      have hle := hN.le
      have HB : Hid (Below w.heap.size w w2) := hb
      clear hN hb HC hw1
      go_wp2
      go_ret
      exact ⟨128 + (n : Int), rfl, ⟨fun h => absurd ⟨h0, h1⟩ h, fun h => by omega, fun _ => ⟨n, rfl, HN.out⟩⟩, HB.out⟩
    · have HC := nearest_c x (by omega) w
      go_enter Try.func10, Try.ntmps10
      go_wp2_with (fail)
      refine (within_c _ _ _ _).mono ?_
      rintro e w1 ⟨rfl, hw1⟩
      rw [hd, hw1]
      go_wp2_with (fail)
      refine HC.mono ?_
      rintro e w2 ⟨n, rfl, hN, hb⟩
      have HN : Hid (Nl x n) := hN
      have HB : Hid (Below w.heap.size w w2) := hb
      clear hN hb HC hw1
      go_wp2
      go_ret
      exact ⟨(n : Int), rfl, ⟨fun h => absurd ⟨h0, h1⟩ h, fun h => ⟨n, rfl, HN.out⟩, fun h => by omega⟩, HB.out⟩
  · have hd : decide (-32767 ≤ x ∧ x ≤ 32767) = false := by simp; omega
    have HT : Hid (Tl x 0) := ⟨fun _ => rfl, fun h' => absurd ⟨by omega, h'.2⟩ h, fun h' => absurd ⟨h'.1, by omega⟩ h⟩
    have HB : Hid (Below w.heap.size w w) := Below.refl _ _
    clear h
    go_enter Try.func10, Try.ntmps10
    go_wp2_with (fail)
    refine (within_c _ _ _ _).mono ?_
    rintro e w1 ⟨rfl, hw1⟩
    rw [hd, hw1]
    clear hw1
    go_wp2
    go_ret
    exact ⟨0, rfl, HT.out, HB.out⟩
/-- the best of the numbers below j, for the number n that is nearest -/
def bst (x : Int) (n j : Nat) : Nat := if 0 ≤ x then min (j - 1) n else if j ≤ 128 then 0 else 128 + min (j - 129) n
/-- one number more is asked -/
def tst (x : Int) (j b : Nat) : Prop := szf (fl j - x) < szf (fl b - x) ∨ (szf (fl j - x) = szf (fl b - x) ∧ szf (fl j) < szf (fl b))
theorem szf_eq (x : Int) : (x < 0 → szf x = -x) ∧ (0 ≤ x → szf x = x) := ⟨fun h => by unfold szf; rw [if_pos h], fun h => by unfold szf; rw [if_neg (by omega)]⟩
theorem lw_le {a b : Nat} (h : a ≤ b) (hb : b ≤ 127) : lw a ≤ lw b := by
  by_cases e : a = b
  · subst e; exact Int.le_refl _
  · exact Int.le_of_lt (lw_lt (by omega) hb)
theorem lw0 : lw 0 = 8 := by decide
theorem fl_up (m : Nat) (h : 128 ≤ m) (h' : m < 256) : fl m = -lw (m - 128) := by
  have := fl_hi (m - 128) (by omega)
  rw [← this]; congr 1; omega
/-- the core: of S a < S b with both sizes positive which is nearer to L -/
theorem near_up {L : Int} {n j : Nat} (h : Nl L n) (hj : j ≤ 127) (hj1 : 1 ≤ j) (hn : j ≤ n) : szf (lw j - L) < szf (lw (j - 1) - L) := by
  have h1 := h.lo (j - 1) (by omega)
  have e : j - 1 + 1 = j := by omega
  rw [e] at h1
  have h2 := lw_lt (show j - 1 < j by omega) hj
  have a := szf_eq (lw j - L)
  have b := szf_eq (lw (j - 1) - L)
  by_cases c : lw j - L < 0
  · rw [a.1 c, b.1 (by omega)]; omega
  · rw [a.2 (by omega), b.1 (by omega)]; omega
theorem near_no {L : Int} {n j : Nat} (h : Nl L n) (hj : j ≤ 127) (hn : n < j) : ¬ (szf (lw j - L) < szf (lw n - L)) ∧ lw n < lw j := by
  have h1 : 2 * L ≤ lw n + lw (n + 1) := by rcases h.hi with e | e <;> omega
  have h2 := lw_le (show n + 1 ≤ j by omega) hj
  have h3 := lw_lt (show n < j by omega) hj
  refine ⟨?_, h3⟩
  have a := szf_eq (lw j - L)
  have b := szf_eq (lw n - L)
  by_cases c : lw n - L < 0
  · rw [b.1 c, a.2 (by omega)]; omega
  · rw [b.2 (by omega), a.2 (by omega)]; omega
theorem nl_near {L : Int} {n : Nat} (h : Nl L n) (j : Nat) (hj : j ≤ 127) : szf (lw n - L) ≤ szf (lw j - L) := by
  by_cases c : n < j
  · have := (near_no h hj c).1; omega
  · have key : ∀ d, d ≤ n → szf (lw n - L) ≤ szf (lw (n - d) - L) := by
      intro d
      induction d with
      | zero => intro _; exact Int.le_refl _
      | succ d ih =>
        intro hd
        have h1 := ih (by omega)
        have h2 := near_up h (j := n - d) (by have := h.le; omega) (by omega) (by omega)
        have e : n - d - 1 = n - (d + 1) := by omega
        rw [e] at h2; omega
    have := key (n - j) (by omega)
    have e : n - (n - j) = j := by omega
    rw [e] at this; exact this
theorem bst_step (x : Int) (n j : Nat) (hx : -32767 ≤ x ∧ x ≤ 32767) (hp : 0 ≤ x → Nl x n) (hm : x < 0 → Nl (-x) n) (h1 : 1 ≤ j) (h2 : j < 256) :
    (tst x j (bst x n j) → bst x n (j + 1) = j) ∧ (¬ tst x j (bst x n j) → bst x n (j + 1) = bst x n j) := by
  by_cases hs : 0 ≤ x
  · have N := hp hs
    have hle := N.le
    have e0 : bst x n j = min (j - 1) n := by unfold bst; rw [if_pos hs]
    have e1 : bst x n (j + 1) = min j n := by unfold bst; rw [if_pos hs]; rfl
    rw [e0, e1]
    by_cases hj : j < 128
    · by_cases hc : j ≤ n
      · have : tst x j (min (j - 1) n) := by
          left
          have e : min (j - 1) n = j - 1 := by omega
          rw [e, fl_lo j hj, fl_lo (j - 1) (by omega)]
          exact near_up N (by omega) h1 hc
        exact ⟨fun _ => by omega, fun h => absurd this h⟩
      · have e : min (j - 1) n = n := by omega
        have : ¬ tst x j (min (j - 1) n) := by
          rw [e]
          rintro (h | ⟨h, h'⟩)
          · rw [fl_lo j hj, fl_lo n (by omega)] at h
            exact (near_no N (by omega) (by omega)).1 h
          · rw [fl_lo j hj, fl_lo n (by omega)] at h'
            have a := lw_pos j hj
            have b := lw_pos n (by omega)
            rw [(szf_eq _).2 (by omega), (szf_eq _).2 (by omega)] at h'
            have := (near_no N (j := j) (by omega) (by omega)).2
            omega
        exact ⟨fun h => absurd h this, fun _ => by omega⟩
    · have e : min (j - 1) n = n := by omega
      have hnr := nl_near N 0 (by omega)
      have hj' := lw_pos (j - 128) (by omega)
      have hn' := lw_pos n (by omega)
      have : ¬ tst x j (min (j - 1) n) := by
        rw [e]
        unfold tst
        rw [fl_up j (by omega) h2, fl_lo n (by omega), (szf_eq (-lw (j - 128) - x)).1 (by omega), (szf_eq (-lw (j - 128))).1 (by omega), (szf_eq (lw n)).2 (by omega)]
        rw [lw0] at hnr
        have a := szf_eq (8 - x)
        by_cases c : 8 - x < 0
        · rw [a.1 c] at hnr
          omega
        · rw [a.2 (by omega)] at hnr
          rintro (h | ⟨h, h'⟩)
          · omega
          · have hx0 : x = 0 := by omega
            subst hx0
            have hn0 : n = 0 := by
              rcases Nat.eq_zero_or_pos n with e | e
              · exact e
              · have q : lw 0 + lw 1 < 2 * 0 := N.lo 0 e
                have := lw_pos 0 (by omega); have := lw_pos 1 (by omega); omega
            subst hn0
            rw [lw0] at h'; omega
      exact ⟨fun h => absurd h this, fun _ => by omega⟩
  · have N := hm (by omega)
    have hle := N.le
    by_cases hj : j < 128
    · have e0 : bst x n j = 0 := by unfold bst; rw [if_neg hs, if_pos (by omega)]
      have e1 : bst x n (j + 1) = 0 := by unfold bst; rw [if_neg hs, if_pos (by omega)]
      rw [e0, e1]
      have a := lw_lt (show 0 < j by omega) (by omega)
      have b := lw_pos j hj
      have this : ¬ tst x j 0 := by
        unfold tst
        rw [fl_lo j hj, fl_lo 0 (by omega), (szf_eq (lw j - x)).2 (by omega), (szf_eq (lw 0 - x)).2 (by have := lw_pos 0 (by omega); omega)]
        have c := lw_pos 0 (by omega)
        rw [(szf_eq (lw j)).2 (by omega), (szf_eq (lw 0)).2 (by omega)]
        omega
      exact ⟨fun h => absurd h this, fun _ => rfl⟩
    · by_cases hj' : j = 128
      · subst hj'
        have e0 : bst x n 128 = 0 := by unfold bst; rw [if_neg hs, if_pos (by omega)]
        have e1 : bst x n 129 = 128 := by unfold bst; rw [if_neg hs, if_neg (by omega)]; omega
        show (tst x 128 (bst x n 128) → bst x n 129 = 128) ∧ (¬ tst x 128 (bst x n 128) → bst x n 129 = bst x n 128)
        rw [e0, e1]
        have this : tst x 128 0 := by
          left
          have e2 : fl (128 : Nat) = -8 := by rw [fl_up 128 (by omega) (by omega)]; rfl
          rw [e2, fl_lo 0 (by omega), lw0, (szf_eq (8 - x)).2 (by omega)]
          by_cases c : -8 - x < 0
          · rw [(szf_eq _).1 c]; omega
          · rw [(szf_eq _).2 (by omega)]; omega
        exact ⟨fun _ => rfl, fun h => absurd this h⟩
      · have e0 : bst x n j = 128 + min (j - 129) n := by unfold bst; rw [if_neg hs, if_neg (by omega)]
        have e1 : bst x n (j + 1) = 128 + min (j - 128) n := by unfold bst; rw [if_neg hs, if_neg (by omega)]; rfl
        rw [e0, e1]
        obtain ⟨i, rfl⟩ : ∃ i, j = 128 + i := ⟨j - 128, by omega⟩
        have q1 : 128 + i - 129 = i - 1 := by omega
        have q2 : 128 + i - 128 = i := by omega
        rw [q1, q2]
        have fsz : ∀ (b : Nat), b < 128 → szf (fl ((128 + b : Nat) : Int) - x) = szf (lw b - (-x)) ∧ szf (fl ((128 + b : Nat) : Int)) = lw b := by
          intro b hb
          have hp := lw_pos b hb
          rw [fl_up (128 + b) (by omega) (by omega)]
          have e : 128 + b - 128 = b := by omega
          rw [e]
          refine ⟨?_, by rw [(szf_eq _).1 (by omega)]; omega⟩
          by_cases c : -lw b - x < 0
          · rw [(szf_eq _).1 c, (szf_eq _).2 (by omega)]; omega
          · by_cases c' : lw b - -x = 0
            · rw [(szf_eq _).2 (by omega), (szf_eq _).2 (by omega)]; omega
            · rw [(szf_eq _).2 (by omega), (szf_eq _).1 (by omega)]; omega
        by_cases hc : i ≤ n
        · have e : min (i - 1) n = i - 1 := by omega
          have : tst x (128 + i) (128 + min (i - 1) n) := by
            left
            rw [e, (fsz i (by omega)).1, (fsz (i - 1) (by omega)).1]
            exact near_up N (by omega) (by omega) hc
          exact ⟨fun _ => by omega, fun h => absurd this h⟩
        · have e : min (i - 1) n = n := by omega
          have : ¬ tst x (128 + i) (128 + min (i - 1) n) := by
            rw [e]
            unfold tst
            rw [(fsz i (by omega)).1, (fsz n (by omega)).1, (fsz i (by omega)).2, (fsz n (by omega)).2]
            have a := near_no N (j := i) (by omega) (by omega)
            rintro (h | ⟨h, h'⟩)
            · exact a.1 h
            · omega
          exact ⟨fun h => absurd h this, fun _ => by omega⟩
end Go.Proofs.Ytdphnkjmpogecaa

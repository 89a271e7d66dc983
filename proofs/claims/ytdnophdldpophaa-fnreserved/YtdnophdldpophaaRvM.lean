/- The mathematics of FnReserved; no condition. -/
import Derived.Test.YtdnophdldpophaaLgM
namespace Go.Proofs.Ytdnophdldpophaa
open Go.RowKit Go.ChangeShapes Go.WideShapes Go.ChangeAt
set_option linter.unusedVariables false
set_option linter.unusedSimpArgs false
set_option maxRecDepth 8000
/-- what a room limits, counted again without it up to where it ended -/
theorem cN_cut {ls : List Tf} {z E r r' : Int} (ok : TfOk ls) (hz : HasZ ls z) (hr : r ≤ r') : ∀ (f g : Nat) (t s c : Int), min (cN ls z E r f t s c).1 E - t ≤ g → cN ls z (min (cN ls z E r f t s c).1 E) r' g t s c = cN ls z E r f t s c
  | 0, g, t, s, c, h => by rw [cN]; exact cN_stop _ _ _ _ _ _ _ _ (.inl (by simp only; omega))
  | f + 1, g, t, s, c, h => by
    by_cases hc : E ≤ t ∨ r < c + (tfA ls z t).2.2.2.1
    · rw [cN_stop _ _ _ _ _ _ _ _ hc]; exact cN_stop _ _ _ _ _ _ _ _ (.inl (by simp only; omega))
    · have h1 := tfA_bd ok hz t
      have h2 := cN_ge ok hz (e := E) (r := r) f (t + (tfA ls z t).2.2.1) (s + 1) (c + (tfA ls z t).2.2.2.1)
      rw [cN_step _ _ _ _ _ _ _ _ hc] at h ⊢
      match g, h with
      | 0, h => omega
      | g + 1, h =>
        rw [cN_step _ _ _ _ _ _ _ _ (by omega)]
        exact cN_cut ok hz hr f g _ _ _ (by omega)
theorem cN_room {ls : List Tf} {z E r : Int} : ∀ (f : Nat) (t s c : Int), c ≤ r → (cN ls z E r f t s c).2.2 ≤ r
  | 0, t, s, c, h => h
  | f + 1, t, s, c, h => by
    by_cases hc : E ≤ t ∨ r < c + (tfA ls z t).2.2.2.1
    · rw [cN_stop _ _ _ _ _ _ _ _ hc]; exact h
    · rw [cN_step _ _ _ _ _ _ _ _ hc]; exact cN_room f _ _ _ (by omega)
theorem cN_room1 {ls : List Tf} {z E r : Int} (f : Nat) (t s c : Int) (h : (cN ls z E r f t s c).1 ≠ t) : (cN ls z E r f t s c).2.2 ≤ r := by
  cases f with
  | zero => exact absurd rfl h
  | succ f =>
    by_cases hc : E ≤ t ∨ r < c + (tfA ls z t).2.2.2.1
    · rw [cN_stop _ _ _ _ _ _ _ _ hc] at h; exact absurd rfl h
    · rw [cN_step _ _ _ _ _ _ _ _ hc]; exact cN_room f _ _ _ (by omega)
theorem cN_why {ls : List Tf} {z E r : Int} (ok : TfOk ls) (hz : HasZ ls z) : ∀ (f : Nat) (t s c : Int), E - t ≤ f → (cN ls z E r f t s c).1 < E → r < (cN ls z E r f t s c).2.2 + (tfA ls z (cN ls z E r f t s c).1).2.2.2.1
  | 0, t, s, c, h, h' => by simp only [cN] at h'; omega
  | f + 1, t, s, c, h, h' => by
    by_cases hc : E ≤ t ∨ r < c + (tfA ls z t).2.2.2.1
    · rw [cN_stop _ _ _ _ _ _ _ _ hc] at h' ⊢
      rcases hc with hc | hc
      · simp only at h'; omega
      · exact hc
    · rw [cN_step _ _ _ _ _ _ _ _ hc] at h' ⊢
      have h1 := tfA_bd ok hz t
      exact cN_why ok hz f _ _ _ (by omega) h'
/-- one tick more costs the next step, too -/
theorem cN_over {ls : List Tf} {z E r r' : Int} (ok : TfOk ls) (hz : HasZ ls z) (hr : r ≤ r') (hb : ∀ t, (tfA ls z t).2.2.2.1 ≤ 100000) (hr' : r + 100000 ≤ r') : ∀ (f g : Nat) (t s c : Int), c ≤ r + 100000 → (c ≤ r ∨ (cN ls z E r f t s c).1 = t ∧ c + (tfA ls z t).2.2.2.1 ≤ r') → (cN ls z E r f t s c).1 < E → (cN ls z E r f t s c).1 + 1 - t ≤ g → (cN ls z E r f t s c).2.2 + (tfA ls z (cN ls z E r f t s c).1).2.2.2.1 ≤ (cN ls z ((cN ls z E r f t s c).1 + 1) r' g t s c).2.2
  | 0, g, t, s, c, hcb, hcr, h1, h2 => by
    simp only [cN] at h1 h2 ⊢
    match g, h2 with
    | 0, h2 => omega
    | g + 1, h2 =>
      have hp := hb t
      rw [cN_step _ _ _ _ _ _ _ _ (by rcases hcr with hcr | hcr <;> omega)]
      exact (cN_ge ok hz g _ _ _).2.2
  | f + 1, g, t, s, c, hcb, hcr, h1, h2 => by
    by_cases hc : E ≤ t ∨ r < c + (tfA ls z t).2.2.2.1
    · rw [cN_stop _ _ _ _ _ _ _ _ hc] at h1 h2 hcr ⊢
      simp only at h1 h2 hcr ⊢
      match g, h2 with
      | 0, h2 => omega
      | g + 1, h2 =>
        have hp := hb t
        rw [cN_step _ _ _ _ _ _ _ _ (by rcases hcr with hcr | hcr <;> omega)]
        exact (cN_ge ok hz g _ _ _).2.2
    · have h3 := tfA_bd ok hz t
      have h4 := cN_ge ok hz (e := E) (r := r) f (t + (tfA ls z t).2.2.1) (s + 1) (c + (tfA ls z t).2.2.2.1)
      rw [cN_step _ _ _ _ _ _ _ _ hc] at h1 h2 ⊢
      match g, h2 with
      | 0, h2 => omega
      | g + 1, h2 =>
        have hp := hb t
        rw [cN_step ls z (_ + 1) r' g t s c (by omega)]
        exact cN_over ok hz hr hb hr' f g _ _ _ (by omega) (.inl (by omega)) h1 (by omega)
theorem cN_first {ls : List Tf} {z E r : Int} (f : Nat) (t s c : Int) (h : (cN ls z E r f t s c).1 ≠ t) : c + (tfA ls z t).2.2.2.1 ≤ r := by
  cases f with
  | zero => exact absurd rfl h
  | succ f =>
    by_cases hc : E ≤ t ∨ r < c + (tfA ls z t).2.2.2.1
    · rw [cN_stop _ _ _ _ _ _ _ _ hc] at h; exact absurd rfl h
    · omega
theorem ReS.no {ls : List Tf} {l k z b m k' n : Int} (h : ReS ls l k z b m k' n false) : k' = k := by
  rcases h with ⟨-, -, -, h⟩ | ⟨-, h, -⟩
  · cases h
  · exact h
structure ReF (ls : List Tf) (l k z b m k' n : Int) : Prop where
  k0 : 0 ≤ k ∧ k ≤ l ∧ l ≤ 1000000000
  b0 : 0 ≤ b ∧ b ≤ 1000000000
  n0 : 1 ≤ n ∧ n ≤ 86400 ∧ n ≤ m ∧ m ≤ 86400
  bn : b + n ≤ 1000000000
  c0 : k ≤ k' ∧ k' ≤ l
  at0 : ∀ s c q, RtS ls z b (b + n) s c q → q = true ∧ c = k' - k
  ov : n < m → ∀ s c, RtS ls z b (b + n + 1) s c true → l - k < c
  pt : ∀ j s c q, 0 ≤ j → j ≤ n → RtS ls z b (b + j) s c q → q = true ∧ 0 ≤ c ∧ c ≤ k' - k
theorem ReS.facts {ls : List Tf} {l k z b m k' n : Int} (h : ReS ls l k z b m k' n true) : ReF ls l k z b m k' n := by
  rcases h with ⟨⟨⟨⟨ok, hb0, hb1, hz⟩, hp, hm1, hm2⟩, hn1⟩, hk', hn, -⟩ | ⟨-, -, -, h⟩
  case inr => cases h
  case inl =>
  have hpp : (0 ≤ l ∧ l ≤ 1000000000) ∧ 0 ≤ k ∧ k ≤ l := by simpa [pOk] using hp
  rw [← hn] at hn1
  obtain ⟨q, hq⟩ : ∃ q, reQ ls l k z b m = q := ⟨_, rfl⟩
  rw [hq] at hk'
  rw [reN, hq] at hn
  have hE : reE b m = min (b + m) 1000000000 := rfl
  obtain ⟨E, hEE⟩ : ∃ E, reE b m = E := ⟨_, rfl⟩
  rw [hEE] at hn hE
  have hq' : cN ls z E (l - k) (E - b).toNat b 0 (tfA ls z b).2.2.2.2 = q := by rw [← hq, reQ, hEE]
  have hbd := tfA_bd ok hz b
  have hge := cN_ge ok hz (e := E) (r := l - k) (E - b).toNat b 0 (tfA ls z b).2.2.2.2
  rw [hq'] at hge
  have hne : q.1 ≠ b := by omega
  have hrm := cN_room1 (ls := ls) (z := z) (E := E) (r := l - k) (E - b).toNat b 0 (tfA ls z b).2.2.2.2 (by rw [hq']; exact hne)
  rw [hq'] at hrm
  have hcut := cN_cut ok hz (E := E) (r := l - k) (r' := 9223372036854775807) (by omega) (E - b).toNat (b + n - b).toNat b 0 (tfA ls z b).2.2.2.2 (by rw [hq']; omega)
  rw [hq', show min q.1 E = b + n by omega] at hcut
  have hok : ∀ j, 0 ≤ j → j ≤ n → RtOk ls z b (b + j) := fun j h0 h1 => ⟨⟨ok, hb0, hb1, hz⟩, by omega, by omega, by omega⟩
  have h0 : ∀ s c q', RtS ls z b (b + n) s c q' → q' = true ∧ c = k' - k := by
    intro s c q' hr
    rcases hr with ⟨-, h1, -, h2⟩ | ⟨h1, -⟩
    · refine ⟨h1, ?_⟩
      rw [h2, rtF, hcut]; omega
    · exact absurd (hok n (by omega) (by omega)) h1
  refine ⟨by omega, ⟨hb0, hb1⟩, by omega, by omega, by omega, h0, ?_, ?_⟩
  · intro hnm s c hr
    rcases hr with ⟨h1, -, -, h2⟩ | ⟨-, h1, -⟩
    · have hb' : b + n + 1 ≤ 1000000000 := h1.2.2.1
      have hlt : q.1 < E := by omega
      have hbn : b + n = q.1 := by omega
      have hw := cN_why ok hz (E := E) (r := l - k) (E - b).toNat b 0 (tfA ls z b).2.2.2.2 (by omega) (by rw [hq']; exact hlt)
      rw [hq'] at hw
      have ho := cN_over ok hz (E := E) (r := l - k) (r' := 9223372036854775807) (by omega) (fun t => (tfA_bd ok hz t).2.2.2.1) (by omega) (E - b).toNat (b + n + 1 - b).toNat b 0 (tfA ls z b).2.2.2.2 (by omega) ?_ (by rw [hq']; exact hlt) (by rw [hq']; omega)
      · rw [hq', ← hbn] at ho
        rw [hbn.symm] at hw
        rw [h2, rtF]; omega
      · left
        have := cN_first (ls := ls) (z := z) (E := E) (r := l - k) (E - b).toNat b 0 (tfA ls z b).2.2.2.2 (by rw [hq']; exact hne)
        omega
    · cases h1
  · intro j s c q' hj0 hj1 hr
    rcases hr with ⟨h1, h2, h3, h4⟩ | ⟨h1, -⟩
    · subst h2
      obtain ⟨s2, c2, hr2⟩ : ∃ s2 c2, RtS ls z b (b + n) s2 c2 true := ⟨_, _, .inl ⟨hok n (by omega) (by omega), rfl, rfl, rfl⟩⟩
      have hmore := RtS.more (.inl ⟨h1, rfl, h3, h4⟩) hr2 (by omega)
      have := h0 _ _ _ hr2
      have hg := cN_ge ok hz (e := b + j) (r := 9223372036854775807) (b + j - b).toNat b 0 (tfA ls z b).2.2.2.2
      rw [rtF] at h4
      exact ⟨rfl, by omega, by omega⟩
    · exact absurd (hok j hj0 hj1) h1
theorem small_res {k' n : Int} {ok : Bool} (h : ReS [(0, 0, 10, 3, 1)] 10 0 0 0 100 k' n ok) : k' = 10 ∧ n = 30 ∧ ok = true := by
  have hq : reQ [(0, 0, 10, 3, 1)] 10 0 0 0 100 = (30, 3, 10) := by
    rw [reQ, show reE 0 100 = 100 from rfl, show (100 - 0 : Int).toNat = 96 + 1 + 1 + 1 + 1 from rfl]
    simp only [one_at]
    rw [cN_step _ _ _ _ _ _ _ _ (by simp only [one_at]; omega)]
    simp only [one_at]
    rw [cN_step _ _ _ _ _ _ _ _ (by simp only [one_at]; omega)]
    simp only [one_at]
    rw [cN_step _ _ _ _ _ _ _ _ (by simp only [one_at]; omega)]
    simp only [one_at]
    rw [cN_stop _ _ _ _ _ _ _ _ (.inr (by simp only [one_at]; omega))]
    rfl
  have hn : reN [(0, 0, 10, 3, 1)] 10 0 0 0 100 = 30 := by rw [reN, hq]; rfl
  have hok : ReOk [(0, 0, 10, 3, 1)] 10 0 0 0 100 := ⟨⟨⟨one_ok, by decide, by decide, one_has⟩, by decide, by decide, by decide⟩, by rw [hn]; decide⟩
  rcases h with ⟨-, rfl, rfl, rfl⟩ | ⟨h, -⟩
  · rw [hq, hn]; exact ⟨rfl, rfl, rfl⟩
  · exact absurd hok h
end Go.Proofs.Ytdnophdldpophaa

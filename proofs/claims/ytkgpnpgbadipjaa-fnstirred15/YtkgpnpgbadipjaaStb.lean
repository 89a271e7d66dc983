/- What is stirred twice or woven and unwoven; no condition. -/
import Derived.Test.YtkgpnpgbadipjaaWva
namespace Go.Proofs.Ytkgpnpgbadipjaa
open Go.RowKit Go.ChangeShapes Go.WideShapes Go.ChangeAt
set_option linter.unusedVariables false
set_option linter.unusedSimpArgs false
set_option maxRecDepth 8000

theorem xo_bits {z b : Int} (hz : 0 ≤ z ∧ z ≤ 1) (hb : 0 ≤ b ∧ b ≤ 1) : (0 ≤ xo z b ∧ xo z b ≤ 1) ∧ xo (xo z b) b = z ∧ (xo z b = z → b = 0) := by
  rcases (show z = 0 ∨ z = 1 by omega) with rfl | rfl <;> rcases (show b = 0 ∨ b = 1 by omega) with rfl | rfl <;> decide +kernel
theorem xo_bits2 {z b c : Int} (hz : 0 ≤ z ∧ z ≤ 1) (hb : 0 ≤ b ∧ b ≤ 1) (hc : 0 ≤ c ∧ c ≤ 1) (h : xo (xo z b) c = z) : b = c := by
  rcases (show z = 0 ∨ z = 1 by omega) with rfl | rfl <;> rcases (show b = 0 ∨ b = 1 by omega) with rfl | rfl <;> rcases (show c = 0 ∨ c = 1 by omega) with rfl | rfl <;> first | rfl | (exfalso; revert h; decide +kernel)
theorem bsB_get {zs : List Int} (h : bsB zs = true) (k : Nat) : 0 ≤ zs.getD k 0 ∧ zs.getD k 0 ≤ 1 := by
  rcases Nat.lt_or_ge k zs.length with h1 | h1
  · exact bsB_at h k h1
  · rw [List.getD_eq_getElem?_getD, List.getElem?_eq_none h1]; decide
theorem bbB_bs {zs : List Int} (h : bbB zs = true) : bsB zs = true := by unfold bbB at h; rw [Bool.and_eq_true] at h; exact h.1
theorem low_bd (s : Int) : 0 ≤ s % 2 ∧ s % 2 ≤ 1 := by omega
theorem stF_bs {zs : List Int} {key : Int} (h : bsB zs = true) : bsB (stF zs key) = true := by
  refine bsB_all fun k hk => ?_
  rw [stF_len] at hk
  rw [stF_at zs key k hk]
  exact (xo_bits (bsB_get h k) (low_bd _)).1
theorem stF_bb {zs : List Int} {key : Int} (h : bbB zs = true) : bbB (stF zs key) = true := by
  have h1 := bbB_bs h
  have h2 := bbB_len h
  unfold bbB
  rw [stF_bs h1, stF_len, decide_eq_true (show (zs.length : Int) ≤ 320 by omega)]; rfl
/-- stirred twice -/
theorem stF_back {zs : List Int} {key : Int} (h : bsB zs = true) : stF (stF zs key) key = zs := by
  refine ext_getD (by rw [stF_len, stF_len]) fun k hk => ?_
  rw [stF_len, stF_len] at hk
  rw [stF_at _ _ _ (by rw [stF_len]; exact hk)]
  unfold stA
  rw [stF_at _ _ _ hk]
  exact (xo_bits (bsB_get h k) (low_bd _)).2.1
/-- two registers that differ in one bit -/
theorem nx_diff (a b m : Nat) (ha : a < 65536) (hb : b < 65536) (h : a ^^^ b = 2 ^ (m + 1)) :
    ∃ a' b' : Nat, nxt (a : Int) 46080 = (a' : Int) ∧ nxt (b : Int) 46080 = (b' : Int) ∧ a' < 65536 ∧ b' < 65536 ∧ a' ^^^ b' = 2 ^ m ∧ a % 2 = b % 2 := by
  have hp : (a ^^^ b) % 2 = 0 := by rw [h, Nat.pow_succ]; omega
  have hmod : a % 2 = b % 2 := by
    have e : (a ^^^ b) % 2 = (a % 2) ^^^ (b % 2) := by have := Nat.xor_mod_two_pow (a := a) (b := b) (n := 1); simpa using this
    rw [hp] at e
    rcases (show a % 2 = 0 ∨ a % 2 = 1 by omega) with h1 | h1 <;> rcases (show b % 2 = 0 ∨ b % 2 = 1 by omega) with h2 | h2 <;> rw [h1, h2] at e <;> first | omega | (exfalso; revert e; decide)
  have hsh : a / 2 ^^^ b / 2 = 2 ^ m := by
    have e := Nat.shiftRight_xor_distrib (a := a) (b := b) (i := 1)
    rw [Nat.shiftRight_eq_div_pow, Nat.shiftRight_eq_div_pow, Nat.shiftRight_eq_div_pow, h, Nat.pow_succ] at e
    rw [Nat.pow_one] at e
    rw [← e]; omega
  have lt16 : ∀ x : Nat, x < 65536 → x / 2 ^^^ 46080 < 65536 := fun x hx => by
    have : x / 2 ^^^ 46080 < 2 ^ 16 := Nat.xor_lt_two_pow (by omega) (by omega)
    simpa using this
  by_cases h1 : a % 2 = 1
  · have nx : ∀ x : Nat, x < 65536 → x % 2 = 1 → nxt (x : Int) 46080 = ((x / 2 ^^^ 46080 : Nat) : Int) := fun x hx h => by
      unfold nxt
      rw [if_pos (by omega)]
      have := xo_nat (x / 2) 46080 (by omega) (by omega)
      rw [Int.natCast_ediv] at this
      exact this
    refine ⟨a / 2 ^^^ 46080, b / 2 ^^^ 46080, nx a ha h1, nx b hb (by omega), lt16 a ha, lt16 b hb, ?_, hmod⟩
    rw [Nat.xor_assoc, Nat.xor_comm (b / 2) 46080, ← Nat.xor_assoc 46080 46080, Nat.xor_self, Nat.zero_xor, hsh]
  · have nx : ∀ x : Nat, ¬ x % 2 = 1 → nxt (x : Int) 46080 = ((x / 2 : Nat) : Int) := fun x h => by
      unfold nxt
      rw [if_neg (by omega), Int.natCast_ediv]; rfl
    exact ⟨a / 2, b / 2, nx a h1, nx b (by omega), by omega, by omega, hsh, hmod⟩
theorem sr_diff : ∀ (m : Nat) (a b : Nat), a < 65536 → b < 65536 → a ^^^ b = 2 ^ m → sr (a : Int) m % 2 ≠ sr (b : Int) m % 2
  | 0, a, b, _, _, h => by
    show (a : Int) % 2 ≠ (b : Int) % 2
    intro e
    have e2 : a % 2 = b % 2 := by omega
    have e3 : (a ^^^ b) % 2 = (a % 2) ^^^ (b % 2) := by have := Nat.xor_mod_two_pow (a := a) (b := b) (n := 1); simpa using this
    rw [h, e2, Nat.xor_self] at e3
    cases e3
  | m + 1, a, b, ha, hb, h => by
    obtain ⟨a', b', e1, e2, l1, l2, hx, -⟩ := nx_diff a b m ha hb h
    have hs : ∀ (k : Int) (n : Nat), sr k (n + 1) = sr (nxt k 46080) n := fun k n => by
      induction n with
      | zero => rfl
      | succ n ih => show nxt (sr k (n + 1)) 46080 = nxt (sr (nxt k 46080) n) 46080; rw [ih]
    rw [hs, hs, e1, e2]
    exact sr_diff m a' b' l1 l2 hx
/-- another key does not bring the bits back -/
theorem stF_other {zs : List Int} {key other : Int} {m : Nat} (h : bsB zs = true) (hm : m < zs.length) (hk : 0 ≤ key ∧ key ≤ 65535) (hm16 : m < 16) (ho : other = xo key (2 ^ m : Nat)) : stF (stF zs key) other ≠ zs := by
  intro e
  have e1 : (stF (stF zs key) other).getD m 0 = zs.getD m 0 := by rw [e]
  rw [stF_at _ _ _ (by rw [stF_len]; exact hm)] at e1
  unfold stA at e1
  rw [stF_at _ _ _ hm] at e1
  unfold stA at e1
  have e2 := xo_bits2 (bsB_get h m) (low_bd _) (low_bd _) e1
  obtain ⟨a, rfl⟩ := Int.eq_ofNat_of_zero_le hk.1
  have hp : 2 ^ m < 65536 := by have := Nat.pow_lt_pow_right (show 1 < 2 by omega) hm16; simpa using this
  rw [xo_nat a (2 ^ m) (by omega) hp] at ho
  have lt : a ^^^ 2 ^ m < 65536 := by
    have : a ^^^ 2 ^ m < 2 ^ 16 := Nat.xor_lt_two_pow (by omega) (by omega)
    simpa using this
  subst ho
  refine sr_diff m a (a ^^^ 2 ^ m) (by omega) lt ?_ e2
  rw [← Nat.xor_assoc, Nat.xor_self, Nat.zero_xor]
theorem wv_bs {zs : List Int} {r c : Nat} (h : bsB zs = true) : bsB (wvL zs r c) = true := by
  refine bsB_all fun k hk => ?_
  rw [wvL_len] at hk
  rw [wvL_at _ _ _ _ hk]
  exact bsB_get h _
/-- woven and unwoven -/
theorem weave_back {zs : List Int} {rows : Int} (h : wvB zs rows = true) : wvB (wvR zs rows) rows = true ∧ uwR (wvR zs rows) rows = zs := by
  obtain ⟨r, c, rfl, r1, r2, hl, hc, -, hn, e1, -⟩ := wv_yes h
  have hlen : (wvR zs (r : Int)).length = zs.length := by rw [e1, wvL_len, hl]
  have hb : wvB (wvR zs (r : Int)) (r : Int) = true := by
    unfold wvB at h ⊢
    simp only [Bool.and_eq_true] at h ⊢
    refine ⟨⟨?_, h.1.2⟩, by rw [hlen]; exact h.2⟩
    unfold bbB
    rw [hlen, decide_eq_true (show (zs.length : Int) ≤ 320 by omega), Bool.and_true, e1]
    exact wv_bs (bbB_bs h.1.1)
  refine ⟨hb, ?_⟩
  obtain ⟨r', c', hr, -, -, -, hc', -, -, -, e2⟩ := wv_yes hb
  have hr' : r' = r := by omega
  subst hr'
  rw [hlen, hc] at hc'
  subst hc'
  rw [e2, e1]
  exact wv_back zs r' c hl
theorem five_ok : stB [0, 0, 0] 5 = true ∧ stR [0, 0, 0] 5 = [1, 0, 1] := by decide +kernel

end Go.Proofs.Ytkgpnpgbadipjaa

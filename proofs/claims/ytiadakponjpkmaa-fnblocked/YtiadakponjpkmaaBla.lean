/- What Blocking tells; the greatest number that divides two; no condition. -/
import Derived.Test.YtiadakponjpkmaaWin
namespace Go.Proofs.Ytiadakponjpkmaa
open Go.RowKit Go.ChangeShapes Go.WideShapes Go.ChangeAt
set_option linter.unusedVariables false
set_option linter.unusedSimpArgs false
set_option maxRecDepth 8000

/-- lowest terms -/
def low (a b : Nat) : Nat × Nat := (a / Nat.gcd a b, b / Nat.gcd a b)
theorem low_mul {c : Nat} (h : 0 < c) (a b : Nat) : low (c * a) (c * b) = low a b := by
  unfold low
  rw [Nat.gcd_mul_left, Nat.mul_div_mul_left _ _ h, Nat.mul_div_mul_left _ _ h]
theorem low_le (a b : Nat) : (low a b).1 ≤ a ∧ (low a b).2 ≤ b := ⟨Nat.div_le_self _ _, Nat.div_le_self _ _⟩
theorem low_pos {a b : Nat} (h : 0 < b) : 0 < (low a b).2 := Nat.div_pos (Nat.gcd_le_right _ h) (Nat.gcd_pos_of_pos_right _ h)
theorem low_back (a b : Nat) : Nat.gcd a b * (low a b).1 = a ∧ Nat.gcd a b * (low a b).2 = b := ⟨Nat.mul_div_cancel' (Nat.gcd_dvd_left _ _), Nat.mul_div_cancel' (Nat.gcd_dvd_right _ _)⟩
theorem low_ord {a b : Nat} (h : a ≤ b) : (low a b).1 ≤ (low a b).2 := Nat.div_le_div_right h
/-- the part of calls that find n circuits busy -/
def blN (num den : Nat) : Nat → Nat × Nat
  | 0 => (1, 1)
  | n + 1 => low (num * (blN num den n).1) ((n + 1) * den * (blN num den n).2 + num * (blN num den n).1)
/-- by two steps it is the same -/
theorem low_two {x y : Nat} (n : Nat) (h : 0 < y) : low x (n * y + x) = low (low x y).1 (n * (low x y).2 + (low x y).1) := by
  obtain ⟨h1, h2⟩ := low_back x y
  have hg : 0 < Nat.gcd x y := Nat.gcd_pos_of_pos_right _ h
  rw [← low_mul hg (low x y).1, Nat.mul_add, ← Nat.mul_assoc, Nat.mul_comm _ n, Nat.mul_assoc, h1, h2]
def bdN : Nat → Nat
  | 0 => 1
  | n + 1 => (10 * (n + 1) + 20) * bdN n
theorem blN_bd {num den : Nat} (hn : num ≤ 20) (hd : 1 ≤ den) (hd' : den ≤ 10) : ∀ n, 1 ≤ (blN num den n).2 ∧ (blN num den n).1 ≤ (blN num den n).2 ∧ (blN num den n).2 ≤ bdN n
  | 0 => by simp [blN, bdN]
  | n + 1 => by
    obtain ⟨h1, h2, h3⟩ := blN_bd hn hd hd' n
    have hq : 0 < (n + 1) * den * (blN num den n).2 := Nat.mul_pos (Nat.mul_pos (by omega) (by omega)) (by omega)
    have e1 : num * (blN num den n).1 ≤ 20 * bdN n := Nat.mul_le_mul hn (Nat.le_trans h2 h3)
    have e2 : (n + 1) * den * (blN num den n).2 ≤ (n + 1) * 10 * bdN n := Nat.mul_le_mul (Nat.mul_le_mul (Nat.le_refl _) hd') h3
    have e3 : (10 * (n + 1) + 20) * bdN n = (n + 1) * 10 * bdN n + 20 * bdN n := by rw [Nat.add_mul, Nat.mul_comm 10 (n + 1)]
    refine ⟨?_, ?_, ?_⟩
    · exact low_pos (by omega)
    · exact low_ord (by omega)
    · exact Nat.le_trans (low_le _ _).2 (by rw [bdN, e3]; omega)
theorem bdN_le {n : Nat} (h : n ≤ 8) : bdN n ≤ 181440000000000 := by
  have : n = 0 ∨ n = 1 ∨ n = 2 ∨ n = 3 ∨ n = 4 ∨ n = 5 ∨ n = 6 ∨ n = 7 ∨ n = 8 := by omega
  rcases this with rfl | rfl | rfl | rfl | rfl | rfl | rfl | rfl | rfl <;> decide
theorem gcd_rem {a b : Nat} : Nat.gcd (b % a) a = Nat.gcd a b := (Nat.gcd_rec a b).symm
set_option maxHeartbeats 1600000 in
/-- the greatest number that divides both (81) -/
theorem gcdI_c (a b : Nat) (w : World) (ha : a ≤ 4611686018427387904) (hb : b ≤ 4611686018427387904) : Calls Try.prog 81 #[.int .i64 a, .int .i64 b] w fun e w' => e = .returned (.int .i64 (Nat.gcd a b)) ∧ w' = w := by
  obtain ⟨G, hG⟩ : ∃ G, Nat.gcd a b = G := ⟨_, rfl⟩
  have HG : Hid (Nat.gcd a b = G) := hG
  have hA : Hid (a ≤ 4611686018427387904) := ha
  have hB : Hid (b ≤ 4611686018427387904) := hb
  rw [hG]
  clear hG ha hb
  go_enter Try.func81, Try.ntmps81
  go_wp2
  go_loop [0, 1] (fun x y => ∃ m n : Nat, x = .int .i64 m ∧ y = .int .i64 n ∧ Hid (m ≤ 4611686018427387904) ∧ Hid (n ≤ 4611686018427387904) ∧ Hid (Nat.gcd m n = G)) (fun x _ => (intOf x).toNat)
  case atStart => exact ⟨a, b, rfl, rfl, hA, hB, HG⟩
  case round =>
    obtain ⟨m, n, rfl, rfl, hm, hn, hg⟩ := hrel
    by_cases h0 : m = 0
    · subst h0
      have HF : Hid (n = G) := by have := hg.out; rw [Nat.gcd_zero_left] at this; exact this
      go_wp2
      go_ret
      exact ⟨by rw [HF.out]; rfl, rfl⟩
    · have hm0 : ((m : Int) != 0) = true := by simp; omega
      have hm1 : ¬ ((m : Int) = 0) := by omega
      have HM := hm.out
      have HN := hn.out
      have hr : Int.tmod (n : Int) (m : Int) = ((n % m : Nat) : Int) := by rw [Int.tmod_eq_emod_of_nonneg (by omega)]; simp
      have hlt : n % m < m := Nat.mod_lt _ (by omega)
      have HW : Hid (wrap64 ((n % m : Nat) : Int) = ((n % m : Nat) : Int)) := wrap64_in (by omega)
      go_wp2
      go_round
      case rel => exact ⟨n % m, m, by first | rfl | (simp only [hr, HW.out]), rfl, by show _ ≤ _; omega, hm, by show _ = _; rw [gcd_rem]; exact hg.out⟩
      case measure => simp [intOf, hr, HW.out]; omega
set_option maxHeartbeats 1600000 in
/-- the model's (54) -/
theorem gcdM_c (a b : Nat) (w : World) (ha : a ≤ 4611686018427387904) (hb : b ≤ 4611686018427387904) : Calls Try.prog 54 #[.int .i64 a, .int .i64 b] w fun e w' => e = .returned (.int .i64 (Nat.gcd a b)) ∧ w' = w := by
  obtain ⟨G, hG⟩ : ∃ G, Nat.gcd a b = G := ⟨_, rfl⟩
  have HG : Hid (Nat.gcd a b = G) := hG
  have hA : Hid (a ≤ 4611686018427387904) := ha
  have hB : Hid (b ≤ 4611686018427387904) := hb
  rw [hG]
  clear hG ha hb
  go_enter Try.func54, Try.ntmps54
  go_wp2
  go_loop [0, 1] (fun x y => ∃ m n : Nat, x = .int .i64 m ∧ y = .int .i64 n ∧ Hid (m ≤ 4611686018427387904) ∧ Hid (n ≤ 4611686018427387904) ∧ Hid (Nat.gcd m n = G)) (fun _ y => (intOf y).toNat)
  case atStart => exact ⟨a, b, rfl, rfl, hA, hB, HG⟩
  case round =>
    obtain ⟨m, n, rfl, rfl, hm, hn, hg⟩ := hrel
    by_cases h0 : n = 0
    · subst h0
      have HF : Hid (m = G) := by have := hg.out; rw [Nat.gcd_zero_right] at this; exact this
      go_wp2
      go_ret
      exact ⟨by rw [HF.out]; rfl, rfl⟩
    · have hm0 : ((n : Int) != 0) = true := by simp; omega
      have hm1 : ¬ ((n : Int) = 0) := by omega
      have HM := hm.out
      have HN := hn.out
      have hr : Int.tmod (m : Int) (n : Int) = ((m % n : Nat) : Int) := by rw [Int.tmod_eq_emod_of_nonneg (by omega)]; simp
      have hlt : m % n < n := Nat.mod_lt _ (by omega)
      have HW : Hid (wrap64 ((m % n : Nat) : Int) = ((m % n : Nat) : Int)) := wrap64_in (by omega)
      go_wp2
      go_round
      case rel => exact ⟨n, m % n, rfl, by first | rfl | (simp only [hr, HW.out]), hn, by show _ ≤ _; omega, by show _ = _; rw [Nat.gcd_comm, gcd_rem, Nat.gcd_comm]; exact hg.out⟩
      case measure => simp [intOf, hr, HW.out]; omega

end Go.Proofs.Ytiadakponjpkmaa

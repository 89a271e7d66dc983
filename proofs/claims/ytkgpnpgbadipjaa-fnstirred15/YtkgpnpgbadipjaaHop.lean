/- Hop; no condition. -/
import Derived.Test.YtkgpnpgbadipjaaBase
import Derived.Test.YtkgpnpgbadipjaaSl
namespace Go.Proofs.Ytkgpnpgbadipjaa
open Go.RowKit Go.ChangeShapes Go.WideShapes Go.ChangeAt
set_option linter.unusedVariables false
set_option linter.unusedSimpArgs false
set_option maxRecDepth 8000

/-- exclusive-or of whole numbers -/
def xo (a b : Int) : Int := bits .xor .i64 a b
theorem xo_nat (a b : Nat) (ha : a < 65536) (hb : b < 65536) : xo (a : Int) (b : Int) = ((a ^^^ b : Nat) : Int) := by
  have key : (BitVec.ofInt 64 (a : Int) ^^^ BitVec.ofInt 64 (b : Int)).toNat = a ^^^ b := by
    rw [BitVec.toNat_xor, BitVec.toNat_ofInt, BitVec.toNat_ofInt]
    congr 1 <;> omega
  have lt : a ^^^ b < 2 ^ 16 := Nat.xor_lt_two_pow (by omega) (by omega)
  show IntKind.i64.wrap ((BitVec.ofInt 64 (a : Int) ^^^ BitVec.ofInt 64 (b : Int)).toNat : Nat) = _
  rw [key, IntKind.wrap_i64]
  have : a ^^^ b < 65536 := by simpa using lt
  omega
theorem xo_bd (a b : Int) (a0 : 0 ≤ a) (a1 : a ≤ 65535) (b0 : 0 ≤ b) (b1 : b ≤ 65535) : 0 ≤ xo a b ∧ xo a b ≤ 65535 := by
  obtain ⟨x, rfl⟩ := Int.eq_ofNat_of_zero_le a0
  obtain ⟨y, rfl⟩ := Int.eq_ofNat_of_zero_le b0
  have e := xo_nat x y (by omega) (by omega)
  have lt : x ^^^ y < 2 ^ 16 := Nat.xor_lt_two_pow (by omega) (by omega)
  have : x ^^^ y < 65536 := by simpa using lt
  rw [e]; omega
/-- what is exclusive-or a small number has the same 8192nds -/
theorem xo_top (a b : Int) (a0 : 0 ≤ a) (a1 : a ≤ 65535) (b0 : 0 ≤ b) (b1 : b ≤ 255) : xo a b / 8192 = a / 8192 := by
  obtain ⟨x, rfl⟩ := Int.eq_ofNat_of_zero_le a0
  obtain ⟨y, rfl⟩ := Int.eq_ofNat_of_zero_le b0
  rw [xo_nat x y (by omega) (by omega)]
  have h : (x ^^^ y) >>> 13 = x >>> 13 ^^^ y >>> 13 := Nat.shiftRight_xor_distrib ..
  have hy : y >>> 13 = 0 := by rw [Nat.shiftRight_eq_div_pow]; omega
  rw [hy, Nat.xor_zero, Nat.shiftRight_eq_div_pow, Nat.shiftRight_eq_div_pow] at h
  omega
def hopB (s f c : Int) : Bool := decide (0 ≤ s ∧ s ≤ 65535) && decide (0 ≤ f ∧ f ≤ 1000000) && decide (1 ≤ c ∧ c ≤ 64)
def hopX (s f : Int) : Int := (s + 40503 * f) % 65536
def hopR (s f c : Int) : Int := if hopB s f c = true then xo (hopX s f) (hopX s f / 256) * c / 65536 else -1
set_option maxHeartbeats 800000 in
theorem within_c (x lo hi : Int) (w : World) : Calls Try.prog 38 #[.int .i64 x, .int .i64 lo, .int .i64 hi] w fun e w' => e = .returned (.bool (decide (lo ≤ x ∧ x ≤ hi))) ∧ w' = w := by
  by_cases h1 : lo ≤ x
  · by_cases h2 : x ≤ hi
    · have HE : Hid (decide (lo ≤ x ∧ x ≤ hi) = true) := by show _ = _; simp [h1, h2]
      go_enter Try.func38, Try.ntmps38
      go_wp2
      go_ret
      exact ⟨by rw [HE.out]; first | rfl | simp_all, rfl⟩
    · have HE : Hid (decide (lo ≤ x ∧ x ≤ hi) = false) := by show _ = _; simp [h1]; omega
      have d : decide (x ≤ hi) = false := by simp; omega
      clear h2
      go_enter Try.func38, Try.ntmps38
      go_wp2
      go_ret
      exact ⟨by rw [HE.out]; first | rfl | simp_all, rfl⟩
  · have HE : Hid (decide (lo ≤ x ∧ x ≤ hi) = false) := by show _ = _; simp; omega
    have d : decide (lo ≤ x) = false := by simp; omega
    clear h1
    go_enter Try.func38, Try.ntmps38
    go_wp2
    go_ret
    exact ⟨by rw [HE.out]; first | rfl | simp_all, rfl⟩
set_option maxHeartbeats 800000 in
theorem in_c (x lo hi : Int) (w : World) : Calls Try.prog 29 #[.int .i64 x, .int .i64 lo, .int .i64 hi] w fun e w' => e = .returned (.bool (decide (lo ≤ x ∧ x ≤ hi))) ∧ w' = w := by
  by_cases h1 : lo ≤ x
  · by_cases h2 : x ≤ hi
    · have HE : Hid (decide (lo ≤ x ∧ x ≤ hi) = true) := by show _ = _; simp [h1, h2]
      go_enter Try.func29, Try.ntmps29
      go_wp2
      go_ret
      exact ⟨by rw [HE.out]; first | rfl | simp_all, rfl⟩
    · have HE : Hid (decide (lo ≤ x ∧ x ≤ hi) = false) := by show _ = _; simp [h1]; omega
      have d : decide (x ≤ hi) = false := by simp; omega
      clear h2
      go_enter Try.func29, Try.ntmps29
      go_wp2
      go_ret
      exact ⟨by rw [HE.out]; first | rfl | simp_all, rfl⟩
  · have HE : Hid (decide (lo ≤ x ∧ x ≤ hi) = false) := by show _ = _; simp; omega
    have d : decide (lo ≤ x) = false := by simp; omega
    clear h1
    go_enter Try.func29, Try.ntmps29
    go_wp2
    go_ret
    exact ⟨by rw [HE.out]; first | rfl | simp_all, rfl⟩
end Go.Proofs.Ytkgpnpgbadipjaa

/- Hop; no condition. -/
import Derived.Test.YtpkkmlgmdhcehaaBase
import Derived.Test.YtpkkmlgmdhcehaaSl
namespace Go.Proofs.Ytpkkmlgmdhcehaa
open Go.RowKit Go.ChangeShapes Go.WideShapes Go.ChangeAt
set_option linter.unusedVariables false
set_option linter.unusedSimpArgs false
set_option maxRecDepth 8000

/-- exclusive-or of whole numbers -/
def xo (a b : Int) : Int := bits .xor .i64 a b
theorem xo_nat (a b : Nat) (ha : a < 65536) (hb : b < 65536) : xo (a : Int) (b : Int) = ((a ^^^ b : Nat) : Int) := by
  have key : (BitVec.ofInt 64 (a : Int) ^^^ BitVec.ofInt 64 (b : Int)).toNat = a ^^^ b := by
    rw [BitVec.toNat_xor, BitVec.toNat_ofInt, BitVec.toNat_ofInt]
    congr 1 <;> omega
  have lt : a ^^^ b < 2 ^ 16 := Nat.xor_lt_two_pow (by omega) (by omega)
  show IntKind.i64.wrap ((BitVec.ofInt 64 (a : Int) ^^^ BitVec.ofInt 64 (b : Int)).toNat : Nat) = _
  rw [key, IntKind.wrap_i64]
  have : a ^^^ b < 65536 := by simpa using lt
  omega
theorem xo_bd (a b : Int) (a0 : 0 ≤ a) (a1 : a ≤ 65535) (b0 : 0 ≤ b) (b1 : b ≤ 65535) : 0 ≤ xo a b ∧ xo a b ≤ 65535 := by
  obtain ⟨x, rfl⟩ := Int.eq_ofNat_of_zero_le a0
  obtain ⟨y, rfl⟩ := Int.eq_ofNat_of_zero_le b0
  have e := xo_nat x y (by omega) (by omega)
  have lt : x ^^^ y < 2 ^ 16 := Nat.xor_lt_two_pow (by omega) (by omega)
  have : x ^^^ y < 65536 := by simpa using lt
  rw [e]; omega
/-- what is exclusive-or a small number has the same 8192nds -/
theorem xo_top (a b : Int) (a0 : 0 ≤ a) (a1 : a ≤ 65535) (b0 : 0 ≤ b) (b1 : b ≤ 255) : xo a b / 8192 = a / 8192 := by
  obtain ⟨x, rfl⟩ := Int.eq_ofNat_of_zero_le a0
  obtain ⟨y, rfl⟩ := Int.eq_ofNat_of_zero_le b0
  rw [xo_nat x y (by omega) (by omega)]
  have h : (x ^^^ y) >>> 13 = x >>> 13 ^^^ y >>> 13 := Nat.shiftRight_xor_distrib ..
  have hy : y >>> 13 = 0 := by rw [Nat.shiftRight_eq_div_pow]; omega
  rw [hy, Nat.xor_zero, Nat.shiftRight_eq_div_pow, Nat.shiftRight_eq_div_pow] at h
  omega
def hopB (s f c : Int) : Bool := decide (0 ≤ s ∧ s ≤ 65535) && decide (0 ≤ f ∧ f ≤ 1000000) && decide (1 ≤ c ∧ c ≤ 64)
def hopX (s f : Int) : Int := (s + 40503 * f) % 65536
def hopR (s f c : Int) : Int := if hopB s f c = true then xo (hopX s f) (hopX s f / 256) * c / 65536 else -1
set_option maxHeartbeats 800000 in
theorem within_c (x lo hi : Int) (w : World) : Calls Try.prog 18 #[.int .i64 x, .int .i64 lo, .int .i64 hi] w fun e w' => e = .returned (.bool (decide (lo ≤ x ∧ x ≤ hi))) ∧ w' = w := by
  by_cases h1 : lo ≤ x
  · by_cases h2 : x ≤ hi
    · have HE : Hid (decide (lo ≤ x ∧ x ≤ hi) = true) := by show _ = _; simp [h1, h2]
      go_enter Try.func18, Try.ntmps18
      go_wp2
      go_ret
      exact ⟨by rw [HE.out]; first | rfl | simp_all, rfl⟩
    · have HE : Hid (decide (lo ≤ x ∧ x ≤ hi) = false) := by show _ = _; simp [h1]; omega
      have d : decide (x ≤ hi) = false := by simp; omega
      clear h2
      go_enter Try.func18, Try.ntmps18
      go_wp2
      go_ret
      exact ⟨by rw [HE.out]; first | rfl | simp_all, rfl⟩
  · have HE : Hid (decide (lo ≤ x ∧ x ≤ hi) = false) := by show _ = _; simp; omega
    have d : decide (lo ≤ x) = false := by simp; omega
    clear h1
    go_enter Try.func18, Try.ntmps18
    go_wp2
    go_ret
    exact ⟨by rw [HE.out]; first | rfl | simp_all, rfl⟩
set_option maxHeartbeats 800000 in
theorem in_c (x lo hi : Int) (w : World) : Calls Try.prog 20 #[.int .i64 x, .int .i64 lo, .int .i64 hi] w fun e w' => e = .returned (.bool (decide (lo ≤ x ∧ x ≤ hi))) ∧ w' = w := by
  by_cases h1 : lo ≤ x
  · by_cases h2 : x ≤ hi
    · have HE : Hid (decide (lo ≤ x ∧ x ≤ hi) = true) := by show _ = _; simp [h1, h2]
      go_enter Try.func20, Try.ntmps20
      go_wp2
      go_ret
      exact ⟨by rw [HE.out]; first | rfl | simp_all, rfl⟩
    · have HE : Hid (decide (lo ≤ x ∧ x ≤ hi) = false) := by show _ = _; simp [h1]; omega
      have d : decide (x ≤ hi) = false := by simp; omega
      clear h2
      go_enter Try.func20, Try.ntmps20
      go_wp2
      go_ret
      exact ⟨by rw [HE.out]; first | rfl | simp_all, rfl⟩
  · have HE : Hid (decide (lo ≤ x ∧ x ≤ hi) = false) := by show _ = _; simp; omega
    have d : decide (lo ≤ x) = false := by simp; omega
    clear h1
    go_enter Try.func20, Try.ntmps20
    go_wp2
    go_ret
    exact ⟨by rw [HE.out]; first | rfl | simp_all, rfl⟩
theorem frame_c (x : Int) (w : World) : Calls Try.prog 19 #[.int .i64 x] w fun e w' => e = .returned (.bool (decide (0 ≤ x ∧ x ≤ 1000000))) ∧ w' = w := by
  go_enter Try.func19, Try.ntmps19
  go_wp2_with (fail)
  refine (within_c _ _ _ _).mono ?_
  rintro e w1 ⟨rfl, hw⟩
  rw [hw]
  clear hw w1
  go_wp2
  go_ret
  exact ⟨by simp [Bool.decide_and], rfl⟩

set_option maxHeartbeats 3200000 in
theorem hopI_c (s f c : Int) (w : World) : Calls Try.prog 8 #[.int .i64 s, .int .i64 f, .int .i64 c] w fun e w' => e = .returned (.int .i64 (hopR s f c)) ∧ w' = w := by
  have HE : Hid (hopB s f c = (decide (0 ≤ s ∧ s ≤ 65535) && decide (0 ≤ f ∧ f ≤ 1000000) && decide (1 ≤ c ∧ c ≤ 64))) := rfl
  have HN : Hid (hopB s f c = false → hopR s f c = -1) := fun e => by unfold hopR; rw [e]; rfl
  have HP : Hid (hopB s f c = true → hopR s f c = xo (hopX s f) (hopX s f / 256) * c / 65536) := fun e => by unfold hopR; rw [e]; rfl
  go_enter Try.func8, Try.ntmps8
  go_wp2_with (fail)
  refine (within_c _ _ _ _).mono ?_
  rintro e w1 ⟨rfl, hw⟩
  rw [hw]
  clear hw w1
  by_cases c1 : 0 ≤ s ∧ s ≤ 65535
  case neg =>
    have d : decide (0 ≤ s ∧ s ≤ 65535) = false := by rw [decide_eq_false_iff_not]; exact c1
    have HF : Hid (hopR s f c = -1) := HN.out (by rw [HE.out, d]; simp)
    rw [d]
    clear c1 d
    go_wp2
    go_ret
    exact ⟨ret_int HF.out.symm, rfl⟩
  have d1 : decide (0 ≤ s ∧ s ≤ 65535) = true := by rw [decide_eq_true_eq]; exact c1
  rw [d1]
  go_wp2_with (fail)
  refine (frame_c _ _).mono ?_
  rintro e w1 ⟨rfl, hw⟩
  rw [hw]
  clear hw w1
  by_cases c2 : 0 ≤ f ∧ f ≤ 1000000
  case neg =>
    have d : decide (0 ≤ f ∧ f ≤ 1000000) = false := by rw [decide_eq_false_iff_not]; exact c2
    have HF : Hid (hopR s f c = -1) := HN.out (by rw [HE.out, d]; simp)
    rw [d]
    clear c2 d
    go_wp2
    go_ret
    exact ⟨ret_int HF.out.symm, rfl⟩
  have d2 : decide (0 ≤ f ∧ f ≤ 1000000) = true := by rw [decide_eq_true_eq]; exact c2
  rw [d2]
  go_wp2_with (fail)
  refine (within_c _ _ _ _).mono ?_
  rintro e w1 ⟨rfl, hw⟩
  rw [hw]
  clear hw w1
  by_cases c3 : 1 ≤ c ∧ c ≤ 64
  case neg =>
    have d : decide (1 ≤ c ∧ c ≤ 64) = false := by rw [decide_eq_false_iff_not]; exact c3
    have HF : Hid (hopR s f c = -1) := HN.out (by rw [HE.out, d]; simp)
    rw [d]
    clear c3 d
    go_wp2
    go_ret
    exact ⟨ret_int HF.out.symm, rfl⟩
  have d3 : decide (1 ≤ c ∧ c ≤ 64) = true := by rw [decide_eq_true_eq]; exact c3
  have HT : Hid (hopR s f c = xo (hopX s f) (hopX s f / 256) * c / 65536) := HP.out (by rw [HE.out, d1, d2, d3]; rfl)
  rw [d3]
  obtain ⟨x, hx⟩ : ∃ x, (s + 40503 * f) % 65536 = x := ⟨_, rfl⟩
  have hx0 : 0 ≤ x := by omega
  have hx1 : x ≤ 65535 := by omega
  have HX : Hid (hopX s f = x) := by show hopX s f = x; unfold hopX; exact hx
  obtain ⟨y, hy⟩ : ∃ y, xo x (x / 256) = y := ⟨_, rfl⟩
  have hyb := xo_bd x (x / 256) hx0 hx1 (by omega) (by omega)
  rw [hy] at hyb
  have HY : Hid (xo x (x / 256) = y) := hy
  have hy' : bits .xor .i64 x (x / 256) = y := hy
  have hy0 := hyb.1
  have hy1 := hyb.2
  have hm0 : 0 ≤ y * c := Int.mul_nonneg hy0 (by omega)
  have hm1 : y * c ≤ 65535 * 64 := by
    have := Int.mul_le_mul hy1 c3.2 (by omega) (by omega); simpa using this
  have hcc := c3.1
  have hs0 := c1.1
  have hs1 := c1.2
  have hf0 := c2.1
  have hf1 := c2.2
  clear c1 c2 d1 d2 d3 hyb hy HE HN HP
  have HM : Hid (0 ≤ y * c ∧ y * c ≤ 65535 * 64) := ⟨hm0, hm1⟩
  have hx' : (40503 * f + s) % 65536 = x := by omega
  go_wp2
  go_ret
  exact ⟨by rw [HT.out, HX.out, HY.out]; first | rfl | simp_all, rfl⟩

set_option maxHeartbeats 3200000 in
theorem hopM_c (s f c : Int) (w : World) : Calls Try.prog 9 #[.int .i64 s, .int .i64 f, .int .i64 c] w fun e w' => e = .returned (.int .i64 (hopR s f c)) ∧ w' = w := by
  have HE : Hid (hopB s f c = (decide (0 ≤ s ∧ s ≤ 65535) && decide (0 ≤ f ∧ f ≤ 1000000) && decide (1 ≤ c ∧ c ≤ 64))) := rfl
  have HN : Hid (hopB s f c = false → hopR s f c = -1) := fun e => by unfold hopR; rw [e]; rfl
  have HP : Hid (hopB s f c = true → hopR s f c = xo (hopX s f) (hopX s f / 256) * c / 65536) := fun e => by unfold hopR; rw [e]; rfl
  go_enter Try.func9, Try.ntmps9
  go_wp2_with (fail)
  refine (in_c _ _ _ _).mono ?_
  rintro e w1 ⟨rfl, hw⟩
  rw [hw]
  clear hw w1
  by_cases c1 : 0 ≤ s ∧ s ≤ 65535
  case neg =>
    have d : decide (0 ≤ s ∧ s ≤ 65535) = false := by rw [decide_eq_false_iff_not]; exact c1
    have HF : Hid (hopR s f c = -1) := HN.out (by rw [HE.out, d]; simp)
    rw [d]
    clear c1 d
    go_wp2
    go_ret
    exact ⟨ret_int HF.out.symm, rfl⟩
  have d1 : decide (0 ≤ s ∧ s ≤ 65535) = true := by rw [decide_eq_true_eq]; exact c1
  rw [d1]
  go_wp2_with (fail)
  refine (in_c _ _ _ _).mono ?_
  rintro e w1 ⟨rfl, hw⟩
  rw [hw]
  clear hw w1
  by_cases c2 : 0 ≤ f ∧ f ≤ 1000000
  case neg =>
    have d : decide (0 ≤ f ∧ f ≤ 1000000) = false := by rw [decide_eq_false_iff_not]; exact c2
    have HF : Hid (hopR s f c = -1) := HN.out (by rw [HE.out, d]; simp)
    rw [d]
    clear c2 d
    go_wp2
    go_ret
    exact ⟨ret_int HF.out.symm, rfl⟩
  have d2 : decide (0 ≤ f ∧ f ≤ 1000000) = true := by rw [decide_eq_true_eq]; exact c2
  rw [d2]
  go_wp2_with (fail)
  refine (in_c _ _ _ _).mono ?_
  rintro e w1 ⟨rfl, hw⟩
  rw [hw]
  clear hw w1
  by_cases c3 : 1 ≤ c ∧ c ≤ 64
  case neg =>
    have d : decide (1 ≤ c ∧ c ≤ 64) = false := by rw [decide_eq_false_iff_not]; exact c3
    have HF : Hid (hopR s f c = -1) := HN.out (by rw [HE.out, d]; simp)
    rw [d]
    clear c3 d
    go_wp2
    go_ret
    exact ⟨ret_int HF.out.symm, rfl⟩
  have d3 : decide (1 ≤ c ∧ c ≤ 64) = true := by rw [decide_eq_true_eq]; exact c3
  have HT : Hid (hopR s f c = xo (hopX s f) (hopX s f / 256) * c / 65536) := HP.out (by rw [HE.out, d1, d2, d3]; rfl)
  rw [d3]
  obtain ⟨x, hx⟩ : ∃ x, (s + 40503 * f) % 65536 = x := ⟨_, rfl⟩
  have hx0 : 0 ≤ x := by omega
  have hx1 : x ≤ 65535 := by omega
  have HX : Hid (hopX s f = x) := by show hopX s f = x; unfold hopX; exact hx
  obtain ⟨y, hy⟩ : ∃ y, xo x (x / 256) = y := ⟨_, rfl⟩
  have hyb := xo_bd x (x / 256) hx0 hx1 (by omega) (by omega)
  rw [hy] at hyb
  have HY : Hid (xo x (x / 256) = y) := hy
  have hy' : bits .xor .i64 x (x / 256) = y := hy
  have hy0 := hyb.1
  have hy1 := hyb.2
  have hm0 : 0 ≤ y * c := Int.mul_nonneg hy0 (by omega)
  have hm1 : y * c ≤ 65535 * 64 := by
    have := Int.mul_le_mul hy1 c3.2 (by omega) (by omega); simpa using this
  have hcc := c3.1
  have hs0 := c1.1
  have hs1 := c1.2
  have hf0 := c2.1
  have hf1 := c2.2
  clear c1 c2 d1 d2 d3 hyb hy HE HN HP
  have HM : Hid (0 ≤ y * c ∧ y * c ≤ 65535 * 64) := ⟨hm0, hm1⟩
  have hx' : (40503 * f + s) % 65536 = x := by omega
  go_wp2
  go_ret
  exact ⟨by rw [HT.out, HX.out, HY.out]; first | rfl | simp_all, rfl⟩

theorem hopLaw (s f c : Int) (w : World) (h0 : (Lit.int .i64 s).wf = true) (h1 : (Lit.int .i64 f).wf = true) (h2 : (Lit.int .i64 c).wf = true) : Calls Try.prog 5 #[.int .i64 s, .int .i64 f, .int .i64 c] w fun e w' => e = .returned (.bool true) ∧ Below w.heap.size w w' := by
  go_enter Try.func5, Try.ntmps5
  go_wp2_with (fail)
  refine (hopM_c s f c w).mono ?_
  rintro e w1 ⟨rfl, hw⟩
  rw [hw]
  clear hw w1
  go_wp2_with (fail)
  refine (hopI_c s f c w).mono ?_
  rintro e w1 ⟨rfl, hw⟩
  rw [hw]
  clear hw w1
  have hne : (hopR s f c != hopR s f c) = false := by simp
  go_wp2
  go_ret
  exact ⟨rfl, Below.refl _ _⟩

end Go.Proofs.Ytpkkmlgmdhcehaa

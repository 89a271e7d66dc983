/- Finite floats; no condition. -/
import Derived.Test.YtmhpfbcdikldcaaSmp
namespace Go.Proofs.Ytmhpfbcdikldcaa
open Go.RowKit Go.ChangeShapes Go.WideShapes Go.ChangeAt
set_option linter.unusedVariables false
set_option linter.unusedSimpArgs false
set_option maxRecDepth 8000
/-- whether it is finite -/
def finB (x : Nat) : Bool := match FloatKind.f64.decode x with
  | .number .. => true
  | _ => false
theorem fin_sub (x : Nat) (w : World) : (FloatKind.f64.format.order (fv .sub .f64 x x w) 0 == some .eq) = finB x := by
  rw [order_fc, fc_fv]
  unfold finB FloatKind.decode
  cases h : FloatKind.f64.format.read x with
  | nan s t =>
    rw [fc_none (k := .f64) (b := x) (by simp [fnan, FloatKind.decode, h, Ieee.Datum.isNaN])]
    rfl
  | infinity s =>
    rw [fc_some (k := .f64) (b := x) (by simp [fnan, FloatKind.decode, h, Ieee.Datum.isNaN])]
    have : floatBits .sub .f64 x x = none := by
      simp [floatBits, Ieee.Format.sub, h, Ieee.Datum.opposite, Ieee.Datum.sum]
    simp [fo, this, ford]
  | number s m p =>
    rw [fc_some (k := .f64) (b := x) (by simp [fnan, FloatKind.decode, h, Ieee.Datum.isNaN])]
    have : floatBits .sub .f64 x x = some 0 := by
      simp only [floatBits, Ieee.Format.sub, h, Ieee.Datum.opposite, Ieee.Datum.sum, Option.map_some, Option.some.injEq]
      have e : Ieee.signed s m (p - min p p).toNat + Ieee.signed (!s) m (p - min p p).toNat = 0 := by
        cases s <;> simp [Ieee.signed] <;> omega
      simp only [e, if_true, Int.natAbs_zero]
      cases s <;> (unfold Ieee.Format.write Ieee.Format.nearest; rfl)
    have z : fc .f64 0 = some 0 := fc_some (by decide)
    simp only [fo, this, z, ford]
    decide
theorem neg_lt (b : Nat) : (2:Nat) ^ 63 = 9223372036854775808 := by decide
theorem sw64 : FloatKind.f64.format.signWeight = 9223372036854775808 := by decide
theorem ir64 : FloatKind.f64.format.infRung = 9218868437227405312 := by decide
theorem bi64 : FloatKind.f64.format.binade = 4503599627370496 := by decide
theorem lp64 : FloatKind.f64.format.leastPlace = -1074 := by decide
/-- what the bits without their sign stand for -/
theorem read_abs {x : Nat} {s : Bool} {m : Nat} {p : Int} (h : FloatKind.f64.format.read x = .number s m p) : FloatKind.f64.format.read (x % 2 ^ 63) = .number false m p ∧ m ≤ 9007199254740991 ∧ p ≤ 971 := by
  have e : (2:Nat) ^ 63 = 9223372036854775808 := by decide
  unfold Ieee.Format.read at h ⊢
  simp only [sw64, ir64, bi64, lp64, e] at h ⊢
  have hr : x % 9223372036854775808 < 9223372036854775808 := Nat.mod_lt _ (by omega)
  have h1 : x % 9223372036854775808 / 9223372036854775808 = 0 := Nat.div_eq_of_lt hr
  rw [Nat.mod_mod, h1]
  generalize x % 9223372036854775808 = r at h hr h1 ⊢
  split at h
  · rename_i h2
    simp only [Ieee.Datum.number.injEq] at h
    obtain ⟨_, rfl, rfl⟩ := h
    exact ⟨by rw [if_pos h2]; rfl, by omega, by omega⟩
  · split at h
    · rename_i h2 h3
      simp only [Ieee.Datum.number.injEq] at h
      obtain ⟨_, rfl, rfl⟩ := h
      have := Nat.mod_lt r (show 0 < 4503599627370496 by omega)
      exact ⟨by rw [if_neg h2, if_pos h3]; rfl, by omega, by omega⟩
    · split at h <;> cases h
theorem read_abs_inf {x : Nat} {s : Bool} (h : FloatKind.f64.format.read x = .infinity s) : FloatKind.f64.format.read (x % 2 ^ 63) = .infinity false := by
  have e : (2:Nat) ^ 63 = 9223372036854775808 := by decide
  unfold Ieee.Format.read at h ⊢
  simp only [sw64, ir64, bi64, lp64, e] at h ⊢
  have hr : x % 9223372036854775808 < 9223372036854775808 := Nat.mod_lt _ (by omega)
  have h1 : x % 9223372036854775808 / 9223372036854775808 = 0 := Nat.div_eq_of_lt hr
  rw [Nat.mod_mod, h1]
  generalize x % 9223372036854775808 = r at h hr h1 ⊢
  split at h
  · cases h
  · rename_i h2
    split at h
    · cases h
    · rename_i h3
      split at h
      · rename_i h4; rw [if_neg h2, if_neg h3, if_pos h4]; rfl
      · cases h
theorem read_max : FloatKind.f64.format.read 9218868437227405311 = .number false 9007199254740991 971 := by decide
/-- greater than the greatest: where it is no NaN -/
theorem inf_cmp {x : Nat} (hn : fnan .f64 x = false) : (FloatKind.f64.format.order (x % 2 ^ 63) 9218868437227405311 == some .gt) = !finB x := by
  unfold fnan FloatKind.decode at hn
  unfold finB FloatKind.decode Ieee.Format.order
  rw [read_max]
  cases h : FloatKind.f64.format.read x with
  | nan s t => simp [h, Ieee.Datum.isNaN] at hn
  | infinity s => rw [read_abs_inf h]; rfl
  | number s m p =>
    obtain ⟨h1, h2, h3⟩ := read_abs h
    rw [h1]
    simp only [Ieee.Datum.order, Bool.not_true]
    rw [show min p 971 = p by omega]
    have e1 : Ieee.signed false m (p - p).toNat = (m : Int) := by simp [Ieee.signed]
    have e2 : (m : Int) ≤ Ieee.signed false 9007199254740991 (971 - p).toNat := by
      simp only [Ieee.signed, Bool.false_eq_true, if_false]
      rw [Nat.shiftLeft_eq]
      have := Nat.le_mul_of_pos_right 9007199254740991 (Nat.two_pow_pos (971 - p).toNat)
      omega
    rw [e1]
    have : compare (m : Int) (Ieee.signed false 9007199254740991 (971 - p).toNat) ≠ .gt := by
      rw [Ne, Int.compare_eq_gt]; omega
    simpa using this

/-- the size of a float, as the model works it out -/
def szF (x : Nat) : Nat := if FloatKind.f64.format.order x 0 == some .lt then Op.negFloat .f64 x else x
theorem xor_top (x : Nat) (h : x < 2 ^ 64) : (x ^^^ 2 ^ 63) % 2 ^ 63 = x % 2 ^ 63 := by
  apply Nat.eq_of_testBit_eq
  intro i
  simp only [Nat.testBit_mod_two_pow, Nat.testBit_xor, Nat.testBit_two_pow]
  by_cases hi : i < 63
  · have : ¬ (63 = i) := by omega
    simp [hi, this]
  · simp [hi]
theorem read_zero : FloatKind.f64.format.read 0 = .number false 0 (-1074) := by decide
/-- a number's size stands for the number without its sign -/
theorem read_sz {x : Nat} (hx : x < 2 ^ 64) {s : Bool} {m : Nat} {p : Int} (h : FloatKind.f64.format.read x = .number s m p) : ∃ s', FloatKind.f64.format.read (szF x) = .number s' m p ∧ (s' = true → m = 0) := by
  have e63 : (2:Nat) ^ 63 = 9223372036854775808 := by decide
  have hneg : FloatKind.f64.format.read (Op.negFloat .f64 x) = .number (!s) m p := by
    have e1 : Op.negFloat .f64 x = x ^^^ 2 ^ 63 := rfl
    rw [e1]
    have h1 := xor_top x hx
    have h2 : (x ^^^ 2 ^ 63) / 2 ^ 63 % 2 = 1 - x / 2 ^ 63 % 2 := by
      have a1 : ((x ^^^ 2 ^ 63) / 2 ^ 63 % 2 = 1) ↔ ¬ (x / 2 ^ 63 % 2 = 1) := by
        have t1 := Nat.testBit_eq_decide_div_mod_eq (x := x ^^^ 2 ^ 63) (i := 63)
        have t2 := Nat.testBit_eq_decide_div_mod_eq (x := x) (i := 63)
        have t3 : (x ^^^ 2 ^ 63).testBit 63 = !x.testBit 63 := by rw [Nat.testBit_xor, Nat.testBit_two_pow]; simp
        rw [t1, t2] at t3
        constructor
        · intro h h'
          rw [decide_eq_true h, decide_eq_true h'] at t3
          cases t3
        · intro h
          rw [decide_eq_false h] at t3
          exact of_decide_eq_true t3
      omega
    unfold Ieee.Format.read at h ⊢
    simp only [sw64, ir64, bi64, lp64] at h ⊢
    rw [e63] at h1 h2
    rw [show (2:Nat) ^ 63 = 9223372036854775808 from e63, h1, h2]
    generalize x % 9223372036854775808 = r at h ⊢
    have hb : (1 - x / 9223372036854775808 % 2 == 1) = !(x / 9223372036854775808 % 2 == 1) := by
      have : x / 9223372036854775808 % 2 = 0 ∨ x / 9223372036854775808 % 2 = 1 := by omega
      rcases this with h | h <;> rw [h] <;> rfl
    rw [hb]
    generalize (x / 9223372036854775808 % 2 == 1) = q at h ⊢
    split at h
    · rename_i h3
      simp only [Ieee.Datum.number.injEq] at h
      obtain ⟨rfl, rfl, rfl⟩ := h
      rw [if_pos h3]
    · rename_i h3
      split at h
      · rename_i h4
        simp only [Ieee.Datum.number.injEq] at h
        obtain ⟨rfl, rfl, rfl⟩ := h
        rw [if_neg h3, if_pos h4]
      · split at h <;> cases h
  have hord : FloatKind.f64.format.order x 0 = some (compare (Ieee.signed s m (p - min p (-1074)).toNat) 0) := by
    unfold Ieee.Format.order
    rw [h, read_zero]
    simp only [Ieee.Datum.order]
    congr 2
    simp [Ieee.signed]
  unfold szF
  rw [hord]
  by_cases hm : m = 0
  · subst hm
    split
    · exact ⟨_, hneg, fun _ => rfl⟩
    · exact ⟨_, h, fun _ => rfl⟩
  · have hpos : 0 < m <<< (p - min p (-1074)).toNat := by
      rw [Nat.shiftLeft_eq]
      exact Nat.mul_pos (by omega) (Nat.two_pow_pos _)
    cases s
    · have : compare (Ieee.signed false m (p - min p (-1074)).toNat) 0 = .gt := by
        rw [Int.compare_eq_gt]; simp only [Ieee.signed, Bool.false_eq_true, if_false]; omega
      rw [this]
      exact ⟨false, h, fun h => by cases h⟩
    · have : compare (Ieee.signed true m (p - min p (-1074)).toNat) 0 = .lt := by
        rw [Int.compare_eq_lt]; simp only [Ieee.signed, if_true]; omega
      rw [this]
      exact ⟨false, hneg, fun h => by cases h⟩
/-- both ways to hold sizes against each other are alike -/
theorem ge_sz {c d : Nat} (hc : c < 2 ^ 64) (hd : d < 2 ^ 64) (fc' : finB c = true) (fd : finB d = true) : (FloatKind.f64.format.order (szF c) (szF d) == some .gt || FloatKind.f64.format.order (szF c) (szF d) == some .eq) = absGe c d := by
  unfold absGe Op.Complex.abs
  unfold finB FloatKind.decode at fc' fd
  cases h1 : FloatKind.f64.format.read c <;> rw [h1] at fc' <;> first | (cases fc'; done) | skip
  cases h2 : FloatKind.f64.format.read d <;> rw [h2] at fd <;> first | (cases fd; done) | skip
  rename_i s m p t n q
  obtain ⟨s', r1, z1⟩ := read_sz hc h1
  obtain ⟨t', r2, z2⟩ := read_sz hd h2
  have a1 := (read_abs h1).1
  have a2 := (read_abs h2).1
  have key : FloatKind.f64.format.order (szF c) (szF d) = FloatKind.f64.format.order (c % 2 ^ 63) (d % 2 ^ 63) := by
    unfold Ieee.Format.order
    rw [r1, r2, a1, a2]
    simp only [Ieee.Datum.order]
    have g : ∀ (s' : Bool) (m k : Nat), (s' = true → m = 0) → Ieee.signed s' m k = Ieee.signed false m k := by
      intro s' m k h
      cases s'
      · rfl
      · rw [h rfl]; simp [Ieee.signed]
    rw [g _ _ _ z1, g _ _ _ z2]
  rw [key]
end Go.Proofs.Ytmhpfbcdikldcaa

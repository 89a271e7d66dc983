/- Conversions from single to double precision, and complex sums and products, as what the parts are; no condition. -/
import Derived.Test.YtmhpfbcdikldcaaFlo
namespace Go.Proofs.Ytmhpfbcdikldcaa
open Go.RowKit Go.ChangeShapes Go.WideShapes Go.ChangeAt
set_option linter.unusedVariables false
set_option linter.unusedSimpArgs false
set_option maxRecDepth 8000
/-- single to double: the bits, as they are told where it is no NaN -/
def wid (b : Nat) : Nat := FloatKind.f64.encode (FloatKind.f32.decode b)
def wv (b : Nat) (w : World) : Nat := if fnan .f32 b then Question.cut (.nanConv .f64 b) (w.tape w.drawn (.nanConv .f64 b)) else wid b
def wn (b : Nat) : Nat := if fnan .f32 b then 1 else 0
theorem log2_le23 {m : Nat} (h : m < 16777216) : m.log2 ≤ 23 := by
  by_cases h0 : m = 0
  · subst h0; decide
  · have := (Nat.log2_lt h0 (k := 24)).2 (by simpa using h)
    omega
/-- a number of single precision is one of double precision -/
theorem wid_fin (s : Bool) (m : Nat) (p : Int) (hm : m < 16777216) (hp : p ≤ 104) (hp0 : -149 ≤ p) : (FloatKind.f64.decode (FloatKind.f64.encode (.number s m p))).isInfinity = false := by
  have e : FloatKind.f64.format = Ieee.double := rfl
  have e1 : Ieee.double.signWeight = 9223372036854775808 := by decide
  have e2 : Ieee.double.binade = 4503599627370496 := by decide
  have e3 : Ieee.double.infRung = 9218868437227405312 := by decide
  have e4 : Ieee.double.leastPlace = -1074 := by decide
  have e5 : Ieee.double.fractionBits = 52 := rfl
  unfold FloatKind.decode FloatKind.encode
  rw [e]
  have key : ∃ r, r < Ieee.double.infRung ∧ Ieee.double.write (.number s m p) = Ieee.double.word s r := by
    unfold Ieee.Format.write Ieee.Format.nearest
    dsimp only
    by_cases h0 : m = 0
    · rw [if_pos h0]; exact ⟨0, by rw [e3]; omega, rfl⟩
    · rw [if_neg h0]
      refine ⟨_, ?_, rfl⟩
      have hl := log2_le23 hm
      have hlast : max (p + (m.log2 : Int) - Ieee.double.fractionBits) Ieee.double.leastPlace ≤ p := by rw [e4, e5]; omega
      generalize hL : max (p + (m.log2 : Int) - Ieee.double.fractionBits) Ieee.double.leastPlace = L at hlast ⊢
      have hd : (L - p).toNat = 0 := by omega
      rw [hd]
      have hk : Ieee.Toward.even.cut s (m <<< (p - L).toNat) 0 = m <<< (p - L).toNat := by
        simp [Ieee.Toward.cut, Nat.mod_one]
      rw [hk]
      have hsh : (p - L).toNat ≤ 52 - m.log2 := by rw [e4, e5] at hL; omega
      have h1 : m <<< (p - L).toNat < 2 ^ 53 := by
        rw [Nat.shiftLeft_eq]
        have h2 : m < 2 ^ (m.log2 + 1) := Nat.lt_log2_self
        have h3 : m * 2 ^ (p - L).toNat < 2 ^ (m.log2 + 1) * 2 ^ (p - L).toNat := Nat.mul_lt_mul_of_pos_right h2 (Nat.two_pow_pos _)
        rw [← Nat.pow_add] at h3
        exact Nat.lt_of_lt_of_le h3 (Nat.pow_le_pow_right (by omega) (by omega))
      have hLm : (L - Ieee.double.leastPlace).toNat ≤ 1178 := by rw [e4, e5] at hL; rw [e4]; omega
      have e6 : (2:Nat) ^ 53 = 9007199254740992 := by decide
      rw [e6] at h1
      rw [e2, e3]
      generalize m <<< (p - L).toNat = K at h1 ⊢
      generalize (L - Ieee.double.leastPlace).toNat = X at hLm ⊢
      clear e e1 e2 e3 e4 e5 e6 hsh hd hlast hL hl h0
      omega
  obtain ⟨r, hr, hw⟩ := key
  rw [hw]
  have h2 : Ieee.double.word s r % Ieee.double.signWeight = r := by
    have := Ieee.double.infRung_lt
    unfold Ieee.Format.word
    split
    · rw [Nat.add_mod_left, Nat.mod_eq_of_lt (by omega)]
    · rw [Nat.mod_eq_of_lt (by omega)]
  unfold Ieee.Format.read
  simp only [h2]
  split
  · rfl
  · first | rfl | (rw [if_pos hr]; rfl)
/-- the number that a word of single precision stands for is a small one -/
theorem single_read {b : Nat} {s : Bool} {m : Nat} {p : Int} (h : FloatKind.f32.decode b = .number s m p) : m < 16777216 ∧ p ≤ 104 ∧ -149 ≤ p := by
  have e : FloatKind.f32.format = Ieee.single := rfl
  have e1 : Ieee.single.signWeight = 2147483648 := by decide
  have e2 : Ieee.single.binade = 8388608 := by decide
  have e3 : Ieee.single.infRung = 2139095040 := by decide
  have e4 : Ieee.single.leastPlace = -149 := by decide
  unfold FloatKind.decode Ieee.Format.read at h
  simp only [e, e1, e2, e3, e4] at h
  have hr : b % 2147483648 < 2147483648 := Nat.mod_lt _ (by omega)
  generalize b % 2147483648 = r at h hr
  split at h
  · cases h; omega
  · split at h
    · simp only [Ieee.Datum.number.injEq] at h
      obtain ⟨_, h1, h2⟩ := h
      have := Nat.mod_lt r (show 0 < 8388608 by omega)
      omega
    · split at h <;> cases h
theorem fc_wv (b : Nat) (w : World) : fc .f64 (wv b w) = (fc .f32 b).map wid := by
  rcases fc_cases .f32 b with ⟨h1, h2⟩ | ⟨h1, h2⟩
  · rw [h2]; simp only [wv, h1, if_true, Option.map_none]; exact fc_none (cut_nanC ..)
  · rw [h2]; simp only [wv, h1, Option.map_some]
    refine fc_some (nan_write _ _ ?_)
    exact h1
section
variable {P : Program}
theorem run_wid (b : Nat) (w : World) : (Conv.floatToFloat .f32 b .f64).run P w = .ok (.float .f64 (wv b w)) (w.drewN (wn b)) := by
  unfold Conv.floatToFloat
  rw [if_neg (by decide)]
  cases h : FloatKind.f32.decode b with
  | nan s t =>
    have hn : fnan .f32 b = true := by simp [fnan, h, Ieee.Datum.isNaN]
    simp [wv, wn, hn, run_choose_drew, Question.forced, World.drew_is_drewN]
  | infinity s =>
    have hn : fnan .f32 b = false := by simp [fnan, h, Ieee.Datum.isNaN]
    simp [wv, wn, hn, wid, h, World.drewN_zero]
  | number s m p =>
    have hn : fnan .f32 b = false := by simp [fnan, h, Ieee.Datum.isNaN]
    obtain ⟨h1, h2, h3⟩ := single_read h
    simp [wv, wn, hn, wid, h, World.drewN_zero, wid_fin s m p h1 h2 h3]
/-- 'float64(x)' of a float32 -/
theorem run_conv_wid (src dst : TypeId) (b : Nat) (w : World) (hs : (P.underlying src).isSome = true) (hd : P.underlying dst = some (.float .f64)) : (convert src dst (.float .f32 b)).run P w = .ok (.float .f64 (wv b w)) (w.drewN (wn b)) := by
  obtain ⟨u, hs'⟩ := Option.isSome_iff_exists.1 hs
  cases u <;> simp [convert, run_underlying hs', run_underlying hd, run_wid]
/-- 'float64(x)' of a float64 -/
theorem run_conv_same (src dst : TypeId) (k : FloatKind) (b : Nat) (w : World) (hs : (P.underlying src).isSome = true) (hd : P.underlying dst = some (.float k)) : (convert src dst (.float k b)).run P w = .ok (.float k b) w := by
  obtain ⟨u, hs'⟩ := Option.isSome_iff_exists.1 hs
  cases u <;> simp [convert, run_underlying hs', run_underlying hd, Conv.floatToFloat]
/-- 'complex128(z)' of a complex64 -/
theorem run_conv_cwid (src dst : TypeId) (a b : Nat) (w : World) (hs : (P.underlying src).isSome = true) (hd : P.underlying dst = some (.complex .f64)) : (convert src dst (.complex .f32 a b)).run P w = .ok (.complex .f64 (wv a w) (wv b (w.drewN (wn a)))) (w.drewN (wn a + wn b)) := by
  obtain ⟨u, hs'⟩ := Option.isSome_iff_exists.1 hs
  cases u <;> simp [convert, run_underlying hs', run_underlying hd, Conv.complexToComplex, run_wid, World.drewN_drewN]
theorem run_cop (op : BinOp) (hop : op = .add ∨ op = .sub) (t : TypeId) (k : FloatKind) (a b c d : Nat) (w : World) : (binOp op t (.complex k a b) (.complex k c d)).run P w = .ok (.complex k (fv op k a c w) (fv op k b d (w.drewN (fn op k a c)))) (w.drewN (fn op k a c + fn op k b d)) := by
  rcases hop with rfl | rfl <;> simp [binOp, Op.complexOp, Op.Complex.arith, run_fa, World.drewN_drewN]
/-- '*' of complex128: what it leaves is what the four products, the difference and the sum leave -/
theorem run_cmul (t : TypeId) (a b c d : Nat) (w : World) : ∃ re im n, (binOp .mul t (.complex .f64 a b) (.complex .f64 c d)).run P w = .ok (.complex .f64 re im) (w.drewN n) ∧
    fc .f64 re = fo .sub .f64 (fo .mul .f64 (fc .f64 a) (fc .f64 c)) (fo .mul .f64 (fc .f64 b) (fc .f64 d)) ∧ fc .f64 im = fo .add .f64 (fo .mul .f64 (fc .f64 a) (fc .f64 d)) (fo .mul .f64 (fc .f64 b) (fc .f64 c)) := by
  have hrun : ∀ op x y (w : World), (op = .add ∨ op = .sub ∨ op = .mul ∨ op = .quo) → (Op.Complex.arith op .f64 x y).run P w = .ok (fv op .f64 x y w) (w.drewN (fn op .f64 x y)) := by
    intro op x y w h
    simp [Op.Complex.arith, run_fa op h]
  have hA : ∀ x y (w : World), (Op.Complex.add x y).run P w = .ok (fv .add .f64 x y w) (w.drewN (fn .add .f64 x y)) := fun x y w => hrun _ x y w (by simp)
  have hS : ∀ x y (w : World), (Op.Complex.sub x y).run P w = .ok (fv .sub .f64 x y w) (w.drewN (fn .sub .f64 x y)) := fun x y w => hrun _ x y w (by simp)
  have hM : ∀ x y (w : World), (Op.Complex.mul x y).run P w = .ok (fv .mul .f64 x y w) (w.drewN (fn .mul .f64 x y)) := fun x y w => hrun _ x y w (by simp)
  have key : ∃ re im n, (Op.Complex.product a b c d).run P w = .ok (re, im) (w.drewN n) ∧
    fc .f64 re = fo .sub .f64 (fo .mul .f64 (fc .f64 a) (fc .f64 c)) (fo .mul .f64 (fc .f64 b) (fc .f64 d)) ∧ fc .f64 im = fo .add .f64 (fo .mul .f64 (fc .f64 a) (fc .f64 d)) (fo .mul .f64 (fc .f64 b) (fc .f64 c)) := by
    unfold Op.Complex.product
    simp only [Sem.run_bind, hM, hS, hA, Result.andThen_ok, Sem.run_pure, World.drewN_drewN]
    refine ⟨_, _, _, rfl, ?_, ?_⟩
    · simp only [fc_fv]
    · simp only [fc_fv]
  obtain ⟨re, im, n, h1, h2, h3⟩ := key
  refine ⟨re, im, n, ?_, h2, h3⟩
  simp [binOp, Op.complexOp, Op.Complex.conv, h1]
end
end Go.Proofs.Ytmhpfbcdikldcaa

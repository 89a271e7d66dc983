/- Numbers by powers of two, in floats; no condition. -/
import Derived.Test.YtomgdlnpajfjhaaExa
import Derived.Test.YtomgdlnpajfjhaaLea
namespace Go.Proofs.Ytomgdlnpajfjhaa
open Go.RowKit Go.ChangeShapes Go.WideShapes Go.ChangeAt
set_option linter.unusedVariables false
set_option linter.unusedSimpArgs false
set_option maxRecDepth 8000

/-- what a format must be for numbers below 2 ^ (F + 1), by 2 ^ e, to be its own -/
structure FitE (f : Ieee.Format) (e : Nat) : Prop where
  lp : f.leastPlace ≤ -(f.fractionBits : Int) - e
  top : (-f.leastPlace).toNat + 3 ≤ 2 ^ f.exponentBits
theorem fitE (k : FloatKind) (e : Nat) (h : e ≤ 40) : FitE k.format e := by
  cases k
  · have : (FloatKind.f32.format).leastPlace = -149 := by decide
    have h2 : (FloatKind.f32.format).fractionBits = 23 := by decide
    exact ⟨by rw [this, h2]; omega, by decide⟩
  · have : (FloatKind.f64.format).leastPlace = -1074 := by decide
    have h2 : (FloatKind.f64.format).fractionBits = 52 := by decide
    exact ⟨by rw [this, h2]; omega, by decide⟩
/-- the same number, its digits moved -/
theorem nearest_shiftE {f : Ieee.Format} {e : Nat} (hf : FitE f e) (s : Bool) (n k : Nat) (hn : n < 2 ^ (f.fractionBits + 1)) : f.nearest s (n <<< k) (-((e + k : Nat) : Int)) = f.nearest s n (-(e : Int)) := by
  by_cases h : n = 0
  · subst h; simp [Ieee.Format.nearest]
  have h1 : n <<< k ≠ 0 := by rw [Nat.shiftLeft_eq]; exact Nat.mul_ne_zero h (Nat.pos_iff_ne_zero.1 (Nat.two_pow_pos _))
  have he : n.log2 ≤ f.fractionBits := by
    have := (Nat.log2_lt h (k := f.fractionBits + 1)).2 hn
    omega
  have hlp := hf.lp
  unfold Ieee.Format.nearest
  rw [if_neg h, if_neg h1, log2_shift n k h]
  dsimp only
  have e1 : max (-((e + k : Nat) : Int) + ((n.log2 + k : Nat) : Int) - (f.fractionBits : Int)) f.leastPlace = (n.log2 : Int) - e - f.fractionBits := by omega
  have e2 : max (-(e : Int) + (n.log2 : Int) - (f.fractionBits : Int)) f.leastPlace = (n.log2 : Int) - e - f.fractionBits := by omega
  rw [e1, e2]
  have e3 : ((n.log2 : Int) - e - f.fractionBits - -(e : Int)).toNat = 0 := by omega
  have e4 : (-(e : Int) - ((n.log2 : Int) - e - f.fractionBits)).toNat = f.fractionBits - n.log2 := by omega
  rw [e3, e4, cut_zero]
  by_cases hk : k ≤ f.fractionBits - n.log2
  · have e5 : ((n.log2 : Int) - e - f.fractionBits - -((e + k : Nat) : Int)).toNat = 0 := by omega
    have e6 : (-((e + k : Nat) : Int) - ((n.log2 : Int) - e - f.fractionBits)).toNat = f.fractionBits - n.log2 - k := by omega
    rw [e5, e6, cut_zero, ← Nat.shiftLeft_add]
    congr 4
    omega
  · have e5 : ((n.log2 : Int) - e - f.fractionBits - -((e + k : Nat) : Int)).toNat = k - (f.fractionBits - n.log2) := by omega
    have e6 : (-((e + k : Nat) : Int) - ((n.log2 : Int) - e - f.fractionBits)).toNat = 0 := by omega
    rw [e5, e6, Nat.shiftLeft_zero, cut_exact s n k _ h (by omega)]
    congr 4
    omega
/-- a whole number, written and read again -/
theorem read_nearestE {f : Ieee.Format} {e : Nat} (hf : FitE f e) (s : Bool) (n : Nat) (hn : n < 2 ^ (f.fractionBits + 1)) : ∃ k : Nat, f.read (f.nearest s n (-(e : Int))) = .number s (n <<< k) (-((e + k : Nat) : Int)) ∧ (f.nearest s n (-(e : Int))) % f.signWeight < f.infRung := by
  have hlp := hf.lp
  have hbin : f.binade = 2 ^ f.fractionBits := rfl
  have hbp := Nat.two_pow_pos f.fractionBits
  have hir : f.infRung = (2 ^ f.exponentBits - 1) * f.binade := rfl
  have htop := hf.top
  have hsw := f.infRung_lt
  by_cases h : n = 0
  · subst h
    refine ⟨(-f.leastPlace).toNat - e, ?_, ?_⟩
    all_goals
      have e0 : f.nearest s 0 (-(e : Int)) = f.word s 0 := by simp [Ieee.Format.nearest]
      have e1 : f.word s 0 % f.signWeight = 0 := by unfold Ieee.Format.word; cases s <;> simp
      have hpos : 0 < f.infRung := by rw [hir, hbin]; exact Nat.mul_pos (by omega) hbp
    · rw [e0]
      unfold Ieee.Format.read
      simp only [e1]
      have e2 : (f.word s 0 / f.signWeight % 2 == 1) = s := by
        unfold Ieee.Format.word
        cases s
        · simp
        · simp [Nat.div_self (show 0 < f.signWeight by omega)]
      rw [if_pos (by rw [hbin]; exact hbp), e2]
      simp only [Nat.zero_shiftLeft, Ieee.Datum.number.injEq, true_and]
      omega
    · rw [e0, e1]; exact hpos
  have he : n.log2 ≤ f.fractionBits := by
    have := (Nat.log2_lt h (k := f.fractionBits + 1)).2 hn
    omega
  obtain ⟨K, hK⟩ : ∃ K, n <<< (f.fractionBits - n.log2) = K := ⟨_, rfl⟩
  have hK1 : 2 ^ f.fractionBits ≤ K := by
    rw [← hK, Nat.shiftLeft_eq]
    calc 2 ^ f.fractionBits = 2 ^ n.log2 * 2 ^ (f.fractionBits - n.log2) := by rw [← Nat.pow_add]; congr 1; omega
      _ ≤ n * 2 ^ (f.fractionBits - n.log2) := Nat.mul_le_mul_right _ (Nat.log2_self_le h)
  have hK2 : K < 2 * 2 ^ f.fractionBits := by
    rw [← hK, Nat.shiftLeft_eq]
    calc n * 2 ^ (f.fractionBits - n.log2) < 2 ^ (n.log2 + 1) * 2 ^ (f.fractionBits - n.log2) := Nat.mul_lt_mul_of_pos_right Nat.lt_log2_self (Nat.two_pow_pos _)
      _ = 2 * 2 ^ f.fractionBits := by rw [← Nat.pow_add, show n.log2 + 1 + (f.fractionBits - n.log2) = f.fractionBits + 1 by omega, Nat.pow_succ, Nat.mul_comm]
  obtain ⟨q, hq⟩ : ∃ q : Nat, ((n.log2 : Int) - e - f.fractionBits - f.leastPlace).toNat = q := ⟨_, rfl⟩
  have hq1 : q + 3 ≤ 2 ^ f.exponentBits := by omega
  have hnear : f.nearest s n (-(e : Int)) = f.word s (q * f.binade + K) := by
    unfold Ieee.Format.nearest
    rw [if_neg h]
    dsimp only
    have e2 : max (-(e : Int) + (n.log2 : Int) - (f.fractionBits : Int)) f.leastPlace = (n.log2 : Int) - e - f.fractionBits := by omega
    rw [e2]
    have e3 : ((n.log2 : Int) - e - f.fractionBits - -(e : Int)).toNat = 0 := by omega
    have e4 : (-(e : Int) - ((n.log2 : Int) - e - f.fractionBits)).toNat = f.fractionBits - n.log2 := by omega
    rw [e3, e4, cut_zero, hK, hq]
    have : q * f.binade + K ≤ f.infRung := by
      rw [hir, hbin]
      calc q * 2 ^ f.fractionBits + K ≤ q * 2 ^ f.fractionBits + 2 * 2 ^ f.fractionBits := by omega
        _ = (q + 2) * 2 ^ f.fractionBits := by rw [Nat.add_mul]
        _ ≤ (2 ^ f.exponentBits - 1) * 2 ^ f.fractionBits := Nat.mul_le_mul_right _ (by omega)
    rw [Nat.min_eq_left this]
  have hlt : q * f.binade + K < f.infRung := by
    rw [hir, hbin]
    calc q * 2 ^ f.fractionBits + K < q * 2 ^ f.fractionBits + 2 * 2 ^ f.fractionBits := by omega
      _ = (q + 2) * 2 ^ f.fractionBits := by rw [Nat.add_mul]
      _ ≤ (2 ^ f.exponentBits - 1) * 2 ^ f.fractionBits := Nat.mul_le_mul_right _ (by omega)
  have hmod : f.word s (q * f.binade + K) % f.signWeight = q * f.binade + K := by
    unfold Ieee.Format.word
    cases s
    · simp [Nat.mod_eq_of_lt (show q * f.binade + K < f.signWeight by omega)]
    · simp [Nat.mod_eq_of_lt (show q * f.binade + K < f.signWeight by omega)]
  have hsgn : (f.word s (q * f.binade + K) / f.signWeight % 2 == 1) = s := by
    unfold Ieee.Format.word
    cases s
    · simp [Nat.div_eq_of_lt (show q * f.binade + K < f.signWeight by omega)]
    · have : (f.signWeight + (q * f.binade + K)) / f.signWeight = 1 := by
        rw [Nat.add_div_left _ (show 0 < f.signWeight by omega), Nat.div_eq_of_lt (by omega)]
      simp [this]
  refine ⟨f.fractionBits - n.log2, ?_, by rw [hnear, hmod]; exact hlt⟩
  rw [hnear]
  unfold Ieee.Format.read
  simp only [hmod, hsgn]
  rw [if_neg (by rw [hbin]; have := Nat.zero_le (q * 2 ^ f.fractionBits); omega), if_pos hlt, hK]
  have hd : (q * f.binade + K) / f.binade = q + 1 := by
    rw [hbin, Nat.add_comm, Nat.add_mul_div_right _ _ hbp, show K / 2 ^ f.fractionBits = 1 from by
      rw [Nat.div_eq_iff hbp]; omega]
    omega
  have hm : (q * f.binade + K) % f.binade = K - 2 ^ f.fractionBits := by
    rw [hbin, Nat.add_comm, Nat.add_mul_mod_self_right, show K = (K - 2 ^ f.fractionBits) + 2 ^ f.fractionBits by omega, Nat.add_mod_right, Nat.mod_eq_of_lt (by omega)]
    omega
  rw [hd, hm, hbin]
  simp only [Ieee.Datum.number.injEq, true_and]
  refine ⟨by omega, ?_⟩
  omega

/-- n by 2 ^ e, in a format -/
def wE (k : FloatKind) (e : Nat) (s : Bool) (n : Nat) : Nat := k.format.nearest s n (-(e : Int))
theorem wE_nan (k : FloatKind) (e : Nat) (s : Bool) (n : Nat) : fnan k (wE k e s n) = false := nan_nearest _ _ _ _
theorem bk (k : FloatKind) : 16777216 ≤ 2 ^ (k.format.fractionBits + 1) := by cases k <;> decide
theorem wE_up (k : FloatKind) (e j : Nat) (s : Bool) (n : Nat) (h : e ≤ 40) (hn : n < 16777216) : wE k (e + j) s (n <<< j) = wE k e s n :=
  nearest_shiftE (fitE k e h) s n j (Nat.lt_of_lt_of_le hn (bk k))
/-- the float x is a by 2 ^ e (a 0 of either sign) -/
def Dy (k : FloatKind) (e : Nat) (x : Nat) (a : Int) : Prop := ∃ s n, x = wE k e s n ∧ sg s n = a ∧ n < 16777216
def DyO (k : FloatKind) (e : Nat) (A : Option Nat) (a : Int) : Prop := ∃ x, A = some x ∧ Dy k e x a
theorem sg_abs (s : Bool) (n : Nat) : (sg s n).natAbs = n := by unfold sg; cases s <;> simp
theorem Dy.abs {k : FloatKind} {e x : Nat} {a : Int} (h : Dy k e x a) : a.natAbs < 16777216 := by
  obtain ⟨s, n, -, rfl, hn⟩ := h; rw [sg_abs]; exact hn
theorem Dy.fc {k : FloatKind} {e x : Nat} {a : Int} (h : Dy k e x a) : DyO k e (fc k x) a := by
  obtain ⟨s, n, rfl, h1, h2⟩ := h
  exact ⟨_, fc_some (wE_nan ..), s, n, rfl, h1, h2⟩
theorem Dy.up {k : FloatKind} {e x : Nat} {a : Int} (h : Dy k e x a) (j : Nat) (he : e ≤ 40) (hb : a.natAbs * 2 ^ j < 16777216) : Dy k (e + j) x (a * (2 ^ j : Nat)) := by
  obtain ⟨s, n, rfl, rfl, hn⟩ := h
  rw [sg_abs] at hb
  refine ⟨s, n <<< j, (wE_up k e j s n he hn).symm, ?_, by rw [Nat.shiftLeft_eq]; exact hb⟩
  unfold sg; rw [Nat.shiftLeft_eq]; cases s <;> simp [Int.neg_mul]
theorem signed_sgE (s : Bool) (n i m : Nat) (h : i ≤ m) : Ieee.signed s (n <<< i) (m - i) = sg s n * (2 ^ m : Nat) := signed_sg s n i m h
theorem dy_sum {k : FloatKind} (e : Nat) (he : e ≤ 40) (s t : Bool) (m n i j : Nat) (ht : (sg s m + sg t n).natAbs < 16777216) :
    ∃ r, ((Ieee.Datum.number s (m <<< i) (-((e + i : Nat) : Int))).sum (.number t (n <<< j) (-((e + j : Nat) : Int)))).map k.format.write = some r ∧ Dy k e r (sg s m + sg t n) := by
  simp only [Ieee.Datum.sum, Option.map_some]
  obtain ⟨q, hq⟩ : ∃ q, max i j = q := ⟨_, rfl⟩
  have hmin : min (-((e + i : Nat) : Int)) (-((e + j : Nat) : Int)) = -((e + q : Nat) : Int) := by omega
  have e1 : (-((e + i : Nat) : Int) - -((e + q : Nat) : Int)).toNat = q - i := by omega
  have e2 : (-((e + j : Nat) : Int) - -((e + q : Nat) : Int)).toNat = q - j := by omega
  rw [hmin, e1, e2, signed_sg s m i q (by omega), signed_sg t n j q (by omega), ← Int.add_mul]
  have hp : (0 : Int) < (2 ^ q : Nat) := by have := Nat.two_pow_pos q; omega
  generalize sg s m + sg t n = z at ht ⊢
  have e3 : (z * (2 ^ q : Nat)).natAbs = z.natAbs <<< q := by rw [Int.natAbs_mul, Nat.shiftLeft_eq]; simp
  have e4 : (z * ((2 ^ q : Nat) : Int) = 0) ↔ z = 0 := by
    constructor
    · intro h
      rcases Int.mul_eq_zero.1 h with h | h
      · exact h
      · omega
    · intro h; rw [h, Int.zero_mul]
  have e5 : (z * ((2 ^ q : Nat) : Int) < 0) ↔ z < 0 := by
    constructor
    · intro h
      by_cases h' : z < 0
      · exact h'
      · have := Int.mul_nonneg (show 0 ≤ z by omega) (Int.le_of_lt hp); omega
    · intro h; exact Int.mul_neg_of_neg_of_pos h hp
  unfold Ieee.Format.write
  simp only [e3, e4, e5]
  rw [nearest_shiftE (fitE k e he) _ _ _ (Nat.lt_of_lt_of_le ht (bk k))]
  refine ⟨_, rfl, _, _, rfl, ?_, ht⟩
  unfold sg
  by_cases hz : z = 0
  · subst hz; simp
  · rw [if_neg hz]
    by_cases h : z < 0
    · rw [decide_eq_true h, if_pos rfl]; omega
    · rw [decide_eq_false h]; simp; omega
theorem DyO.add {k : FloatKind} {e : Nat} {A B : Option Nat} {a b : Int} (he : e ≤ 40) (hA : DyO k e A a) (hB : DyO k e B b) (hab : (a + b).natAbs < 16777216) : DyO k e (fo .add k A B) (a + b) := by
  obtain ⟨x, rfl, s, m, rfl, rfl, hm⟩ := hA
  obtain ⟨y, rfl, t, n, rfl, rfl, hn⟩ := hB
  obtain ⟨i, hi, -⟩ := read_nearestE (fitE k e he) s m (Nat.lt_of_lt_of_le hm (bk k))
  obtain ⟨j, hj, -⟩ := read_nearestE (fitE k e he) t n (Nat.lt_of_lt_of_le hn (bk k))
  obtain ⟨r, hr, hd⟩ := dy_sum (k := k) e he s t m n i j hab
  refine ⟨r, ?_, hd⟩
  show floatBits .add k (wE k e s m) (wE k e t n) = some r
  simp only [floatBits, Ieee.Format.add]
  rw [show k.format.read (wE k e s m) = _ from hi, show k.format.read (wE k e t n) = _ from hj]
  exact hr
theorem sg_not (t : Bool) (n : Nat) : sg (!t) n = -sg t n := by unfold sg; cases t <;> simp
theorem DyO.sub {k : FloatKind} {e : Nat} {A B : Option Nat} {a b : Int} (he : e ≤ 40) (hA : DyO k e A a) (hB : DyO k e B b) (hab : (a - b).natAbs < 16777216) : DyO k e (fo .sub k A B) (a - b) := by
  obtain ⟨x, rfl, s, m, rfl, rfl, hm⟩ := hA
  obtain ⟨y, rfl, t, n, rfl, rfl, hn⟩ := hB
  obtain ⟨i, hi, -⟩ := read_nearestE (fitE k e he) s m (Nat.lt_of_lt_of_le hm (bk k))
  obtain ⟨j, hj, -⟩ := read_nearestE (fitE k e he) t n (Nat.lt_of_lt_of_le hn (bk k))
  have e0 : sg s m - sg t n = sg s m + sg (!t) n := by rw [sg_not]; omega
  rw [e0] at hab ⊢
  obtain ⟨r, hr, hd⟩ := dy_sum (k := k) e he s (!t) m n i j hab
  refine ⟨r, ?_, hd⟩
  show floatBits .sub k (wE k e s m) (wE k e t n) = some r
  simp only [floatBits, Ieee.Format.sub]
  rw [show k.format.read (wE k e s m) = _ from hi, show k.format.read (wE k e t n) = _ from hj]
  exact hr
theorem DyO.mul {k : FloatKind} {e e' : Nat} {A B : Option Nat} {a b : Int} (he : e ≤ 20) (he' : e' ≤ 20) (hA : DyO k e A a) (hB : DyO k e' B b) (hab : (a * b).natAbs < 16777216) : DyO k (e + e') (fo .mul k A B) (a * b) := by
  obtain ⟨x, rfl, s, m, rfl, rfl, hm⟩ := hA
  obtain ⟨y, rfl, t, n, rfl, rfl, hn⟩ := hB
  obtain ⟨i, hi, -⟩ := read_nearestE (fitE k e (by omega)) s m (Nat.lt_of_lt_of_le hm (bk k))
  obtain ⟨j, hj, -⟩ := read_nearestE (fitE k e' (by omega)) t n (Nat.lt_of_lt_of_le hn (bk k))
  rw [Int.natAbs_mul, sg_abs, sg_abs] at hab
  refine ⟨wE k (e + e') (s ^^ t) (m * n), ?_, s ^^ t, m * n, rfl, ?_, hab⟩
  · show floatBits .mul k (wE k e s m) (wE k e' t n) = _
    simp only [floatBits, Ieee.Format.mul]
    rw [show k.format.read (wE k e s m) = _ from hi, show k.format.read (wE k e' t n) = _ from hj]
    simp only [Ieee.Datum.product, Option.map_some, Option.some.injEq]
    have e1 : m <<< i * n <<< j = (m * n) <<< (i + j) := by
      rw [Nat.shiftLeft_eq, Nat.shiftLeft_eq, Nat.shiftLeft_eq, Nat.pow_add, Nat.mul_mul_mul_comm]
    have e2 : -((e + i : Nat) : Int) + -((e' + j : Nat) : Int) = -((e + e' + (i + j) : Nat) : Int) := by omega
    show k.format.nearest (s ^^ t) (m <<< i * n <<< j) (-((e + i : Nat) : Int) + -((e' + j : Nat) : Int)) = _
    rw [e1, e2]
    exact nearest_shiftE (fitE k (e + e') (by omega)) _ _ _ (Nat.lt_of_lt_of_le hab (bk k))
  · unfold sg
    cases s <;> cases t <;> simp [Int.neg_mul, Int.mul_neg]
theorem Dy.wid {e x : Nat} {a : Int} (he : e ≤ 40) (h : Dy .f32 e x a) : Dy .f64 e (wid x) a := by
  obtain ⟨s, n, rfl, rfl, hn⟩ := h
  obtain ⟨i, hi, -⟩ := read_nearestE (fitE .f32 e he) s n (Nat.lt_of_lt_of_le hn (bk .f32))
  refine ⟨s, n, ?_, rfl, hn⟩
  unfold Go.Proofs.Ytomgdlnpajfjhaa.wid FloatKind.encode FloatKind.decode
  rw [show FloatKind.f32.format.read (wE .f32 e s n) = _ from hi]
  unfold Ieee.Format.write
  exact nearest_shiftE (fitE .f64 e he) s n i (Nat.lt_of_lt_of_le hn (bk .f64))
theorem DyO.wid {e : Nat} {A : Option Nat} {a : Int} (he : e ≤ 40) (h : DyO .f32 e A a) : DyO .f64 e (A.map Go.Proofs.Ytomgdlnpajfjhaa.wid) a := by
  obtain ⟨x, rfl, hx⟩ := h
  exact ⟨_, rfl, hx.wid he⟩
/-- what such a double is narrowed to -/
theorem DyO.nar {e : Nat} {A : Option Nat} {a : Int} {y : Nat} (he : e ≤ 40) (h : DyO .f64 e A a) (hn : NA A y) : Dy .f32 e y a := by
  obtain ⟨x, rfl, s, n, rfl, rfl, hb⟩ := h
  obtain ⟨i, hi, -⟩ := read_nearestE (fitE .f64 e he) s n (Nat.lt_of_lt_of_le hb (bk .f64))
  obtain ⟨j, hj, -⟩ := read_nearestE (fitE .f32 e he) s n (Nat.lt_of_lt_of_le hb (bk .f32))
  have he2 : FloatKind.f32.encode (.number s (n <<< i) (-((e + i : Nat) : Int))) = wE .f32 e s n := nearest_shiftE (fitE .f32 e he) s n i (Nat.lt_of_lt_of_le hb (bk .f32))
  unfold NA at hn
  simp only at hn
  rw [show FloatKind.f64.decode (wE .f64 e s n) = _ from hi] at hn
  simp only [he2] at hn
  rw [show FloatKind.f32.decode (wE .f32 e s n) = _ from hj] at hn
  exact ⟨s, n, hn rfl, rfl, hb⟩
theorem Dy.neg {e x : Nat} {a : Int} (h : Dy .f32 e x a) : Dy .f32 e (Op.negFloat .f32 x) (-a) := by
  obtain ⟨s, n, rfl, rfl, hn⟩ := h
  refine ⟨!s, n, ?_, sg_not s n, hn⟩
  have hw : ∀ s, wE .f32 e s n = FloatKind.f32.format.word s (wE .f32 e false n) := fun s => nearest_word _ s n _
  have hlt : wE .f32 e false n < 2 ^ 31 := Nat.lt_of_le_of_lt (nearest_le _ n _) ir32
  have e1 : ∀ x, Op.negFloat .f32 x = x ^^^ 2 ^ 31 := fun _ => rfl
  rw [e1, hw s, hw (!s)]
  generalize wE .f32 e false n = r at hlt
  have sw : FloatKind.f32.format.signWeight = 2 ^ 31 := rfl
  unfold Ieee.Format.word
  rw [sw]
  cases s
  · simp only [Bool.false_eq_true, if_false, Bool.not_false, if_true]
    exact flip_top 31 r hlt
  · simp only [if_true, Bool.not_true, Bool.false_eq_true, if_false]
    rw [← flip_top 31 r hlt, Nat.xor_assoc, Nat.xor_self, Nat.xor_zero]

end Go.Proofs.Ytomgdlnpajfjhaa

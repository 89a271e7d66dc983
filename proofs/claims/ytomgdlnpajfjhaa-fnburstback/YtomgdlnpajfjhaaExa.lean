/- Whole numbers in floats: written and read again; no condition. -/
import Derived.Test.YtomgdlnpajfjhaaFlo
namespace Go.Proofs.Ytomgdlnpajfjhaa
open Go.RowKit Go.ChangeShapes Go.WideShapes Go.ChangeAt
set_option linter.unusedVariables false
set_option linter.unusedSimpArgs false
set_option maxRecDepth 8000
/-- what a format must be for whole numbers below 2 ^ (F + 1) to be its own -/
structure Fit (f : Ieee.Format) : Prop where
  lp : f.leastPlace ≤ -(f.fractionBits : Int)
  top : (-f.leastPlace).toNat + 3 ≤ 2 ^ f.exponentBits
theorem fit32 : Fit FloatKind.f32.format := ⟨by decide, by decide⟩
theorem fit64 : Fit FloatKind.f64.format := ⟨by decide, by decide⟩
theorem log2_shift (n k : Nat) (h : n ≠ 0) : (n <<< k).log2 = n.log2 + k := by
  have h1 : n <<< k ≠ 0 := by rw [Nat.shiftLeft_eq]; exact Nat.mul_ne_zero h (Nat.pos_iff_ne_zero.1 (Nat.two_pow_pos _))
  rw [Nat.log2_eq_iff h1, Nat.shiftLeft_eq]
  have h2 : 2 ^ n.log2 ≤ n := Nat.log2_self_le h
  have h3 : n < 2 ^ (n.log2 + 1) := Nat.lt_log2_self
  refine ⟨?_, ?_⟩
  · rw [Nat.pow_add]; exact Nat.mul_le_mul_right _ h2
  · rw [show n.log2 + k + 1 = n.log2 + 1 + k by omega, Nat.pow_add]
    exact Nat.mul_lt_mul_of_pos_right h3 (Nat.two_pow_pos _)
theorem cut_zero (s : Bool) (n : Nat) : Ieee.Toward.even.cut s n 0 = n := by simp [Ieee.Toward.cut, Nat.mod_one]
theorem cut_exact (s : Bool) (n k t : Nat) (h : n ≠ 0) (ht : t ≤ k) : Ieee.Toward.even.cut s (n <<< k) t = n <<< (k - t) := by
  have hl := log2_shift n k h
  unfold Ieee.Toward.cut
  rw [hl, show min t (n.log2 + k + 2) = t by omega]
  have e1 : n <<< k = (n <<< (k - t)) * 2 ^ t := by
    rw [Nat.shiftLeft_eq, Nat.shiftLeft_eq, Nat.mul_assoc, ← Nat.pow_add]; congr 2; omega
  have e2 : (1 : Nat) <<< t = 2 ^ t := by rw [Nat.shiftLeft_eq, Nat.one_mul]
  have hp := Nat.two_pow_pos t
  simp only [e2]
  rw [e1, Nat.mul_mod_left, Nat.mul_div_cancel _ hp]
  have : ¬ (2 ^ t = 0) := by omega
  simp [this]
/-- the same number, its digits moved -/
theorem nearest_shift {f : Ieee.Format} (hf : Fit f) (s : Bool) (n k : Nat) (hn : n < 2 ^ (f.fractionBits + 1)) : f.nearest s (n <<< k) (-(k : Int)) = f.nearest s n 0 := by
  by_cases h : n = 0
  · subst h; simp [Ieee.Format.nearest]
  have h1 : n <<< k ≠ 0 := by rw [Nat.shiftLeft_eq]; exact Nat.mul_ne_zero h (Nat.pos_iff_ne_zero.1 (Nat.two_pow_pos _))
  have he : n.log2 ≤ f.fractionBits := by
    have := (Nat.log2_lt h (k := f.fractionBits + 1)).2 hn
    omega
  have hlp := hf.lp
  unfold Ieee.Format.nearest
  rw [if_neg h, if_neg h1, log2_shift n k h]
  dsimp only
  have e1 : max (-(k : Int) + ((n.log2 + k : Nat) : Int) - (f.fractionBits : Int)) f.leastPlace = (n.log2 : Int) - f.fractionBits := by omega
  have e2 : max (0 + (n.log2 : Int) - (f.fractionBits : Int)) f.leastPlace = (n.log2 : Int) - f.fractionBits := by omega
  rw [e1, e2]
  have e3 : ((n.log2 : Int) - f.fractionBits - 0).toNat = 0 := by omega
  have e4 : (0 - ((n.log2 : Int) - f.fractionBits)).toNat = f.fractionBits - n.log2 := by omega
  rw [e3, e4, cut_zero]
  by_cases hk : k ≤ f.fractionBits - n.log2
  · have e5 : ((n.log2 : Int) - f.fractionBits - -(k : Int)).toNat = 0 := by omega
    have e6 : (-(k : Int) - ((n.log2 : Int) - f.fractionBits)).toNat = f.fractionBits - n.log2 - k := by omega
    rw [e5, e6, cut_zero, ← Nat.shiftLeft_add]
    congr 4
    omega
  · have e5 : ((n.log2 : Int) - f.fractionBits - -(k : Int)).toNat = k - (f.fractionBits - n.log2) := by omega
    have e6 : (-(k : Int) - ((n.log2 : Int) - f.fractionBits)).toNat = 0 := by omega
    rw [e5, e6, Nat.shiftLeft_zero, cut_exact s n k _ h (by omega)]
    congr 4
    omega
/-- a whole number, written and read again -/
theorem read_nearest {f : Ieee.Format} (hf : Fit f) (s : Bool) (n : Nat) (hn : n < 2 ^ (f.fractionBits + 1)) : ∃ k : Nat, f.read (f.nearest s n 0) = .number s (n <<< k) (-(k : Int)) ∧ (f.nearest s n 0) % f.signWeight < f.infRung := by
  have hlp := hf.lp
  have hbin : f.binade = 2 ^ f.fractionBits := rfl
  have hbp := Nat.two_pow_pos f.fractionBits
  have hir : f.infRung = (2 ^ f.exponentBits - 1) * f.binade := rfl
  have htop := hf.top
  have hsw := f.infRung_lt
  by_cases h : n = 0
  · subst h
    refine ⟨(-f.leastPlace).toNat, ?_, ?_⟩
    all_goals
      have e0 : f.nearest s 0 0 = f.word s 0 := by simp [Ieee.Format.nearest]
      have e1 : f.word s 0 % f.signWeight = 0 := by unfold Ieee.Format.word; cases s <;> simp
      have hpos : 0 < f.infRung := by rw [hir, hbin]; exact Nat.mul_pos (by omega) hbp
    · rw [e0]
      unfold Ieee.Format.read
      simp only [e1]
      have e2 : (f.word s 0 / f.signWeight % 2 == 1) = s := by
        unfold Ieee.Format.word
        cases s
        · simp
        · simp [Nat.div_self (show 0 < f.signWeight by omega)]
      rw [if_pos (by rw [hbin]; exact hbp), e2]
      simp only [Nat.zero_shiftLeft, Ieee.Datum.number.injEq, true_and]
      omega
    · rw [e0, e1]; exact hpos
  have he : n.log2 ≤ f.fractionBits := by
    have := (Nat.log2_lt h (k := f.fractionBits + 1)).2 hn
    omega
  obtain ⟨K, hK⟩ : ∃ K, n <<< (f.fractionBits - n.log2) = K := ⟨_, rfl⟩
  have hK1 : 2 ^ f.fractionBits ≤ K := by
    rw [← hK, Nat.shiftLeft_eq]
    calc 2 ^ f.fractionBits = 2 ^ n.log2 * 2 ^ (f.fractionBits - n.log2) := by rw [← Nat.pow_add]; congr 1; omega
      _ ≤ n * 2 ^ (f.fractionBits - n.log2) := Nat.mul_le_mul_right _ (Nat.log2_self_le h)
  have hK2 : K < 2 * 2 ^ f.fractionBits := by
    rw [← hK, Nat.shiftLeft_eq]
    calc n * 2 ^ (f.fractionBits - n.log2) < 2 ^ (n.log2 + 1) * 2 ^ (f.fractionBits - n.log2) := Nat.mul_lt_mul_of_pos_right Nat.lt_log2_self (Nat.two_pow_pos _)
      _ = 2 * 2 ^ f.fractionBits := by rw [← Nat.pow_add, show n.log2 + 1 + (f.fractionBits - n.log2) = f.fractionBits + 1 by omega, Nat.pow_succ, Nat.mul_comm]
  obtain ⟨q, hq⟩ : ∃ q : Nat, ((n.log2 : Int) - f.fractionBits - f.leastPlace).toNat = q := ⟨_, rfl⟩
  have hq1 : q + 3 ≤ 2 ^ f.exponentBits := by omega
  have hnear : f.nearest s n 0 = f.word s (q * f.binade + K) := by
    unfold Ieee.Format.nearest
    rw [if_neg h]
    dsimp only
    have e2 : max (0 + (n.log2 : Int) - (f.fractionBits : Int)) f.leastPlace = (n.log2 : Int) - f.fractionBits := by omega
    rw [e2]
    have e3 : ((n.log2 : Int) - f.fractionBits - 0).toNat = 0 := by omega
    have e4 : (0 - ((n.log2 : Int) - f.fractionBits)).toNat = f.fractionBits - n.log2 := by omega
    rw [e3, e4, cut_zero, hK, hq]
    have : q * f.binade + K ≤ f.infRung := by
      rw [hir, hbin]
      calc q * 2 ^ f.fractionBits + K ≤ q * 2 ^ f.fractionBits + 2 * 2 ^ f.fractionBits := by omega
        _ = (q + 2) * 2 ^ f.fractionBits := by rw [Nat.add_mul]
        _ ≤ (2 ^ f.exponentBits - 1) * 2 ^ f.fractionBits := Nat.mul_le_mul_right _ (by omega)
    rw [Nat.min_eq_left this]
  have hlt : q * f.binade + K < f.infRung := by
    rw [hir, hbin]
    calc q * 2 ^ f.fractionBits + K < q * 2 ^ f.fractionBits + 2 * 2 ^ f.fractionBits := by omega
      _ = (q + 2) * 2 ^ f.fractionBits := by rw [Nat.add_mul]
      _ ≤ (2 ^ f.exponentBits - 1) * 2 ^ f.fractionBits := Nat.mul_le_mul_right _ (by omega)
  have hmod : f.word s (q * f.binade + K) % f.signWeight = q * f.binade + K := by
    unfold Ieee.Format.word
    cases s
    · simp [Nat.mod_eq_of_lt (show q * f.binade + K < f.signWeight by omega)]
    · simp [Nat.mod_eq_of_lt (show q * f.binade + K < f.signWeight by omega)]
  have hsgn : (f.word s (q * f.binade + K) / f.signWeight % 2 == 1) = s := by
    unfold Ieee.Format.word
    cases s
    · simp [Nat.div_eq_of_lt (show q * f.binade + K < f.signWeight by omega)]
    · have : (f.signWeight + (q * f.binade + K)) / f.signWeight = 1 := by
        rw [Nat.add_div_left _ (show 0 < f.signWeight by omega), Nat.div_eq_of_lt (by omega)]
      simp [this]
  refine ⟨f.fractionBits - n.log2, ?_, by rw [hnear, hmod]; exact hlt⟩
  rw [hnear]
  unfold Ieee.Format.read
  simp only [hmod, hsgn]
  rw [if_neg (by rw [hbin]; have := Nat.zero_le (q * 2 ^ f.fractionBits); omega), if_pos hlt, hK]
  have hd : (q * f.binade + K) / f.binade = q + 1 := by
    rw [hbin, Nat.add_comm, Nat.add_mul_div_right _ _ hbp, show K / 2 ^ f.fractionBits = 1 from by
      rw [Nat.div_eq_iff hbp]; omega]
    omega
  have hm : (q * f.binade + K) % f.binade = K - 2 ^ f.fractionBits := by
    rw [hbin, Nat.add_comm, Nat.add_mul_mod_self_right, show K = (K - 2 ^ f.fractionBits) + 2 ^ f.fractionBits by omega, Nat.add_mod_right, Nat.mod_eq_of_lt (by omega)]
    omega
  rw [hd, hm, hbin]
  simp only [Ieee.Datum.number.injEq, true_and]
  refine ⟨by omega, ?_⟩
  omega
end Go.Proofs.Ytomgdlnpajfjhaa
namespace Go.Proofs.Ytomgdlnpajfjhaa
open Go.RowKit Go.ChangeShapes Go.WideShapes Go.ChangeAt
set_option linter.unusedVariables false
set_option linter.unusedSimpArgs false
set_option maxRecDepth 8000
def wN (k : FloatKind) (s : Bool) (n : Nat) : Nat := k.format.nearest s n 0
def sg (s : Bool) (n : Nat) : Int := if s then -(n : Int) else n
def fi (k : FloatKind) (a : Int) : Nat := wN k (decide (a < 0)) a.natAbs
theorem fitK (k : FloatKind) : Fit k.format := by cases k; exact fit32; exact fit64
theorem wN_nan (k : FloatKind) (s : Bool) (n : Nat) : fnan k (wN k s n) = false := nan_nearest _ _ _ _
theorem wN_fc (k : FloatKind) (s : Bool) (n : Nat) : fc k (wN k s n) = some (wN k s n) := fc_some (wN_nan ..)
theorem signed_sg (s : Bool) (n i m : Nat) (h : i ≤ m) : Ieee.signed s (n <<< i) (m - i) = sg s n * (2 ^ m : Nat) := by
  have e : n <<< i <<< (m - i) = n * 2 ^ m := by
    rw [← Nat.shiftLeft_add, Nat.shiftLeft_eq]; congr 2; omega
  unfold Ieee.signed sg
  rw [e]
  cases s <;> simp [Int.neg_mul]
theorem sum_w {k : FloatKind} (s t : Bool) (m n : Nat) (x y : Nat) (i j : Nat) (hx : k.format.read x = .number s (m <<< i) (-(i : Int))) (hy : k.format.read y = .number t (n <<< j) (-(j : Int))) (ht : (sg s m + sg t n).natAbs < 2 ^ (k.format.fractionBits + 1)) :
    ((k.format.read x).sum (k.format.read y)).map k.format.write = some (wN k (if sg s m + sg t n = 0 then s && t else decide (sg s m + sg t n < 0)) (sg s m + sg t n).natAbs) := by
  rw [hx, hy]
  simp only [Ieee.Datum.sum, Option.map_some, Option.some.injEq]
  obtain ⟨q, hq⟩ : ∃ q, max i j = q := ⟨_, rfl⟩
  have hmin : min (-(i : Int)) (-(j : Int)) = -(q : Int) := by omega
  have e1 : (-(i : Int) - -(q : Int)).toNat = q - i := by omega
  have e2 : (-(j : Int) - -(q : Int)).toNat = q - j := by omega
  rw [hmin, e1, e2, signed_sg s m i q (by omega), signed_sg t n j q (by omega), ← Int.add_mul]
  have hp : (0 : Int) < (2 ^ q : Nat) := by have := Nat.two_pow_pos q; omega
  generalize sg s m + sg t n = z at ht ⊢
  have e3 : (z * (2 ^ q : Nat)).natAbs = z.natAbs <<< q := by rw [Int.natAbs_mul, Nat.shiftLeft_eq]; simp
  have e4 : (z * ((2 ^ q : Nat) : Int) = 0) ↔ z = 0 := by
    constructor
    · intro h
      rcases Int.mul_eq_zero.1 h with h | h
      · exact h
      · omega
    · intro h; rw [h, Int.zero_mul]
  have e5 : (z * ((2 ^ q : Nat) : Int) < 0) ↔ z < 0 := by
    constructor
    · intro h
      by_cases h' : z < 0
      · exact h'
      · have := Int.mul_nonneg (show 0 ≤ z by omega) (Int.le_of_lt hp); omega
    · intro h; exact Int.mul_neg_of_neg_of_pos h hp
  unfold Ieee.Format.write
  simp only [e3, e4, e5]
  rw [nearest_shift (fitK k) _ _ _ ht]
  rfl
theorem addw {k : FloatKind} (s t : Bool) (m n : Nat) (hm : m < 2 ^ (k.format.fractionBits + 1)) (hn : n < 2 ^ (k.format.fractionBits + 1)) (ht : (sg s m + sg t n).natAbs < 2 ^ (k.format.fractionBits + 1)) :
    floatBits .add k (wN k s m) (wN k t n) = some (wN k (if sg s m + sg t n = 0 then s && t else decide (sg s m + sg t n < 0)) (sg s m + sg t n).natAbs) := by
  obtain ⟨i, hi, -⟩ := read_nearest (fitK k) s m hm
  obtain ⟨j, hj, -⟩ := read_nearest (fitK k) t n hn
  exact sum_w s t m n _ _ i j hi hj ht
theorem subw {k : FloatKind} (s t : Bool) (m n : Nat) (hm : m < 2 ^ (k.format.fractionBits + 1)) (hn : n < 2 ^ (k.format.fractionBits + 1)) (ht : (sg s m + sg (!t) n).natAbs < 2 ^ (k.format.fractionBits + 1)) :
    floatBits .sub k (wN k s m) (wN k t n) = some (wN k (if sg s m + sg (!t) n = 0 then s && !t else decide (sg s m + sg (!t) n < 0)) (sg s m + sg (!t) n).natAbs) := by
  obtain ⟨i, hi, -⟩ := read_nearest (fitK k) s m hm
  obtain ⟨j, hj, -⟩ := read_nearest (fitK k) t n hn
  obtain ⟨j', hj', -⟩ := read_nearest (fitK k) (!t) n hn
  have h := sum_w (k := k) s (!t) m n _ _ i j' hi hj' ht
  rw [hi] at h
  have ho : (k.format.read (wN k t n)).opposite = .number (!t) (n <<< j) (-(j : Int)) := by rw [show k.format.read (wN k t n) = _ from hj]; rfl
  have hs := sum_w (k := k) s (!t) m n (wN k s m) (wN k (!t) n) i j' hi hj' ht
  simp only [floatBits, Ieee.Format.sub]
  rw [ho, show k.format.read (wN k s m) = _ from hi]
  -- the same sum, the digits of the second moved otherwise
  simp only [Ieee.Datum.sum, Option.map_some, Option.some.injEq]
  obtain ⟨q, hq⟩ : ∃ q, max i j = q := ⟨_, rfl⟩
  have hmin : min (-(i : Int)) (-(j : Int)) = -(q : Int) := by omega
  have e1 : (-(i : Int) - -(q : Int)).toNat = q - i := by omega
  have e2 : (-(j : Int) - -(q : Int)).toNat = q - j := by omega
  rw [hmin, e1, e2, signed_sg s m i q (by omega), signed_sg (!t) n j q (by omega), ← Int.add_mul]
  have hp : (0 : Int) < (2 ^ q : Nat) := by have := Nat.two_pow_pos q; omega
  clear h hs ho
  generalize sg s m + sg (!t) n = z at ht ⊢
  have e3 : (z * (2 ^ q : Nat)).natAbs = z.natAbs <<< q := by rw [Int.natAbs_mul, Nat.shiftLeft_eq]; simp
  have e4 : (z * ((2 ^ q : Nat) : Int) = 0) ↔ z = 0 := by
    constructor
    · intro h
      rcases Int.mul_eq_zero.1 h with h | h
      · exact h
      · omega
    · intro h; rw [h, Int.zero_mul]
  have e5 : (z * ((2 ^ q : Nat) : Int) < 0) ↔ z < 0 := by
    constructor
    · intro h
      by_cases h' : z < 0
      · exact h'
      · have := Int.mul_nonneg (show 0 ≤ z by omega) (Int.le_of_lt hp); omega
    · intro h; exact Int.mul_neg_of_neg_of_pos h hp
  unfold Ieee.Format.write
  simp only [e3, e4, e5]
  rw [nearest_shift (fitK k) _ _ _ ht]
  rfl
theorem mulw {k : FloatKind} (s t : Bool) (m n : Nat) (hm : m < 2 ^ (k.format.fractionBits + 1)) (hn : n < 2 ^ (k.format.fractionBits + 1)) (ht : m * n < 2 ^ (k.format.fractionBits + 1)) :
    floatBits .mul k (wN k s m) (wN k t n) = some (wN k (s ^^ t) (m * n)) := by
  obtain ⟨i, hi, -⟩ := read_nearest (fitK k) s m hm
  obtain ⟨j, hj, -⟩ := read_nearest (fitK k) t n hn
  simp only [floatBits, Ieee.Format.mul]
  rw [show k.format.read (wN k s m) = _ from hi, show k.format.read (wN k t n) = _ from hj]
  simp only [Ieee.Datum.product, Option.map_some, Option.some.injEq]
  have e : m <<< i * n <<< j = (m * n) <<< (i + j) := by
    rw [Nat.shiftLeft_eq, Nat.shiftLeft_eq, Nat.shiftLeft_eq, Nat.pow_add, Nat.mul_mul_mul_comm]
  have e' : -(i : Int) + -(j : Int) = -((i + j : Nat) : Int) := by omega
  show k.format.nearest (s ^^ t) (m <<< i * n <<< j) (-(i : Int) + -(j : Int)) = _
  rw [e, e']
  exact nearest_shift (fitK k) _ _ _ ht
theorem wid_w (s : Bool) (n : Nat) (hn : n < 16777216) : wid (wN .f32 s n) = wN .f64 s n := by
  obtain ⟨i, hi, -⟩ := read_nearest fit32 s n (show n < 2 ^ (23 + 1) by simpa using hn)
  unfold wid FloatKind.encode FloatKind.decode
  rw [show FloatKind.f32.format.read (wN .f32 s n) = _ from hi]
  unfold Ieee.Format.write
  exact nearest_shift fit64 s n i (show n < 2 ^ (52 + 1) from Nat.lt_of_lt_of_le hn (by decide))
theorem run_nar {P : Program} (s : Bool) (n : Nat) (hn : n < 16777216) (w : World) : (Conv.floatToFloat .f64 (wN .f64 s n) .f32).run P w = .ok (.float .f32 (wN .f32 s n)) w := by
  obtain ⟨i, hi, -⟩ := read_nearest fit64 s n (show n < 2 ^ (52 + 1) from Nat.lt_of_lt_of_le hn (by decide))
  have hn' : n < 2 ^ (23 + 1) := by simpa using hn
  obtain ⟨j, hj, -⟩ := read_nearest fit32 s n hn'
  have he : FloatKind.f32.encode (.number s (n <<< i) (-(i : Int))) = wN .f32 s n := nearest_shift fit32 s n i hn'
  unfold Conv.floatToFloat
  rw [if_neg (by decide)]
  rw [show FloatKind.f64.decode (wN .f64 s n) = _ from hi]
  simp only [he]
  rw [show FloatKind.f32.decode (wN .f32 s n) = _ from hj]
  rfl
theorem flip_top (k x : Nat) (hx : x < 2 ^ k) : x ^^^ 2 ^ k = 2 ^ k + x := by
  apply Nat.eq_of_testBit_eq
  intro i
  rw [Nat.testBit_xor, Nat.testBit_two_pow]
  by_cases h : i = k
  · subst h
    rw [Nat.testBit_lt_two_pow hx, Nat.testBit_two_pow_add_eq, Nat.testBit_lt_two_pow hx]; simp
  · have hd : decide (k = i) = false := decide_eq_false (by omega)
    rw [hd, Bool.xor_false]
    rcases Nat.lt_or_gt_of_ne h with h' | h'
    · rw [Nat.testBit_two_pow_add_gt h']
    · have h1 : x < 2 ^ i := Nat.lt_of_lt_of_le hx (Nat.pow_le_pow_right (by omega) (by omega))
      have h2 : 2 ^ k + x < 2 ^ i := Nat.lt_of_lt_of_le (show 2 ^ k + x < 2 ^ (k + 1) by rw [Nat.pow_succ]; omega) (Nat.pow_le_pow_right (by omega) (by omega))
      rw [Nat.testBit_lt_two_pow h1, Nat.testBit_lt_two_pow h2]
theorem word_false (f : Ieee.Format) (r : Nat) : f.word false r = r := by simp [Ieee.Format.word]
theorem nearest_word (f : Ieee.Format) (s : Bool) (n : Nat) (p : Int) : f.nearest s n p = f.word s (f.nearest false n p) := by
  unfold Ieee.Format.nearest
  by_cases h : n = 0
  · rw [if_pos h, if_pos h, word_false]
  · rw [if_neg h, if_neg h]
    dsimp only
    rw [word_false]
    rfl
theorem nearest_le (f : Ieee.Format) (n : Nat) (p : Int) : f.nearest false n p ≤ f.infRung := by
  unfold Ieee.Format.nearest
  by_cases h : n = 0
  · rw [if_pos h, word_false]; omega
  · rw [if_neg h]
    dsimp only
    rw [word_false]
    exact Nat.min_le_right ..
theorem ir32 : FloatKind.f32.format.infRung < 2 ^ 31 := by decide
theorem neg_w (s : Bool) (n : Nat) : Op.negFloat .f32 (wN .f32 s n) = wN .f32 (!s) n := by
  have hw : ∀ s, wN .f32 s n = FloatKind.f32.format.word s (wN .f32 false n) := fun s => nearest_word _ s n 0
  have hlt : wN .f32 false n < 2 ^ 31 := Nat.lt_of_le_of_lt (nearest_le _ n 0) ir32
  have e1 : ∀ x, Op.negFloat .f32 x = x ^^^ 2 ^ 31 := fun _ => rfl
  rw [e1, hw s, hw (!s)]
  generalize wN .f32 false n = r at hlt
  have sw : FloatKind.f32.format.signWeight = 2 ^ 31 := rfl
  unfold Ieee.Format.word
  rw [sw]
  cases s
  · simp only [Bool.false_eq_true, if_false, Bool.not_false, if_true]
    exact flip_top 31 r hlt
  · simp only [if_true, Bool.not_true, Bool.false_eq_true, if_false]
    rw [← flip_top 31 r hlt, Nat.xor_assoc, Nat.xor_self, Nat.xor_zero]
theorem fi_of (k : FloatKind) (n : Int) : floatOfInt k n = fi k n := rfl
theorem add_fi {k : FloatKind} (a b : Int) (ha : a.natAbs < 2 ^ (k.format.fractionBits + 1)) (hb : b.natAbs < 2 ^ (k.format.fractionBits + 1)) (hab : (a + b).natAbs < 2 ^ (k.format.fractionBits + 1)) : floatBits .add k (fi k a) (fi k b) = some (fi k (a + b)) := by
  have sa : ∀ a : Int, sg (decide (a < 0)) a.natAbs = a := by
    intro a
    unfold sg
    by_cases h : a < 0
    · rw [decide_eq_true h, if_pos rfl]; omega
    · rw [decide_eq_false h]; simp; omega
  unfold fi
  rw [addw _ _ _ _ ha hb (by rw [sa, sa]; exact hab), sa, sa]
  by_cases h : a + b = 0
  · rw [if_pos h, h]
    have : (decide (a < 0) && decide (b < 0)) = false := by
      by_cases h1 : a < 0
      · rw [decide_eq_false (show ¬ b < 0 by omega)]; simp
      · rw [decide_eq_false h1]; rfl
    rw [this]
    rfl
  · rw [if_neg h]
end Go.Proofs.Ytomgdlnpajfjhaa

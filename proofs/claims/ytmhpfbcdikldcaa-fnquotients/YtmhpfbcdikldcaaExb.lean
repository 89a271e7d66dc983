/- Whole numbers in floats: sums, products, conversions; no condition. -/
import Derived.Test.YtmhpfbcdikldcaaExa
namespace Go.Proofs.Ytmhpfbcdikldcaa
open Go.RowKit Go.ChangeShapes Go.WideShapes Go.ChangeAt
set_option linter.unusedVariables false
set_option linter.unusedSimpArgs false
set_option maxRecDepth 8000
def wN (k : FloatKind) (s : Bool) (n : Nat) : Nat := k.format.nearest s n 0
def sg (s : Bool) (n : Nat) : Int := if s then -(n : Int) else n
def fi (k : FloatKind) (a : Int) : Nat := wN k (decide (a < 0)) a.natAbs
theorem fitK (k : FloatKind) : Fit k.format := by cases k; exact fit32; exact fit64
theorem wN_nan (k : FloatKind) (s : Bool) (n : Nat) : fnan k (wN k s n) = false := nan_nearest _ _ _ _
theorem wN_fc (k : FloatKind) (s : Bool) (n : Nat) : fc k (wN k s n) = some (wN k s n) := fc_some (wN_nan ..)
theorem signed_sg (s : Bool) (n i m : Nat) (h : i ≤ m) : Ieee.signed s (n <<< i) (m - i) = sg s n * (2 ^ m : Nat) := by
  have e : n <<< i <<< (m - i) = n * 2 ^ m := by
    rw [← Nat.shiftLeft_add, Nat.shiftLeft_eq]; congr 2; omega
  unfold Ieee.signed sg
  rw [e]
  cases s <;> simp [Int.neg_mul]
theorem sum_w {k : FloatKind} (s t : Bool) (m n : Nat) (x y : Nat) (i j : Nat) (hx : k.format.read x = .number s (m <<< i) (-(i : Int))) (hy : k.format.read y = .number t (n <<< j) (-(j : Int))) (ht : (sg s m + sg t n).natAbs < 2 ^ (k.format.fractionBits + 1)) :
    ((k.format.read x).sum (k.format.read y)).map k.format.write = some (wN k (if sg s m + sg t n = 0 then s && t else decide (sg s m + sg t n < 0)) (sg s m + sg t n).natAbs) := by
  rw [hx, hy]
  simp only [Ieee.Datum.sum, Option.map_some, Option.some.injEq]
  obtain ⟨q, hq⟩ : ∃ q, max i j = q := ⟨_, rfl⟩
  have hmin : min (-(i : Int)) (-(j : Int)) = -(q : Int) := by omega
  have e1 : (-(i : Int) - -(q : Int)).toNat = q - i := by omega
  have e2 : (-(j : Int) - -(q : Int)).toNat = q - j := by omega
  rw [hmin, e1, e2, signed_sg s m i q (by omega), signed_sg t n j q (by omega), ← Int.add_mul]
  have hp : (0 : Int) < (2 ^ q : Nat) := by have := Nat.two_pow_pos q; omega
  generalize sg s m + sg t n = z at ht ⊢
  have e3 : (z * (2 ^ q : Nat)).natAbs = z.natAbs <<< q := by rw [Int.natAbs_mul, Nat.shiftLeft_eq]; simp
  have e4 : (z * ((2 ^ q : Nat) : Int) = 0) ↔ z = 0 := by
    constructor
    · intro h
      rcases Int.mul_eq_zero.1 h with h | h
      · exact h
      · omega
    · intro h; rw [h, Int.zero_mul]
  have e5 : (z * ((2 ^ q : Nat) : Int) < 0) ↔ z < 0 := by
    constructor
    · intro h
      by_cases h' : z < 0
      · exact h'
      · have := Int.mul_nonneg (show 0 ≤ z by omega) (Int.le_of_lt hp); omega
    · intro h; exact Int.mul_neg_of_neg_of_pos h hp
  unfold Ieee.Format.write
  simp only [e3, e4, e5]
  rw [nearest_shift (fitK k) _ _ _ ht]
  rfl
theorem addw {k : FloatKind} (s t : Bool) (m n : Nat) (hm : m < 2 ^ (k.format.fractionBits + 1)) (hn : n < 2 ^ (k.format.fractionBits + 1)) (ht : (sg s m + sg t n).natAbs < 2 ^ (k.format.fractionBits + 1)) :
    floatBits .add k (wN k s m) (wN k t n) = some (wN k (if sg s m + sg t n = 0 then s && t else decide (sg s m + sg t n < 0)) (sg s m + sg t n).natAbs) := by
  obtain ⟨i, hi, -⟩ := read_nearest (fitK k) s m hm
  obtain ⟨j, hj, -⟩ := read_nearest (fitK k) t n hn
  exact sum_w s t m n _ _ i j hi hj ht
theorem subw {k : FloatKind} (s t : Bool) (m n : Nat) (hm : m < 2 ^ (k.format.fractionBits + 1)) (hn : n < 2 ^ (k.format.fractionBits + 1)) (ht : (sg s m + sg (!t) n).natAbs < 2 ^ (k.format.fractionBits + 1)) :
    floatBits .sub k (wN k s m) (wN k t n) = some (wN k (if sg s m + sg (!t) n = 0 then s && !t else decide (sg s m + sg (!t) n < 0)) (sg s m + sg (!t) n).natAbs) := by
  obtain ⟨i, hi, -⟩ := read_nearest (fitK k) s m hm
  obtain ⟨j, hj, -⟩ := read_nearest (fitK k) t n hn
  obtain ⟨j', hj', -⟩ := read_nearest (fitK k) (!t) n hn
  have h := sum_w (k := k) s (!t) m n _ _ i j' hi hj' ht
  rw [hi] at h
  have ho : (k.format.read (wN k t n)).opposite = .number (!t) (n <<< j) (-(j : Int)) := by rw [show k.format.read (wN k t n) = _ from hj]; rfl
  have hs := sum_w (k := k) s (!t) m n (wN k s m) (wN k (!t) n) i j' hi hj' ht
  simp only [floatBits, Ieee.Format.sub]
  rw [ho, show k.format.read (wN k s m) = _ from hi]
  -- the same sum, the digits of the second moved otherwise
  simp only [Ieee.Datum.sum, Option.map_some, Option.some.injEq]
  obtain ⟨q, hq⟩ : ∃ q, max i j = q := ⟨_, rfl⟩
  have hmin : min (-(i : Int)) (-(j : Int)) = -(q : Int) := by omega
  have e1 : (-(i : Int) - -(q : Int)).toNat = q - i := by omega
  have e2 : (-(j : Int) - -(q : Int)).toNat = q - j := by omega
  rw [hmin, e1, e2, signed_sg s m i q (by omega), signed_sg (!t) n j q (by omega), ← Int.add_mul]
  have hp : (0 : Int) < (2 ^ q : Nat) := by have := Nat.two_pow_pos q; omega
  clear h hs ho
  generalize sg s m + sg (!t) n = z at ht ⊢
  have e3 : (z * (2 ^ q : Nat)).natAbs = z.natAbs <<< q := by rw [Int.natAbs_mul, Nat.shiftLeft_eq]; simp
  have e4 : (z * ((2 ^ q : Nat) : Int) = 0) ↔ z = 0 := by
    constructor
    · intro h
      rcases Int.mul_eq_zero.1 h with h | h
      · exact h
      · omega
    · intro h; rw [h, Int.zero_mul]
  have e5 : (z * ((2 ^ q : Nat) : Int) < 0) ↔ z < 0 := by
    constructor
    · intro h
      by_cases h' : z < 0
      · exact h'
      · have := Int.mul_nonneg (show 0 ≤ z by omega) (Int.le_of_lt hp); omega
    · intro h; exact Int.mul_neg_of_neg_of_pos h hp
  unfold Ieee.Format.write
  simp only [e3, e4, e5]
  rw [nearest_shift (fitK k) _ _ _ ht]
  rfl
theorem mulw {k : FloatKind} (s t : Bool) (m n : Nat) (hm : m < 2 ^ (k.format.fractionBits + 1)) (hn : n < 2 ^ (k.format.fractionBits + 1)) (ht : m * n < 2 ^ (k.format.fractionBits + 1)) :
    floatBits .mul k (wN k s m) (wN k t n) = some (wN k (s ^^ t) (m * n)) := by
  obtain ⟨i, hi, -⟩ := read_nearest (fitK k) s m hm
  obtain ⟨j, hj, -⟩ := read_nearest (fitK k) t n hn
  simp only [floatBits, Ieee.Format.mul]
  rw [show k.format.read (wN k s m) = _ from hi, show k.format.read (wN k t n) = _ from hj]
  simp only [Ieee.Datum.product, Option.map_some, Option.some.injEq]
  have e : m <<< i * n <<< j = (m * n) <<< (i + j) := by
    rw [Nat.shiftLeft_eq, Nat.shiftLeft_eq, Nat.shiftLeft_eq, Nat.pow_add, Nat.mul_mul_mul_comm]
  have e' : -(i : Int) + -(j : Int) = -((i + j : Nat) : Int) := by omega
  show k.format.nearest (s ^^ t) (m <<< i * n <<< j) (-(i : Int) + -(j : Int)) = _
  rw [e, e']
  exact nearest_shift (fitK k) _ _ _ ht
theorem wid_w (s : Bool) (n : Nat) (hn : n < 16777216) : wid (wN .f32 s n) = wN .f64 s n := by
  obtain ⟨i, hi, -⟩ := read_nearest fit32 s n (show n < 2 ^ (23 + 1) by simpa using hn)
  unfold wid FloatKind.encode FloatKind.decode
  rw [show FloatKind.f32.format.read (wN .f32 s n) = _ from hi]
  unfold Ieee.Format.write
  exact nearest_shift fit64 s n i (show n < 2 ^ (52 + 1) from Nat.lt_of_lt_of_le hn (by decide))
theorem run_nar {P : Program} (s : Bool) (n : Nat) (hn : n < 16777216) (w : World) : (Conv.floatToFloat .f64 (wN .f64 s n) .f32).run P w = .ok (.float .f32 (wN .f32 s n)) w := by
  obtain ⟨i, hi, -⟩ := read_nearest fit64 s n (show n < 2 ^ (52 + 1) from Nat.lt_of_lt_of_le hn (by decide))
  have hn' : n < 2 ^ (23 + 1) := by simpa using hn
  obtain ⟨j, hj, -⟩ := read_nearest fit32 s n hn'
  have he : FloatKind.f32.encode (.number s (n <<< i) (-(i : Int))) = wN .f32 s n := nearest_shift fit32 s n i hn'
  unfold Conv.floatToFloat
  rw [if_neg (by decide)]
  rw [show FloatKind.f64.decode (wN .f64 s n) = _ from hi]
  simp only [he]
  rw [show FloatKind.f32.decode (wN .f32 s n) = _ from hj]
  rfl
theorem flip_top (k x : Nat) (hx : x < 2 ^ k) : x ^^^ 2 ^ k = 2 ^ k + x := by
  apply Nat.eq_of_testBit_eq
  intro i
  rw [Nat.testBit_xor, Nat.testBit_two_pow]
  by_cases h : i = k
  · subst h
    rw [Nat.testBit_lt_two_pow hx, Nat.testBit_two_pow_add_eq, Nat.testBit_lt_two_pow hx]; simp
  · have hd : decide (k = i) = false := decide_eq_false (by omega)
    rw [hd, Bool.xor_false]
    rcases Nat.lt_or_gt_of_ne h with h' | h'
    · rw [Nat.testBit_two_pow_add_gt h']
    · have h1 : x < 2 ^ i := Nat.lt_of_lt_of_le hx (Nat.pow_le_pow_right (by omega) (by omega))
      have h2 : 2 ^ k + x < 2 ^ i := Nat.lt_of_lt_of_le (show 2 ^ k + x < 2 ^ (k + 1) by rw [Nat.pow_succ]; omega) (Nat.pow_le_pow_right (by omega) (by omega))
      rw [Nat.testBit_lt_two_pow h1, Nat.testBit_lt_two_pow h2]
theorem word_false (f : Ieee.Format) (r : Nat) : f.word false r = r := by simp [Ieee.Format.word]
theorem nearest_word (f : Ieee.Format) (s : Bool) (n : Nat) (p : Int) : f.nearest s n p = f.word s (f.nearest false n p) := by
  unfold Ieee.Format.nearest
  by_cases h : n = 0
  · rw [if_pos h, if_pos h, word_false]
  · rw [if_neg h, if_neg h]
    dsimp only
    rw [word_false]
    rfl
theorem nearest_le (f : Ieee.Format) (n : Nat) (p : Int) : f.nearest false n p ≤ f.infRung := by
  unfold Ieee.Format.nearest
  by_cases h : n = 0
  · rw [if_pos h, word_false]; omega
  · rw [if_neg h]
    dsimp only
    rw [word_false]
    exact Nat.min_le_right ..
theorem ir32 : FloatKind.f32.format.infRung < 2 ^ 31 := by decide
theorem neg_w (s : Bool) (n : Nat) : Op.negFloat .f32 (wN .f32 s n) = wN .f32 (!s) n := by
  have hw : ∀ s, wN .f32 s n = FloatKind.f32.format.word s (wN .f32 false n) := fun s => nearest_word _ s n 0
  have hlt : wN .f32 false n < 2 ^ 31 := Nat.lt_of_le_of_lt (nearest_le _ n 0) ir32
  have e1 : ∀ x, Op.negFloat .f32 x = x ^^^ 2 ^ 31 := fun _ => rfl
  rw [e1, hw s, hw (!s)]
  generalize wN .f32 false n = r at hlt
  have sw : FloatKind.f32.format.signWeight = 2 ^ 31 := rfl
  unfold Ieee.Format.word
  rw [sw]
  cases s
  · simp only [Bool.false_eq_true, if_false, Bool.not_false, if_true]
    exact flip_top 31 r hlt
  · simp only [if_true, Bool.not_true, Bool.false_eq_true, if_false]
    rw [← flip_top 31 r hlt, Nat.xor_assoc, Nat.xor_self, Nat.xor_zero]
theorem fi_of (k : FloatKind) (n : Int) : floatOfInt k n = fi k n := rfl
theorem add_fi {k : FloatKind} (a b : Int) (ha : a.natAbs < 2 ^ (k.format.fractionBits + 1)) (hb : b.natAbs < 2 ^ (k.format.fractionBits + 1)) (hab : (a + b).natAbs < 2 ^ (k.format.fractionBits + 1)) : floatBits .add k (fi k a) (fi k b) = some (fi k (a + b)) := by
  have sa : ∀ a : Int, sg (decide (a < 0)) a.natAbs = a := by
    intro a
    unfold sg
    by_cases h : a < 0
    · rw [decide_eq_true h, if_pos rfl]; omega
    · rw [decide_eq_false h]; simp; omega
  unfold fi
  rw [addw _ _ _ _ ha hb (by rw [sa, sa]; exact hab), sa, sa]
  by_cases h : a + b = 0
  · rw [if_pos h, h]
    have : (decide (a < 0) && decide (b < 0)) = false := by
      by_cases h1 : a < 0
      · rw [decide_eq_false (show ¬ b < 0 by omega)]; simp
      · rw [decide_eq_false h1]; rfl
    rw [this]
    rfl
  · rw [if_neg h]
end Go.Proofs.Ytmhpfbcdikldcaa

/- Rounding in double precision; no condition. -/
import Derived.Test.YtomgdlnpajfjhaaExa
import Derived.Test.YtomgdlnpajfjhaaQuo
namespace Go.Proofs.Ytomgdlnpajfjhaa
open Go.RowKit Go.ChangeShapes Go.WideShapes Go.ChangeAt
set_option linter.unusedVariables false
set_option linter.unusedSimpArgs false
set_option maxRecDepth 8000

theorem pow_split (a b : Nat) (h : a ≤ b) : 2 ^ b = 2 ^ a * 2 ^ (b - a) := by rw [← Nat.pow_add]; congr 1; omega
theorem cut_bd (s : Bool) (n d : Nat) (hd : d ≤ n.log2 + 2) : Ieee.Toward.even.cut s n d * 2 ^ d ≤ n + 2 ^ d ∧ n ≤ Ieee.Toward.even.cut s n d * 2 ^ d + 2 ^ d ∧ n / 2 ^ d ≤ Ieee.Toward.even.cut s n d ∧ Ieee.Toward.even.cut s n d ≤ n / 2 ^ d + 1 := by
  unfold Ieee.Toward.cut
  rw [show min d (n.log2 + 2) = d by omega]
  have e2 : (1 : Nat) <<< d = 2 ^ d := by rw [Nat.shiftLeft_eq, Nat.one_mul]
  simp only [e2]
  have hp := Nat.two_pow_pos d
  have h1 := Nat.div_add_mod n (2 ^ d)
  have h2 := Nat.mod_lt n hp
  generalize n / 2 ^ d = q at *
  generalize n % 2 ^ d = r at *
  generalize (decide (2 ^ d < 2 * r) || 2 ^ d == 2 * r && q % 2 == 1) = t
  generalize 2 ^ d = g at *
  rw [Nat.mul_comm g q] at h1
  cases t
  · simp; omega
  · simp [Nat.add_mul]; omega
abbrev F6 : Ieee.Format := FloatKind.f64.format
theorem read_word64 (s : Bool) (r : Nat) (h0 : 4503599627370496 ≤ r) (h1 : r < 9218868437227405312) : F6.read (F6.word s r) = .number s (4503599627370496 + r % 4503599627370496) (-1074 + ((r / 4503599627370496 - 1 : Nat) : Int)) := by
  unfold Ieee.Format.read Ieee.Format.word
  rw [sw64, bi64, ir64, lp64]
  cases s
  · have e1 : (r / 9223372036854775808 % 2 == 1) = false := by simp; omega
    have e2 : r % 9223372036854775808 = r := Nat.mod_eq_of_lt (by omega)
    simp only [Bool.false_eq_true, if_false, e2]
    rw [if_neg (by omega), if_pos h1]
    simp; omega
  · have e1 : ((9223372036854775808 + r) / 9223372036854775808 % 2 == 1) = true := by simp; omega
    have e2 : (9223372036854775808 + r) % 9223372036854775808 = r := by omega
    simp only [if_true, e2]
    rw [if_neg (by omega), if_pos h1]
    simp; omega
theorem rung_lt (E kp : Nat) (h : E ≤ 1922) (hk : kp ≤ 9007199254740992) : E * 4503599627370496 + kp < 9218868437227405312 := by omega
theorem rung_a (E kp : Nat) (h0 : 4503599627370496 ≤ kp) (h1 : kp < 9007199254740992) : 4503599627370496 + (E * 4503599627370496 + kp) % 4503599627370496 = kp ∧ (E * 4503599627370496 + kp) / 4503599627370496 - 1 = E := by omega
theorem rung_b (E : Nat) : 4503599627370496 + (E * 4503599627370496 + 9007199254740992) % 4503599627370496 = 4503599627370496 ∧ (E * 4503599627370496 + 9007199254740992) / 4503599627370496 - 1 = E + 1 := by omega
set_option maxHeartbeats 1600000 in
theorem round64 (s : Bool) (m : Nat) (p : Int) (hm : 0 < m) (h0 : -900 ≤ p + m.log2) (h1 : p + m.log2 ≤ 900) :
    ∃ (kp m' : Nat) (p' : Int), F6.read (F6.nearest s m p) = .number s m' p' ∧ 4503599627370496 ≤ kp ∧ kp ≤ 9007199254740992 ∧
      ((p' = p + m.log2 - 52 ∧ m' = kp) ∨ (p' = p + m.log2 - 51 ∧ 2 * m' = kp)) ∧
      ((m.log2 ≤ 52 ∧ kp = m * 2 ^ (52 - m.log2)) ∨ (52 < m.log2 ∧ kp * 2 ^ (m.log2 - 52) ≤ m + 2 ^ (m.log2 - 52) ∧ m ≤ kp * 2 ^ (m.log2 - 52) + 2 ^ (m.log2 - 52))) := by
  have hm0 : m ≠ 0 := by omega
  have hlo : 2 ^ m.log2 ≤ m := Nat.log2_self_le hm0
  have hhi : m < 2 ^ (m.log2 + 1) := Nat.lt_log2_self
  generalize hL : m.log2 = L at *
  have hfb : (F6.fractionBits : Int) = 52 := rfl
  have hlp : F6.leastPlace = -1074 := lp64
  have hnr : F6.nearest s m p = F6.word s (min ((max (p + (L : Int) - 52) (-1074) - (-1074)).toNat * 4503599627370496 + Ieee.Toward.even.cut s (m <<< (p - max (p + (L : Int) - 52) (-1074)).toNat) (max (p + (L : Int) - 52) (-1074) - p).toNat) 9218868437227405312) := by
    unfold Ieee.Format.nearest
    rw [if_neg hm0, hL, hlp, ir64, bi64]; rfl
  have hmax : max (p + (L : Int) - 52) (-1074) = p + (L : Int) - 52 := by omega
  rw [hmax] at hnr
  obtain ⟨kp, hk, hk0, hk1, hkk⟩ : ∃ kp, Ieee.Toward.even.cut s (m <<< (p - (p + (L : Int) - 52)).toNat) (p + (L : Int) - 52 - p).toNat = kp ∧ 4503599627370496 ≤ kp ∧ kp ≤ 9007199254740992 ∧ ((L ≤ 52 ∧ kp = m * 2 ^ (52 - L)) ∨ (52 < L ∧ kp * 2 ^ (L - 52) ≤ m + 2 ^ (L - 52) ∧ m ≤ kp * 2 ^ (L - 52) + 2 ^ (L - 52))) := by
    by_cases hl : L ≤ 52
    · have e1 : (p - (p + (L : Int) - 52)).toNat = 52 - L := by omega
      have e2 : (p + (L : Int) - 52 - p).toNat = 0 := by omega
      rw [e1, e2, cut_zero, Nat.shiftLeft_eq]
      have q1 := pow_split L 52 hl
      have q2 : (2 : Nat) ^ (L + 1) * 2 ^ (52 - L) = 2 ^ 53 := by rw [← Nat.pow_add]; congr 1; omega
      have q3 : 2 ^ L * 2 ^ (52 - L) ≤ m * 2 ^ (52 - L) := Nat.mul_le_mul_right _ hlo
      have q4 : m * 2 ^ (52 - L) < 2 ^ (L + 1) * 2 ^ (52 - L) := Nat.mul_lt_mul_of_pos_right hhi (Nat.two_pow_pos _)
      rw [← q1] at q3
      rw [q2] at q4
      exact ⟨_, rfl, by simpa using q3, by have := q4; omega, .inl ⟨hl, rfl⟩⟩
    · have e1 : (p - (p + (L : Int) - 52)).toNat = 0 := by omega
      have e2 : (p + (L : Int) - 52 - p).toNat = L - 52 := by omega
      rw [e1, e2, Nat.shiftLeft_zero]
      obtain ⟨c1, c2, c3, c4⟩ := cut_bd s m (L - 52) (by rw [hL]; omega)
      have q1 := pow_split (L - 52) L (by omega)
      have q1' : L - (L - 52) = 52 := by omega
      rw [q1'] at q1
      have q2 : (2 : Nat) ^ (L + 1) = 2 ^ (L - 52) * 2 ^ 53 := by rw [← Nat.pow_add]; congr 1; omega
      have hp := Nat.two_pow_pos (L - 52)
      have d1 : 2 ^ 52 ≤ m / 2 ^ (L - 52) := by
        rw [Nat.le_div_iff_mul_le hp, Nat.mul_comm, ← q1]; exact hlo
      have d2 : m / 2 ^ (L - 52) < 2 ^ 53 := by
        rw [Nat.div_lt_iff_lt_mul hp, Nat.mul_comm, ← q2]; exact hhi
      exact ⟨_, rfl, by have : (2 : Nat) ^ 52 = 4503599627370496 := by decide
                        omega, by have : (2 : Nat) ^ 53 = 9007199254740992 := by decide
                                  omega, .inr ⟨by omega, c1, c2⟩⟩
  rw [hk] at hnr
  obtain ⟨E, hE⟩ : ∃ E : Nat, (p + (L : Int) - 52 - (-1074)).toNat = E := ⟨_, rfl⟩
  have hEi : (E : Int) = p + (L : Int) + 1022 := by omega
  rw [hE] at hnr
  have hEb : E ≤ 1922 := by omega
  have hrl := rung_lt E kp hEb hk1
  rw [Nat.min_eq_left (Nat.le_of_lt hrl)] at hnr
  have hrd := read_word64 s (E * 4503599627370496 + kp) (by clear hkk hlo hhi; omega) hrl
  rw [hnr, hrd]
  by_cases hkk2 : kp = 9007199254740992
  · subst hkk2
    obtain ⟨r1, r2⟩ := rung_b E
    rw [r1, r2]
    exact ⟨_, _, _, rfl, hk0, hk1, .inr ⟨by clear hkk hlo hhi; omega, by decide⟩, hkk⟩
  · obtain ⟨r1, r2⟩ := rung_a E kp hk0 (by clear hkk hlo hhi; omega)
    rw [r1, r2]
    exact ⟨_, _, _, rfl, hk0, hk1, .inl ⟨by clear hkk hlo hhi; omega, rfl⟩, hkk⟩

end Go.Proofs.Ytomgdlnpajfjhaa
namespace Go.Proofs.Ytomgdlnpajfjhaa
open Go.RowKit Go.ChangeShapes Go.WideShapes Go.ChangeAt
set_option linter.unusedVariables false
set_option linter.unusedSimpArgs false
set_option maxRecDepth 8000

theorem le54 {m : Nat} (h : m ≤ 9007199254740992) : m < 2 ^ 54 := by
  have : (2 : Nat) ^ 54 = 18014398509481984 := by decide
  omega
/-- the size of a number, in 2 ^ 200ths -/
def sc (m : Nat) (p : Int) : Nat := m * 2 ^ (p + 200).toNat
theorem sc_round (m' kp : Nat) (p' la : Int) (hla : 0 ≤ la + 200) (h : (p' = la ∧ m' = kp) ∨ (p' = la + 1 ∧ 2 * m' = kp)) : sc m' p' = kp * 2 ^ (la + 200).toNat := by
  unfold sc
  rcases h with ⟨rfl, rfl⟩ | ⟨rfl, rfl⟩
  · rfl
  · rw [show (la + 1 + 200).toNat = (la + 200).toNat + 1 by omega, Nat.pow_succ, Nat.mul_comm 2 m', Nat.mul_assoc, Nat.mul_comm 2 (2 ^ _)]
theorem quo_core (m n q b G W A J : Nat) (hn : 0 < n) (hJ : 0 < J) (h1 : q * n ≤ m * W) (h2 : m * W < (q + 1) * n) (hb : b = if m * W % n = 0 then 0 else 1) (hq0 : q = m * W / n) (hG1 : G ≤ 2 * q + b + 8) (hG2 : 2 * q + b ≤ G + 8) :
    (G * A) * (n * J) ≤ 2 * (m * W) * A * J + 9 * ((n * J) * A) ∧ 2 * (m * W) * A * J ≤ (G * A) * (n * J) + 9 * ((n * J) * A) := by
  have e1 : G * n ≤ 2 * (m * W) + 9 * n ∧ 2 * (m * W) ≤ G * n + 9 * n := by
    have hGn1 : G * n ≤ (2 * q + b + 8) * n := Nat.mul_le_mul_right _ hG1
    have hGn2 : (2 * q + b) * n ≤ (G + 8) * n := Nat.mul_le_mul_right _ hG2
    have hb1 : b ≤ 1 := by rw [hb]; split <;> omega
    have hbn : b * n ≤ n := by have := Nat.mul_le_mul_right n hb1; omega
    have hqq : (q + 1) * n = q * n + n := by rw [Nat.add_mul, Nat.one_mul]
    have ex1 : (2 * q + b + 8) * n = 2 * (q * n) + b * n + 8 * n := by rw [Nat.add_mul, Nat.add_mul, Nat.mul_assoc]
    have ex2 : (2 * q + b) * n = 2 * (q * n) + b * n := by rw [Nat.add_mul, Nat.mul_assoc]
    have ex3 : (G + 8) * n = G * n + 8 * n := by rw [Nat.add_mul]
    have hdm := Nat.div_add_mod (m * W) n
    rw [← hq0, Nat.mul_comm n q] at hdm
    have hrl := Nat.mod_lt (m * W) hn
    by_cases hr : m * W % n = 0
    · have hb0 : b = 0 := by rw [hb, if_pos hr]
      subst hb0
      omega
    · have hb0 : b = 1 := by rw [hb, if_neg hr]
      subst hb0
      omega
  have f1 := Nat.mul_le_mul_right (A * J) e1.1
  have f2 := Nat.mul_le_mul_right (A * J) e1.2
  have g1 : (G * A) * (n * J) = G * n * (A * J) := by rw [Nat.mul_mul_mul_comm]
  have g2 : 2 * (m * W) * A * J = 2 * (m * W) * (A * J) := by rw [Nat.mul_assoc]
  have g3 : 9 * ((n * J) * A) = 9 * n * (A * J) := by rw [Nat.mul_assoc n J A, Nat.mul_comm J A, Nat.mul_assoc]
  rw [g1, g2, g3]
  rw [Nat.add_mul] at f1 f2
  exact ⟨f1, f2⟩
set_option maxHeartbeats 1600000 in
theorem quo64 (s t : Bool) (m n x y : Nat) (i j : Int) (hm : 0 < m) (hm2 : m ≤ 9007199254740992) (hn : 0 < n) (hn2 : n ≤ 9007199254740992) (hi : -75 ≤ i) (hi2 : i ≤ 0) (hj : -75 ≤ j) (hj2 : j ≤ -30)
    (hx : F6.read x = .number s m i) (hy : F6.read y = .number t n j) (hle : sc m i ≤ 4096 * sc n j) :
    ∃ (r m' : Nat) (p' : Int), F6.div x y = some r ∧ F6.read r = .number (s ^^ t) m' p' ∧ 2251799813685248 ≤ m' ∧ m' ≤ 9007199254740992 ∧ -190 ≤ p' ∧ p' ≤ 190 ∧
      sc m' p' * sc n j ≤ sc m i * 2 ^ 200 + sc n j * 2 ^ 162 ∧ sc m i * 2 ^ 200 ≤ sc m' p' * sc n j + sc n j * 2 ^ 162 := by
  have hm0 : m ≠ 0 := by omega
  have hn0 : n ≠ 0 := by omega
  have lm1 : 2 ^ m.log2 ≤ m := Nat.log2_self_le hm0
  have lm2 : m < 2 ^ (m.log2 + 1) := Nat.lt_log2_self
  have ln1 : 2 ^ n.log2 ≤ n := Nat.log2_self_le hn0
  have ln2 : n < 2 ^ (n.log2 + 1) := Nat.lt_log2_self
  have hLm : m.log2 ≤ 53 := by have := (Nat.log2_lt hm0 (k := 54)).2 (le54 hm2); omega
  have hLn : n.log2 ≤ 53 := by have := (Nat.log2_lt hn0 (k := 54)).2 (le54 hn2); omega
  generalize hLmE : m.log2 = Lm at *
  generalize hLnE : n.log2 = Ln at *
  obtain ⟨mo, hmo⟩ : ∃ mo, 54 + Ln - Lm = mo := ⟨_, rfl⟩
  have hdiv : F6.div x y = some (F6.nearest (s ^^ t) (2 * (m <<< mo / n) + (m <<< mo % n != 0).toNat) (i - j - mo - 1)) := by
    unfold Ieee.Format.div
    rw [hx, hy]
    simp only [Ieee.Datum.quotient, if_neg hn0, Option.map_some, Option.some.injEq]
    rw [hLmE, hLnE, show (FloatKind.f64.format).fractionBits + 2 = 54 from rfl, hmo]
    rfl
  rw [Nat.shiftLeft_eq] at hdiv
  obtain ⟨W, hW⟩ : ∃ W, 2 ^ mo = W := ⟨_, rfl⟩
  have hWp : 0 < W := by rw [← hW]; exact Nat.two_pow_pos _
  obtain ⟨q, hq⟩ : ∃ q, m * W / n = q := ⟨_, rfl⟩
  obtain ⟨bb, hbb⟩ : ∃ bb, (m * W % n != 0).toNat = bb := ⟨_, rfl⟩
  have hbb1 : bb = if m * W % n = 0 then 0 else 1 := by
    rw [← hbb]
    by_cases h : m * W % n = 0
    · simp [h]
    · simp [h]
  have hbb2 : bb ≤ 1 := by rw [hbb1]; split <;> omega
  have hq1 : q * n ≤ m * W := by rw [← hq]; exact Nat.div_mul_le_self _ _
  have hq2 : m * W < (q + 1) * n := by rw [← hq, Nat.mul_comm (m * W / n + 1) n]; exact Nat.lt_mul_div_succ _ hn
  -- q lies between 2^53 and 2^55
  have mW1 : 2 ^ (54 + Ln) ≤ m * W := by
    have e : 2 ^ (54 + Ln) = 2 ^ Lm * W := by rw [← hW, ← Nat.pow_add]; congr 1; omega
    rw [e]; exact Nat.mul_le_mul_right _ lm1
  have mW2 : m * W < 2 ^ (55 + Ln) := by
    have e : 2 ^ (55 + Ln) = 2 ^ (Lm + 1) * W := by rw [← hW, ← Nat.pow_add]; congr 1; omega
    rw [e]; exact Nat.mul_lt_mul_of_pos_right lm2 hWp
  have qlo : 2 ^ 53 ≤ q := by
    rw [← hq, Nat.le_div_iff_mul_le hn]
    have e : 2 ^ (54 + Ln) = 2 ^ 53 * 2 ^ (Ln + 1) := by rw [← Nat.pow_add]; congr 1; omega
    have : 2 ^ 53 * n ≤ 2 ^ 53 * 2 ^ (Ln + 1) := Nat.mul_le_mul_left _ (Nat.le_of_lt ln2)
    rw [← e] at this
    exact Nat.le_trans this mW1
  have qhi : q < 2 ^ 55 := by
    rw [← hq, Nat.div_lt_iff_lt_mul hn]
    have e : 2 ^ (55 + Ln) = 2 ^ 55 * 2 ^ Ln := by rw [← Nat.pow_add]
    have : 2 ^ 55 * 2 ^ Ln ≤ 2 ^ 55 * n := Nat.mul_le_mul_left _ ln1
    rw [← e] at this
    exact Nat.lt_of_lt_of_le mW2 this
  have c53 : (2 : Nat) ^ 53 = 9007199254740992 := by decide
  have c55 : (2 : Nat) ^ 55 = 36028797018963968 := by decide
  rw [c53] at qlo
  rw [c55] at qhi
  obtain ⟨g, hg⟩ : ∃ g, 2 * q + bb = g := ⟨_, rfl⟩
  rw [hW, hq, hbb, hg] at hdiv
  have hg0 : 0 < g := by omega
  have hgl1 : 2 ^ 54 ≤ g := by have : (2 : Nat) ^ 54 = 18014398509481984 := by decide
                               omega
  have hgl2 : g < 2 ^ 56 := by have : (2 : Nat) ^ 56 = 72057594037927936 := by decide
                               omega
  have hL1 : 54 ≤ g.log2 := (Nat.le_log2 (by omega)).2 hgl1
  have hL2 : g.log2 ≤ 55 := by have := (Nat.log2_lt (by omega) (k := 56)).2 hgl2; omega
  obtain ⟨kp, m', p', hrd, hk0, hk1, hpm, hkk⟩ := round64 (s ^^ t) g (i - j - mo - 1) hg0 (by omega) (by omega)
  generalize hLg : g.log2 = L at *
  obtain ⟨pl, hpl⟩ : ∃ pl : Int, i - j - mo - 1 = pl := ⟨_, rfl⟩
  rw [hpl] at hdiv hrd hpm
  have hplb : -190 ≤ pl := by omega
  have hplb2 : pl ≤ 180 := by omega
  obtain ⟨A, hA⟩ : ∃ A, 2 ^ (pl + 200).toNat = A := ⟨_, rfl⟩
  obtain ⟨J, hJ⟩ : ∃ J, 2 ^ (j + 200).toNat = J := ⟨_, rfl⟩
  have hJp : 0 < J := by rw [← hJ]; exact Nat.two_pow_pos _
  have hZ : sc m' p' = kp * 2 ^ (L - 52) * A := by
    rw [sc_round m' kp p' (pl + L - 52) (by omega) (by rcases hpm with h | h; exact .inl ⟨by omega, h.2⟩; exact .inr ⟨by omega, h.2⟩), ← hA, Nat.mul_assoc, ← Nat.pow_add]
    congr 2; omega
  have h8 : 2 ^ (L - 52) ≤ 8 := by
    have := Nat.pow_le_pow_right (show 0 < 2 by omega) (show L - 52 ≤ 3 by omega)
    simpa using this
  obtain ⟨G, hG⟩ : ∃ G, kp * 2 ^ (L - 52) = G := ⟨_, rfl⟩
  have hG1 : G ≤ 2 * q + bb + 8 := by
    rcases hkk with h | ⟨-, h, -⟩
    · omega
    · rw [hG] at h; omega
  have hG2 : 2 * q + bb ≤ G + 8 := by
    rcases hkk with h | ⟨-, -, h⟩
    · omega
    · rw [hG] at h; omega
  rw [hG] at hZ
  obtain ⟨c1, c2⟩ := quo_core m n q bb G W A J hn hJp hq1 hq2 hbb1 hq.symm hG1 hG2
  have hY : sc n j = n * J := by unfold sc; rw [hJ]
  have hX : sc m i * 2 ^ 200 = 2 * (m * W) * A * J := by
    unfold sc
    rw [← hW, ← hA, ← hJ, Nat.mul_assoc m, ← Nat.pow_add, Nat.mul_comm 2 (m * 2 ^ mo), Nat.mul_assoc m (2 ^ mo) 2, ← Nat.pow_succ, Nat.mul_assoc m, ← Nat.pow_add, Nat.mul_assoc m, ← Nat.pow_add]
    congr 2
    omega
  -- how great A may be
  have hAA : A ≤ 2 ^ 158 := by
    have k1 : 2 ^ 54 * n ≤ 2 * (m * W) := by
      have : 2 ^ 53 * n ≤ q * n := Nat.mul_le_mul_right _ (by rw [c53]; exact qlo)
      have e : 2 ^ 54 * n = 2 * (2 ^ 53 * n) := by rw [← Nat.mul_assoc]
      rw [e]
      exact Nat.mul_le_mul_left _ (Nat.le_trans this hq1)
    have k2 : 2 ^ 54 * n * (A * J) ≤ 2 * (m * W) * (A * J) := Nat.mul_le_mul_right _ k1
    have k3 : 2 * (m * W) * (A * J) ≤ 4096 * (n * J) * 2 ^ 200 := by
      rw [← Nat.mul_assoc, ← hX, ← hY]
      exact Nat.mul_le_mul_right _ hle
    have k4 : (n * J) * (2 ^ 54 * A) ≤ (n * J) * 2 ^ 212 := by
      have e1 : (n * J) * (2 ^ 54 * A) = 2 ^ 54 * n * (A * J) := by
        rw [Nat.mul_comm (2 ^ 54) n, Nat.mul_assoc n (2 ^ 54) (A * J), Nat.mul_assoc n J]
        congr 1
        rw [Nat.mul_comm J, Nat.mul_assoc]
      have e2 : 4096 * (n * J) * 2 ^ 200 = (n * J) * 2 ^ 212 := by
        rw [Nat.mul_comm 4096, Nat.mul_assoc, show (4096 : Nat) * 2 ^ 200 = 2 ^ 212 by rw [show (4096 : Nat) = 2 ^ 12 from rfl, ← Nat.pow_add]]
      rw [e1, ← e2]
      exact Nat.le_trans k2 k3
    have k5 : 2 ^ 54 * A ≤ 2 ^ 212 := Nat.le_of_mul_le_mul_left k4 (Nat.mul_pos hn hJp)
    have k6 : 2 ^ 54 * A ≤ 2 ^ 54 * 2 ^ 158 := by rw [← Nat.pow_add]; exact k5
    exact Nat.le_of_mul_le_mul_left k6 (Nat.two_pow_pos _)
  have h9 : 9 * ((n * J) * A) ≤ (n * J) * 2 ^ 162 := by
    have e : (n * J) * 2 ^ 162 = 16 * ((n * J) * 2 ^ 158) := by
      rw [show (2 : Nat) ^ 162 = 16 * 2 ^ 158 by rw [show (16 : Nat) = 2 ^ 4 from rfl, ← Nat.pow_add], ← Nat.mul_assoc, Nat.mul_comm (n * J) 16, Nat.mul_assoc]
    rw [e]
    have := Nat.mul_le_mul_left (n * J) hAA
    exact Nat.le_trans (Nat.mul_le_mul_right _ (show 9 ≤ 16 by omega)) (Nat.mul_le_mul_left 16 this)
  refine ⟨_, m', p', hdiv, hrd, ?_, ?_, ?_, ?_, ?_, ?_⟩
  · rcases hpm with h | h <;> omega
  · rcases hpm with h | h <;> omega
  · rcases hpm with h | h <;> omega
  · rcases hpm with h | h <;> omega
  · rw [hZ, hY, hX]
    exact Nat.le_trans c1 (Nat.add_le_add_left h9 _)
  · rw [hZ, hY, hX]
    exact Nat.le_trans c2 (Nat.add_le_add_left h9 _)

end Go.Proofs.Ytomgdlnpajfjhaa
namespace Go.Proofs.Ytomgdlnpajfjhaa
open Go.RowKit Go.ChangeShapes Go.WideShapes Go.ChangeAt
set_option linter.unusedVariables false
set_option linter.unusedSimpArgs false
set_option maxRecDepth 8000

set_option maxHeartbeats 1600000 in
theorem mul64 (s t : Bool) (m n x y : Nat) (i j : Int) (hm : 2251799813685248 ≤ m) (hm2 : m ≤ 9007199254740992) (hn : 2251799813685248 ≤ n) (hn2 : n ≤ 9007199254740992) (hi : -80 ≤ i) (hi2 : i ≤ 60) (hj : -80 ≤ j) (hj2 : j ≤ 60)
    (hx : F6.read x = .number s m i) (hy : F6.read y = .number t n j) :
    ∃ (r m' : Nat) (p' : Int), F6.mul x y = some r ∧ F6.read r = .number (s ^^ t) m' p' ∧ 2251799813685248 ≤ m' ∧ m' ≤ 9007199254740992 ∧ i + j + 50 ≤ p' ∧ p' ≤ i + j + 56 ∧
      2 ^ 52 * (sc m' p' * 2 ^ 200) ≤ 2 ^ 52 * (sc m i * sc n j) + sc m i * sc n j ∧ 2 ^ 52 * (sc m i * sc n j) ≤ 2 ^ 52 * (sc m' p' * 2 ^ 200) + sc m i * sc n j := by
  have hg0 : 0 < m * n := Nat.mul_pos (by omega) (by omega)
  have lo : 2 ^ 102 ≤ m * n := by
    have : (2 : Nat) ^ 102 = 2251799813685248 * 2251799813685248 := by decide
    rw [this]; exact Nat.mul_le_mul hm hn
  have hi' : m * n < 2 ^ 107 := by
    have h1 : m * n ≤ 9007199254740992 * 9007199254740992 := Nat.mul_le_mul hm2 hn2
    have h2 : (9007199254740992 * 9007199254740992 : Nat) < 2 ^ 107 := by decide
    exact Nat.lt_of_le_of_lt h1 h2
  have hL1 : 102 ≤ (m * n).log2 := (Nat.le_log2 (by omega)).2 lo
  have hL2 : (m * n).log2 ≤ 106 := by have := (Nat.log2_lt (by omega) (k := 107)).2 hi'; omega
  have hs : 2 ^ (m * n).log2 ≤ m * n := Nat.log2_self_le (by omega)
  have hmul : F6.mul x y = some (F6.nearest (s ^^ t) (m * n) (i + j)) := by
    unfold Ieee.Format.mul
    rw [hx, hy]; rfl
  obtain ⟨kp, m', p', hrd, hk0, hk1, hpm, hkk⟩ := round64 (s ^^ t) (m * n) (i + j) hg0 (by omega) (by omega)
  generalize hLg : (m * n).log2 = L at *
  obtain ⟨A, hA⟩ : ∃ A, 2 ^ (i + j + 200).toNat = A := ⟨_, rfl⟩
  obtain ⟨U, hU⟩ : ∃ U, 2 ^ 200 = U := ⟨_, rfl⟩
  have hZ : sc m' p' = kp * 2 ^ (L - 52) * A := by
    rw [sc_round m' kp p' (i + j + L - 52) (by omega) (by rcases hpm with h | h; exact .inl ⟨by omega, h.2⟩; exact .inr ⟨by omega, h.2⟩), ← hA, Nat.mul_assoc, ← Nat.pow_add]
    congr 2; omega
  have hXY : sc m i * sc n j = m * n * A * U := by
    unfold sc
    rw [Nat.mul_mul_mul_comm, ← Nat.pow_add, Nat.mul_assoc (m * n) A U, ← hA, ← hU, ← Nat.pow_add]
    congr 2; omega
  obtain ⟨g, hg⟩ : ∃ g, 2 ^ (L - 52) = g := ⟨_, rfl⟩
  have hgL : 2 ^ 52 * g ≤ m * n := by
    rw [← hg, ← Nat.pow_add, show 52 + (L - 52) = L by omega]; exact hs
  obtain ⟨G, hG⟩ : ∃ G, kp * g = G := ⟨_, rfl⟩
  have hG1 : G ≤ m * n + g ∧ m * n ≤ G + g := by
    rcases hkk with h | ⟨-, h1, h2⟩
    · omega
    · rw [hg, hG] at h1 h2; exact ⟨h1, h2⟩
  rw [hg, hG] at hZ
  rw [hU, hXY]
  obtain ⟨v, hv⟩ : ∃ v, A * U = v := ⟨_, rfl⟩
  have e1 : G * A * U = G * v := by rw [← hv, Nat.mul_assoc]
  have e2 : m * n * A * U = m * n * v := by rw [← hv, Nat.mul_assoc]
  rw [e2]
  have f1 : 2 ^ 52 * G ≤ 2 ^ 52 * (m * n) + m * n := by
    have h1 := Nat.mul_le_mul_left (2 ^ 52) hG1.1
    rw [Nat.mul_add] at h1
    exact Nat.le_trans h1 (Nat.add_le_add_left hgL _)
  have f2 : 2 ^ 52 * (m * n) ≤ 2 ^ 52 * G + m * n := by
    have h1 := Nat.mul_le_mul_left (2 ^ 52) hG1.2
    rw [Nat.mul_add] at h1
    exact Nat.le_trans h1 (Nat.add_le_add_left hgL _)
  refine ⟨_, m', p', hmul, hrd, ?_, ?_, ?_, ?_, ?_, ?_⟩
  · rcases hpm with h | h <;> omega
  · rcases hpm with h | h <;> omega
  · rcases hpm with h | h <;> omega
  · rcases hpm with h | h <;> omega
  · have := Nat.mul_le_mul_right v f1
    rw [Nat.add_mul, Nat.mul_assoc, Nat.mul_assoc (2 ^ 52)] at this
    rw [hZ, e1]
    exact this
  · have := Nat.mul_le_mul_right v f2
    rw [Nat.add_mul, Nat.mul_assoc, Nat.mul_assoc (2 ^ 52)] at this
    rw [hZ, e1]
    exact this
/-- a number's size, with its sign -/
def sv (s : Bool) (m : Nat) (p : Int) : Int := if s then -(sc m p : Int) else sc m p
theorem signed_pow (s : Bool) (m k : Nat) : Ieee.signed s m k = (if s then -((m * 2 ^ k : Nat) : Int) else ((m * 2 ^ k : Nat) : Int)) := by
  unfold Ieee.signed; rw [Nat.shiftLeft_eq]
/-- the sign of a sum that is not 0 -/
theorem sum_sign (s t : Bool) (m n : Nat) (i j : Int) (hm : 2251799813685248 ≤ m) (hm2 : m ≤ 9007199254740992) (hn : 2251799813685248 ≤ n) (hn2 : n ≤ 9007199254740992) (hi : -120 ≤ i) (hi2 : i ≤ 60) (hj : -120 ≤ j) (hj2 : j ≤ 60) (hne : sv s m i + sv t n j ≠ 0) :
    ∃ (r m' : Nat) (p' : Int), ((Ieee.Datum.number s m i).sum (.number t n j)).map F6.write = some r ∧ F6.read r = .number (decide (sv s m i + sv t n j < 0)) m' p' ∧ 0 < m' := by
  simp only [Ieee.Datum.sum, Option.map_some]
  obtain ⟨b, hb⟩ : ∃ b : Int, min i j = b := ⟨_, rfl⟩
  rw [hb, signed_pow, signed_pow]
  obtain ⟨A, hA⟩ : ∃ A : Nat, 2 ^ (b + 200).toNat = A := ⟨_, rfl⟩
  have hAp : 0 < A := by rw [← hA]; exact Nat.two_pow_pos _
  have e1 : sv s m i = (if s then -((m * 2 ^ (i - b).toNat : Nat) : Int) else ((m * 2 ^ (i - b).toNat : Nat) : Int)) * (A : Int) := by
    have : sc m i = m * 2 ^ (i - b).toNat * A := by unfold sc; rw [← hA, Nat.mul_assoc, ← Nat.pow_add]; congr 2; omega
    unfold sv; rw [this]; cases s <;> simp [Int.neg_mul]
  have e2 : sv t n j = (if t then -((n * 2 ^ (j - b).toNat : Nat) : Int) else ((n * 2 ^ (j - b).toNat : Nat) : Int)) * (A : Int) := by
    have : sc n j = n * 2 ^ (j - b).toNat * A := by unfold sc; rw [← hA, Nat.mul_assoc, ← Nat.pow_add]; congr 2; omega
    unfold sv; rw [this]; cases t <;> simp [Int.neg_mul]
  rw [e1, e2, ← Int.add_mul] at hne ⊢
  have hlm : ∀ (u : Nat) (c : Int) (z : Bool), u ≤ 9007199254740992 → 0 ≤ c → c ≤ 180 → (if z then -((u * 2 ^ c.toNat : Nat) : Int) else ((u * 2 ^ c.toNat : Nat) : Int)).natAbs ≤ 2 ^ 233 := by
    intro u c z h1 h2 h3
    have h4 : u * 2 ^ c.toNat ≤ 2 ^ 233 := by
      have h5 : 2 ^ c.toNat ≤ 2 ^ 180 := Nat.pow_le_pow_right (by omega) (by omega)
      have h6 : u * 2 ^ c.toNat ≤ 2 ^ 53 * 2 ^ 180 := Nat.mul_le_mul (by simpa using h1) h5
      rw [← Nat.pow_add] at h6; exact h6
    cases z <;> simp <;> exact h4
  have b1 := hlm m (i - b) s hm2 (by omega) (by omega)
  have b2 := hlm n (j - b) t hn2 (by omega) (by omega)
  generalize (if s then -((m * 2 ^ (i - b).toNat : Nat) : Int) else ((m * 2 ^ (i - b).toNat : Nat) : Int)) = u at *
  generalize (if t then -((n * 2 ^ (j - b).toNat : Nat) : Int) else ((n * 2 ^ (j - b).toNat : Nat) : Int)) = v at *
  have hz : u + v ≠ 0 := fun h => hne (by rw [h, Int.zero_mul])
  have hlt : ((u + v) * (A : Int) < 0) ↔ u + v < 0 := by
    constructor
    · intro h
      by_cases h' : u + v < 0
      · exact h'
      · have := Int.mul_nonneg (show 0 ≤ u + v by omega) (show (0 : Int) ≤ (A : Int) by omega); omega
    · intro h; exact Int.mul_neg_of_neg_of_pos h (by omega)
  rw [show decide ((u + v) * (A : Int) < 0) = decide (u + v < 0) from decide_eq_decide.2 hlt, if_neg hz]
  have hab : (u + v).natAbs < 2 ^ 235 := by
    have h1 := Int.natAbs_add_le u v
    have h2 : (2 : Nat) ^ 233 + 2 ^ 233 < 2 ^ 235 := by decide
    exact Nat.lt_of_le_of_lt (Nat.le_trans h1 (Nat.add_le_add b1 b2)) h2
  have h0 : 0 < (u + v).natAbs := by omega
  have hL : (u + v).natAbs.log2 ≤ 234 := by have := (Nat.log2_lt (by omega) (k := 235)).2 hab; omega
  obtain ⟨kp, m', p', hrd, hk0, hk1, hpm, -⟩ := round64 (decide (u + v < 0)) (u + v).natAbs b h0 (by omega) (by omega)
  exact ⟨_, m', p', rfl, hrd, by rcases hpm with h | h <;> omega⟩

/-- the sign of a sum with nothing -/
theorem sum_zero (s t : Bool) (m : Nat) (i : Int) (hm : 2251799813685248 ≤ m) (hm2 : m ≤ 9007199254740992) (hi : -120 ≤ i) (hi2 : i ≤ 60) :
    (∃ (r m' : Nat) (p' : Int), ((Ieee.Datum.number s m i).sum (.number t 0 (-1074))).map F6.write = some r ∧ F6.read r = .number s m' p' ∧ 0 < m') ∧
    (∃ (r m' : Nat) (p' : Int), ((Ieee.Datum.number t 0 (-1074)).sum (.number s m i)).map F6.write = some r ∧ F6.read r = .number s m' p' ∧ 0 < m') := by
  have hmin : min i (-1074) = -1074 := by omega
  have hmin' : min (-1074) i = -1074 := by omega
  have h0 : m ≠ 0 := by omega
  have hpos : 0 < m * 2 ^ (i - -1074).toNat := Nat.mul_pos (by omega) (Nat.two_pow_pos _)
  have hlog : (m * 2 ^ (i - -1074).toNat).log2 = m.log2 + (i - -1074).toNat := by
    have := log2_shift m (i - -1074).toNat h0
    rw [Nat.shiftLeft_eq] at this; exact this
  have hLm : m.log2 ≤ 53 := by
    have := (Nat.log2_lt h0 (k := 54)).2 (le54 hm2)
    omega
  have hz : ∀ z : Bool, (if z then -((0 * 2 ^ ((-1074 : Int) - -1074).toNat : Nat) : Int) else ((0 * 2 ^ ((-1074 : Int) - -1074).toNat : Nat) : Int)) = 0 := by intro z; cases z <;> simp
  have hs : (if s then -((m * 2 ^ (i - -1074).toNat : Nat) : Int) else ((m * 2 ^ (i - -1074).toNat : Nat) : Int)) ≠ 0 ∧ decide ((if s then -((m * 2 ^ (i - -1074).toNat : Nat) : Int) else ((m * 2 ^ (i - -1074).toNat : Nat) : Int)) < 0) = s ∧ (if s then -((m * 2 ^ (i - -1074).toNat : Nat) : Int) else ((m * 2 ^ (i - -1074).toNat : Nat) : Int)).natAbs = m * 2 ^ (i - -1074).toNat := by
    generalize m * 2 ^ (i - -1074).toNat = u at *
    cases s
    · simp; omega
    · simp; omega
  obtain ⟨kp, m', p', hrd, hk0, hk1, hpm, -⟩ := round64 s (m * 2 ^ (i - -1074).toNat) (-1074) hpos (by rw [hlog]; omega) (by rw [hlog]; omega)
  constructor
  · simp only [Ieee.Datum.sum, Option.map_some]
    rw [hmin, signed_pow, signed_pow, hz, Int.add_zero, if_neg hs.1, hs.2.1, hs.2.2]
    exact ⟨_, m', p', rfl, hrd, by rcases hpm with h | h <;> omega⟩
  · simp only [Ieee.Datum.sum, Option.map_some]
    rw [hmin', signed_pow, signed_pow, hz, Int.zero_add, if_neg hs.1, hs.2.1, hs.2.2]
    exact ⟨_, m', p', rfl, hrd, by rcases hpm with h | h <;> omega⟩
/-- a float whose size is told: nothing, or a number with all its digits -/
def FN (x : Nat) (v : Int) : Prop := ∃ s m p, F6.read x = .number s m p ∧ ((m = 0 ∧ p = -1074 ∧ v = 0) ∨ (2251799813685248 ≤ m ∧ m ≤ 9007199254740992 ∧ -190 ≤ p ∧ p ≤ 190 ∧ v = sv s m p))
theorem sc_pos {m : Nat} {p : Int} (h : 0 < m) : 0 < sc m p := Nat.mul_pos h (Nat.two_pow_pos _)
theorem sv_abs (s : Bool) (m : Nat) (p : Int) : (sv s m p).natAbs = sc m p := by unfold sv; cases s <;> simp
theorem sv_neg (s : Bool) (m : Nat) (p : Int) (h : 0 < m) : decide (sv s m p < 0) = s := by
  have := sc_pos (p := p) h
  unfold sv; cases s
  · simp
  · simp; omega
/-- a number of some size has not too low a place -/
theorem place_of {m : Nat} {p : Int} (hp : -190 ≤ p) (hm : m ≤ 9007199254740992) (k : Nat) (hk : k ≤ 250) (h : 2 ^ k ≤ sc m p) : (k : Int) - 253 ≤ p := by
  by_cases hlt : (k : Int) - 253 ≤ p
  · exact hlt
  · exfalso
    have h1 : sc m p ≤ 2 ^ 53 * 2 ^ (p + 200).toNat := Nat.mul_le_mul_right _ (by simpa using hm)
    rw [← Nat.pow_add] at h1
    have h2 : (2 : Nat) ^ (53 + (p + 200).toNat) < 2 ^ k := Nat.pow_lt_pow_right (by omega) (by omega)
    omega
/-- and not too high a one -/
theorem place_le {m : Nat} {p : Int} (hp : -190 ≤ p) (hm : 2251799813685248 ≤ m) (k : Nat) (hk : k ≤ 250) (h : sc m p ≤ 2 ^ k) : p ≤ (k : Int) - 251 := by
  by_cases hlt : p ≤ (k : Int) - 251
  · exact hlt
  · exfalso
    have h1 : 2 ^ 51 * 2 ^ (p + 200).toNat ≤ sc m p := Nat.mul_le_mul_right _ (by simpa using hm)
    rw [← Nat.pow_add] at h1
    have h2 : (2 : Nat) ^ k < 2 ^ (51 + (p + 200).toNat) := Nat.pow_lt_pow_right (by omega) (by omega)
    omega

end Go.Proofs.Ytomgdlnpajfjhaa
namespace Go.Proofs.Ytomgdlnpajfjhaa
open Go.RowKit Go.ChangeShapes Go.WideShapes Go.ChangeAt
set_option linter.unusedVariables false
set_option linter.unusedSimpArgs false
set_option maxRecDepth 8000

theorem read_w0 (s : Bool) : F6.read (F6.word s 0) = .number s 0 (-1074) := by cases s <;> decide +kernel
theorem near0 (s : Bool) (p : Int) : F6.nearest s 0 p = F6.word s 0 := by simp [Ieee.Format.nearest]
theorem FN.zero (s : Bool) : FN (F6.word s 0) 0 := ⟨s, 0, -1074, read_w0 s, .inl ⟨rfl, rfl, rfl⟩⟩
theorem xor_dec (s t : Bool) (m n m' : Nat) (i j p' : Int) (hm : 0 < m) (hn : 0 < n) (hm' : 0 < m') : decide (sv (s ^^ t) m' p' < 0) = (decide (sv s m i < 0) ^^ decide (sv t n j < 0)) := by
  rw [sv_neg _ _ _ hm', sv_neg _ _ _ hm, sv_neg _ _ _ hn]
theorem sv_ne (s : Bool) (m : Nat) (p : Int) (h : 0 < m) : sv s m p ≠ 0 := fun e => by
  have h1 := sv_abs s m p
  rw [e] at h1
  have := sc_pos (p := p) h
  simp at h1; omega
theorem sv_mul (s t : Bool) (m n : Nat) (i j : Int) : sv s m i * sv t n j = if (s ^^ t) then -((sc m i * sc n j : Nat) : Int) else ((sc m i * sc n j : Nat) : Int) := by
  unfold sv; cases s <;> cases t <;> simp [Int.neg_mul, Int.mul_neg]
theorem FN.quo {x y : Nat} {vx vy : Int} (hx : FN x vx) (hy : FN y vy) (y0 : 2 ^ 178 ≤ vy.natAbs) (y1 : vy.natAbs ≤ 2 ^ 220) (x01 : vx = 0 ∨ 2 ^ 178 ≤ vx.natAbs) (x1 : vx.natAbs ≤ 2 ^ 240) (hle : vx.natAbs ≤ 4096 * vy.natAbs) :
    ∃ (r : Nat) (vr : Int), floatBits .quo .f64 x y = some r ∧ FN r vr ∧ vr * vy - vx * (2 ^ 200 : Nat) ≤ ((vy.natAbs * 2 ^ 162 : Nat) : Int) ∧ vx * (2 ^ 200 : Nat) - vr * vy ≤ ((vy.natAbs * 2 ^ 162 : Nat) : Int) ∧ (vx = 0 → vr = 0) ∧ (vx ≠ 0 → vr ≠ 0 ∧ decide (vr < 0) = (decide (vx < 0) ^^ decide (vy < 0))) := by
  obtain ⟨t, n, j, ry, hy⟩ := hy
  obtain ⟨s, m, i, rx, hx⟩ := hx
  have hyp : 0 < 2 ^ 178 := Nat.two_pow_pos _
  rcases hy with ⟨-, -, rfl⟩ | ⟨hn1, hn2, hj1, hj2, rfl⟩
  · simp at y0
  rw [sv_abs] at y0 y1 hle ⊢
  have hjl := place_of hj1 hn2 178 (by omega) y0
  have hjh := place_le hj1 hn1 220 (by omega) y1
  rcases hx with ⟨rfl, rfl, rfl⟩ | ⟨hm1, hm2, hi1, hi2, rfl⟩
  · refine ⟨F6.word (s ^^ t) 0, 0, ?_, FN.zero _, by rw [Int.zero_mul, Int.zero_mul, Int.sub_zero]; exact Int.natCast_nonneg _, by rw [Int.zero_mul, Int.zero_mul, Int.sub_zero]; exact Int.natCast_nonneg _, fun _ => rfl, fun h => absurd rfl h⟩
    show F6.div x y = _
    unfold Ieee.Format.div
    rw [rx, ry]
    have hn0 : n ≠ 0 := by omega
    simp only [Ieee.Datum.quotient, if_neg hn0, Option.map_some, Option.some.injEq, Nat.zero_shiftLeft, Nat.zero_div, Nat.zero_mod]
    exact near0 _ _
  · rcases x01 with h | x0
    · exact absurd h (sv_ne _ _ _ (by omega))
    rw [sv_abs] at x0 x1 hle
    have hil := place_of hi1 hm2 178 (by omega) x0
    have hih := place_le hi1 hm1 240 (by omega) x1
    obtain ⟨r, m', p', hr, rr, k1, k2, k3, k4, k5, k6⟩ := quo64 s t m n x y i j (by omega) hm2 (by omega) hn2 (by omega) (by omega) (by omega) (by omega) rx ry hle
    refine ⟨r, sv (s ^^ t) m' p', hr, ⟨_, m', p', rr, .inr ⟨k1, k2, k3, k4, rfl⟩⟩, ?_, ?_, fun h => absurd h (sv_ne _ _ _ (by omega)), fun _ => ⟨sv_ne _ _ _ (by omega), xor_dec s t m n m' i j p' (by omega) (by omega) (by omega)⟩⟩
    all_goals
      obtain ⟨u, hu⟩ : ∃ u, sc m' p' * sc n j = u := ⟨_, rfl⟩
      obtain ⟨g, hg⟩ : ∃ g, sc m i * 2 ^ 200 = g := ⟨_, rfl⟩
      obtain ⟨e, he⟩ : ∃ e, sc n j * 2 ^ 162 = e := ⟨_, rfl⟩
      obtain ⟨UU, hUU⟩ : ∃ UU : Int, ((2 ^ 200 : Nat) : Int) = UU := ⟨_, rfl⟩
      have hgi : ((sc m i : Nat) : Int) * UU = (g : Int) := by rw [← hUU, ← Int.natCast_mul, hg]
      rw [sv_mul, hu, he, hUU]
      rw [hu, hg, he] at k5 k6
      unfold sv
      clear x0 x1 y0 y1 hle hyp hg hu he hUU
      cases s <;> cases t <;> simp only [Bool.false_xor, Bool.true_xor, Bool.not_true, Bool.not_false, if_true, if_false, Bool.false_eq_true, Int.neg_mul, hgi] <;> omega
theorem FN.mul {x y : Nat} {vx vy : Int} (hx : FN x vx) (hy : FN y vy) (x01 : vx = 0 ∨ 2 ^ 178 ≤ vx.natAbs) (x1 : vx.natAbs ≤ 2 ^ 230) (y01 : vy = 0 ∨ 2 ^ 178 ≤ vy.natAbs) (y1 : vy.natAbs ≤ 2 ^ 230) :
    ∃ (r : Nat) (vr : Int), floatBits .mul .f64 x y = some r ∧ FN r vr ∧ (2 ^ 52 : Nat) * (vr * (2 ^ 200 : Nat)) - (2 ^ 52 : Nat) * (vx * vy) ≤ ((vx * vy).natAbs : Int) ∧ (2 ^ 52 : Nat) * (vx * vy) - (2 ^ 52 : Nat) * (vr * (2 ^ 200 : Nat)) ≤ ((vx * vy).natAbs : Int) ∧ (vx * vy = 0 → vr = 0) ∧ (vx * vy ≠ 0 → vr ≠ 0 ∧ decide (vr < 0) = (decide (vx < 0) ^^ decide (vy < 0))) := by
  obtain ⟨t, n, j, ry, hy⟩ := hy
  obtain ⟨s, m, i, rx, hx⟩ := hx
  have hz : ∀ (b : Bool) (q : Int), m * n = 0 → (vx * vy = 0) → ∃ (r : Nat) (vr : Int), floatBits .mul .f64 x y = some r ∧ FN r vr ∧ (2 ^ 52 : Nat) * (vr * (2 ^ 200 : Nat)) - (2 ^ 52 : Nat) * (vx * vy) ≤ ((vx * vy).natAbs : Int) ∧ (2 ^ 52 : Nat) * (vx * vy) - (2 ^ 52 : Nat) * (vr * (2 ^ 200 : Nat)) ≤ ((vx * vy).natAbs : Int) ∧ (vx * vy = 0 → vr = 0) ∧ (vx * vy ≠ 0 → vr ≠ 0 ∧ decide (vr < 0) = (decide (vx < 0) ^^ decide (vy < 0))) := by
    intro b q h0 h1
    refine ⟨F6.word (s ^^ t) 0, 0, ?_, FN.zero _, by rw [h1]; simp, by rw [h1]; simp, fun _ => rfl, fun h => absurd h1 h⟩
    show F6.mul x y = _
    unfold Ieee.Format.mul
    rw [rx, ry]
    simp only [Ieee.Datum.product, Option.map_some, Option.some.injEq, h0]
    exact near0 _ _
  rcases hx with ⟨rfl, rfl, rfl⟩ | ⟨hm1, hm2, hi1, hi2, rfl⟩
  · exact hz false 0 (by simp) (by simp)
  rcases hy with ⟨rfl, rfl, rfl⟩ | ⟨hn1, hn2, hj1, hj2, rfl⟩
  · exact hz false 0 (by simp) (by simp)
  clear hz
  rcases x01 with h | x0
  · exact absurd h (sv_ne _ _ _ (by omega))
  rcases y01 with h | y0
  · exact absurd h (sv_ne _ _ _ (by omega))
  rw [sv_abs] at x0 x1 y0 y1
  have hil := place_of hi1 hm2 178 (by omega) x0
  have hih := place_le hi1 hm1 230 (by omega) x1
  have hjl := place_of hj1 hn2 178 (by omega) y0
  have hjh := place_le hj1 hn1 230 (by omega) y1
  obtain ⟨r, m', p', hr, rr, k1, k2, k3, k4, k5, k6⟩ := mul64 s t m n x y i j hm1 hm2 hn1 hn2 (by omega) (by omega) (by omega) (by omega) rx ry
  refine ⟨r, sv (s ^^ t) m' p', hr, ⟨_, m', p', rr, .inr ⟨k1, k2, by omega, by omega, rfl⟩⟩, ?_, ?_, fun h => ?_, fun _ => ⟨sv_ne _ _ _ (by omega), xor_dec s t m n m' i j p' (by omega) (by omega) (by omega)⟩⟩
  · rw [sv_mul, sv]
    generalize sc m i * sc n j = u at *
    generalize hg : sc m' p' * 2 ^ 200 = g at *
    have hgi : ((sc m' p' : Nat) : Int) * ((2 ^ 200 : Nat) : Int) = (g : Int) := by rw [← Int.natCast_mul, hg]
    have h1 : ((2 ^ 52 * g : Nat) : Int) ≤ ((2 ^ 52 * u + u : Nat) : Int) := by exact_mod_cast k5
    have h2 : ((2 ^ 52 * u : Nat) : Int) ≤ ((2 ^ 52 * g + u : Nat) : Int) := by exact_mod_cast k6
    rw [Int.natCast_add, Int.natCast_mul, Int.natCast_mul] at h1 h2
    generalize ((2 ^ 200 : Nat) : Int) = UU at *
    generalize ((2 ^ 52 : Nat) : Int) = VV at *
    clear x0 x1 y0 y1 hg k5 k6
    cases (s ^^ t) <;> simp only [if_true, if_false, Bool.false_eq_true, Int.neg_mul, Int.mul_neg, hgi, Int.natAbs_neg, Int.natAbs_natCast] <;> (generalize VV * (g : Int) = gg at *; generalize VV * (u : Int) = uu at *; omega)
  · rw [sv_mul, sv]
    generalize sc m i * sc n j = u at *
    generalize hg : sc m' p' * 2 ^ 200 = g at *
    have hgi : ((sc m' p' : Nat) : Int) * ((2 ^ 200 : Nat) : Int) = (g : Int) := by rw [← Int.natCast_mul, hg]
    have h1 : ((2 ^ 52 * g : Nat) : Int) ≤ ((2 ^ 52 * u + u : Nat) : Int) := by exact_mod_cast k5
    have h2 : ((2 ^ 52 * u : Nat) : Int) ≤ ((2 ^ 52 * g + u : Nat) : Int) := by exact_mod_cast k6
    rw [Int.natCast_add, Int.natCast_mul, Int.natCast_mul] at h1 h2
    generalize ((2 ^ 200 : Nat) : Int) = UU at *
    generalize ((2 ^ 52 : Nat) : Int) = VV at *
    clear x0 x1 y0 y1 hg k5 k6
    cases (s ^^ t) <;> simp only [if_true, if_false, Bool.false_eq_true, Int.neg_mul, Int.mul_neg, hgi, Int.natAbs_neg, Int.natAbs_natCast] <;> (generalize VV * (g : Int) = gg at *; generalize VV * (u : Int) = uu at *; omega)
  · rcases Int.mul_eq_zero.1 h with h | h
    · exact absurd h (sv_ne _ _ _ (by omega))
    · exact absurd h (sv_ne _ _ _ (by omega))

end Go.Proofs.Ytomgdlnpajfjhaa

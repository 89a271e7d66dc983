/- Signs of quotients; no condition. -/
import Derived.Test.YtomgdlnpajfjhaaRnd
import Derived.Test.YtomgdlnpajfjhaaSng
namespace Go.Proofs.Ytomgdlnpajfjhaa
open Go.RowKit Go.ChangeShapes Go.WideShapes Go.ChangeAt
set_option linter.unusedVariables false
set_option linter.unusedSimpArgs false
set_option maxRecDepth 8000
set_option maxHeartbeats 1600000 in
theorem quo_sg (s t : Bool) (m n x y : Nat) (i j : Int) (hm : 0 < m) (hm2 : m ≤ 9007199254740992) (hn : 0 < n) (hn2 : n ≤ 9007199254740992) (hi : -190 ≤ i) (hi2 : i ≤ 190) (hj : -190 ≤ j) (hj2 : j ≤ 190)
    (hx : F6.read x = .number s m i) (hy : F6.read y = .number t n j) :
    ∃ (r m' : Nat) (p' : Int), F6.div x y = some r ∧ F6.read r = .number (s ^^ t) m' p' ∧ 0 < m' := by
  have hm0 : m ≠ 0 := by omega
  have hn0 : n ≠ 0 := by omega
  have lm1 : 2 ^ m.log2 ≤ m := Nat.log2_self_le hm0
  have lm2 : m < 2 ^ (m.log2 + 1) := Nat.lt_log2_self
  have ln1 : 2 ^ n.log2 ≤ n := Nat.log2_self_le hn0
  have ln2 : n < 2 ^ (n.log2 + 1) := Nat.lt_log2_self
  have hLm : m.log2 ≤ 53 := by have := (Nat.log2_lt hm0 (k := 54)).2 (le54 hm2); omega
  have hLn : n.log2 ≤ 53 := by have := (Nat.log2_lt hn0 (k := 54)).2 (le54 hn2); omega
  generalize hLmE : m.log2 = Lm at *
  generalize hLnE : n.log2 = Ln at *
  obtain ⟨mo, hmo⟩ : ∃ mo, 54 + Ln - Lm = mo := ⟨_, rfl⟩
  have hdiv : F6.div x y = some (F6.nearest (s ^^ t) (2 * (m <<< mo / n) + (m <<< mo % n != 0).toNat) (i - j - mo - 1)) := by
    unfold Ieee.Format.div
    rw [hx, hy]
    simp only [Ieee.Datum.quotient, if_neg hn0, Option.map_some, Option.some.injEq]
    rw [hLmE, hLnE, show (FloatKind.f64.format).fractionBits + 2 = 54 from rfl, hmo]
    rfl
  rw [Nat.shiftLeft_eq] at hdiv
  obtain ⟨W, hW⟩ : ∃ W, 2 ^ mo = W := ⟨_, rfl⟩
  have hWp : 0 < W := by rw [← hW]; exact Nat.two_pow_pos _
  obtain ⟨q, hq⟩ : ∃ q, m * W / n = q := ⟨_, rfl⟩
  obtain ⟨bb, hbb⟩ : ∃ bb, (m * W % n != 0).toNat = bb := ⟨_, rfl⟩
  have hbb1 : bb = if m * W % n = 0 then 0 else 1 := by
    rw [← hbb]
    by_cases h : m * W % n = 0
    · simp [h]
    · simp [h]
  have hbb2 : bb ≤ 1 := by rw [hbb1]; split <;> omega
  have hq1 : q * n ≤ m * W := by rw [← hq]; exact Nat.div_mul_le_self _ _
  have hq2 : m * W < (q + 1) * n := by rw [← hq, Nat.mul_comm (m * W / n + 1) n]; exact Nat.lt_mul_div_succ _ hn
  -- q lies between 2^53 and 2^55
  have mW1 : 2 ^ (54 + Ln) ≤ m * W := by
    have e : 2 ^ (54 + Ln) = 2 ^ Lm * W := by rw [← hW, ← Nat.pow_add]; congr 1; omega
    rw [e]; exact Nat.mul_le_mul_right _ lm1
  have mW2 : m * W < 2 ^ (55 + Ln) := by
    have e : 2 ^ (55 + Ln) = 2 ^ (Lm + 1) * W := by rw [← hW, ← Nat.pow_add]; congr 1; omega
    rw [e]; exact Nat.mul_lt_mul_of_pos_right lm2 hWp
  have qlo : 2 ^ 53 ≤ q := by
    rw [← hq, Nat.le_div_iff_mul_le hn]
    have e : 2 ^ (54 + Ln) = 2 ^ 53 * 2 ^ (Ln + 1) := by rw [← Nat.pow_add]; congr 1; omega
    have : 2 ^ 53 * n ≤ 2 ^ 53 * 2 ^ (Ln + 1) := Nat.mul_le_mul_left _ (Nat.le_of_lt ln2)
    rw [← e] at this
    exact Nat.le_trans this mW1
  have qhi : q < 2 ^ 55 := by
    rw [← hq, Nat.div_lt_iff_lt_mul hn]
    have e : 2 ^ (55 + Ln) = 2 ^ 55 * 2 ^ Ln := by rw [← Nat.pow_add]
    have : 2 ^ 55 * 2 ^ Ln ≤ 2 ^ 55 * n := Nat.mul_le_mul_left _ ln1
    rw [← e] at this
    exact Nat.lt_of_lt_of_le mW2 this
  have c53 : (2 : Nat) ^ 53 = 9007199254740992 := by decide
  have c55 : (2 : Nat) ^ 55 = 36028797018963968 := by decide
  rw [c53] at qlo
  rw [c55] at qhi
  obtain ⟨g, hg⟩ : ∃ g, 2 * q + bb = g := ⟨_, rfl⟩
  rw [hW, hq, hbb, hg] at hdiv
  have hg0 : 0 < g := by omega
  have hgl1 : 2 ^ 54 ≤ g := by have : (2 : Nat) ^ 54 = 18014398509481984 := by decide
                               omega
  have hgl2 : g < 2 ^ 56 := by have : (2 : Nat) ^ 56 = 72057594037927936 := by decide
                               omega
  have hL1 : 54 ≤ g.log2 := (Nat.le_log2 (by omega)).2 hgl1
  have hL2 : g.log2 ≤ 55 := by have := (Nat.log2_lt (by omega) (k := 56)).2 hgl2; omega
  obtain ⟨kp, m', p', hrd, hk0, hk1, hpm, -⟩ := round64 (s ^^ t) g (i - j - mo - 1) hg0 (by omega) (by omega)
  exact ⟨_, m', p', hdiv, hrd, by rcases hpm with h | h <;> omega⟩

/-- what is left of a float: its sign, and that it is not 0 -/
def SG (x : Nat) (s : Bool) : Prop := ∃ m p, F6.read x = .number s m p ∧ 2251799813685248 ≤ m ∧ m ≤ 9007199254740992 ∧ -190 ≤ p ∧ p ≤ 190
theorem SG.quo {x y : Nat} {s t : Bool} (hx : SG x s) (hy : SG y t) : ∃ r m' p', floatBits .quo .f64 x y = some r ∧ F6.read r = .number (s ^^ t) m' p' ∧ 0 < m' := by
  obtain ⟨m, i, rx, h1, h2, h3, h4⟩ := hx
  obtain ⟨n, j, ry, g1, g2, g3, g4⟩ := hy
  exact quo_sg s t m n x y i j (by omega) h2 (by omega) g2 h3 h4 g3 g4 rx ry
theorem FN.sg {x : Nat} {v : Int} (h : FN x v) (h0 : v ≠ 0) : SG x (decide (v < 0)) := by
  obtain ⟨s, m, p, r, h⟩ := h
  rcases h with ⟨-, -, e⟩ | ⟨h1, h2, h3, h4, rfl⟩
  · exact absurd e h0
  · rw [sv_neg _ _ _ (by omega)]
    exact ⟨m, p, r, h1, h2, h3, h4⟩
/-- the bit of a quotient's part -/
theorem bit_num {r m : Nat} {s : Bool} {p : Int} (h : F6.read r = .number s m p) (hm : 0 < m) (hp : True) : bitF (some r) = if s then 0 else 1 := by
  have ho : F6.order r 0 = some (compare (Ieee.signed s m (p - min p (-1074)).toNat) 0) := by
    unfold Ieee.Format.order
    rw [h, show F6.read 0 = .number false 0 (-1074) from read_zero]
    simp only [Ieee.Datum.order]
    congr 2
    simp [Ieee.signed]
  have hf : ford .f64 (some r) (some 0) = F6.order r 0 := rfl
  unfold bitF
  rw [hf, ho, signed_pow]
  have hpos : 0 < m * 2 ^ (p - min p (-1074)).toNat := Nat.mul_pos hm (Nat.two_pow_pos _)
  generalize m * 2 ^ (p - min p (-1074)).toNat = u at *
  cases s
  · have : compare (u : Int) 0 = .gt := by show compareOfLessAndEq _ _ = _; unfold compareOfLessAndEq; rw [if_neg (by omega), if_neg (by omega)]
    simp [this]
  · have : compare (-(u : Int)) 0 = .lt := by show compareOfLessAndEq _ _ = _; unfold compareOfLessAndEq; rw [if_pos (by omega)]
    simp [this]

end Go.Proofs.Ytomgdlnpajfjhaa
namespace Go.Proofs.Ytomgdlnpajfjhaa
open Go.RowKit Go.ChangeShapes Go.WideShapes Go.ChangeAt
set_option linter.unusedVariables false
set_option linter.unusedSimpArgs false
set_option maxRecDepth 8000

/-- a datum with its size -/
def DN (s : Bool) (m : Nat) (p : Int) (v : Int) : Prop := (m = 0 ∧ p = -1074 ∧ v = 0) ∨ (2251799813685248 ≤ m ∧ m ≤ 9007199254740992 ∧ -123 ≤ p ∧ p ≤ -1 ∧ v = sv s m p)
theorem FN.dn {x : Nat} {v : Int} (h : FN x v) (v0 : v = 0 ∨ 2 ^ 130 ≤ v.natAbs) (v1 : v.natAbs ≤ 2 ^ 250) : ∃ s m p, F6.read x = .number s m p ∧ DN s m p v := by
  obtain ⟨s, m, p, r, h⟩ := h
  refine ⟨s, m, p, r, ?_⟩
  rcases h with h | ⟨h1, h2, h3, h4, rfl⟩
  · exact .inl h
  · rcases v0 with e | v0
    · exact absurd e (sv_ne _ _ _ (by omega))
    · rw [sv_abs] at v0 v1
      have a1 := place_of h3 h2 130 (by omega) v0
      have a2 := place_le h3 h1 250 (by omega) v1
      exact .inr ⟨h1, h2, by omega, by omega, rfl⟩
theorem DN.neg {s : Bool} {m : Nat} {p v : Int} (h : DN s m p v) : DN (!s) m p (-v) := by
  rcases h with ⟨h1, h2, rfl⟩ | ⟨h1, h2, h3, h4, rfl⟩
  · exact .inl ⟨h1, h2, by simp⟩
  · exact .inr ⟨h1, h2, h3, h4, by unfold sv; cases s <;> simp⟩
theorem SG.of_round {s : Bool} {g : Nat} {b : Int} (h0 : 0 < g) (h1 : -130 ≤ b + g.log2) (h2 : b + g.log2 ≤ 200) : SG (F6.nearest s g b) s := by
  obtain ⟨kp, m', p', hrd, hk0, hk1, hpm, -⟩ := round64 s g b h0 (by omega) (by omega)
  refine ⟨m', p', hrd, ?_, ?_, ?_, ?_⟩ <;> rcases hpm with h | h <;> omega
theorem sum_two (s t : Bool) (m n : Nat) (i j : Int) (hm : 2251799813685248 ≤ m) (hm2 : m ≤ 9007199254740992) (hn : 2251799813685248 ≤ n) (hn2 : n ≤ 9007199254740992) (hi : -123 ≤ i) (hi2 : i ≤ -1) (hj : -123 ≤ j) (hj2 : j ≤ -1) (hne : sv s m i + sv t n j ≠ 0) :
    ∃ r, ((Ieee.Datum.number s m i).sum (.number t n j)).map F6.write = some r ∧ SG r (decide (sv s m i + sv t n j < 0)) := by
  simp only [Ieee.Datum.sum, Option.map_some]
  obtain ⟨b, hb⟩ : ∃ b : Int, min i j = b := ⟨_, rfl⟩
  rw [hb, signed_pow, signed_pow]
  obtain ⟨A, hA⟩ : ∃ A : Nat, 2 ^ (b + 200).toNat = A := ⟨_, rfl⟩
  have hAp : 0 < A := by rw [← hA]; exact Nat.two_pow_pos _
  have e1 : sv s m i = (if s then -((m * 2 ^ (i - b).toNat : Nat) : Int) else ((m * 2 ^ (i - b).toNat : Nat) : Int)) * (A : Int) := by
    have : sc m i = m * 2 ^ (i - b).toNat * A := by unfold sc; rw [← hA, Nat.mul_assoc, ← Nat.pow_add]; congr 2; omega
    unfold sv; rw [this]; cases s <;> simp [Int.neg_mul]
  have e2 : sv t n j = (if t then -((n * 2 ^ (j - b).toNat : Nat) : Int) else ((n * 2 ^ (j - b).toNat : Nat) : Int)) * (A : Int) := by
    have : sc n j = n * 2 ^ (j - b).toNat * A := by unfold sc; rw [← hA, Nat.mul_assoc, ← Nat.pow_add]; congr 2; omega
    unfold sv; rw [this]; cases t <;> simp [Int.neg_mul]
  rw [e1, e2, ← Int.add_mul] at hne ⊢
  obtain ⟨K, hK⟩ : ∃ K : Nat, (-1 - b).toNat = K := ⟨_, rfl⟩
  have hlm : ∀ (u : Nat) (c : Int) (z : Bool), u ≤ 9007199254740992 → c ≤ -1 - b → (if z then -((u * 2 ^ c.toNat : Nat) : Int) else ((u * 2 ^ c.toNat : Nat) : Int)).natAbs ≤ 2 ^ (53 + K) := by
    intro u c z h1 h3
    have h4 : u * 2 ^ c.toNat ≤ 2 ^ (53 + K) := by
      have h5 : 2 ^ c.toNat ≤ 2 ^ K := Nat.pow_le_pow_right (by omega) (by omega)
      rw [Nat.pow_add]
      exact Nat.mul_le_mul (by simpa using h1) h5
    cases z <;> simp <;> exact h4
  have b1 := hlm m (i - b) s hm2 (by omega)
  have b2 := hlm n (j - b) t hn2 (by omega)
  generalize (if s then -((m * 2 ^ (i - b).toNat : Nat) : Int) else ((m * 2 ^ (i - b).toNat : Nat) : Int)) = u at *
  generalize (if t then -((n * 2 ^ (j - b).toNat : Nat) : Int) else ((n * 2 ^ (j - b).toNat : Nat) : Int)) = v at *
  have hz : u + v ≠ 0 := fun h => hne (by rw [h, Int.zero_mul])
  have hlt : ((u + v) * (A : Int) < 0) ↔ u + v < 0 := by
    constructor
    · intro h
      by_cases h' : u + v < 0
      · exact h'
      · have := Int.mul_nonneg (show 0 ≤ u + v by omega) (show (0 : Int) ≤ (A : Int) by omega); omega
    · intro h; exact Int.mul_neg_of_neg_of_pos h (by omega)
  rw [show decide ((u + v) * (A : Int) < 0) = decide (u + v < 0) from decide_eq_decide.2 hlt, if_neg hz]
  have hab : (u + v).natAbs < 2 ^ (55 + K) := by
    have h1 := Int.natAbs_add_le u v
    have h2 : (2 : Nat) ^ (55 + K) = 4 * 2 ^ (53 + K) := by rw [show 55 + K = 2 + (53 + K) by omega, Nat.pow_add]
    have h3 := Nat.two_pow_pos (53 + K)
    omega
  have h0 : 0 < (u + v).natAbs := by omega
  have hL : (u + v).natAbs.log2 ≤ 54 + K := by have := (Nat.log2_lt (by omega) (k := 55 + K)).2 hab; omega
  exact ⟨_, rfl, SG.of_round h0 (by omega) (by omega)⟩
theorem sum_one (s t : Bool) (m : Nat) (i : Int) (hm : 2251799813685248 ≤ m) (hm2 : m ≤ 9007199254740992) (hi : -123 ≤ i) (hi2 : i ≤ -1) :
    (∃ r, ((Ieee.Datum.number s m i).sum (.number t 0 (-1074))).map F6.write = some r ∧ SG r s) ∧ (∃ r, ((Ieee.Datum.number t 0 (-1074)).sum (.number s m i)).map F6.write = some r ∧ SG r s) := by
  have hmin : min i (-1074) = -1074 := by omega
  have hmin' : min (-1074) i = -1074 := by omega
  have h0 : m ≠ 0 := by omega
  have hpos : 0 < m * 2 ^ (i - -1074).toNat := Nat.mul_pos (by omega) (Nat.two_pow_pos _)
  have hlog : (m * 2 ^ (i - -1074).toNat).log2 = m.log2 + (i - -1074).toNat := by
    have := log2_shift m (i - -1074).toNat h0
    rw [Nat.shiftLeft_eq] at this; exact this
  have hLm : m.log2 ≤ 53 := by have := (Nat.log2_lt h0 (k := 54)).2 (le54 hm2); omega
  have hz : ∀ z : Bool, (if z then -((0 * 2 ^ ((-1074 : Int) - -1074).toNat : Nat) : Int) else ((0 * 2 ^ ((-1074 : Int) - -1074).toNat : Nat) : Int)) = 0 := by intro z; cases z <;> simp
  have hs : (if s then -((m * 2 ^ (i - -1074).toNat : Nat) : Int) else ((m * 2 ^ (i - -1074).toNat : Nat) : Int)) ≠ 0 ∧ decide ((if s then -((m * 2 ^ (i - -1074).toNat : Nat) : Int) else ((m * 2 ^ (i - -1074).toNat : Nat) : Int)) < 0) = s ∧ (if s then -((m * 2 ^ (i - -1074).toNat : Nat) : Int) else ((m * 2 ^ (i - -1074).toNat : Nat) : Int)).natAbs = m * 2 ^ (i - -1074).toNat := by
    generalize m * 2 ^ (i - -1074).toNat = u at *
    cases s
    · simp; omega
    · simp; omega
  have hsg := SG.of_round (s := s) (b := -1074) hpos (by rw [hlog]; omega) (by rw [hlog]; omega)
  constructor
  · simp only [Ieee.Datum.sum, Option.map_some]
    rw [hmin, signed_pow, signed_pow, hz, Int.add_zero, if_neg hs.1, hs.2.1, hs.2.2]
    exact ⟨_, rfl, hsg⟩
  · simp only [Ieee.Datum.sum, Option.map_some]
    rw [hmin', signed_pow, signed_pow, hz, Int.zero_add, if_neg hs.1, hs.2.1, hs.2.2]
    exact ⟨_, rfl, hsg⟩
theorem dn_sum {s t : Bool} {m n : Nat} {i j vx vy : Int} (hx : DN s m i vx) (hy : DN t n j vy) (hne : vx + vy ≠ 0) : ∃ r, ((Ieee.Datum.number s m i).sum (.number t n j)).map F6.write = some r ∧ SG r (decide (vx + vy < 0)) := by
  rcases hx with ⟨rfl, rfl, rfl⟩ | ⟨h1, h2, h3, h4, rfl⟩
  · rcases hy with ⟨rfl, rfl, rfl⟩ | ⟨g1, g2, g3, g4, rfl⟩
    · simp at hne
    · rw [Int.zero_add, sv_neg _ _ _ (by omega)]
      exact (sum_one t s n j g1 g2 g3 g4).2
  · rcases hy with ⟨rfl, rfl, rfl⟩ | ⟨g1, g2, g3, g4, rfl⟩
    · rw [Int.add_zero, sv_neg _ _ _ (by omega)]
      exact (sum_one s t m i h1 h2 h3 h4).1
    · exact sum_two s t m n i j h1 h2 g1 g2 h3 h4 g3 g4 hne
theorem FN.add {x y : Nat} {vx vy : Int} (hx : FN x vx) (hy : FN y vy) (x0 : vx = 0 ∨ 2 ^ 130 ≤ vx.natAbs) (x1 : vx.natAbs ≤ 2 ^ 250) (y0 : vy = 0 ∨ 2 ^ 130 ≤ vy.natAbs) (y1 : vy.natAbs ≤ 2 ^ 250) (hne : vx + vy ≠ 0) : ∃ r, floatBits .add .f64 x y = some r ∧ SG r (decide (vx + vy < 0)) := by
  obtain ⟨s, m, i, rx, dx⟩ := hx.dn x0 x1
  obtain ⟨t, n, j, ry, dy⟩ := hy.dn y0 y1
  obtain ⟨r, hr, hs⟩ := dn_sum dx dy hne
  refine ⟨r, ?_, hs⟩
  show F6.add x y = _
  unfold Ieee.Format.add
  rw [rx, ry]; exact hr
theorem FN.sub {x y : Nat} {vx vy : Int} (hx : FN x vx) (hy : FN y vy) (x0 : vx = 0 ∨ 2 ^ 130 ≤ vx.natAbs) (x1 : vx.natAbs ≤ 2 ^ 250) (y0 : vy = 0 ∨ 2 ^ 130 ≤ vy.natAbs) (y1 : vy.natAbs ≤ 2 ^ 250) (hne : vx - vy ≠ 0) : ∃ r, floatBits .sub .f64 x y = some r ∧ SG r (decide (vx - vy < 0)) := by
  obtain ⟨s, m, i, rx, dx⟩ := hx.dn x0 x1
  obtain ⟨t, n, j, ry, dy⟩ := hy.dn y0 y1
  obtain ⟨r, hr, hs⟩ := dn_sum dx dy.neg (by rw [← Int.sub_eq_add_neg]; exact hne)
  rw [← Int.sub_eq_add_neg] at hs
  refine ⟨r, ?_, hs⟩
  show F6.sub x y = _
  unfold Ieee.Format.sub
  rw [rx, ry]; exact hr

end Go.Proofs.Ytomgdlnpajfjhaa
namespace Go.Proofs.Ytomgdlnpajfjhaa
open Go.RowKit Go.ChangeShapes Go.WideShapes Go.ChangeAt
set_option linter.unusedVariables false
set_option linter.unusedSimpArgs false
set_option maxRecDepth 8000

theorem core_err (p q Cn Dn c d r t : Int) (U H E : Nat) (hH : 0 < H) (hE : 0 < E) (e1 : U = 64 * H) (e2 : U = 274877906944 * E)
    (hp : p.natAbs ≤ 600) (hq : q.natAbs ≤ 600) (hC : Cn.natAbs ≤ 17500)
    (hc : (3328 * c - Cn * U).natAbs ≤ 3328 * E) (hd : (3328 * d - Dn * U).natAbs ≤ 3328 * E) (hdc : d.natAbs ≤ c.natAbs)
    (hr : (r * c - d * U).natAbs ≤ c.natAbs * E) (ht : 4503599627370496 * (t * U - (q * H) * r).natAbs ≤ ((q * H) * r).natAbs) :
    (3328 * ((p * H + t) * (U * c)) - (U * U * H) * (p * Cn + q * Dn)).natAbs < U * U * H := by
  obtain ⟨g1, hg1⟩ : ∃ g1, 3328 * c - Cn * U = g1 := ⟨_, rfl⟩
  obtain ⟨g2, hg2⟩ : ∃ g2, 3328 * d - Dn * U = g2 := ⟨_, rfl⟩
  obtain ⟨b, hb⟩ : ∃ b, r * c - d * U = b := ⟨_, rfl⟩
  obtain ⟨al, hal⟩ : ∃ al, t * U - (q * H) * r = al := ⟨_, rfl⟩
  rw [hg1] at hc
  rw [hg2] at hd
  rw [hb] at hr
  rw [hal] at ht
  have key : 3328 * ((p * H + t) * (U * c)) - (U * U * H) * (p * Cn + q * Dn) = (U : Int) * (p * H * g1 + q * H * g2) + 3328 * (q * H * b) + 3328 * (al * c) := by
    have q1 : al = t * U - (q * H) * r := hal.symm
    have q2 : b = r * c - d * U := hb.symm
    have q3 : g1 = 3328 * c - Cn * U := hg1.symm
    have q4 : g2 = 3328 * d - Dn * U := hg2.symm
    rw [q1, q2, q3, q4]
    simp only [Int.mul_sub, Int.sub_mul, Int.mul_add, Int.add_mul]
    have w1 : (3328 : Int) * (p * H * (U * c)) = U * (p * H * (3328 * c)) := by ac_rfl
    have w2 : (3328 : Int) * (t * (U * c)) = 3328 * (t * U * c) := by ac_rfl
    have w3 : (U : Int) * U * H * (p * Cn) = U * (p * H * (Cn * U)) := by ac_rfl
    have w4 : (U : Int) * U * H * (q * Dn) = U * (q * H * (Dn * U)) := by ac_rfl
    have w5 : (3328 : Int) * (q * H * (r * c)) = 3328 * (q * H * r * c) := by ac_rfl
    have w6 : (U : Int) * (q * H * (3328 * d)) = 3328 * (q * H * (d * U)) := by ac_rfl
    rw [w1, w2, w3, w4, w5, w6]
    omega
  rw [key]
  -- how great c is
  have hc6 : c.natAbs ≤ 6 * U := by
    have h1 : (3328 * c).natAbs ≤ (Cn * U).natAbs + g1.natAbs := by
      have : 3328 * c = Cn * U + g1 := by rw [← hg1]; omega
      rw [this]; exact Int.natAbs_add_le _ _
    rw [Int.natAbs_mul, Int.natAbs_mul, Int.natAbs_natCast] at h1
    have h2 : Cn.natAbs * U ≤ 17500 * U := Nat.mul_le_mul_right _ hC
    have h3 : (3328 : Int).natAbs = 3328 := rfl
    rw [h3] at h1
    omega
  have hrc : r.natAbs * c.natAbs ≤ 12 * (U * U) := by
    have h1 : (r * c).natAbs ≤ (d * U).natAbs + b.natAbs := by
      have : r * c = d * U + b := by rw [← hb]; omega
      rw [this]; exact Int.natAbs_add_le _ _
    rw [Int.natAbs_mul, Int.natAbs_mul, Int.natAbs_natCast] at h1
    have h2 : d.natAbs * U ≤ 6 * U * U := Nat.mul_le_mul_right _ (Nat.le_trans hdc hc6)
    have h3 : c.natAbs * E ≤ 6 * U * U := Nat.mul_le_mul hc6 (by omega)
    have h4 : 6 * U * U = 6 * (U * U) := Nat.mul_assoc ..
    omega
  have hac : 4503599627370496 * (al.natAbs * c.natAbs) ≤ 7200 * (U * U * H) := by
    have h1 : 4503599627370496 * al.natAbs * c.natAbs ≤ (q * H * r).natAbs * c.natAbs := Nat.mul_le_mul_right _ ht
    rw [Int.natAbs_mul, Int.natAbs_mul, Int.natAbs_natCast, Nat.mul_assoc, Nat.mul_assoc (q.natAbs * H)] at h1
    have h2 : q.natAbs * H * (r.natAbs * c.natAbs) ≤ 600 * H * (12 * (U * U)) := Nat.mul_le_mul (Nat.mul_le_mul_right _ hq) hrc
    have h3 : 600 * H * (12 * (U * U)) = 7200 * (U * U * H) := by
      rw [Nat.mul_comm 600 H, Nat.mul_assoc H, Nat.mul_comm H, ← Nat.mul_assoc 600 12, Nat.mul_assoc]
    omega
  have t1 : ((U : Int) * (p * H * g1 + q * H * g2)).natAbs ≤ U * (2 * (600 * H * (3328 * E))) := by
    rw [Int.natAbs_mul, Int.natAbs_natCast]
    apply Nat.mul_le_mul_left
    refine Nat.le_trans (Int.natAbs_add_le _ _) ?_
    rw [Int.natAbs_mul, Int.natAbs_mul, Int.natAbs_mul, Int.natAbs_mul, Int.natAbs_natCast]
    have h1 : p.natAbs * H * g1.natAbs ≤ 600 * H * (3328 * E) := Nat.mul_le_mul (Nat.mul_le_mul_right _ hp) hc
    have h2 : q.natAbs * H * g2.natAbs ≤ 600 * H * (3328 * E) := Nat.mul_le_mul (Nat.mul_le_mul_right _ hq) hd
    omega
  have t2 : (3328 * (q * H * b)).natAbs ≤ 3328 * (600 * H * (6 * U * E)) := by
    rw [Int.natAbs_mul, Int.natAbs_mul, Int.natAbs_mul, Int.natAbs_natCast]
    apply Nat.mul_le_mul_left
    exact Nat.mul_le_mul (Nat.mul_le_mul_right _ hq) (Nat.le_trans hr (Nat.mul_le_mul_right _ hc6))
  have t3 : (3328 * (al * c)).natAbs = 3328 * (al.natAbs * c.natAbs) := by
    rw [Int.natAbs_mul, Int.natAbs_mul]; rfl
  have tri : ((U : Int) * (p * H * g1 + q * H * g2) + 3328 * (q * H * b) + 3328 * (al * c)).natAbs ≤ U * (2 * (600 * H * (3328 * E))) + 3328 * (600 * H * (6 * U * E)) + 3328 * (al.natAbs * c.natAbs) := by
    refine Nat.le_trans (Int.natAbs_add_le _ _) ?_
    rw [t3]
    refine Nat.add_le_add_right ?_ _
    exact Nat.le_trans (Int.natAbs_add_le _ _) (Nat.add_le_add t1 t2)
  refine Nat.lt_of_le_of_lt tri ?_
  -- all in units of U * H * E
  obtain ⟨z, hz⟩ : ∃ z, U * H * E = z := ⟨_, rfl⟩
  have f1 : U * (2 * (600 * H * (3328 * E))) = 3993600 * z := by
    rw [← hz]
    have : U * (2 * (600 * H * (3328 * E))) = (2 * 600 * 3328) * (U * H * E) := by ac_rfl
    rw [this]
  have f2 : 3328 * (600 * H * (6 * U * E)) = 11980800 * z := by
    rw [← hz]
    have : 3328 * (600 * H * (6 * U * E)) = (3328 * 600 * 6) * (U * H * E) := by ac_rfl
    rw [this]
  have f3 : U * U * H = 274877906944 * z := by
    rw [← hz]
    calc U * U * H = U * (274877906944 * E) * H := by rw [← e2]
      _ = 274877906944 * (U * H * E) := by ac_rfl
  have hzp : 0 < z := by rw [← hz]; exact Nat.mul_pos (Nat.mul_pos (by omega) hH) hE
  rw [f1, f2, f3]
  rw [f3] at hac
  omega
/-- the sign of a sum of a part and of what a ratio makes of the other one -/
theorem core_sign (p q Cn Dn c d r t : Int) (U H E : Nat) (hH : 0 < H) (hE : 0 < E) (e1 : U = 64 * H) (e2 : U = 274877906944 * E)
    (hp : p.natAbs ≤ 600) (hq : q.natAbs ≤ 600) (hC : Cn.natAbs ≤ 17500)
    (hc : (3328 * c - Cn * U).natAbs ≤ 3328 * E) (hd : (3328 * d - Dn * U).natAbs ≤ 3328 * E) (hdc : d.natAbs ≤ c.natAbs)
    (hr : (r * c - d * U).natAbs ≤ c.natAbs * E) (ht : 4503599627370496 * (t * U - (q * H) * r).natAbs ≤ ((q * H) * r).natAbs)
    (hc0 : c ≠ 0) (hT : p * Cn + q * Dn ≠ 0) :
    p * H + t ≠ 0 ∧ decide (p * H + t < 0) = (decide (p * Cn + q * Dn < 0) ^^ decide (c < 0)) := by
  have h := core_err p q Cn Dn c d r t U H E hH hE e1 e2 hp hq hC hc hd hdc hr ht
  obtain ⟨V, hV⟩ : ∃ V : Nat, U * U * H = V := ⟨_, rfl⟩
  have hVi : (U : Int) * U * H = (V : Int) := by rw [← hV]; simp
  rw [hV, hVi] at h
  have hVp : 0 < V := by rw [← hV]; exact Nat.mul_pos (Nat.mul_pos (by omega) (by omega)) hH
  have hUp : (0 : Int) < (U : Int) := by omega
  generalize p * Cn + q * Dn = T at *
  generalize p * H + t = x at *
  have hx : x ≠ 0 := by
    intro e
    subst e
    rw [Int.zero_mul, Int.mul_zero, Int.zero_sub, Int.natAbs_neg, Int.natAbs_mul, Int.natAbs_natCast] at h
    have : V * 1 ≤ V * T.natAbs := Nat.mul_le_mul_left _ (by omega)
    omega
  refine ⟨hx, ?_⟩
  have hTp : 0 < T → 0 < x * (U * c) := by
    intro hT
    have h1 : (V : Int) * 1 ≤ V * T := Int.mul_le_mul_of_nonneg_left (by omega) (by omega)
    generalize (V : Int) * T = u at *
    generalize x * (U * c) = y at *
    omega
  have hTn : T < 0 → x * (U * c) < 0 := by
    intro hT
    have h1 : (V : Int) * T ≤ V * (-1) := Int.mul_le_mul_of_nonneg_left (by omega) (by omega)
    generalize (V : Int) * T = u at *
    generalize x * (U * c) = y at *
    omega
  rcases Int.lt_or_gt_of_ne hc0 with hcn | hcp
  · have hUc : (U : Int) * c < 0 := Int.mul_neg_of_pos_of_neg hUp hcn
    rw [decide_eq_true hcn]
    rcases Int.lt_or_gt_of_ne hT with hT | hT
    · rw [decide_eq_true hT]
      have h1 := hTn hT
      have h2 : ¬ x < 0 := fun hx' => by have := Int.mul_pos_of_neg_of_neg hx' hUc; omega
      rw [decide_eq_false h2]; rfl
    · have h1 := hTp hT
      rw [decide_eq_false (show ¬ T < 0 by omega)]
      have h2 : x < 0 := by
        rcases Int.lt_or_gt_of_ne hx with hx' | hx'
        · exact hx'
        · have := Int.mul_neg_of_pos_of_neg hx' hUc; omega
      rw [decide_eq_true h2]; rfl
  · have hUc : (0 : Int) < U * c := Int.mul_pos hUp hcp
    rw [decide_eq_false (show ¬ c < 0 by omega)]
    rcases Int.lt_or_gt_of_ne hT with hT | hT
    · rw [decide_eq_true hT]
      have h1 := hTn hT
      have h2 : x < 0 := by
        rcases Int.lt_or_gt_of_ne hx with hx' | hx'
        · exact hx'
        · have := Int.mul_pos hx' hUc; omega
      rw [decide_eq_true h2]; rfl
    · have h1 := hTp hT
      rw [decide_eq_false (show ¬ T < 0 by omega)]
      have h2 : ¬ x < 0 := fun hx' => by have := Int.mul_neg_of_neg_of_pos hx' hUc; omega
      rw [decide_eq_false h2]; rfl

end Go.Proofs.Ytomgdlnpajfjhaa
namespace Go.Proofs.Ytomgdlnpajfjhaa
open Go.RowKit Go.ChangeShapes Go.WideShapes Go.ChangeAt
set_option linter.unusedVariables false
set_option linter.unusedSimpArgs false
set_option maxRecDepth 8000

theorem c178 : (2 : Nat) ^ 178 = 65536 * 2 ^ 162 := by rw [show (65536 : Nat) = 2 ^ 16 from rfl, ← Nat.pow_add]
theorem c200 : (2 : Nat) ^ 200 = 274877906944 * 2 ^ 162 := by rw [show (274877906944 : Nat) = 2 ^ 38 by decide, ← Nat.pow_add]
theorem c220 : (2 : Nat) ^ 220 = 288230376151711744 * 2 ^ 162 := by rw [show (288230376151711744 : Nat) = 2 ^ 58 by decide, ← Nat.pow_add]
theorem c240 : (2 : Nat) ^ 240 = 302231454903657293676544 * 2 ^ 162 := by rw [show (302231454903657293676544 : Nat) = 2 ^ 78 by decide, ← Nat.pow_add]
theorem c230 : (2 : Nat) ^ 230 = 295147905179352825856 * 2 ^ 162 := by rw [show (295147905179352825856 : Nat) = 2 ^ 68 by decide, ← Nat.pow_add]
theorem natAbs_le {x : Int} {n : Nat} (h1 : x ≤ (n : Int)) (h2 : -x ≤ (n : Int)) : x.natAbs ≤ n := by omega
/-- the ratio of two floats, the lesser one in size by the greater -/
theorem ratio_ok {c d : Nat} {vc vd : Int} (E : Nat) (hE : (2 : Nat) ^ 162 = E) (hc : FN c vc) (hd : FN d vd) (c0 : 137438953472 * E ≤ vc.natAbs) (c1 : vc.natAbs ≤ 6 * (274877906944 * E)) (d0 : vd = 0 ∨ 33554432 * E ≤ vd.natAbs) (hdc : vd.natAbs ≤ vc.natAbs) :
    ∃ (r : Nat) (vr : Int), floatBits .quo .f64 d c = some r ∧ FN r vr ∧ (vr * vc - vd * (274877906944 * E : Nat)).natAbs ≤ vc.natAbs * E ∧ (vr = 0 ∨ 65536 * E ≤ vr.natAbs) ∧ vr.natAbs ≤ 2 * (274877906944 * E) ∧ (vd = 0 → vr = 0) ∧ (vd ≠ 0 → vr ≠ 0 ∧ decide (vr < 0) = (decide (vd < 0) ^^ decide (vc < 0))) := by
  have hEp : 0 < E := by rw [← hE]; exact Nat.two_pow_pos _
  obtain ⟨r, vr, h1, h2, h3, h4, h5, h6⟩ := hd.quo hc (by rw [c178, hE]; omega) (by rw [c220, hE]; omega) (by rcases d0 with h | h; exact .inl h; exact .inr (by rw [c178, hE]; omega)) (by rw [c240, hE]; omega) (by omega)
  rw [c200, hE] at h3 h4
  have hb := natAbs_le (x := vr * vc - vd * ((274877906944 * E : Nat) : Int)) (n := vc.natAbs * E) h3 (by omega)
  refine ⟨r, vr, h1, h2, hb, ?_, ?_, h5, h6⟩
  · rcases d0 with h | h
    · exact .inl (h5 h)
    · right
      have k1 : (vd * ((274877906944 * E : Nat) : Int)).natAbs ≤ (vr * vc).natAbs + vc.natAbs * E := by
        have : vd * ((274877906944 * E : Nat) : Int) = vr * vc - (vr * vc - vd * ((274877906944 * E : Nat) : Int)) := by omega
        rw [this]
        exact Nat.le_trans (Int.natAbs_sub_le _ _) (Nat.add_le_add_left hb _)
      rw [Int.natAbs_mul, Int.natAbs_mul, Int.natAbs_natCast] at k1
      have k2 : 33554432 * E * (274877906944 * E) ≤ vd.natAbs * (274877906944 * E) := Nat.mul_le_mul_right _ h
      by_cases hlt : 65536 * E ≤ vr.natAbs
      · exact hlt
      · exfalso
        have k3 : vr.natAbs * vc.natAbs ≤ 65536 * E * (6 * (274877906944 * E)) := Nat.mul_le_mul (by omega) c1
        have k4 : vc.natAbs * E ≤ 6 * (274877906944 * E) * E := Nat.mul_le_mul_right _ c1
        have e1 : 33554432 * E * (274877906944 * E) = 33554432 * 274877906944 * (E * E) := by ac_rfl
        have e2 : 65536 * E * (6 * (274877906944 * E)) = 65536 * 6 * 274877906944 * (E * E) := by ac_rfl
        have e3 : 6 * (274877906944 * E) * E = 6 * 274877906944 * (E * E) := by ac_rfl
        have hEE : 0 < E * E := Nat.mul_pos hEp hEp
        rw [e1] at k2
        rw [e2] at k3
        rw [e3] at k4
        generalize E * E = z at *
        generalize vr.natAbs * vc.natAbs = u at *
        generalize vd.natAbs * (274877906944 * E) = v at *
        generalize vc.natAbs * E = y at *
        omega
  · have k1 : (vr * vc).natAbs ≤ (vd * ((274877906944 * E : Nat) : Int)).natAbs + vc.natAbs * E := by
      have : vr * vc = vd * ((274877906944 * E : Nat) : Int) + (vr * vc - vd * ((274877906944 * E : Nat) : Int)) := by omega
      rw [this]
      exact Nat.le_trans (Int.natAbs_add_le _ _) (Nat.add_le_add_left hb _)
    rw [Int.natAbs_mul, Int.natAbs_mul, Int.natAbs_natCast] at k1
    have k2 : vd.natAbs * (274877906944 * E) ≤ vc.natAbs * (274877906944 * E) := Nat.mul_le_mul_right _ hdc
    have k3 : vc.natAbs * E ≤ vc.natAbs * (274877906944 * E) := Nat.mul_le_mul_left _ (by omega)
    have k4 : vr.natAbs * vc.natAbs ≤ (2 * (274877906944 * E)) * vc.natAbs := by
      have e : (2 * (274877906944 * E)) * vc.natAbs = 2 * (vc.natAbs * (274877906944 * E)) := by ac_rfl
      rw [e]; omega
    exact Nat.le_of_mul_le_mul_right k4 (by omega)
/-- a product with it -/
theorem prod_ok {x y : Nat} {vx vy : Int} (E : Nat) (hE : (2 : Nat) ^ 162 = E) (hx : FN x vx) (hy : FN y vy) (x0 : vx = 0 ∨ 65536 * E ≤ vx.natAbs) (x1 : vx.natAbs ≤ 600 * (4294967296 * E)) (y0 : vy = 0 ∨ 65536 * E ≤ vy.natAbs) (y1 : vy.natAbs ≤ 600 * (4294967296 * E)) :
    ∃ (r : Nat) (vr : Int), floatBits .mul .f64 x y = some r ∧ FN r vr ∧ 4503599627370496 * (vr * (274877906944 * E : Nat) - vx * vy).natAbs ≤ (vx * vy).natAbs ∧ (vx * vy = 0 → vr = 0) ∧ (vx * vy ≠ 0 → vr ≠ 0 ∧ decide (vr < 0) = (decide (vx < 0) ^^ decide (vy < 0))) := by
  obtain ⟨r, vr, h1, h2, h3, h4, h5, h6⟩ := hx.mul hy (by rcases x0 with h | h; exact .inl h; exact .inr (by rw [c178, hE]; omega)) (by rw [c230, hE]; omega) (by rcases y0 with h | h; exact .inl h; exact .inr (by rw [c178, hE]; omega)) (by rw [c230, hE]; omega)
  refine ⟨r, vr, h1, h2, ?_, h5, h6⟩
  rw [c200, hE] at h3 h4
  rw [show ((2 ^ 52 : Nat) : Int) = 4503599627370496 by decide] at h3 h4
  generalize vr * ((274877906944 * E : Nat) : Int) = u at *
  generalize vx * vy = v at *
  omega
/-- which is greater in size -/
theorem abs_ge {c d : Nat} {vc vd : Int} (hc : FN c vc) (hd : FN d vd) : absGe c d = decide (vd.natAbs ≤ vc.natAbs) := by
  obtain ⟨s, m, i, rc, hc⟩ := hc
  obtain ⟨t, n, j, rd, hd⟩ := hd
  have ac : F6.read (Op.Complex.abs c) = .number false m i := (read_abs rc).1
  have ad : F6.read (Op.Complex.abs d) = .number false n j := (read_abs rd).1
  have ho : F6.order (Op.Complex.abs c) (Op.Complex.abs d) = some (compare ((m * 2 ^ (i - min i j).toNat : Nat) : Int) ((n * 2 ^ (j - min i j).toNat : Nat) : Int)) := by
    unfold Ieee.Format.order
    rw [ac, ad]
    simp only [Ieee.Datum.order, signed_pow]
    rfl
  have hcmp : ∀ u v : Nat, (some (compare (u : Int) (v : Int)) == some Ordering.gt || some (compare (u : Int) (v : Int)) == some Ordering.eq) = decide (v ≤ u) := by
    intro u v
    have e : compare (u : Int) (v : Int) = if (u : Int) < v then .lt else if (u : Int) = v then .eq else .gt := rfl
    rw [e]
    by_cases h1 : (u : Int) < v
    · rw [if_pos h1, decide_eq_false (by omega)]; rfl
    · rw [if_neg h1]
      by_cases h2 : (u : Int) = v
      · rw [if_pos h2, decide_eq_true (by omega)]; rfl
      · rw [if_neg h2, decide_eq_true (by omega)]; rfl
  unfold absGe
  rw [show FloatKind.f64.format.order (Op.Complex.abs c) (Op.Complex.abs d) = _ from ho, hcmp]
  rw [decide_eq_decide]
  rcases hc with ⟨rfl, rfl, rfl⟩ | ⟨h1, h2, h3, h4, rfl⟩
  · rcases hd with ⟨rfl, rfl, rfl⟩ | ⟨g1, g2, g3, g4, rfl⟩
    · simp
    · rw [sv_abs]
      have p1 : 0 < n * 2 ^ (j - min (-1074) j).toNat := Nat.mul_pos (by omega) (Nat.two_pow_pos _)
      have p2 := sc_pos (p := j) (show 0 < n by omega)
      simp; omega
  · rcases hd with ⟨rfl, rfl, rfl⟩ | ⟨g1, g2, g3, g4, rfl⟩
    · simp
    · rw [sv_abs, sv_abs]
      obtain ⟨b, hb⟩ : ∃ b : Int, min i j = b := ⟨_, rfl⟩
      rw [hb]
      have e1 : sc m i = m * 2 ^ (i - b).toNat * 2 ^ (b + 200).toNat := by unfold sc; rw [Nat.mul_assoc, ← Nat.pow_add]; congr 2; omega
      have e2 : sc n j = n * 2 ^ (j - b).toNat * 2 ^ (b + 200).toNat := by unfold sc; rw [Nat.mul_assoc, ← Nat.pow_add]; congr 2; omega
      rw [e1, e2]
      exact ⟨fun h => Nat.mul_le_mul_right _ h, fun h => Nat.le_of_mul_le_mul_right h (Nat.two_pow_pos _)⟩

end Go.Proofs.Ytomgdlnpajfjhaa

/- Whole numbers in floats: written and read again; no condition. -/
import Derived.Test.YtmhpfbcdikldcaaFlc
namespace Go.Proofs.Ytmhpfbcdikldcaa
open Go.RowKit Go.ChangeShapes Go.WideShapes Go.ChangeAt
set_option linter.unusedVariables false
set_option linter.unusedSimpArgs false
set_option maxRecDepth 8000
/-- what a format must be for whole numbers below 2 ^ (F + 1) to be its own -/
structure Fit (f : Ieee.Format) : Prop where
  lp : f.leastPlace ≤ -(f.fractionBits : Int)
  top : (-f.leastPlace).toNat + 3 ≤ 2 ^ f.exponentBits
theorem fit32 : Fit FloatKind.f32.format := ⟨by decide, by decide⟩
theorem fit64 : Fit FloatKind.f64.format := ⟨by decide, by decide⟩
theorem log2_shift (n k : Nat) (h : n ≠ 0) : (n <<< k).log2 = n.log2 + k := by
  have h1 : n <<< k ≠ 0 := by rw [Nat.shiftLeft_eq]; exact Nat.mul_ne_zero h (Nat.pos_iff_ne_zero.1 (Nat.two_pow_pos _))
  rw [Nat.log2_eq_iff h1, Nat.shiftLeft_eq]
  have h2 : 2 ^ n.log2 ≤ n := Nat.log2_self_le h
  have h3 : n < 2 ^ (n.log2 + 1) := Nat.lt_log2_self
  refine ⟨?_, ?_⟩
  · rw [Nat.pow_add]; exact Nat.mul_le_mul_right _ h2
  · rw [show n.log2 + k + 1 = n.log2 + 1 + k by omega, Nat.pow_add]
    exact Nat.mul_lt_mul_of_pos_right h3 (Nat.two_pow_pos _)
theorem cut_zero (s : Bool) (n : Nat) : Ieee.Toward.even.cut s n 0 = n := by simp [Ieee.Toward.cut, Nat.mod_one]
theorem cut_exact (s : Bool) (n k t : Nat) (h : n ≠ 0) (ht : t ≤ k) : Ieee.Toward.even.cut s (n <<< k) t = n <<< (k - t) := by
  have hl := log2_shift n k h
  unfold Ieee.Toward.cut
  rw [hl, show min t (n.log2 + k + 2) = t by omega]
  have e1 : n <<< k = (n <<< (k - t)) * 2 ^ t := by
    rw [Nat.shiftLeft_eq, Nat.shiftLeft_eq, Nat.mul_assoc, ← Nat.pow_add]; congr 2; omega
  have e2 : (1 : Nat) <<< t = 2 ^ t := by rw [Nat.shiftLeft_eq, Nat.one_mul]
  have hp := Nat.two_pow_pos t
  simp only [e2]
  rw [e1, Nat.mul_mod_left, Nat.mul_div_cancel _ hp]
  have : ¬ (2 ^ t = 0) := by omega
  simp [this]
/-- the same number, its digits moved -/
theorem nearest_shift {f : Ieee.Format} (hf : Fit f) (s : Bool) (n k : Nat) (hn : n < 2 ^ (f.fractionBits + 1)) : f.nearest s (n <<< k) (-(k : Int)) = f.nearest s n 0 := by
  by_cases h : n = 0
  · subst h; simp [Ieee.Format.nearest]
  have h1 : n <<< k ≠ 0 := by rw [Nat.shiftLeft_eq]; exact Nat.mul_ne_zero h (Nat.pos_iff_ne_zero.1 (Nat.two_pow_pos _))
  have he : n.log2 ≤ f.fractionBits := by
    have := (Nat.log2_lt h (k := f.fractionBits + 1)).2 hn
    omega
  have hlp := hf.lp
  unfold Ieee.Format.nearest
  rw [if_neg h, if_neg h1, log2_shift n k h]
  dsimp only
  have e1 : max (-(k : Int) + ((n.log2 + k : Nat) : Int) - (f.fractionBits : Int)) f.leastPlace = (n.log2 : Int) - f.fractionBits := by omega
  have e2 : max (0 + (n.log2 : Int) - (f.fractionBits : Int)) f.leastPlace = (n.log2 : Int) - f.fractionBits := by omega
  rw [e1, e2]
  have e3 : ((n.log2 : Int) - f.fractionBits - 0).toNat = 0 := by omega
  have e4 : (0 - ((n.log2 : Int) - f.fractionBits)).toNat = f.fractionBits - n.log2 := by omega
  rw [e3, e4, cut_zero]
  by_cases hk : k ≤ f.fractionBits - n.log2
  · have e5 : ((n.log2 : Int) - f.fractionBits - -(k : Int)).toNat = 0 := by omega
    have e6 : (-(k : Int) - ((n.log2 : Int) - f.fractionBits)).toNat = f.fractionBits - n.log2 - k := by omega
    rw [e5, e6, cut_zero, ← Nat.shiftLeft_add]
    congr 4
    omega
  · have e5 : ((n.log2 : Int) - f.fractionBits - -(k : Int)).toNat = k - (f.fractionBits - n.log2) := by omega
    have e6 : (-(k : Int) - ((n.log2 : Int) - f.fractionBits)).toNat = 0 := by omega
    rw [e5, e6, Nat.shiftLeft_zero, cut_exact s n k _ h (by omega)]
    congr 4
    omega
/-- a whole number, written and read again -/
theorem read_nearest {f : Ieee.Format} (hf : Fit f) (s : Bool) (n : Nat) (hn : n < 2 ^ (f.fractionBits + 1)) : ∃ k : Nat, f.read (f.nearest s n 0) = .number s (n <<< k) (-(k : Int)) ∧ (f.nearest s n 0) % f.signWeight < f.infRung := by
  have hlp := hf.lp
  have hbin : f.binade = 2 ^ f.fractionBits := rfl
  have hbp := Nat.two_pow_pos f.fractionBits
  have hir : f.infRung = (2 ^ f.exponentBits - 1) * f.binade := rfl
  have htop := hf.top
  have hsw := f.infRung_lt
  by_cases h : n = 0
  · subst h
    refine ⟨(-f.leastPlace).toNat, ?_, ?_⟩
    all_goals
      have e0 : f.nearest s 0 0 = f.word s 0 := by simp [Ieee.Format.nearest]
      have e1 : f.word s 0 % f.signWeight = 0 := by unfold Ieee.Format.word; cases s <;> simp
      have hpos : 0 < f.infRung := by rw [hir, hbin]; exact Nat.mul_pos (by omega) hbp
    · rw [e0]
      unfold Ieee.Format.read
      simp only [e1]
      have e2 : (f.word s 0 / f.signWeight % 2 == 1) = s := by
        unfold Ieee.Format.word
        cases s
        · simp
        · simp [Nat.div_self (show 0 < f.signWeight by omega)]
      rw [if_pos (by rw [hbin]; exact hbp), e2]
      simp only [Nat.zero_shiftLeft, Ieee.Datum.number.injEq, true_and]
      omega
    · rw [e0, e1]; exact hpos
  have he : n.log2 ≤ f.fractionBits := by
    have := (Nat.log2_lt h (k := f.fractionBits + 1)).2 hn
    omega
  obtain ⟨K, hK⟩ : ∃ K, n <<< (f.fractionBits - n.log2) = K := ⟨_, rfl⟩
  have hK1 : 2 ^ f.fractionBits ≤ K := by
    rw [← hK, Nat.shiftLeft_eq]
    calc 2 ^ f.fractionBits = 2 ^ n.log2 * 2 ^ (f.fractionBits - n.log2) := by rw [← Nat.pow_add]; congr 1; omega
      _ ≤ n * 2 ^ (f.fractionBits - n.log2) := Nat.mul_le_mul_right _ (Nat.log2_self_le h)
  have hK2 : K < 2 * 2 ^ f.fractionBits := by
    rw [← hK, Nat.shiftLeft_eq]
    calc n * 2 ^ (f.fractionBits - n.log2) < 2 ^ (n.log2 + 1) * 2 ^ (f.fractionBits - n.log2) := Nat.mul_lt_mul_of_pos_right Nat.lt_log2_self (Nat.two_pow_pos _)
      _ = 2 * 2 ^ f.fractionBits := by rw [← Nat.pow_add, show n.log2 + 1 + (f.fractionBits - n.log2) = f.fractionBits + 1 by omega, Nat.pow_succ, Nat.mul_comm]
  obtain ⟨q, hq⟩ : ∃ q : Nat, ((n.log2 : Int) - f.fractionBits - f.leastPlace).toNat = q := ⟨_, rfl⟩
  have hq1 : q + 3 ≤ 2 ^ f.exponentBits := by omega
  have hnear : f.nearest s n 0 = f.word s (q * f.binade + K) := by
    unfold Ieee.Format.nearest
    rw [if_neg h]
    dsimp only
    have e2 : max (0 + (n.log2 : Int) - (f.fractionBits : Int)) f.leastPlace = (n.log2 : Int) - f.fractionBits := by omega
    rw [e2]
    have e3 : ((n.log2 : Int) - f.fractionBits - 0).toNat = 0 := by omega
    have e4 : (0 - ((n.log2 : Int) - f.fractionBits)).toNat = f.fractionBits - n.log2 := by omega
    rw [e3, e4, cut_zero, hK, hq]
    have : q * f.binade + K ≤ f.infRung := by
      rw [hir, hbin]
      calc q * 2 ^ f.fractionBits + K ≤ q * 2 ^ f.fractionBits + 2 * 2 ^ f.fractionBits := by omega
        _ = (q + 2) * 2 ^ f.fractionBits := by rw [Nat.add_mul]
        _ ≤ (2 ^ f.exponentBits - 1) * 2 ^ f.fractionBits := Nat.mul_le_mul_right _ (by omega)
    rw [Nat.min_eq_left this]
  have hlt : q * f.binade + K < f.infRung := by
    rw [hir, hbin]
    calc q * 2 ^ f.fractionBits + K < q * 2 ^ f.fractionBits + 2 * 2 ^ f.fractionBits := by omega
      _ = (q + 2) * 2 ^ f.fractionBits := by rw [Nat.add_mul]
      _ ≤ (2 ^ f.exponentBits - 1) * 2 ^ f.fractionBits := Nat.mul_le_mul_right _ (by omega)
  have hmod : f.word s (q * f.binade + K) % f.signWeight = q * f.binade + K := by
    unfold Ieee.Format.word
    cases s
    · simp [Nat.mod_eq_of_lt (show q * f.binade + K < f.signWeight by omega)]
    · simp [Nat.mod_eq_of_lt (show q * f.binade + K < f.signWeight by omega)]
  have hsgn : (f.word s (q * f.binade + K) / f.signWeight % 2 == 1) = s := by
    unfold Ieee.Format.word
    cases s
    · simp [Nat.div_eq_of_lt (show q * f.binade + K < f.signWeight by omega)]
    · have : (f.signWeight + (q * f.binade + K)) / f.signWeight = 1 := by
        rw [Nat.add_div_left _ (show 0 < f.signWeight by omega), Nat.div_eq_of_lt (by omega)]
      simp [this]
  refine ⟨f.fractionBits - n.log2, ?_, by rw [hnear, hmod]; exact hlt⟩
  rw [hnear]
  unfold Ieee.Format.read
  simp only [hmod, hsgn]
  rw [if_neg (by rw [hbin]; have := Nat.zero_le (q * 2 ^ f.fractionBits); omega), if_pos hlt, hK]
  have hd : (q * f.binade + K) / f.binade = q + 1 := by
    rw [hbin, Nat.add_comm, Nat.add_mul_div_right _ _ hbp, show K / 2 ^ f.fractionBits = 1 from by
      rw [Nat.div_eq_iff hbp]; omega]
    omega
  have hm : (q * f.binade + K) % f.binade = K - 2 ^ f.fractionBits := by
    rw [hbin, Nat.add_comm, Nat.add_mul_mod_self_right, show K = (K - 2 ^ f.fractionBits) + 2 ^ f.fractionBits by omega, Nat.add_mod_right, Nat.mod_eq_of_lt (by omega)]
    omega
  rw [hd, hm, hbin]
  simp only [Ieee.Datum.number.injEq, true_and]
  refine ⟨by omega, ?_⟩
  omega
end Go.Proofs.Ytmhpfbcdikldcaa

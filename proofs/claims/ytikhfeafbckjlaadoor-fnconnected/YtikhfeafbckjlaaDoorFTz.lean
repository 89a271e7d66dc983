/- How many bits ahead of the first that is set: math/bits.TrailingZeros16, over its table; the least Mid that is free; no condition. -/
import Derived.Test.YtikhfeafbckjlaaDoorFIn
import Derived.Lib.TrailingZeros
import Derived.Laws.Bits64b
namespace Go.Proofs.YtikhfeafbckjlaaDoor
open Go.RowKit Go.ChangeShapes Go.WideShapes Go.ChangeAt
set_option linter.unusedVariables false
set_option linter.unusedSimpArgs false
set_option maxRecDepth 8000
/-- the library's table -/
def Tab (w : World) : Prop := ∀ j, j < 32 → w.cell? ⟨1, j, none⟩ = some (.int .u8 (Lib.deBruijn32tab.getD j 0 : Nat))
theorem Tab.lt {w : World} (h : Tab w) : 1 < w.heap.size := block_lt_of_cell (h 0 (by decide))
theorem Tab.below {w w' : World} {B : Nat} (h : Tab w) (hb : Below B w w') (hB : 1 < B) : Tab w' := fun j hj => (hb.cell hB).trans (h j hj)
theorem bits_and_u16_nat (a b : Nat) (ha : a < 65536) (hb : b < 65536) : bits .and .u16 (a : Int) (b : Int) = ((a &&& b : Nat) : Int) := by
  have hx : a &&& b < 2 ^ 16 := Nat.and_lt_two_pow _ (by omega)
  have h1 : (BitVec.ofInt 16 (a : Int)).toNat = a := by
    rw [BitVec.ofInt_natCast, BitVec.toNat_ofNat]; exact Nat.mod_eq_of_lt (by omega)
  have h2 : (BitVec.ofInt 16 (b : Int)).toNat = b := by
    rw [BitVec.ofInt_natCast, BitVec.toNat_ofNat]; exact Nat.mod_eq_of_lt (by omega)
  show IntKind.u16.wrap ((BitVec.ofInt 16 (a : Int) &&& BitVec.ofInt 16 (b : Int)).toNat : Int) = _
  rw [BitVec.toNat_and, h1, h2]
  simp [IntKind.wrap, IntKind.signed, IntKind.bits]
  omega
theorem bits_or_u16_nat (a b : Nat) (ha : a < 65536) (hb : b < 65536) : bits .or .u16 (a : Int) (b : Int) = ((a ||| b : Nat) : Int) := by
  have hx : a ||| b < 2 ^ 16 := Nat.or_lt_two_pow (by omega) (by omega)
  have h1 : (BitVec.ofInt 16 (a : Int)).toNat = a := by
    rw [BitVec.ofInt_natCast, BitVec.toNat_ofNat]; exact Nat.mod_eq_of_lt (by omega)
  have h2 : (BitVec.ofInt 16 (b : Int)).toNat = b := by
    rw [BitVec.ofInt_natCast, BitVec.toNat_ofNat]; exact Nat.mod_eq_of_lt (by omega)
  show IntKind.u16.wrap ((BitVec.ofInt 16 (a : Int) ||| BitVec.ofInt 16 (b : Int)).toNat : Int) = _
  rw [BitVec.toNat_or, h1, h2]
  simp [IntKind.wrap, IntKind.signed, IntKind.bits]
  omega
theorem wrap_u32a (n : Int) : IntKind.u32.wrap n = n % 4294967296 := by simp [IntKind.wrap, IntKind.signed, IntKind.bits]
theorem wrap_u16a (n : Int) : IntKind.u16.wrap n = n % 65536 := by simp [IntKind.wrap, IntKind.signed, IntKind.bits]
set_option maxHeartbeats 1600000 in
theorem tz_c (x : Nat) (hx : x < 65536) (w : World) (hT : Tab w) : Calls Tryd.prog 63 #[.int .u16 x] w fun e w' => e = .returned (.int .i64 (Lib.ctz 16 x)) ∧ w' = w := by
  by_cases hx0 : x = 0
  · subst hx0
    go_enter Tryd.func63, Tryd.ntmps63
    go_wp2
    go_ret
    exact ⟨rfl, rfl⟩
  obtain ⟨hlow, hk⟩ := Lib.lowest_bit 16 x hx0 hx
  obtain ⟨hi, htab⟩ := Lib.deBruijn32_at (Lib.ctz 16 x) (by omega)
  have hx0' : ((x : Int) == 0) = false := by simp; omega
  obtain ⟨t, ht⟩ : ∃ t, Lib.ctz 16 x = t := ⟨_, rfl⟩
  rw [ht] at hlow hk hi htab ⊢
  obtain ⟨idx, hidx⟩ : ∃ idx, 2 ^ t * 125613361 % 4294967296 / 134217728 = idx := ⟨_, rfl⟩
  rw [hidx] at hi htab
  have hc := hT idx hi
  rw [htab] at hc
  have key : bits BinOp.and IntKind.u16 (x : Int) (IntKind.u16.wrap (-(x : Int))) % 4294967296 * 125613361 % 4294967296 / 134217728 = (idx : Int) := by
    have e1 : IntKind.u16.wrap (-(x : Int)) = ((65536 - x : Nat) : Int) := by rw [wrap_u16a]; omega
    have hp : 2 ^ t < 2 ^ 16 := Nat.pow_lt_pow_right (by decide) hk
    have hp' : 2 ^ t < 65536 := hp
    rw [e1, bits_and_u16_nat x _ hx (by omega)]
    have e2 : x &&& (65536 - x) = 2 ^ t := hlow
    rw [e2, ← hidx]
    generalize 2 ^ t = y at hp'
    omega
  have h16 : (t : Int) ≤ 16 := by omega
  clear hT hlow htab hidx
  go_enter Tryd.func63, Tryd.ntmps63
  go_wp2_with (simp only [key])
  go_ret
  exact ⟨rfl, rfl⟩
theorem ctz_bits (x : Nat) (hx : x < 65536) : Lib.ctz 16 x ≤ 16 ∧ (∀ i, i < Lib.ctz 16 x → x.testBit i = false) ∧ (Lib.ctz 16 x < 16 → x.testBit (Lib.ctz 16 x) = true) := by
  by_cases hx0 : x = 0
  · subst hx0
    exact ⟨Nat.le_refl _, fun i _ => Nat.zero_testBit i, fun h => absurd h (by decide)⟩
  have e : Lib.ctz 16 x = Lib.ctzFrom 16 x := by simp [Lib.ctz, hx0]
  obtain ⟨m, hm, hk⟩ := Lib.ctzFrom_spec 16 x (by omega) hx
  rw [e]
  generalize Lib.ctzFrom 16 x = t at *
  refine ⟨by omega, fun i hi => ?_, fun _ => ?_⟩
  · rw [hm, Nat.mul_comm, Nat.testBit_mul_two_pow]
    simp; omega
  · rw [hm, Nat.mul_comm, Nat.testBit_mul_two_pow]
    simp [Nat.testBit_zero]
/-- the least that is free below m -/
def LfR (u m : Nat) (r : Int) : Prop := (∃ k : Nat, r = k ∧ k < m ∧ u.testBit k = false ∧ ∀ i, i < k → u.testBit i = true) ∨ (r = -1 ∧ ∀ k, k < m → u.testBit k = true)
theorem not_bits (u i : Nat) (hu : u < 65536) (hi : i < 16) : (65535 - u).testBit i = !u.testBit i := by
  have h := Nat.testBit_two_pow_sub_succ (n := 16) (x := u) (by simpa using hu) i
  have e : 2 ^ 16 - (u + 1) = 65535 - u := by omega
  rw [e] at h
  rw [h]; simp [hi]
theorem bits_xor_u16_max (u : Nat) (hu : u < 65536) : bits .xor .u16 IntKind.u16.max (u : Int) = ((65535 - u : Nat) : Int) := by
  have h2 : (BitVec.ofInt 16 (u : Int)).toNat = u := by
    rw [BitVec.ofInt_natCast, BitVec.toNat_ofNat]; exact Nat.mod_eq_of_lt (by omega)
  have hm : (BitVec.ofInt 16 IntKind.u16.max).toNat = 65535 := by decide
  have hx : 65535 ^^^ u = 65535 - u := by
    apply Nat.eq_of_testBit_eq
    intro i
    have h := Nat.testBit_two_pow_sub_succ (n := 16) (x := u) (by simpa using hu) i
    have e : 2 ^ 16 - (u + 1) = 65535 - u := by omega
    rw [e] at h
    have h1 : (65535 : Nat).testBit i = decide (i < 16) := Nat.testBit_two_pow_sub_one 16 i
    rw [h, Nat.testBit_xor, h1]
    by_cases hi : i < 16
    · simp [hi]
    · have : u.testBit i = false := Nat.testBit_lt_two_pow (Nat.lt_of_lt_of_le hu (Nat.pow_le_pow_right (n := 2) (by decide) (show 16 ≤ i by omega)))
      simp [hi, this]
  show IntKind.u16.wrap ((BitVec.ofInt 16 IntKind.u16.max ^^^ BitVec.ofInt 16 (u : Int)).toNat : Int) = _
  rw [BitVec.toNat_xor, h2, hm, hx, wrap_u16a]
  omega
set_option maxHeartbeats 1600000 in
theorem leastFree_c (u : Nat) (hu : u < 65536) (s p : Int) (m : Nat) (v : Value) (hm : m ≤ 16) (w : World) (hT : Tab w) : Calls Tryd.prog 41 #[.int .u16 u, .agg (F4 s p m v)] w fun e w' => ∃ r, e = .returned (.int .i64 r) ∧ LfR u m r ∧ Below w.heap.size w w' := by
  have hb : Below w.heap.size w (w.alloc (Obj.cells (F4 s p m v) 26)) := (Below.refl _ _).alloc (Nat.le_refl _) _
  have HB : Hid (Below w.heap.size w (w.alloc (Obj.cells (F4 s p m v) 26))) := hb
  have HT : Hid (Tab (w.alloc (Obj.cells (F4 s p m v) 26))) := hT.below hb hT.lt
  have HX : Hid (bits .xor .u16 IntKind.u16.max (u : Int) = ((65535 - u : Nat) : Int)) := bits_xor_u16_max u hu
  obtain ⟨h1, h2, h3⟩ := ctz_bits (65535 - u) (by omega)
  obtain ⟨t, ht⟩ : ∃ t, Lib.ctz 16 (65535 - u) = t := ⟨_, rfl⟩
  rw [ht] at h1 h2 h3
  have HC : Hid (Calls Tryd.prog 63 #[.int .u16 ((65535 - u : Nat) : Int)] (w.alloc (Obj.cells (F4 s p m v) 26)) fun e w' => e = .returned (.int .i64 t) ∧ w' = (w.alloc (Obj.cells (F4 s p m v) 26))) := by
    have := tz_c (65535 - u) (by omega) (w.alloc (Obj.cells (F4 s p m v) 26)) HT.out
    rw [ht] at this; exact this
  have HR : Hid (t < m → LfR u m t) := fun htm => .inl ⟨t, rfl, htm, by
    have := h3 (by omega)
    rw [not_bits u t hu (by omega)] at this
    simpa using this, fun i hi => by
    have := h2 i hi
    rw [not_bits u i hu (by omega)] at this
    simpa using this⟩
  have HR2 : Hid (m ≤ t → LfR u m (-1)) := fun htm => .inr ⟨rfl, fun i hi => by
    have := h2 i (by omega)
    rw [not_bits u i hu (by omega)] at this
    simpa using this⟩
  clear hb hT h2 h3 ht HT
  go_enter Tryd.func41, Tryd.ntmps41
  go_wp2_with (fail)
  rw [HX.out]
  refine HC.out.mono ?_
  rintro e w2 ⟨rfl, rfl⟩
  clear HC
  by_cases htm : t < m
  · have hge : ¬ ((m : Int) ≤ t) := by omega
    go_wp2
    go_ret
    exact ⟨_, rfl, HR.out htm, HB.out⟩
  · have hge : (m : Int) ≤ t := by omega
    go_wp2
    go_ret
    exact ⟨_, rfl, HR2.out (by omega), HB.out⟩
end Go.Proofs.YtikhfeafbckjlaaDoor

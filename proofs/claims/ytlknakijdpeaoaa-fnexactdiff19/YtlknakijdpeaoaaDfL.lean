/- The walk of FnExactDiff19; no condition. -/
import Derived.Test.YtlknakijdpeaoaaDfi
import Derived.Test.YtlknakijdpeaoaaDfm
import Derived.Test.YtlknakijdpeaoaaOpS
namespace Go.Proofs.Ytlknakijdpeaoaa
open Go.RowKit Go.ChangeShapes Go.WideShapes Go.ChangeAt
set_option linter.unusedVariables false
set_option linter.unusedSimpArgs false
set_option maxRecDepth 8000

set_option maxHeartbeats 6400000 in
theorem diffLaw (v v' : Value) (xs ys : Ses) (w : World) (h : Rs w v xs) (h' : Rs w v' ys) (hm : ∀ r ∈ xs, r.nm.size ≤ maxLen ∧ r.vl.size ≤ maxLen) (hm' : ∀ r ∈ ys, r.nm.size ≤ maxLen ∧ r.vl.size ≤ maxLen) :
    Calls Try.prog 7 #[v, v'] w fun e w' => e = .returned (.bool true) ∧ Below w.heap.size w w' := by
  have HX : Hid (Rs w v xs) := h
  have HY : Hid (Rs w v' ys) := h'
  have HM : Hid (∀ r ∈ xs, r.nm.size ≤ maxLen ∧ r.vl.size ≤ maxLen) := hm
  have HM' : Hid (∀ r ∈ ys, r.nm.size ≤ maxLen ∧ r.vl.size ≤ maxLen) := hm'
  obtain ⟨a1, p1, rfl, -⟩ := h
  obtain ⟨a2, p2, rfl, -⟩ := h'
  clear hm hm'
  go_enter Try.func7, Try.ntmps7
  go_wp2_with (fail)
  refine (szSettingS_c _ xs 1048576 w (by omega) (by omega) HX.out HM.out).mono ?_
  rintro e w1 ⟨z, rfl, z1, z2, hz, b1⟩
  have B1 : Hid (Below w.heap.size w w1) := b1
  have HZ : Hid (0 ≤ z → (xs.length : Int) ≤ 1048576 ∧ ∀ r ∈ xs, r.nm.size ≤ 1048576 ∧ r.vl.size ≤ 1048576) := hz
  clear hz b1
  by_cases hneg : z < 0
  · go_wp2
    go_ret
    exact ⟨rfl, B1.out⟩
  have HS : Hid (xs.length ≤ 1048576 ∧ ∀ r ∈ xs, r.nm.size ≤ 1048576 ∧ r.vl.size ≤ 1048576) := by
    have := HZ.out (by omega)
    exact ⟨by omega, this.2⟩
  clear HZ
  go_wp2_with (fail)
  refine (szSettingS_c _ ys z w1 (by omega) (by omega) (HY.out.below B1.out) HM'.out).mono ?_
  rintro e w2 ⟨u, rfl, u1, u2, hz, b2⟩
  have B2 : Hid (Below w.heap.size w w2) := belowCall B1.out b2 B1.out.size
  have HZ : Hid (0 ≤ u → (ys.length : Int) ≤ z ∧ ∀ r ∈ ys, r.nm.size ≤ 1048576 ∧ r.vl.size ≤ 1048576) := hz
  clear hz b2 B1
  by_cases hneg2 : u < 0
  · go_wp2
    go_ret
    exact ⟨rfl, B2.out⟩
  have HS' : Hid (ys.length ≤ 1048576 ∧ ∀ r ∈ ys, r.nm.size ≤ 1048576 ∧ r.vl.size ≤ 1048576) := by
    have := HZ.out (by omega)
    exact ⟨by omega, this.2⟩
  clear HZ
  go_wp2_with (fail)
  refine (toSettingS_c _ xs w2 (HX.out.below B2.out) HS.out.1).mono ?_
  rintro e w3 ⟨m1v, rfl, oo, b3⟩
  have B3 : Hid (Below w.heap.size w w3) := belowCall B2.out b3 B2.out.size
  have m1_3 : Hid (Rs w3 m1v xs) := oo.rd
  clear b3 B2  oo
  go_wp2_with (fail)
  refine (toSettingS_c _ ys w3 (HY.out.below B3.out) HS'.out.1).mono ?_
  rintro e w4 ⟨m2v, rfl, oo, b4⟩
  have B4 : Hid (Below w.heap.size w w4) := belowCall B3.out b4 B3.out.size
  have m1_4 : Hid (Rs w4 m1v xs) := m1_3.out.below b4
  have m2_4 : Hid (Rs w4 m2v ys) := oo.rd
  clear b4 B3 m1_3 oo
  go_wp2_with (fail)
  refine (diffM_c _ _ xs ys w4 m1_4.out m2_4.out HS.out.2 HS.out.1 HS'.out.2 HS'.out.1).mono ?_
  rintro e w5 ⟨rfl, b5⟩
  have B5 : Hid (Below w.heap.size w w5) := belowCall B4.out b5 B4.out.size
  have m1_5 : Hid (Rs w5 m1v xs) := m1_4.out.below b5
  have m2_5 : Hid (Rs w5 m2v ys) := m2_4.out.below b5
  clear b5 B4 m1_4 m2_4
  clear m1_5 m2_5
  go_wp2_with (fail)
  refine (toSettingS_c _ xs w5 (HX.out.below B5.out) HS.out.1).mono ?_
  rintro e w6 ⟨i1v, rfl, oo, b6⟩
  have B6 : Hid (Below w.heap.size w w6) := belowCall B5.out b6 B5.out.size
  have i1_6 : Hid (Rs w6 i1v xs) := oo.rd
  clear b6 B5  oo
  go_wp2_with (fail)
  refine (toSettingS_c _ ys w6 (HY.out.below B6.out) HS'.out.1).mono ?_
  rintro e w7 ⟨i2v, rfl, oo, b7⟩
  have B7 : Hid (Below w.heap.size w w7) := belowCall B6.out b7 B6.out.size
  have i1_7 : Hid (Rs w7 i1v xs) := i1_6.out.below b7
  have i2_7 : Hid (Rs w7 i2v ys) := oo.rd
  clear b7 B6 i1_6 oo
  go_wp2_with (fail)
  refine (diffI_c _ _ xs ys w7 i1_7.out i2_7.out HS.out.2 HS.out.1 HS'.out.2 HS'.out.1).mono ?_
  rintro e w8 ⟨rfl, b8⟩
  have B8 : Hid (Below w.heap.size w w8) := belowCall B7.out b8 B7.out.size
  have i1_8 : Hid (Rs w8 i1v xs) := i1_7.out.below b8
  have i2_8 : Hid (Rs w8 i2v ys) := i2_7.out.below b8
  clear b8 B7 i1_7 i2_7
  have hdd : (ByteArray.toList (dfS xs ys) != ByteArray.toList (dfS xs ys)) = false := by
    generalize ByteArray.toList (dfS xs ys) = l
    exact bne_self_eq_false l
  generalize dfS xs ys = D at *
  go_wp2_with (fail)
  refine (toSettingS_c _ xs w8 (HX.out.below B8.out) HS.out.1).mono ?_
  rintro e w9 ⟨c1v, rfl, oo, b9⟩
  have B9 : Hid (Below w.heap.size w w9) := belowCall B8.out b9 B8.out.size
  have i1_9 : Hid (Rs w9 i1v xs) := i1_8.out.below b9
  have i2_9 : Hid (Rs w9 i2v ys) := i2_8.out.below b9
  have c1_9 : Hid (Rs w9 c1v xs) := oo.rd
  clear b9 B8 i1_8 i2_8 oo
  go_wp2_with (fail)
  refine (eqSettingS_t _ _ xs w9 i1_9.out c1_9.out).mono ?_
  rintro e w10 ⟨rfl, b10⟩
  have B10 : Hid (Below w.heap.size w w10) := belowCall B9.out b10 B9.out.size
  have i1_10 : Hid (Rs w10 i1v xs) := i1_9.out.below b10
  have i2_10 : Hid (Rs w10 i2v ys) := i2_9.out.below b10
  have c1_10 : Hid (Rs w10 c1v xs) := c1_9.out.below b10
  clear b10 B9 i1_9 i2_9 c1_9
  go_wp2_with (fail)
  refine (toSettingS_c _ ys w10 (HY.out.below B10.out) HS'.out.1).mono ?_
  rintro e w11 ⟨c2v, rfl, oo, b11⟩
  have B11 : Hid (Below w.heap.size w w11) := belowCall B10.out b11 B10.out.size
  have i1_11 : Hid (Rs w11 i1v xs) := i1_10.out.below b11
  have i2_11 : Hid (Rs w11 i2v ys) := i2_10.out.below b11
  have c1_11 : Hid (Rs w11 c1v xs) := c1_10.out.below b11
  have c2_11 : Hid (Rs w11 c2v ys) := oo.rd
  clear b11 B10 i1_10 i2_10 c1_10 oo
  go_wp2_with (fail)
  refine (eqSettingS_t _ _ ys w11 i2_11.out c2_11.out).mono ?_
  rintro e w12 ⟨rfl, b12⟩
  have B12 : Hid (Below w.heap.size w w12) := belowCall B11.out b12 B11.out.size
  have i1_12 : Hid (Rs w12 i1v xs) := i1_11.out.below b12
  have i2_12 : Hid (Rs w12 i2v ys) := i2_11.out.below b12
  have c1_12 : Hid (Rs w12 c1v xs) := c1_11.out.below b12
  have c2_12 : Hid (Rs w12 c2v ys) := c2_11.out.below b12
  clear b12 B11 i1_11 i2_11 c1_11 c2_11
  go_wp2
  go_ret
  exact ⟨rfl, B12.out⟩
theorem diffLawW (v : Value) (xs : Ses) (v' : Value) (ys : Ses) (w : World) (h : Rs w v xs) (hm : ∀ r ∈ xs, r.nm.size ≤ maxLen ∧ r.vl.size ≤ maxLen) (h' : Rs w v' ys) (hm' : ∀ r ∈ ys, r.nm.size ≤ maxLen ∧ r.vl.size ≤ maxLen) :
    Calls Try.prog 7 #[v, v'] w fun e w' => e = .returned (.bool true) ∧ Below w.heap.size w w' := diffLaw v v' xs ys w h h' hm hm'

end Go.Proofs.Ytlknakijdpeaoaa

/- The law of Find19; no condition. -/
import Derived.Test.YtlknakijdpeaoaaFnd
namespace Go.Proofs.Ytlknakijdpeaoaa
open Go.RowKit Go.ChangeShapes Go.WideShapes Go.ChangeAt
set_option linter.unusedVariables false
set_option linter.unusedSimpArgs false
set_option maxRecDepth 8000

set_option maxHeartbeats 6400000 in
theorem findLaw (a : Option Addr) (ln cap : Nat) (ls : Ses) (x : ByteArray) (w : World) (h : Rs w (.slice a ln cap) ls) (hm : ∀ r ∈ ls, r.nm.size ≤ maxLen ∧ r.vl.size ≤ maxLen) (hx : x.size ≤ maxLen) :
   Calls Try.prog 8 #[.slice a ln cap, .string x] w fun e w' => e = .returned (.bool true) ∧ Below w.heap.size w w' := by
  have HRR : Hid (Rs w (.slice a ln cap) ls) := h
  have HM : Hid (∀ r ∈ ls, r.nm.size ≤ maxLen ∧ r.vl.size ≤ maxLen) := hm
  unfold maxLen at hx
  clear h hm
  by_cases hbig : 1048576 < x.size
  · have hI : (1048576 : Int) < (x.size : Int) := by omega
    go_enter Try.func8, Try.ntmps8
    go_wp2
    go_ret
    exact ⟨rfl, Below.refl _ _⟩
  have hI : ¬ ((1048576 : Int) < (x.size : Int)) := by omega
  go_enter Try.func8, Try.ntmps8
  go_wp2_with (fail)
  refine (szSettingS_c _ ls 1048576 w (by omega) (by omega) HRR.out HM.out).mono ?_
  rintro e w1 ⟨z, rfl, z1, z2, hz, b1⟩
  have B1 : Hid (Below w.heap.size w w1) := b1
  have HZ : Hid (0 ≤ z → (ls.length : Int) ≤ 1048576 ∧ ∀ r ∈ ls, r.nm.size ≤ 1048576 ∧ r.vl.size ≤ 1048576) := hz
  clear hz b1
  by_cases hneg : z < 0
  · go_wp2
    go_ret
    exact ⟨rfl, B1.out⟩
  have HS : Hid (ls.length ≤ 1048576 ∧ ∀ r ∈ ls, r.nm.size ≤ 1048576 ∧ r.vl.size ≤ 1048576) := by
    have := HZ.out (by omega)
    exact ⟨by omega, this.2⟩
  clear HZ
  go_wp2_with (fail)
  refine (toSettingS_c _ ls w1 (HRR.out.below B1.out) HS.out.1).mono ?_
  rintro e w2 ⟨v1, rfl, o1, b2⟩
  have B2 : Hid (Below w.heap.size w w2) := belowCall B1.out b2 B1.out.size
  have O1 : Hid (Rs w2 v1 ls) := o1.rd
  clear o1 b2 B1
  go_wp2_with (fail)
  refine (findM_c _ ls x w2 O1.out HS.out.2 HS.out.1).mono ?_
  rintro e w3 ⟨u, q, rfl, hq, b3⟩
  have B3 : Hid (Below w.heap.size w w3) := belowCall B2.out b3 B2.out.size
  have HQ : Hid (FdP ls x u q) := hq
  clear b3 B2 O1 hq
  go_wp2_with (fail)
  refine (toSettingS_c _ ls w3 (HRR.out.below B3.out) HS.out.1).mono ?_
  rintro e w4 ⟨v2, rfl, o2, b4⟩
  have B4 : Hid (Below w.heap.size w w4) := belowCall B3.out b4 B3.out.size
  have O2 : Hid (Rs w4 v2 ls) := o2.rd
  clear o2 b4 B3
  go_wp2_with (fail)
  refine (findI_c _ ls x w4 O2.out HS.out.2 HS.out.1).mono ?_
  rintro e w5 ⟨u', q', rfl, hq', b5⟩
  have B5 : Hid (Below w.heap.size w w5) := belowCall B4.out b5 B4.out.size
  have O3 : Hid (Rs w5 v2 ls) := O2.out.below b5
  obtain ⟨rfl, rfl⟩ := hq'.same HQ.out
  have hqq : (q' != q') = false := by simp
  have huu : (u'.toList != u'.toList) = false := by simp
  clear hq' b5 B4 O2 HQ
  go_wp2_with (fail)
  refine (toSettingS_c _ ls w5 (HRR.out.below B5.out) HS.out.1).mono ?_
  rintro e w6 ⟨v3, rfl, o3, b6⟩
  have B6 : Hid (Below w.heap.size w w6) := belowCall B5.out b6 B5.out.size
  have O4 : Hid (Rs w6 v2 ls) := O3.out.below b6
  have O5 : Hid (Rs w6 v3 ls) := o3.rd
  clear o3 b6 B5 O3
  go_wp2_with (fail)
  refine (eqSettingS_t _ _ ls w6 O4.out O5.out).mono ?_
  rintro e w7 ⟨rfl, b7⟩
  have B7 : Hid (Below w.heap.size w w7) := belowCall B6.out b7 B6.out.size
  clear b7 B6 O4 O5
  go_wp2
  go_ret
  exact ⟨rfl, B7.out⟩

end Go.Proofs.Ytlknakijdpeaoaa

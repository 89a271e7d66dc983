/- FnExactSubsOk's body answers true at all subs; no condition. -/
import Derived.Test.YtfaflnhembceoaaSbZ
import Derived.Test.YtfaflnhembceoaaSbE
import Derived.Test.YtfaflnhembceoaaSbM
namespace Go.Proofs.Ytfaflnhembceoaa
open Go.RowKit Go.ChangeShapes Go.WideShapes Go.ChangeAt
set_option linter.unusedVariables false
set_option linter.unusedSimpArgs false
set_option maxRecDepth 8000
theorem ftsTo_each {cs : Sbs} : ∀ (n : Nat), n ≤ cs.length → ∀ i (h : i < cs.length), i < n → cs[i].2.2.length ≤ ftsTo cs n
  | 0, _, i, h, hi => by omega
  | n + 1, hn, i, h, hi => by
    by_cases e : i = n
    · subst e
      have : cs.getD i (false, false, []) = cs[i] := by simp [List.getElem?_eq_getElem h]
      rw [ftsTo, this]; omega
    · have := ftsTo_each n (by omega) i h (by omega)
      rw [ftsTo]; omega
theorem sz_ok {cs : Sbs} (h : 0 ≤ lft 1048576 (cs.length + ftsTo cs cs.length)) : (cs.length ≤ 1048576 ∧ ∀ c ∈ cs, c.2.2.length ≤ 1048576) ∧ cs.length + ftsTo cs cs.length ≤ 1048576 := by
  rw [lft] at h
  have hq : cs.length + ftsTo cs cs.length ≤ 1048576 := by
    by_cases g : (1048576 : Int) - (cs.length + ftsTo cs cs.length : Nat) < 0
    · rw [if_pos g] at h; omega
    · omega
  refine ⟨⟨by omega, fun c hc => ?_⟩, hq⟩
  obtain ⟨i, hi, rfl⟩ := List.getElem_of_mem hc
  have := ftsTo_each cs.length (Nat.le_refl _) i hi hi
  omega
set_option maxHeartbeats 3200000 in
theorem subsLaw (a : Option Addr) (ln cap : Nat) (cs : Sbs) (w : World) (h : RdS w (.slice a ln cap) cs) :
   Calls Try.prog 6 #[.slice a ln cap] w fun e w' => e = .returned (.bool true) ∧ Below w.heap.size w w' := by
  have HRR : Hid (RdS w (.slice a ln cap) cs) := h
  clear h
  go_enter Try.func6, Try.ntmps6
  go_wp2_with (fail)
  refine (szSubS_c _ cs 1048576 w HRR.out (by decide) (by decide)).mono ?_
  rintro e w1 ⟨rfl, b1⟩
  obtain ⟨z, hz⟩ : ∃ z, lft 1048576 (cs.length + ftsTo cs cs.length) = z := ⟨_, rfl⟩
  have HZ : Hid (0 ≤ z → cs.length ≤ 1048576 ∧ ∀ c ∈ cs, c.2.2.length ≤ 1048576) := fun h => (sz_ok (by rw [hz]; exact h)).1
  rw [hz]
  have B1 : Hid (Below w.heap.size w w1) := b1
  clear hz b1
  by_cases hneg : z < 0
  · go_wp2
    go_ret
    exact ⟨rfl, B1.out⟩
  have HS : Hid (cs.length ≤ 1048576 ∧ ∀ c ∈ cs, c.2.2.length ≤ 1048576) := HZ.out (by omega)
  clear HZ
  go_wp2_with (fail)
  refine (toSubS_c _ cs w1 (HRR.out.below B1.out) HS.out.1 HS.out.2).mono ?_
  rintro e w2 ⟨v1, rfl, o1, b2⟩
  have B2 : Hid (Below w.heap.size w w2) := belowCall B1.out b2 B1.out.size
  have O1 : Hid (RdS w2 v1 cs) := o1.rd
  clear o1 b2 B1
  go_wp2_with (fail)
  refine (subsM_c _ cs w2 O1.out HS.out.1).mono ?_
  rintro e w3 ⟨q, rfl, hq, b3⟩
  have B3 : Hid (Below w.heap.size w w3) := belowCall B2.out b3 B2.out.size
  clear b3 B2 O1
  go_wp2_with (fail)
  refine (toSubS_c _ cs w3 (HRR.out.below B3.out) HS.out.1 HS.out.2).mono ?_
  rintro e w4 ⟨v2, rfl, o2, b4⟩
  have B4 : Hid (Below w.heap.size w w4) := belowCall B3.out b4 B3.out.size
  have O2 : Hid (RdS w4 v2 cs) := o2.rd
  clear o2 b4 B3
  go_wp2_with (fail)
  refine (subsI_c _ cs w4 O2.out).mono ?_
  rintro e w5 ⟨q', rfl, hq', b5⟩
  have B5 : Hid (Below w.heap.size w w5) := belowCall B4.out b5 B4.out.size
  have O3 : Hid (RdS w5 v2 cs) := O2.out.below b5
  obtain rfl : q' = q := by
    rw [Bool.eq_iff_iff, hq, hq']
  have hqq : (q' != q') = false := by simp
  clear hq hq' b5 B4 O2
  go_wp2_with (fail)
  refine (toSubS_c _ cs w5 (HRR.out.below B5.out) HS.out.1 HS.out.2).mono ?_
  rintro e w6 ⟨v3, rfl, o3, b6⟩
  have B6 : Hid (Below w.heap.size w w6) := belowCall B5.out b6 B5.out.size
  have O4 : Hid (RdS w6 v2 cs) := O3.out.below b6
  have O5 : Hid (RdS w6 v3 cs) := o3.rd
  clear o3 b6 B5 O3
  go_wp2_with (fail)
  refine (eqSubS_c _ _ cs cs w6 O4.out O5.out).mono ?_
  rintro e w7 ⟨rfl, b7⟩
  rw [decide_eq_true rfl]
  have B7 : Hid (Below w.heap.size w w7) := belowCall B6.out b7 B6.out.size
  clear b7 B6
  go_wp2
  go_ret
  exact ⟨rfl, B7.out⟩
end Go.Proofs.Ytfaflnhembceoaa

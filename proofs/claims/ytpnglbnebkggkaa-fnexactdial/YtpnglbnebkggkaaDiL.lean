/- FnExactDial's body answers true at all rules and digits; no condition. -/
import Derived.Test.YtpnglbnebkggkaaDiM
import Derived.Test.YtpnglbnebkggkaaDiP
import Derived.Test.YtpnglbnebkggkaaRuL
namespace Go.Proofs.Ytpnglbnebkggkaa
open Go.RowKit Go.ChangeShapes Go.WideShapes Go.ChangeAt
set_option linter.unusedVariables false
set_option linter.unusedSimpArgs false
set_option maxRecDepth 8000
set_option maxHeartbeats 6400000 in
theorem dialLaw (a : Option Addr) (ln cap : Nat) (ls : Rls) (s : ByteArray) (w : World) (h : Rr w (.slice a ln cap) ls) (hm : ∀ r ∈ ls, r.pre.size ≤ maxLen ∧ r.ad.size ≤ maxLen) (hsm : s.size ≤ maxLen) :
   Calls Try.prog 6 #[.slice a ln cap, .string s] w fun e w' => e = .returned (.bool true) ∧ Below w.heap.size w w' := by
  have HRR : Hid (Rr w (.slice a ln cap) ls) := h
  have HM : Hid (∀ r ∈ ls, r.pre.size ≤ maxLen ∧ r.ad.size ≤ maxLen) := hm
  have HR0 : Hid (Below w.heap.size w w) := Below.refl _ _
  clear h hm
  unfold maxLen at hsm
  by_cases hbig : (1048576 : Int) < (s.size : Int)
  · go_enter Try.func6, Try.ntmps6
    go_wp2
    go_ret
    exact ⟨rfl, HR0.out⟩
  have hs : s.size ≤ 1048576 := by omega
  have hbF : ((1048576 : Int) < (s.size : Int)) = False := eq_false hbig
  have hbN : (1048576 < s.size) = False := eq_false (by omega)
  clear hbig
  go_enter Try.func6, Try.ntmps6
  go_wp2_with (fail)
  refine (szRuleS_c _ ls w HRR.out HM.out).mono ?_
  rintro e w1 ⟨z, rfl, hz, b1⟩
  have B1 : Hid (Below w.heap.size w w1) := b1
  have HZ : Hid (0 ≤ z → ls.length ≤ 1048576 ∧ Szs ls) := hz
  clear hz b1
  by_cases hneg : z < 0
  · go_wp2
    go_ret
    exact ⟨rfl, B1.out⟩
  have HS : Hid (ls.length ≤ 1048576 ∧ Szs ls) := HZ.out (by omega)
  clear HZ
  go_wp2_with (fail)
  refine (toRuleS_c _ ls w1 (HRR.out.below B1.out) HS.out.1).mono ?_
  rintro e w2 ⟨v1, rfl, o1, b2⟩
  have B2 : Hid (Below w.heap.size w w2) := belowCall B1.out b2 B1.out.size
  have O1 : Hid (Rr w2 v1 ls) := o1.rd
  clear o1 b2 B1
  go_wp2_with (fail)
  refine (diM_c _ ls s w2 O1.out HS.out.2 hs).mono ?_
  rintro e w3 ⟨c, r, nu, k, rfl, hq, b3⟩
  obtain ⟨W3, hW3⟩ : ∃ W3, w3.alloc (Obj.cells (D4 c r nu k) 28) = W3 := ⟨_, rfl⟩
  have K3 : Hid (Below w.heap.size w W3 ∧ Blk W3 w3.heap.size (D4 c r nu k) 28) := hW3 ▸ ⟨(belowCall B2.out b3 B2.out.size).alloc (by have := B2.out.size; have := b3.size; omega) _, Blk.new _ _ _⟩
  have HW3 : Hid (w3.alloc (Obj.cells (D4 c r nu k) 28) = W3) := hW3
  have HQ : Hid (DialS ls s (c, r, nu, k)) := hq
  obtain ⟨g3, hg3⟩ : ∃ g, w3.heap.size = g := ⟨_, rfl⟩
  rw [hg3] at K3
  have HG3 : Hid (w3.heap.size = g3) := hg3
  clear b3 B2 O1 hW3 hq hg3
  go_wp2_with (fail)
  rw [HW3.out, HG3.out]
  refine (toRuleS_c _ ls W3 (HRR.out.below K3.out.1) HS.out.1).mono ?_
  rintro e w4 ⟨v2, rfl, o2, b4⟩
  have K4 : Hid (Below w.heap.size w w4 ∧ Blk w4 g3 (D4 c r nu k) 28) := ⟨belowCall K3.out.1 b4 K3.out.1.size, K3.out.2.below b4 K3.out.2.lt⟩
  have O2 : Hid (Rr w4 v2 ls) := o2.rd
  clear o2 b4 K3 HW3 HG3
  go_wp2_with (fail)
  refine (diI_c _ ls s w4 O2.out HS.out.2 hs).mono ?_
  rintro e w5 ⟨c', r', nu', k', rfl, hq', b5⟩
  have heq := DialS.same hq' HQ.out
  obtain ⟨rfl, rfl, rfl, rfl⟩ : c' = c ∧ r' = r ∧ nu' = nu ∧ k' = k := by simpa using heq
  obtain ⟨W5, hW5⟩ : ∃ W5, w5.alloc (Obj.cells (D4 c' r' nu' k') 28) = W5 := ⟨_, rfl⟩
  have b5' : Below w4.heap.size w4 W5 := hW5 ▸ b5.alloc b5.size _
  have K5 : Hid ((Below w.heap.size w W5 ∧ Blk W5 g3 (D4 c' r' nu' k') 28) ∧ Blk W5 w5.heap.size (D4 c' r' nu' k') 28) := ⟨⟨belowCall K4.out.1 b5' K4.out.1.size, K4.out.2.below b5' K4.out.2.lt⟩, hW5 ▸ Blk.new _ _ _⟩
  have O3 : Hid (Rr W5 v2 ls) := O2.out.below b5'
  have HW5 : Hid (w5.alloc (Obj.cells (D4 c' r' nu' k') 28) = W5) := hW5
  obtain ⟨g5, hg5⟩ : ∃ g, w5.heap.size = g := ⟨_, rfl⟩
  rw [hg5] at K5
  have HG5 : Hid (w5.heap.size = g5) := hg5
  have l3 : g3 < w5.heap.size := by have := K4.out.2.lt; have := b5.size; omega
  have b3 : ∀ i, w5.cell? ⟨g3, i, none⟩ = w4.cell? ⟨g3, i, none⟩ := fun i => b5.cell (p := ⟨g3, i, none⟩) K4.out.2.lt
  have x0 := (b3 0).trans (K4.out.2.cell 0)
  have x1 := (b3 1).trans (K4.out.2.cell 1)
  have x2 := (b3 2).trans (K4.out.2.cell 2)
  have x3 := (b3 3).trans (K4.out.2.cell 3)
  simp at x0 x1 x2 x3
  clear b3 b5 b5' K4 O2 heq hq' HQ hW5 hg5
  go_wp2_with (fail)
  rw [HW5.out]
  refine (eqDialled_t c' r' nu' k' W5).mono ?_
  rintro e w6 ⟨rfl, b6⟩
  have B6 : Hid (Below w.heap.size w w6) := belowCall K5.out.1.1 b6 K5.out.1.1.size
  have O4 : Hid (Rr w6 v2 ls) := O3.out.below b6
  clear b6 K5 O3 HW5 HG5 x0 x1 x2 x3 l3
  go_wp2_with (fail)
  refine (toRuleS_c _ ls w6 (HRR.out.below B6.out) HS.out.1).mono ?_
  rintro e w7 ⟨v3, rfl, o3, b7⟩
  have B7 : Hid (Below w.heap.size w w7) := belowCall B6.out b7 B6.out.size
  have O5 : Hid (Rr w7 v2 ls) := O4.out.below b7
  have O6 : Hid (Rr w7 v3 ls) := o3.rd
  clear o3 b7 B6 O4
  go_wp2_with (fail)
  refine (eqRuleS_t _ _ ls w7 O5.out O6.out).mono ?_
  rintro e w8 ⟨rfl, b8⟩
  have B8 : Hid (Below w.heap.size w w8) := belowCall B7.out b8 B7.out.size
  clear b8 B7 O5 O6
  go_wp2
  go_ret
  exact ⟨rfl, B8.out⟩
end Go.Proofs.Ytpnglbnebkggkaa

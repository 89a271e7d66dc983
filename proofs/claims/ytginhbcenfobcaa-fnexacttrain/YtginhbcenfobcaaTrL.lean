/- FnExactTrain; no condition. -/
import Derived.Test.YtginhbcenfobcaaTri
import Derived.Test.YtginhbcenfobcaaTrm
import Derived.Test.YtginhbcenfobcaaMks
namespace Go.Proofs.Ytginhbcenfobcaa
open Go.RowKit Go.ChangeShapes Go.WideShapes Go.ChangeAt
set_option linter.unusedVariables false
set_option linter.unusedSimpArgs false
set_option maxRecDepth 8000

theorem Og.row {α : Type} {n : Nat} {c : α → List Value} {e : TypeId} {base : Nat} {w w' : World} {v : Value} {ls : List α} {row : Option Nat} (h : Og n c e base w v ls) (hg : w.grownBy w' row) (hne : v.ownBlock = none ∨ v.ownBlock ≠ row) : Og n c e base w' v ls := World.ownsRow.kept h hg hne
set_option maxHeartbeats 6400000 in
theorem trainLaw (w : World) : Calls Try.prog 4 #[] w fun e w' => e = .returned (.bool true) ∧ Below w.heap.size w w' := by
  obtain ⟨T, hT⟩ : ∃ T, trL = T := ⟨_, rfl⟩
  have HTL : Hid (T.length = 26) := by show T.length = 26; rw [← hT]; exact trL_len
  have HM : Hid (∀ W, Calls Try.prog 18 #[] W fun e w' => ∃ v', e = .returned v' ∧ Og 2 smC 27 W.heap.size w' v' T ∧ Below W.heap.size W w') := by intro W; rw [← hT]; exact trainM_c W
  have HI : Hid (∀ W, Calls Try.prog 19 #[] W fun e w' => ∃ v', e = .returned v' ∧ Og 2 smC 27 W.heap.size w' v' T ∧ Below W.heap.size W w') := by intro W; rw [← hT]; exact trainI_c W
  clear hT
  go_enter Try.func4, Try.ntmps4
  go_wp2_with (fail)
  refine (HM.out w).mono ?_
  rintro e w1 ⟨v1, rfl, o1, b1⟩
  have HR1 : Hid (Rg 2 smC w1 v1 T) := o1.rd smC_len
  have HL1 : Hid (∀ k, v1.ownBlock = some k → k < w1.heap.size) := fun k e => (o1.lt k e).2
  have HB1 : Hid (Below w.heap.size w w1) := b1
  clear o1 b1
  go_wp2_with (fail)
  refine (HI.out w1).mono ?_
  rintro e w2 ⟨v2, rfl, o2, b2⟩
  have HO2 : Hid (Og 2 smC 27 w1.heap.size w2 v2 T) := o2
  have HR2 : Hid (Rg 2 smC w2 v1 T) := HR1.out.below b2
  have HB2 : Hid (Below w.heap.size w w2) := belowCall HB1.out b2 HB1.out.size
  clear o2 b2
  go_wp2_with (fail)
  refine (eqSmS_t v2 v1 T w2 (HO2.out.rd smC_len) HR2.out).mono ?_
  rintro e w3 ⟨rfl, b3⟩
  have HO3 : Hid (Og 2 smC 27 w1.heap.size w3 v2 T) := HO2.out.below b3
  have HR3 : Hid (Rg 2 smC w3 v1 T) := HR2.out.below b3
  have HB3 : Hid (Below w.heap.size w w3) := belowCall HB2.out b3 HB2.out.size
  have HS3 : Hid (w1.heap.size ≤ w3.heap.size) := by
    show w1.heap.size ≤ w3.heap.size
    rcases HO3.out.2 with ⟨-, h⟩ | ⟨g, cap, cur, hv, h1, h2, -⟩
    · rw [HTL.out] at h; omega
    · have := HO3.out.lt g (by rw [hv]; rfl); omega
  clear b3
  go_wp2_with (fail)
  refine (markSm_c v2 T 1 w1.heap.size w3 HO3.out (by omega) (by omega) (by rw [HTL.out]; omega)).mono ?_
  rintro e w4 ⟨rfl, o4, g4⟩
  have HO4 : Hid (Og 2 smC 27 w1.heap.size w4 v2 (mkg (mkf 1) T.length)) := o4
  have HB4 : Hid (Below w.heap.size w w4) := HB3.out.trans (grown_below g4 HB3.out.size (fun k e => by have := (HO3.out.lt k e).1; have := HB1.out.size; omega))
  have HR4 : Hid (Rg 2 smC w4 v1 T) := HR3.out.grown g4 (by
    cases hv : v1.ownBlock with
    | none => exact .inr (.inl rfl)
    | some k => exact .inr (.inr (fun e => by have := HL1.out k hv; have := (HO3.out.lt k e.symm).1; omega)))
  clear o4 g4
  rw [HTL.out] at HO4 ⊢
  go_wp2_with (fail)
  refine (heldSm_c v2 1 26 w4 (HO4.out.rd smC_len) (by omega) (by omega) (by omega)).mono ?_
  rintro e w5 ⟨rfl, b5⟩
  have HO5 : Hid (Og 2 smC 27 w1.heap.size w5 v2 (mkg (mkf 1) 26)) := HO4.out.below b5
  have HR5 : Hid (Rg 2 smC w5 v1 T) := HR4.out.below b5
  have HB5 : Hid (Below w.heap.size w w5) := belowCall HB4.out b5 HB4.out.size
  clear b5
  go_wp2_with (fail)
  refine (HI.out w5).mono ?_
  rintro e w6 ⟨v6, rfl, o6, b6⟩
  have HO6 : Hid (Rg 2 smC w6 v6 T) := o6.rd smC_len
  have HK6 : Hid (Og 2 smC 27 w1.heap.size w6 v2 (mkg (mkf 1) 26)) := HO5.out.below b6
  have HR6 : Hid (Rg 2 smC w6 v1 T) := HR5.out.below b6
  have HB6 : Hid (Below w.heap.size w w6) := belowCall HB5.out b6 HB5.out.size
  clear o6 b6
  go_wp2_with (fail)
  refine (eqSmS_t v6 v1 T w6 HO6.out HR6.out).mono ?_
  rintro e w7 ⟨rfl, b7⟩
  have HK7 : Hid (Og 2 smC 27 w1.heap.size w7 v2 (mkg (mkf 1) 26)) := HK6.out.below b7
  have HB7 : Hid (Below w.heap.size w w7) := belowCall HB6.out b7 HB6.out.size
  clear b7
  go_wp2_with (fail)
  refine (heldSm_c v2 1 26 w7 (HK7.out.rd smC_len) (by omega) (by omega) (by omega)).mono ?_
  rintro e w8 ⟨rfl, b8⟩
  have HB8 : Hid (Below w.heap.size w w8) := belowCall HB7.out b8 HB7.out.size
  clear b8
  go_wp2
  go_ret
  exact ⟨rfl, HB8.out⟩

end Go.Proofs.Ytginhbcenfobcaa

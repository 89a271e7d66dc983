/- FnExactDigits13, walked; the two tables are as they were laid. -/
import Derived.Test.YtgdejlofkjdkoaaDoorDsi
import Derived.Test.YtgdejlofkjdkoaaDoorDsm
import Derived.Test.YtgdejlofkjdkoaaDoorIvs
namespace Go.Proofs.YtgdejlofkjdkoaaDoor
open Go.RowKit Go.ChangeShapes Go.WideShapes Go.ChangeAt
set_option linter.unusedVariables false
set_option linter.unusedSimpArgs false
set_option maxRecDepth 8000

set_option maxHeartbeats 3200000 in
theorem digitsLaw (v : Value) (zs : List Int) (w : World) (h : Rd .i64 w v zs) (hG : RcG w) : Calls Tryd.prog 7 #[v] w fun e w' => e = .returned (.bool true) ∧ Below w.heap.size w w' := by
  have HR : Hid (Rd .i64 w v zs) := h
  have HB : Hid (Below w.heap.size w w) := Below.refl _ _
  have HG : Hid (RcG w) := hG
  clear hG
  obtain ⟨a, cap, rfl, h1, h2, -⟩ := h
  unfold maxLen at h2
  by_cases hl : (1048576 : Int) < (zs.length : Int)
  · go_enter Tryd.func7, Tryd.ntmps7
    go_wp2
    go_ret
    exact ⟨rfl, HB.out⟩
  have hl' : zs.length ≤ 1048576 := by omega
  go_enter Tryd.func7, Tryd.ntmps7
  go_wp2_with (fail)
  refine (toI _ zs w HR.out hl').mono ?_
  rintro e w1 ⟨v1, rfl, o1, b1⟩
  have HO1 : Hid (Rd .i64 w1 v1 zs) := o1.rd
  have HB1 : Hid (Below w.heap.size w w1) := b1
  clear o1 b1
  go_wp2_with (fail)
  refine (digitsM_c v1 zs w1 HO1.out).mono ?_
  rintro e w2 ⟨rfl, b2⟩
  have HB2 : Hid (Below w.heap.size w w2) := belowCall HB1.out b2 HB1.out.size
  clear b2
  go_wp2_with (fail)
  refine (toI _ zs w2 (HR.out.below HB2.out) hl').mono ?_
  rintro e w3 ⟨v3, rfl, o3, b3⟩
  have HO3 : Hid (Rd .i64 w3 v3 zs) := o3.rd
  have HB3 : Hid (Below w.heap.size w w3) := belowCall HB2.out b3 HB2.out.size
  clear o3 b3
  go_wp2_with (fail)
  refine (digitsI_c v3 zs w3 HO3.out (HG.out.below HB3.out)).mono ?_
  rintro e w4 ⟨rfl, b4⟩
  have HO4 : Hid (Rd .i64 w4 v3 zs) := HO3.out.below b4
  have HB4 : Hid (Below w.heap.size w w4) := belowCall HB3.out b4 HB3.out.size
  clear b4
  obtain ⟨p, hp⟩ : ∃ p, dsR zs = p := ⟨_, rfl⟩
  obtain ⟨q, hq⟩ : ∃ p, dsB zs = p := ⟨_, rfl⟩
  rw [hp, hq]
  have e2 : (q != q) = false := by simp
  clear hp hq
  go_wp2_with (fail)
  refine (toI _ zs w4 (HR.out.below HB4.out) hl').mono ?_
  rintro e w5 ⟨v5, rfl, o5, b5⟩
  have HO5 : Hid (Rd .i64 w5 v5 zs) := o5.rd
  have HO5' : Hid (Rd .i64 w5 v3 zs) := HO4.out.below b5
  have HB5 : Hid (Below w.heap.size w w5) := belowCall HB4.out b5 HB4.out.size
  clear o5 b5
  go_wp2_with (fail)
  refine (eqIS v3 v5 zs w5 HO5'.out HO5.out).mono ?_
  rintro e w6 ⟨rfl, b6⟩
  have HB6 : Hid (Below w.heap.size w w6) := belowCall HB5.out b6 HB5.out.size
  clear b6
  go_wp2
  go_ret
  exact ⟨rfl, HB6.out⟩

end Go.Proofs.YtgdejlofkjdkoaaDoor

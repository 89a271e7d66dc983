/- Wave; no condition. -/
import Derived.Test.YtgdejlofkjdkoaaQrt
import Derived.Test.YtgdejlofkjdkoaaTbl
namespace Go.Proofs.Ytgdejlofkjdkoaa
open Go.RowKit Go.ChangeShapes Go.WideShapes Go.ChangeAt
set_option linter.unusedVariables false
set_option linter.unusedSimpArgs false
set_option maxRecDepth 8000

theorem waveI_c (s : Int) (hs0 : -9223372036854775808 ≤ s) (hs1 : s ≤ 9223372036854775807) (w : World) : Calls Try.prog 8 #[.int .i64 s] w fun e w' => e = .returned (.int .i64 (wave s)) ∧ Below w.heap.size w w' := by
  go_enter Try.func8, Try.ntmps8
  go_wp2_with (fail)
  refine (quarterI_c w).mono ?_
  rintro e w1 ⟨g, rfl, hq, hg, hb⟩
  have HQ : Hid (Qt w1 g) := hq
  have HB : Hid (Below w.heap.size w w1) := hb
  clear hq hb
  go_wp2_with (fail)
  refine (qatI_c g s hs0 hs1 w1 HQ.out).mono ?_
  rintro e w2 ⟨rfl, hw⟩
  rw [hw]
  clear hw w2
  go_wp2
  go_ret
  exact ⟨rfl, HB.out⟩
theorem waveM_c (s : Int) (hs0 : -9223372036854775808 ≤ s) (hs1 : s ≤ 9223372036854775807) (w : World) : Calls Try.prog 9 #[.int .i64 s] w fun e w' => e = .returned (.int .i64 (wave s)) ∧ Below w.heap.size w w' := by
  go_enter Try.func9, Try.ntmps9
  go_wp2_with (fail)
  refine (tableM_c w).mono ?_
  rintro e w1 ⟨v, rfl, ho, hb⟩
  have HO : Hid (Rd .i64 w1 v wvR) := ho.rd
  have HB : Hid (Below w.heap.size w w1) := hb
  clear ho hb
  go_wp2_with (fail)
  refine (atM_c v s hs0 hs1 w1 HO.out).mono ?_
  rintro e w2 ⟨rfl, hw⟩
  rw [hw]
  clear hw w2
  go_wp2
  go_ret
  exact ⟨rfl, HB.out⟩
theorem waveLaw (s : Int) (w : World) (hs : (Lit.int .i64 s).wf = true) : Calls Try.prog 4 #[.int .i64 s] w fun e w' => e = .returned (.bool true) ∧ Below w.heap.size w w' := by
  have hb0 := bounds_i64 hs
  go_enter Try.func4, Try.ntmps4
  go_wp2_with (fail)
  refine (waveM_c s hb0.1 hb0.2 w).mono ?_
  rintro e w1 ⟨rfl, b1⟩
  have HB1 : Hid (Below w.heap.size w w1) := b1
  clear b1
  go_wp2_with (fail)
  refine (waveI_c s hb0.1 hb0.2 w1).mono ?_
  rintro e w2 ⟨rfl, b2⟩
  have HB2 : Hid (Below w.heap.size w w2) := belowCall HB1.out b2 HB1.out.size
  clear b2
  have hne : (wave s != wave s) = false := by simp
  go_wp2
  go_ret
  exact ⟨rfl, HB2.out⟩

end Go.Proofs.Ytgdejlofkjdkoaa

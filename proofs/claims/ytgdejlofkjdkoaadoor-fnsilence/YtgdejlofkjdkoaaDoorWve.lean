/- Wave; no condition. -/
import Derived.Test.YtgdejlofkjdkoaaDoorQrt
namespace Go.Proofs.YtgdejlofkjdkoaaDoor
open Go.RowKit Go.ChangeShapes Go.WideShapes Go.ChangeAt
set_option linter.unusedVariables false
set_option linter.unusedSimpArgs false
set_option maxRecDepth 8000

theorem waveI_c (s : Int) (hs0 : -9223372036854775808 ≤ s) (hs1 : s ≤ 9223372036854775807) (w : World) : Calls Tryd.prog 15 #[.int .i64 s] w fun e w' => e = .returned (.int .i64 (wave s)) ∧ Below w.heap.size w w' := by
  go_enter Tryd.func15, Tryd.ntmps15
  go_wp2_with (fail)
  refine (quarterI_c w).mono ?_
  rintro e w1 ⟨g, rfl, hq, hg, hb⟩
  have HQ : Hid (Qt w1 g) := hq
  have HB : Hid (Below w.heap.size w w1) := hb
  clear hq hb
  go_wp2_with (fail)
  refine (qatI_c g s hs0 hs1 w1 HQ.out).mono ?_
  rintro e w2 ⟨rfl, hw⟩
  rw [hw]
  clear hw w2
  go_wp2
  go_ret
  exact ⟨rfl, HB.out⟩

end Go.Proofs.YtgdejlofkjdkoaaDoor

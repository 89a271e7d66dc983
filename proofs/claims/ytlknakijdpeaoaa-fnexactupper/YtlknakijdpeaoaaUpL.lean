/- The law of Upper; no condition. -/
import Derived.Test.YtlknakijdpeaoaaUpi
import Derived.Test.YtlknakijdpeaoaaUpm
namespace Go.Proofs.Ytlknakijdpeaoaa
open Go.RowKit Go.ChangeShapes Go.WideShapes Go.ChangeAt
set_option linter.unusedVariables false
set_option linter.unusedSimpArgs false
set_option maxRecDepth 8000

theorem upperLaw (s : ByteArray) (w : World) (hs : s.size ≤ maxLen) : Calls Try.prog 6 #[.string s] w fun e w' => e = .returned (.bool true) ∧ Below w.heap.size w w' := by
  unfold maxLen at hs
  by_cases h : 1048576 < s.size
  · have hI : (1048576 : Int) < (s.size : Int) := by omega
    go_enter Try.func6, Try.ntmps6
    go_wp2
    go_ret
    exact ⟨rfl, Below.refl _ _⟩
  have hI : ¬ ((1048576 : Int) < (s.size : Int)) := by omega
  go_enter Try.func6, Try.ntmps6
  go_wp2_with (fail)
  refine (upperM_c s w (by omega)).mono ?_
  rintro e w2 ⟨rfl, hb⟩
  have HB : Hid (Below w.heap.size w w2) := hb
  clear hb
  go_wp2_with (fail)
  refine (upperI_c s w2 (by omega)).mono ?_
  rintro e w3 ⟨rfl, hb⟩
  have HB3 : Hid (Below w.heap.size w w3) := belowCall HB.out hb HB.out.size
  obtain ⟨u, hu⟩ : ∃ u, upS s = u := ⟨_, rfl⟩
  rw [hu]
  have hne : (u.toList != u.toList) = false := by simp
  clear hb hu
  go_wp2
  go_ret
  exact ⟨rfl, HB3.out⟩

end Go.Proofs.Ytlknakijdpeaoaa

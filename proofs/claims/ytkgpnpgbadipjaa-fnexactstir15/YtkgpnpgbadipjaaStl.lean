/- How long an answer of Stir15 is; no condition. -/
import Derived.Test.YtkgpnpgbadipjaaSta
namespace Go.Proofs.Ytkgpnpgbadipjaa
open Go.RowKit Go.ChangeShapes Go.WideShapes Go.ChangeAt
set_option linter.unusedVariables false
set_option linter.unusedSimpArgs false
set_option maxRecDepth 8000
theorem st_len (zs : List Int) (key : Int) (h : zs.length ≤ 1048576) : (stR zs key).length ≤ 4194304 := by
  unfold stR
  split
  · rw [stF_len]; omega
  · simp

end Go.Proofs.Ytkgpnpgbadipjaa

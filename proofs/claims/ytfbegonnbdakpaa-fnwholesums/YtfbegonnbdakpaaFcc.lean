/- A fact on the program as it was turned; no condition. -/
import Derived.Test.YtfbegonnbdakpaaBase
namespace Go.Proofs.Ytfbegonnbdakpaa
open Go.RowKit Go.ChangeShapes Go.WideShapes Go.ChangeAt
set_option linter.unusedVariables false
set_option linter.unusedSimpArgs false
set_option maxRecDepth 8000
theorem fMake : (Try.prog.make == some Rows.fnExactWidenRow.make) = true := by kernel_rfl
end Go.Proofs.Ytfbegonnbdakpaa

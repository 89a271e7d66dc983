/- Slices of ints copied and compared; no condition. -/
import Derived.Test.YtdnophdldpophaaSl
import Derived.Deep.RegionHeld3
namespace Go.Proofs.Ytdnophdldpophaa
open Go.RowKit Go.ChangeShapes Go.WideShapes Go.ChangeAt
set_option linter.unusedVariables false
set_option linter.unusedSimpArgs false
set_option maxRecDepth 8000
end Go.Proofs.Ytdnophdldpophaa

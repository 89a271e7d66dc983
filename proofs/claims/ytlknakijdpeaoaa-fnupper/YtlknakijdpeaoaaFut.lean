/- What Upper tells of the texts that are drawn; no condition. -/
import Derived.Test.YtlknakijdpeaoaaUpp
import Derived.Test.YtlknakijdpeaoaaDup
namespace Go.Proofs.Ytlknakijdpeaoaa
open Go.RowKit Go.ChangeShapes Go.WideShapes Go.ChangeAt
set_option linter.unusedVariables false
set_option linter.unusedSimpArgs false
set_option maxRecDepth 8000

/-- what the law asks of a text that is drawn -/
def uT (s : ByteArray) : Bool := (upS s).toList == [] || (wB (upS s) && ((upS (upS s)).toList == (upS s).toList && ((upS s).size == s.size)))
theorem uT_all : uAB.all uT = true := by kernel_rfl
theorem uT_one : upS ⟨#[208, 182, 107, 45, 207, 137]⟩ = ⟨#[208, 150, 75, 45, 206, 169]⟩ := by kernel_rfl

end Go.Proofs.Ytlknakijdpeaoaa

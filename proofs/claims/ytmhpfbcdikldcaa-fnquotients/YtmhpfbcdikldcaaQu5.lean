/- QuotWide of the model; no condition. -/
import Derived.Test.YtmhpfbcdikldcaaQu4
import Derived.Test.YtmhpfbcdikldcaaMixT
namespace Go.Proofs.Ytmhpfbcdikldcaa
open Go.RowKit Go.ChangeShapes Go.WideShapes Go.ChangeAt
set_option linter.unusedVariables false
set_option linter.unusedSimpArgs false
set_option maxRecDepth 8000
/-- what QuotWide answers -/
def QwR (a b c d : Nat) (w : World) (e : Ending) (w' : World) : Prop := ∃ x y, e = .returned (.tuple #[.agg #[.float .f64 x, .float .f64 y], .bool (qOk a b c d)]) ∧ fc .f64 x = qR a b c d ∧ fc .f64 y = qI a b c d ∧ Below w.heap.size w w'
theorem results_W2 {fn : Func} {u p : Tmp} (h : fn.results = #[.cell p 34, .tmp u]) (tmps : Array Value) (w : World) (g : Nat) (x y q : Value)
    (hu : tmps.getD u undef = q) (hp : tmps.getD p undef = .pointer (some ⟨g, 0, none⟩)) (hg : Blk w g #[x, y] 34) :
    (results fn tmps).run Try.prog w = .ok (.tuple #[.agg #[x, y], q]) w := by
  have hp' : tmps[p]?.getD undef = .pointer (some ⟨g, 0, none⟩) := by simpa using hp
  have hu' : tmps[u]?.getD undef = q := by simpa using hu
  have hr := run_loadVar_row (P := Try.prog) w g 34 34 #[x, y] (0, 0) _ hg Try.underlying34 rfl sz30
  simp [results, h, hp', hu', asAddr, hr]
end Go.Proofs.Ytmhpfbcdikldcaa

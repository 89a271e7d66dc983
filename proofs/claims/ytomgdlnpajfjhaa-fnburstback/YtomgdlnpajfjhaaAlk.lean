/- When samples are alike; no condition. -/
import Derived.Test.YtomgdlnpajfjhaaSmp
namespace Go.Proofs.Ytomgdlnpajfjhaa
open Go.RowKit Go.ChangeShapes Go.WideShapes Go.ChangeAt
set_option linter.unusedVariables false
set_option linter.unusedSimpArgs false
set_option maxRecDepth 8000

theorem alike_c (a b a' b' : Nat) (h : FloatKind.f32.format.order a a' = some .eq) (h' : FloatKind.f32.format.order b b' = some .eq) (w : World) : Calls Try.prog 12 #[.agg #[.float .f32 a, .float .f32 b], .agg #[.float .f32 a', .float .f32 b']] w fun e w' => e = .returned (.bool true) ∧ Below w.heap.size w w' := by
  go_enter Try.func12, Try.ntmps12
  go_wp2
  go_ret
  exact ⟨rfl, ((Below.refl _ _).alloc (Nat.le_refl _) _).alloc (by simp) _⟩

end Go.Proofs.Ytomgdlnpajfjhaa

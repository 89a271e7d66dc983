/- How long what Connect answers is; no condition. -/
import Derived.Test.YtikhfeafbckjlaaDoorFCoM
namespace Go.Proofs.YtikhfeafbckjlaaDoor
open Go.RowKit Go.ChangeShapes Go.WideShapes Go.ChangeAt
set_option linter.unusedVariables false
set_option linter.unusedSimpArgs false
set_option maxRecDepth 8000
theorem ConS.len {s p m f g : Int} {ps ps' : Tri} {ms : Mvs} {c : Int} (h : ConS s p m f g ps ps' ms c) : ps'.length ≤ ps.length + 1 ∧ ms.length ≤ ps.length := by
  rcases h with ⟨h1, rfl, rfl, rfl⟩ | ⟨h1, h2, rfl, rfl, rfl⟩ | ⟨h1, h2, h3, rfl, rfl, rfl⟩ | ⟨h1, h2, h3, h4, rfl, rfl, rfl⟩ | ⟨h1, h2, h3, h4, K1, K2, k1, k2, rfl, rfl, rfl⟩
  · exact ⟨by omega, by simp⟩
  · exact ⟨by omega, by simp⟩
  · exact ⟨by simp, by simp⟩
  · exact ⟨by omega, by simp⟩
  · have hc := con_chains h1.1 h3 h4.1 h4.2
    refine ⟨by simp [movL_len], ?_⟩
    unfold mvs2
    split
    · rw [mvL_len]; exact k2.le hc.2
    · rw [mvL_len]; exact k1.le hc.1
end Go.Proofs.YtikhfeafbckjlaaDoor

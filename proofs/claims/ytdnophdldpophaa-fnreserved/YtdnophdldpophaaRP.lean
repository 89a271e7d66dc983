/- RateParts of the program; no condition. -/
import Derived.Test.YtdnophdldpophaaRM
namespace Go.Proofs.Ytdnophdldpophaa
open Go.RowKit Go.ChangeShapes Go.WideShapes Go.ChangeAt
set_option linter.unusedVariables false
set_option linter.unusedSimpArgs false
set_option maxRecDepth 8000
/-- the first j cuts are right -/
def CutS (cs : List Int) (b e : Int) (j : Nat) : Prop := ∀ i, i < cs.length → i < j → b ≤ cs.getD i 0 ∧ cs.getD i 0 ≤ e ∧ (0 < i → cs.getD (i - 1) 0 < cs.getD i 0)
def CutOk (cs : List Int) (b e : Int) : Prop := CutS cs b e cs.length ∧ cs.length ≤ 100
theorem CutS.succ {cs : List Int} {b e : Int} {j : Nat} (h : CutS cs b e j) (h1 : b ≤ cs.getD j 0 ∧ cs.getD j 0 ≤ e) (h2 : 0 < j → cs.getD (j - 1) 0 < cs.getD j 0) : CutS cs b e (j + 1) := fun i hi hij => by
  by_cases hc : i < j
  · exact h i hi hc
  · obtain rfl : i = j := by omega
    exact ⟨h1.1, h1.2, h2⟩
/-- what RateParts tells -/
def PtS (ls : List Tf) (z b e : Int) (cs : List Int) (s c : Int) (ok : Bool) : Prop := (CutOk cs b e ∧ RtS ls z b e s c ok) ∨ (¬ CutOk cs b e ∧ ok = false ∧ s = 0 ∧ c = 0)
theorem PtS.uniq {ls : List Tf} {z b e s c s' c' : Int} {cs : List Int} {ok ok' : Bool} (h : PtS ls z b e cs s c ok) (h' : PtS ls z b e cs s' c' ok') : s = s' ∧ c = c' ∧ ok = ok' := by
  rcases h with ⟨h1, h3⟩ | ⟨h1, rfl, rfl, rfl⟩ <;> rcases h' with ⟨h2, h4⟩ | ⟨h2, rfl, rfl, rfl⟩
  · exact h3.uniq h4
  · exact absurd h1 h2
  · exact absurd h2 h1
  · exact ⟨rfl, rfl, rfl⟩
def PtR (ls : List Tf) (z b e : Int) (cs : List Int) (w : World) (x : Ending) (w' : World) : Prop :=
  ∃ s c ok, x = .returned (.tuple #[.agg (P2 s c), .bool ok]) ∧ PtS ls z b e cs s c ok ∧ Below w.heap.size w w'
end Go.Proofs.Ytdnophdldpophaa

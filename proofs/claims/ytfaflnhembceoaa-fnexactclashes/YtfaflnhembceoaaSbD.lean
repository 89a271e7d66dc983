/- What right subs are; no condition. -/
import Derived.Test.YtfaflnhembceoaaSbA
namespace Go.Proofs.Ytfaflnhembceoaa
open Go.RowKit Go.ChangeShapes Go.WideShapes Go.ChangeAt
set_option linter.unusedVariables false
set_option linter.unusedSimpArgs false
set_option maxRecDepth 8000
/-- a kind that has an Other -/
def ptB (k : Int) : Bool := k == 1 || k == 2 || k == 3 || k == 5
/-- a feature, of n subs -/
def ftB (n : Int) (f : Int × Int) : Bool := if ptB f.1 = true then decide (0 ≤ f.2 ∧ f.2 < n) else if f.1 = 4 ∨ f.1 = 6 ∨ f.1 = 7 then decide (f.2 = 0) else false
/-- g stands already for what f would be -/
def twB (f g : Int × Int) : Bool := if f.1 = 5 then decide (g = f) else decide (g.1 = f.1)
def FsTo (n : Int) (ls : Fts) (j : Nat) : Prop := ∀ i (h : i < ls.length), i < j → ftB n ls[i] = true ∧ (ls.take i).any (twB ls[i]) = false
def FsOk (n : Int) (ls : Fts) : Prop := FsTo n ls ls.length
def SbOk (cs : Sbs) : Prop := 1 ≤ cs.length ∧ cs.length ≤ 16 ∧ ∀ i (h : i < cs.length), FsOk cs.length cs[i].2.2
instance (n : Int) (ls : Fts) (j : Nat) : Decidable (FsTo n ls j) := by unfold FsTo; exact inferInstance
instance (n : Int) (ls : Fts) : Decidable (FsOk n ls) := by unfold FsOk; exact inferInstance
instance (cs : Sbs) : Decidable (SbOk cs) := by unfold SbOk; exact inferInstance
theorem FsTo.succ {n : Int} {ls : Fts} {j : Nat} (h : FsTo n ls j) (hj : j < ls.length) (h1 : ftB n ls[j] = true) (h2 : (ls.take j).any (twB ls[j]) = false) : FsTo n ls (j + 1) := by
  intro i hi hij
  by_cases e : i < j
  · exact h i hi e
  · obtain rfl : i = j := by omega
    exact ⟨h1, h2⟩
def BoR (P : Prop) (w : World) (e : Ending) (w' : World) : Prop := ∃ r, e = .returned (.bool r) ∧ (r = true ↔ P) ∧ Below w.heap.size w w'
theorem BoR.no {P : Prop} {w w' : World} (h : ¬ P) (b : Below w.heap.size w w') : BoR P w (.returned (.bool false)) w' := ⟨_, rfl, ⟨fun h => (by cases h), fun h' => absurd h' h⟩, b⟩
theorem BoR.yes {P : Prop} {w w' : World} (h : P) (b : Below w.heap.size w w') : BoR P w (.returned (.bool true)) w' := ⟨_, rfl, ⟨fun _ => h, fun _ => rfl⟩, b⟩
theorem in_c (x a b : Int) (w : World) : Calls Try.prog 43 #[.int .i64 x, .int .i64 a, .int .i64 b] w fun e w' => e = .returned (.bool (decide (a ≤ x ∧ x ≤ b))) ∧ w' = w := by
  by_cases h0 : a ≤ x <;> by_cases h1 : x ≤ b
  all_goals
    go_enter Try.func43, Try.ntmps43
    go_wp2
    go_ret
    exact ⟨by simp [h0, h1], rfl⟩
end Go.Proofs.Ytfaflnhembceoaa

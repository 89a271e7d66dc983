/- Sums of the program; no condition. -/
import Derived.Test.YtomgdlnpajfjhaaSms
namespace Go.Proofs.Ytomgdlnpajfjhaa
open Go.RowKit Go.ChangeShapes Go.WideShapes Go.ChangeAt
set_option linter.unusedVariables false
set_option linter.unusedSimpArgs false
set_option maxRecDepth 8000
/-- the sum of the first j, in single precision and in double -/
def sgF (f : Nat × Nat → Nat) (ls : List (Nat × Nat)) : Nat → Option Nat
  | 0 => some 0
  | j + 1 => fo .add .f32 (sgF f ls j) (fc .f32 (f (ls.getD j (0, 0))))
def dbF (f : Nat × Nat → Nat) (ls : List (Nat × Nat)) : Nat → Option Nat
  | 0 => some 0
  | j + 1 => fo .add .f64 (dbF f ls j) ((fc .f32 (f (ls.getD j (0, 0)))).map wid)
def suN (ls : List (Nat × Nat)) : Nat := if ls.length ≤ 200 then ls.length else 0
def SuR (ls : List (Nat × Nat)) (w : World) (e : Ending) (w' : World) : Prop := ∃ x y u v, e = .returned (.tuple #[.agg #[.float .f32 x, .float .f32 y], .agg #[.float .f64 u, .float .f64 v]]) ∧ fc .f32 x = sgF (·.1) ls (suN ls) ∧ fc .f32 y = sgF (·.2) ls (suN ls) ∧ fc .f64 u = dbF (·.1) ls (suN ls) ∧ fc .f64 v = dbF (·.2) ls (suN ls) ∧ Below w.heap.size w w'
theorem fcs0 : fc .f32 0 = some 0 := fc_some (by decide)
theorem fcd0 : fc .f64 0 = some 0 := fc_some (by decide)
theorem results_SW {fn : Func} {u p : Tmp} (h : fn.results = #[.cell p 27, .cell u 38]) (tmps : Array Value) (w : World) (g k : Nat) (x y a b : Value)
    (hp : tmps.getD p undef = .pointer (some ⟨g, 0, none⟩)) (hu : tmps.getD u undef = .pointer (some ⟨k, 0, none⟩)) (hg : Blk w g #[x, y] 27) (hk : Blk w k #[a, b] 38) :
    (results fn tmps).run Try.prog w = .ok (.tuple #[.agg #[x, y], .agg #[a, b]]) w := by
  have hp' : tmps[p]?.getD undef = .pointer (some ⟨g, 0, none⟩) := by simpa using hp
  have hu' : tmps[u]?.getD undef = .pointer (some ⟨k, 0, none⟩) := by simpa using hu
  have hr := run_loadVar_row (P := Try.prog) w g 27 27 #[x, y] (0, 0) _ hg Try.underlying27 rfl sz26
  have hr' := run_loadVar_row (P := Try.prog) w k 38 38 #[a, b] (0, 0) _ hk Try.underlying38 rfl sz30
  simp [results, h, hp', hu', asAddr, hr, hr']
theorem Blk.set2o {w : World} {g k : Nat} {t : TypeId} {cs : Array Value} (h : Blk w g cs t) (hne : g ≠ k) (x y : Value) : Blk ((w.setCell ⟨k, 0, none⟩ x).setCell ⟨k, 1, none⟩ y) g cs t := (h.other ⟨k, 0, none⟩ x hne).other ⟨k, 1, none⟩ y hne
end Go.Proofs.Ytomgdlnpajfjhaa

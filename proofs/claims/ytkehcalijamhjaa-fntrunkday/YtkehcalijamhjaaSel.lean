/- A select of two receives with a default; no condition. -/
import Derived.Test.YtkehcalijamhjaaAst
namespace Go.Proofs.Ytkehcalijamhjaa
open Go.RowKit Go.ChangeShapes Go.WideShapes Go.ChangeAt
set_option linter.unusedVariables false
set_option linter.unusedSimpArgs false
set_option maxRecDepth 8000
open Go.Conc
section
variable {P : Program} {fr : Frame} {cs : List Frame} {w w₁ : World} {es : Array Event} {c d cap s r cap' s' r' : Nat} {buf buf' : Array Value} {z z' : Value} {tm tm' : Bool}
theorem sel_cn (h : stepG P true (G fr cs) w = .comm (G fr cs) #[rcase c z, rcaseNil z'] false .select w₁ es) (hc : w₁.heap[c]? = some (.chan cap buf false s r tm)) (hsome : 0 < buf.size) :
    step P (solo (G fr cs) w) = .next (solo (G (fr.finish (.tuple #[goInt 0, .bool true, buf.getD 0 undef, z'])) cs) (w₁.setChan c cap (buf.extract 1 buf.size) false s (r + 1) tm)) := by
  have hp := partners_alone (c := c) true
  rw [step, stepT_solo rfl]
  simp [runT, solo, G, Array.swapAt!, Array.swapAt, h, GStep.es, communicate, ways, rcase, rcaseNil, hc, hp, hsome, choose, Sem.run, Question.forced, bind, Sem.bind, pure, Goroutine.finishComm, commResult, World.setChan] at h ⊢
theorem sel_nc (h : stepG P true (G fr cs) w = .comm (G fr cs) #[rcaseNil z, rcase c z'] false .select w₁ es) (hc : w₁.heap[c]? = some (.chan cap buf false s r tm)) (hsome : 0 < buf.size) :
    step P (solo (G fr cs) w) = .next (solo (G (fr.finish (.tuple #[goInt 1, .bool true, z, buf.getD 0 undef])) cs) (w₁.setChan c cap (buf.extract 1 buf.size) false s (r + 1) tm)) := by
  have hp := partners_alone (c := c) true
  rw [step, stepT_solo rfl]
  simp [runT, solo, G, Array.swapAt!, Array.swapAt, h, GStep.es, communicate, ways, rcase, rcaseNil, hc, hp, hsome, choose, Sem.run, Question.forced, bind, Sem.bind, pure, Goroutine.finishComm, commResult, World.setChan] at h ⊢
theorem sel_ec (h : stepG P true (G fr cs) w = .comm (G fr cs) #[rcase d z, rcase c z'] false .select w₁ es) (hd : w₁.heap[d]? = some (.chan cap' #[] false s' r' tm')) (hc : w₁.heap[c]? = some (.chan cap buf false s r tm)) (hsome : 0 < buf.size) :
    step P (solo (G fr cs) w) = .next (solo (G (fr.finish (.tuple #[goInt 1, .bool true, z, buf.getD 0 undef])) cs) (w₁.setChan c cap (buf.extract 1 buf.size) false s (r + 1) tm)) := by
  have hp := partners_alone (c := c) true
  have hq := partners_alone (c := d) true
  rw [step, stepT_solo rfl]
  simp [runT, solo, G, Array.swapAt!, Array.swapAt, h, GStep.es, communicate, ways, rcase, rcaseNil, hc, hd, hp, hq, hsome, choose, Sem.run, Question.forced, bind, Sem.bind, pure, Goroutine.finishComm, commResult, World.setChan] at h ⊢
theorem sel_en (h : stepG P true (G fr cs) w = .comm (G fr cs) #[rcase c z, rcaseNil z'] false .select w₁ es) (hc : w₁.heap[c]? = some (.chan cap #[] false s r tm)) :
    step P (solo (G fr cs) w) = .next (solo (G (fr.finish (.tuple #[goInt (-1), .bool false, z, z'])) cs) w₁) := by
  have hp := partners_alone (c := c) true
  rw [step, stepT_solo rfl]
  simp [runT, solo, G, Array.swapAt!, Array.swapAt, h, GStep.es, communicate, ways, rcase, rcaseNil, hc, hp, Goroutine.finishComm, commResult] at h ⊢
theorem sel_ne (h : stepG P true (G fr cs) w = .comm (G fr cs) #[rcaseNil z, rcase c z'] false .select w₁ es) (hc : w₁.heap[c]? = some (.chan cap #[] false s r tm)) :
    step P (solo (G fr cs) w) = .next (solo (G (fr.finish (.tuple #[goInt (-1), .bool false, z, z'])) cs) w₁) := by
  have hp := partners_alone (c := c) true
  rw [step, stepT_solo rfl]
  simp [runT, solo, G, Array.swapAt!, Array.swapAt, h, GStep.es, communicate, ways, rcase, rcaseNil, hc, hp, Goroutine.finishComm, commResult] at h ⊢
theorem sel_ee (h : stepG P true (G fr cs) w = .comm (G fr cs) #[rcase d z, rcase c z'] false .select w₁ es) (hd : w₁.heap[d]? = some (.chan cap' #[] false s' r' tm')) (hc : w₁.heap[c]? = some (.chan cap #[] false s r tm)) :
    step P (solo (G fr cs) w) = .next (solo (G (fr.finish (.tuple #[goInt (-1), .bool false, z, z'])) cs) w₁) := by
  have hp := partners_alone (c := c) true
  have hq := partners_alone (c := d) true
  rw [step, stepT_solo rfl]
  simp [runT, solo, G, Array.swapAt!, Array.swapAt, h, GStep.es, communicate, ways, rcase, rcaseNil, hc, hd, hp, hq, Goroutine.finishComm, commResult] at h ⊢
end
theorem run_sel2 {a : Act} {w : World} {o : Oper} (c0 c1 : Operand) (hop : o.op = .select #[{ chan := c0, send := none, elem := 68 }, { chan := c1, send := none, elem := 68 }] false) (x y : Option Nat) (h0 : a.eval c0 = .chan x) (h1 : a.eval c1 = .chan y) :
    (execOp a.eval o).run Try.prog w = .ok (.comm #[{ chan := .chan x, send := none, zero := .agg (H2 0 0) }, { chan := .chan y, send := none, zero := .agg (H2 0 0) }] false .select) w := by
  simp [execOp, hop, h0, h1, zero68, Sem.run_bind]
end Go.Proofs.Ytkehcalijamhjaa

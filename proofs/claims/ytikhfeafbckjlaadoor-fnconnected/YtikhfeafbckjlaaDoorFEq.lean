/- Two paths held against each other by ==; by != ; in a statement whose order is open; no condition. -/
import Derived.Test.YtikhfeafbckjlaaDoorPth
import Derived.Laws.StructEq
namespace Go.Proofs.YtikhfeafbckjlaaDoor
open Go.RowKit Go.ChangeShapes Go.WideShapes Go.ChangeAt
set_option linter.unusedVariables false
set_option linter.unusedSimpArgs false
set_option maxRecDepth 8000
theorem guard35 : Tryd.prog.eqGuardType Tryd.prog.depth 35 = false := by kernel_rfl
theorem stood35 : Tryd.prog.stoodInHeld 35 = false := by kernel_rfl
theorem und35 : Tryd.prog.underlying 35 = some (.struct (Tryd.prog.fieldsOf 35)) := by kernel_rfl
theorem fields35 : (Tryd.prog.fieldsOf 35).toList.map (fun f => (f.name == "_", f.type, f.offset)) = [(false, 3, 0), (false, 3, 1), (false, 3, 2)] := by kernel_rfl
theorem part0 (a b c : Value) (w : World) : (part 3 #[a, b, c] 0).run Tryd.prog w = .ok a w := by kernel_rfl
theorem part1 (a b c : Value) (w : World) : (part 3 #[a, b, c] 1).run Tryd.prog w = .ok b w := by kernel_rfl
theorem part2 (a b c : Value) (w : World) : (part 3 #[a, b, c] 2).run Tryd.prog w = .ok c w := by kernel_rfl
theorem eqRun (x y z x' y' z' : Int) (w : World) : (Op.equalIn 10000 35 (.agg (P3 x y z)) (.agg (P3 x' y' z'))).run Tryd.prog w = .ok (decide ((x, y, z) = (x', y', z'))) w := by
  rw [run_equalIn_struct w 9999 35 _ _ und35 stood35]
  have hf := fields35
  have hl : (Tryd.prog.fieldsOf 35).toList.length = 3 := by simpa using congrArg List.length hf
  revert hf hl
  generalize (Tryd.prog.fieldsOf 35).toList = fs
  intro hf hl
  match fs, hl, hf with
  | [f0, f1, f2], _, hf =>
    simp only [List.map_cons, List.map_nil, List.cons.injEq, Prod.mk.injEq, and_true] at hf
    obtain ⟨⟨n0, t0, o0⟩, ⟨n1, t1, o1⟩, ⟨n2, t2, o2⟩⟩ := hf
    have e0 : f0.name ≠ "_" := by simpa using n0
    have e1 : f1.name ≠ "_" := by simpa using n1
    have e2 : f2.name ≠ "_" := by simpa using n2
    have hi : ∀ a b : Int, (Op.equalIn 9999 3 (.int .i64 a) (.int .i64 b)).run Tryd.prog w = .ok (a == b) w := fun a b => run_equalIn_int w 9998 3 .i64 .i64 a b Tryd.underlying3
    simp only [Op.eqFields, e0, e1, e2, ne_eq, not_false_eq_true, if_true, t0, t1, t2, o0, o1, o2, Sem.run_bind, part0, part1, part2, Result.andThen_ok, hi, P3]
    by_cases h0 : x = x' <;> by_cases h1 : y = y' <;> by_cases h2 : z = z' <;> simp [h0, h1, h2, part1, part2, hi]
theorem eqlRun {o : Oper} {a : Act} (x y : Operand) (ho : o.op = .binOp .eql 35 x y 35) (p q r p' q' r' : Int) (hx : a.eval x = .agg (P3 p q r)) (hy : a.eval y = .agg (P3 p' q' r')) (w : World) :
    (execOp a.eval o).run Tryd.prog w = .ok (.value (.bool (decide ((p, q, r) = (p', q', r'))))) w := by
  simp only [execOp, ho, hx, hy, Sem.run_bind, run_eqGuard_agg w _ _ _ _ _ _ guard35, Result.andThen_ok, run_eql_struct, eqRun, Sem.run_pure]
theorem quietEql {o : Oper} {a : Act} {C : World → Prop} {K : Act → Prop} (x y : Operand) (ho : o.op = .binOp .eql 35 x y 35) (p q r p' q' r' : Int) (hx : a.eval x = .agg (P3 p q r)) (hy : a.eval y = .agg (P3 p' q' r'))
    (h : K (a.put o.dst (.bool (decide ((p, q, r) = (p', q', r')))))) : o.quiet Tryd.prog a C K :=
  ⟨_, fun w _ => by unfold Oper.quietAt; rw [eqlRun x y ho p q r p' q' r' hx hy w]; exact ⟨rfl, rfl⟩, h⟩
/-- a statement of its own, in one order -/
theorem eqlList {ops : Array Oper} {rest : List Oper} {o : Oper} {a : Act} {w : World} {Q : Exit → Act → World → Prop} (hgd : o.guard = none) (x y : Operand) (ho : o.op = .binOp .eql 35 x y 35) (p q r p' q' r' : Int) (hx : a.eval x = .agg (P3 p q r)) (hy : a.eval y = .agg (P3 p' q' r'))
    (h : wpList Tryd.prog ops Q rest (a.put o.dst (.bool (decide ((p, q, r) = (p', q', r'))))) w) : wpList Tryd.prog ops Q (o :: rest) a w :=
  wpList_plain hgd fun K hK => wp_val _ (eqlRun x y ho p q r p' q' r' hx hy w) (hK _ _ h)
end Go.Proofs.YtikhfeafbckjlaaDoor

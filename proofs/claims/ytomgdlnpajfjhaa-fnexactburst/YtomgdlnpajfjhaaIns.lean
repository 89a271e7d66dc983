/- A row of nothing behind a row; no condition. -/
import Derived.Test.YtomgdlnpajfjhaaSng
import Derived.Laws.AppendOwn
namespace Go.Proofs.Ytomgdlnpajfjhaa
open Go.RowKit Go.ChangeShapes Go.WideShapes Go.ChangeAt
set_option linter.unusedVariables false
set_option linter.unusedSimpArgs false
set_option maxRecDepth 8000

theorem zeroCp_n (m : Nat) : Builtin.zeroCells (Value.cells (.complex .f32 0 0)) m = ((List.replicate m ((0, 0) : Nat × Nat)).flatMap cpC).toArray := by
  apply Array.ext'
  have := fm_rep cpC_len (by decide) ((0, 0) : Nat × Nat) #[.complex .f32 0 0] rfl m
  unfold madeCells at this
  unfold Builtin.zeroCells
  simpa [Value.cells] using this
theorem run_makeC (w : World) (ty : TypeId) (g n cap m : Nat) (olds : List Value) (hlo : olds.length = n) (holds : ∀ j v, olds[j]? = some v → w.cell? ((⟨g, 0, none⟩ : Addr).add j) = some v) (hm : 0 < m) (hm2 : m ≤ 1000) (hn : n ≤ 1000) (hg : cap < n + m) :
    (Builtin.append_ #[54, 3] ty #[.slice (some ⟨g, 0, none⟩) n cap, .int .i64 m]).run Try.prog w = .ok (.slice (some ⟨w.heap.size, 0, none⟩) (n + m) (grownCap w (n + m) cap 55)) (w.drew.alloc (.cells (olds.toArray ++ ((List.replicate m ((0, 0) : Nat × Nat)).flatMap cpC).toArray ++ Builtin.zeroCells (Value.cells (.complex .f32 0 0)) (grownCap w (n + m) cap 55 - (n + m))) 55)) := by
  obtain ⟨i0, hi, hz0, hz1, hz2⟩ := info_parts infoCp
  have hw : IntKind.i64.wrap (m : Int) = m := by rw [IntKind.wrap_i64]; omega
  have h48 : ¬ (281474976710656 < (m : Int) * 8) := by omega
  have hneg : ¬ ((m : Int) < 0) := by omega
  have hm0 : m ≠ 0 := by omega
  have hnn : ¬ (n + m ≤ cap) := by omega
  have h63' : ¬ (9223372036854775807 < ((n : Int) + (m : Int))) := by omega
  have hfit := growslice_fits (need := n + m) (old := cap) (bytes := 8) (by omega) (by omega)
  have h48' : ¬ (281474976710656 < Builtin.nextslicecap (n + m) cap * 8) := by omega
  have hfo := run_firstCells_some (P := Try.prog) w.drew 1 n ⟨g, 0, none⟩ n cap olds (by omega) (by simpa using holds)
  have hzc := zeroCp_n m
  simp [Builtin.append_, run_underlying Try.underlying54, run_underlying Try.underlying3, sizeOf, typeInfo, zeroValue, hi, hz0, hz1, hz2, asInt, asIntOf, hw, h48, hneg, hm0, hnn, h63', h48', Question.forced, hfo, newRow, grownCap, hzc]
  congr 2
  apply Array.ext'
  simp [List.append_assoc]
theorem appMk {ops : Array Oper} {rest : List Oper} {o : Oper} {a : Act} {w : World} {Q : Exit → Act → World → Prop} (hgd : o.guard = none) (s x : Operand)
    (ho : o.op = .call { callee := .builtin .append, args := #[s, x], argTypes := #[54, 3] }) (g n cap m : Nat) (hs : a.eval s = .slice (some ⟨g, 0, none⟩) n cap) (hx : a.eval x = .int .i64 (m : Int)) (olds : List Value) (hlo : olds.length = n) (holds : ∀ j v, olds[j]? = some v → w.cell? ((⟨g, 0, none⟩ : Addr).add j) = some v) (hm : 0 < m) (hm2 : m ≤ 1000) (hn : n ≤ 1000) (hg : cap < n + m)
    (h : ∀ G C w', G = w.heap.size → n + m ≤ C → C ≤ maxLen → Hid (∃ zs, w'.heap[G]? = some (.cells (olds ++ (((List.replicate m ((0, 0) : Nat × Nat)).flatMap cpC) ++ zs)).toArray 55 (0, 0)) ∧ zs.length = C - (n + m)) → Below w.heap.size w w' → wpList Try.prog ops Q rest (a.put o.dst (.slice (some ⟨G, 0, none⟩) (n + m) C)) w') : wpList Try.prog ops Q (o :: rest) a w := by
  have hr := run_makeC w o.type g n cap m olds hlo holds hm hm2 hn hg
  have hge := grownCap_ge w (n + m) cap 55
  have hcm' : grownCap w (n + m) cap 55 ≤ maxLen := grownCap_le_maxLen w (n + m) cap 55 (by unfold maxLen; omega)
  refine wpList_plain hgd fun K hK => ?_
  unfold Oper.wp execOp
  simp only [ho, resolve, invoke, builtin, Sem.run_bind, Sem.run_pure, Result.andThen_ok, List.map_toArray, List.map_cons, List.map_nil, hs, hx, hr]
  refine hK _ _ (h _ _ _ rfl hge hcm' ⟨(Builtin.zeroCells (Value.cells (.complex .f32 0 0)) (grownCap w (n + m) cap 55 - (n + m))).toList, ?_, ?_⟩ (((Below.refl _ _).drew).alloc (by simp) _))
  · have e : (olds ++ (((List.replicate m ((0, 0) : Nat × Nat)).flatMap cpC) ++ (Builtin.zeroCells (Value.cells (.complex .f32 0 0)) (grownCap w (n + m) cap 55 - (n + m))).toList)).toArray = olds.toArray ++ ((List.replicate m ((0, 0) : Nat × Nat)).flatMap cpC).toArray ++ Builtin.zeroCells (Value.cells (.complex .f32 0 0)) (grownCap w (n + m) cap 55 - (n + m)) := by
      apply Array.ext'; simp [List.append_assoc]
    rw [e]
    exact heap_alloc_new w.drew _
  · rw [zeroCp_n, List.toList_toArray, cp_len, List.length_replicate]

end Go.Proofs.Ytomgdlnpajfjhaa

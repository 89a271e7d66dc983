/- errors.As, by its contracts, where the variable of the library holds what it holds; no condition beside it. -/
import Derived.Test.YtmfmlbiplagmiaaDoorEfs
import Derived.Handy
namespace Go.Proofs.YtmfmlbiplagmiaaDoor
open Go.RowKit Go.ChangeShapes Go.WideShapes Go.ChangeAt Go.Extern.Stop Go.Stop Go.Extern
set_option linter.unusedVariables false
set_option linter.unusedSimpArgs false
set_option maxRecDepth 8000

theorem part_one (p : String → Bool) (s : String) (u e : List String) (h : List.partition p [s] = (u, e)) : (u = [s] ∧ e = []) ∨ (u = [] ∧ e = [s]) := by
  cases hp : p s with
  | true => simp [List.partition, List.partition.loop, hp] at h; exact .inl (by simp [h.1.symm, h.2])
  | false => simp [List.partition, List.partition.loop, hp] at h; exact .inr (by simp [h.1, h.2.symm])
theorem miss_some {want : Array (String × TypeId)} {got : Array Method} (h : ((want.toList.filter fun (x : String × TypeId) => !got.any fun m => m.name == x.1 && m.sig == x.2).map (·.1)).length = 1) : ∃ m, Go.Instr.missingMethod want got = some m := by
  obtain ⟨s, hl⟩ := List.length_eq_one_iff.1 h
  unfold Go.Instr.missingMethod
  have e : (want.toList.filter fun x => match x with | (name, sig) => !got.any fun m => m.name == name && m.sig == sig).map (fun x => x.1) = [s] := hl
  rw [e]
  dsimp only
  generalize heq : List.partition _ [s] = q
  obtain ⟨u, e'⟩ := q
  rcases part_one _ s _ _ heq with ⟨rfl, rfl⟩ | ⟨rfl, rfl⟩
  · exact ⟨_, rfl⟩
  · exact ⟨_, rfl⟩
theorem assert_no {t asserted : TypeId} (v : Value) (w : World) (hn : (match Tryd.prog.underlying asserted, Tryd.prog.info? t with
  | some (.interface want), some i => ((want.toList.filter fun (x : String × TypeId) => !i.methods.any fun m => m.name == x.1 && m.sig == x.2).map (·.1)).length
  | _, _ => 0) = 1) (hz : (zeroValue asserted).run Tryd.prog w = .ok .nilIface w) :
    (Instr.typeAssert (.iface t v) 71 asserted true).run Tryd.prog w = .ok (.tuple #[.nilIface, .bool false]) w := by
  cases hu : Tryd.prog.underlying asserted with
  | none => rw [hu] at hn; simp at hn
  | some d =>
    cases hi : Tryd.prog.info? t with
    | none => rw [hu, hi] at hn; simp at hn
    | some info =>
      rw [hu, hi] at hn
      cases d with
      | interface want =>
        obtain ⟨m, hmm⟩ := miss_some hn
        simp [Instr.typeAssert, run_underlying hu, typeInfo, Sem.run_bind, hi, hmm, hz]
      | _ => simp at hn

set_option maxHeartbeats 8000000 in
theorem asKind_c (a k : Int) (t : Addr) (old : Value) (w : World) (hg : w.cell? ⟨0, 0, none⟩ = some (.iface 127 (.agg #[.pointer (some ⟨1, 71, none⟩)]))) (ht0 : w.cell? t = some old) (hf0 : w.frozen? t = false) :
    Calls Tryd.prog 74 #[.iface 103 (.agg #[.int .i64 a, .iface 99 (.int .i64 k)]), .iface 101 (.pointer (some t))] w fun ev w' => ev = .returned (.bool true) ∧ ∃ w1, Below w.heap.size w w1 ∧ w' = w1.setCell t (.int .i64 k) := by
  have hV := @run_callFunc_extern Tryd.prog 86 _ (fun args => ReflectliteValue.unpack (args.getD 0 (.tuple #[]))) Tryd.func86 (by kernel_rfl) (by kernel_rfl) (by kernel_rfl) (by kernel_rfl)
  have hT := @run_callFunc_extern Tryd.prog 87 _ (ReflectliteValue.methodAny (ReflectliteValue.valueError "reflectlite.Value.Type" 0) (fun t _ _ _ => ReflectliteType.toType t)) Tryd.func87 (by kernel_rfl) (by kernel_rfl) (by kernel_rfl) (by kernel_rfl)
  have hN := @run_callFunc_extern Tryd.prog 88 _ (ReflectliteValue.method (ReflectliteValue.valueError "reflectlite.Value.IsNil" 0) ReflectliteValue.isNil) Tryd.func88 (by kernel_rfl) (by kernel_rfl) (by kernel_rfl) (by kernel_rfl)
  have hK := @run_callFunc_extern Tryd.prog 110 _ (ReflectliteType.abiMethod fun t => do pure (.int .u8 (← Rtype.kind t))) Tryd.func110 (by kernel_rfl) (by kernel_rfl) (by kernel_rfl) (by kernel_rfl)
  have hE := @run_callFunc_extern Tryd.prog 122 _ (ReflectliteType.method ReflectliteType.elem) Tryd.func122 (by kernel_rfl) (by kernel_rfl) (by kernel_rfl) (by kernel_rfl)
  have hI := @run_callFunc_extern Tryd.prog 123 _ (ReflectliteType.relation "Implements" ReflectliteType.implements_) Tryd.func123 (by kernel_rfl) (by kernel_rfl) (by kernel_rfl) (by kernel_rfl)
  have hO := @run_callFunc_extern Tryd.prog 91 _ ReflectliteType.typeOf Tryd.func91 (by kernel_rfl) (by kernel_rfl) (by kernel_rfl) (by kernel_rfl)
  have hA := @run_callFunc_extern Tryd.prog 120 _ (ReflectliteType.relation "AssignableTo" ReflectliteType.assignableTo) Tryd.func120 (by kernel_rfl) (by kernel_rfl) (by kernel_rfl) (by kernel_rfl)
  have hL := @run_callFunc_extern Tryd.prog 92 _ (ReflectliteValue.method (ReflectliteValue.valueError "reflectlite.Value.Elem" 0) ReflectliteValue.elem) Tryd.func92 (by kernel_rfl) (by kernel_rfl) (by kernel_rfl) (by kernel_rfl)
  have hS := @run_callFunc_extern Tryd.prog 93 _ ReflectliteValue.set Tryd.func93 (by kernel_rfl) (by kernel_rfl) (by kernel_rfl) (by kernel_rfl)
  have f1 := valueOf101
  have f2 := type101
  have f3 := kind101
  have f4 := kind99
  have f5 := elem101
  have f6 := implements99
  have mK := methodKind
  have mE := methodElem
  have mI := methodImplements
  have mA := methodAssignableTo
  have tO1 := typeOf103
  have tO2 := typeOf99
  have a1 := assignable_n
  have a2 := assignable_y99
  have v2 := valueOf99
  have mU := methodUnwrap
  have q1 : ∀ (v : Value) (w : World), (Instr.typeAssert (.iface 103 v) 71 132 true).run Tryd.prog w = .ok (.tuple #[.nilIface, .bool false]) w := fun v w => assert_no v w (by kernel_rfl) (by kernel_rfl)
  have q2 : ∀ (v : Value) (w : World), (Instr.typeAssert (.iface 103 v) 71 135 true).run Tryd.prog w = .ok (.tuple #[.iface 103 v, .bool true]) w := fun v w => by kernel_rfl
  have n8 := isNil101 ⟨w.heap.size, 0, none⟩ t ((w.alloc (.cells #[.pointer (some t)] 101)).alloc (.cells #[.pointer (some ⟨1, 101, none⟩), .pointer (some ⟨w.heap.size, 0, none⟩), .int .u64 150] 113)) (by simp)
  have hlt : 0 < w.heap.size := by
    rcases Nat.eq_zero_or_pos w.heap.size with h0 | h
    · simp [World.cell?, h0] at hg
    · exact h
  have htl : t.block < w.heap.size := block_lt_of_cell ht0
  have hg2 : (((w.alloc (.cells #[.pointer (some t)] 101)).alloc (.cells #[.pointer (some ⟨1, 101, none⟩), .pointer (some ⟨w.heap.size, 0, none⟩), .int .u64 150] 113))).cell? ⟨0, 0, none⟩ = some (.iface 127 (.agg #[.pointer (some ⟨1, 71, none⟩)])) := by
    rw [World.cell?_alloc_lt _ _ ⟨0, 0, none⟩ (by simp <;> omega), World.cell?_alloc_lt _ _ ⟨0, 0, none⟩ hlt]; exact hg
  have el := elemV101 ⟨w.heap.size, 0, none⟩ t ((((w.alloc (.cells #[.pointer (some t)] 101)).alloc (.cells #[.pointer (some ⟨1, 101, none⟩), .pointer (some ⟨w.heap.size, 0, none⟩), .int .u64 150] 113)).alloc (.cells #[.pointer (some ⟨1, 101, none⟩), .pointer (some ⟨w.heap.size, 0, none⟩), .int .u64 150] 113)).alloc (.cells #[.int .i64 a, .iface 99 (.int .i64 k)] 103)) (by rw [World.cell?_alloc_lt _ _ ⟨w.heap.size, 0, none⟩ (by simp <;> omega), World.cell?_alloc_lt _ _ ⟨w.heap.size, 0, none⟩ (by simp <;> omega), World.cell?_alloc_lt _ _ ⟨w.heap.size, 0, none⟩ (by simp)]; simp)
  have st := set99 t ⟨w.heap.size + 1 + 1 + 1 + 1, 0, none⟩ k old (((((w.alloc (.cells #[.pointer (some t)] 101)).alloc (.cells #[.pointer (some ⟨1, 101, none⟩), .pointer (some ⟨w.heap.size, 0, none⟩), .int .u64 150] 113)).alloc (.cells #[.pointer (some ⟨1, 101, none⟩), .pointer (some ⟨w.heap.size, 0, none⟩), .int .u64 150] 113)).alloc (.cells #[.int .i64 a, .iface 99 (.int .i64 k)] 103)).alloc (.cells #[.int .i64 k] 99))
    (by rw [World.cell?_alloc_at _ _ _ _ (by simp)]; rfl)
    (by rw [World.cell?_alloc_lt _ _ t (by simp <;> omega), World.cell?_alloc_lt _ _ t (by simp <;> omega), World.cell?_alloc_lt _ _ t (by simp <;> omega), World.cell?_alloc_lt _ _ t (by simp <;> omega), World.cell?_alloc_lt _ _ t htl]; exact ht0)
    (by rw [World.frozen?_alloc_old _ _ t (by simp <;> omega), World.frozen?_alloc_old _ _ t (by simp <;> omega), World.frozen?_alloc_old _ _ t (by simp <;> omega), World.frozen?_alloc_old _ _ t (by simp <;> omega), World.frozen?_alloc_old _ _ t (Nat.ne_of_lt htl)]; exact hf0)
  have HB : Hid (Below w.heap.size w (((((w.alloc (.cells #[.pointer (some t)] 101)).alloc (.cells #[.pointer (some ⟨1, 101, none⟩), .pointer (some ⟨w.heap.size, 0, none⟩), .int .u64 150] 113)).alloc (.cells #[.pointer (some ⟨1, 101, none⟩), .pointer (some ⟨w.heap.size, 0, none⟩), .int .u64 150] 113)).alloc (.cells #[.int .i64 a, .iface 99 (.int .i64 k)] 103)).alloc (.cells #[.int .i64 k] 99))) := (((((Below.refl _ _).alloc (Nat.le_refl _) _).alloc (by simp) _).alloc (by simp <;> omega) _).alloc (by simp <;> omega) _).alloc (by simp <;> omega) _
  go_enter Tryd.func74, Tryd.ntmps74
  go_wp2
  refine wp_loop_rounds 2 ?_
  rw [rounds_succ]
  go_wp2
  rw [rounds_succ]
  go_wp2
  go_ret
  exact ⟨rfl, _, HB.out, rfl⟩

end Go.Proofs.YtmfmlbiplagmiaaDoor

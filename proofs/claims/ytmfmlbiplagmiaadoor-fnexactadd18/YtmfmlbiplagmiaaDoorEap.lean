/- errors.As at the place of a fault, by its contract; no condition beside the variable of the library. -/
import Derived.Test.YtmfmlbiplagmiaaDoorEas
namespace Go.Proofs.YtmfmlbiplagmiaaDoor
open Go.RowKit Go.ChangeShapes Go.WideShapes Go.ChangeAt Go.Extern.Stop Go.Stop Go.Extern
set_option linter.unusedVariables false
set_option linter.unusedSimpArgs false
set_option maxRecDepth 8000

theorem size103 : (Tryd.prog.info? 103).map (·.size) = some 2 := by kernel_rfl
/-- as set_ex of Efs, at values of two cells -/
theorem set_ex103 (v x : Value) (a b : Addr) :
    ∃ (g : Option (TypeId × Addr × Nat) → Option (TypeId × Addr × Nat) → Sem Value) (h : Value → Sem Value) (k : Value → Bool → Sem Value),
      ReflectliteValue.set #[v, x] = (ReflectliteValue.parts v >>= fun p => ReflectliteValue.parts x >>= fun q => g p q)
      ∧ g (some (103, a, 409)) (some (103, b, 153)) = (loadVar 103 b >>= h)
      ∧ (∀ val, h val = (Rtype.directlyAssignable 103 103 >>= k val))
      ∧ (∀ val, k val true = (storeVar 103 a val >>= fun _ => pure (.tuple #[]))) := ⟨_, _, _, rfl, rfl, fun _ => rfl, fun _ => rfl⟩
theorem set103 (bt gb : Nat) (a : Int) (v : Value) (old : Array Value) (W : World) (hv : v.oneCell' = true) (hb : W.heap[gb]? = some (.cells #[.int .i64 a, v] 103 (0, 0))) (ht : W.heap[bt]? = some (.cells old 103 (0, 0))) (hs : old.size = 2) :
    (ReflectliteValue.set #[.agg #[.pointer (some ⟨1, 103, none⟩), .pointer (some ⟨bt, 0, none⟩), .int .u64 409], .agg #[.pointer (some ⟨1, 103, none⟩), .pointer (some ⟨gb, 0, none⟩), .int .u64 153]]).run Tryd.prog W
      = .ok (.tuple #[]) (W.setRow bt #[.int .i64 a, v]) := by
  have h1 := run_loadVar_row (P := Tryd.prog) W gb 103 103 #[.int .i64 a, v] (0, 0) _ hb Tryd.underlying103 rfl size103
  have h2 := run_storeVar_row (P := Tryd.prog) W bt 103 103 old #[.int .i64 a, v] ht size103 (by simp [hs]) (by simp [hv]; rfl)
  obtain ⟨g, h, k, e1, e2, e3, e4⟩ := set_ex103 (.agg #[.pointer (some ⟨1, 103, none⟩), .pointer (some ⟨bt, 0, none⟩), .int .u64 409]) (.agg #[.pointer (some ⟨1, 103, none⟩), .pointer (some ⟨gb, 0, none⟩), .int .u64 153]) ⟨bt, 0, none⟩ ⟨gb, 0, none⟩
  rw [e1]
  simp only [Sem.run_bind, partsA103, partsS103, Result.andThen, e2, h1, e3, direct103, e4, h2]
  rfl
set_option maxHeartbeats 8000000 in
theorem asPlace_c (a k : Int) (bt : Nat) (old : Array Value) (w : World) (hg : w.cell? ⟨0, 0, none⟩ = some (.iface 127 (.agg #[.pointer (some ⟨1, 71, none⟩)]))) (ht0 : w.heap[bt]? = some (.cells old 103 (0, 0))) (hs : old.size = 2) :
    Calls Tryd.prog 74 #[.iface 103 (.agg #[.int .i64 a, .iface 99 (.int .i64 k)]), .iface 104 (.pointer (some ⟨bt, 0, none⟩))] w fun ev w' => ev = .returned (.bool true) ∧ ∃ w1, Below w.heap.size w w1 ∧ w' = w1.setRow bt #[.int .i64 a, .iface 99 (.int .i64 k)] := by
  have hV := @run_callFunc_extern Tryd.prog 86 _ (fun args => ReflectliteValue.unpack (args.getD 0 (.tuple #[]))) Tryd.func86 (by kernel_rfl) (by kernel_rfl) (by kernel_rfl) (by kernel_rfl)
  have hT := @run_callFunc_extern Tryd.prog 87 _ (ReflectliteValue.methodAny (ReflectliteValue.valueError "reflectlite.Value.Type" 0) (fun t _ _ _ => ReflectliteType.toType t)) Tryd.func87 (by kernel_rfl) (by kernel_rfl) (by kernel_rfl) (by kernel_rfl)
  have hN := @run_callFunc_extern Tryd.prog 88 _ (ReflectliteValue.method (ReflectliteValue.valueError "reflectlite.Value.IsNil" 0) ReflectliteValue.isNil) Tryd.func88 (by kernel_rfl) (by kernel_rfl) (by kernel_rfl) (by kernel_rfl)
  have hK := @run_callFunc_extern Tryd.prog 110 _ (ReflectliteType.abiMethod fun t => do pure (.int .u8 (← Rtype.kind t))) Tryd.func110 (by kernel_rfl) (by kernel_rfl) (by kernel_rfl) (by kernel_rfl)
  have hE := @run_callFunc_extern Tryd.prog 122 _ (ReflectliteType.method ReflectliteType.elem) Tryd.func122 (by kernel_rfl) (by kernel_rfl) (by kernel_rfl) (by kernel_rfl)
  have hI := @run_callFunc_extern Tryd.prog 123 _ (ReflectliteType.relation "Implements" ReflectliteType.implements_) Tryd.func123 (by kernel_rfl) (by kernel_rfl) (by kernel_rfl) (by kernel_rfl)
  have hO := @run_callFunc_extern Tryd.prog 91 _ ReflectliteType.typeOf Tryd.func91 (by kernel_rfl) (by kernel_rfl) (by kernel_rfl) (by kernel_rfl)
  have hA := @run_callFunc_extern Tryd.prog 120 _ (ReflectliteType.relation "AssignableTo" ReflectliteType.assignableTo) Tryd.func120 (by kernel_rfl) (by kernel_rfl) (by kernel_rfl) (by kernel_rfl)
  have hL := @run_callFunc_extern Tryd.prog 92 _ (ReflectliteValue.method (ReflectliteValue.valueError "reflectlite.Value.Elem" 0) ReflectliteValue.elem) Tryd.func92 (by kernel_rfl) (by kernel_rfl) (by kernel_rfl) (by kernel_rfl)
  have hS := @run_callFunc_extern Tryd.prog 93 _ ReflectliteValue.set Tryd.func93 (by kernel_rfl) (by kernel_rfl) (by kernel_rfl) (by kernel_rfl)
  have f1 := valueOf104
  have f2 := type104
  have f3 := kind104
  have f4 := kind103
  have f5 := elem104
  have f6 := implements103
  have mK := methodKind
  have mE := methodElem
  have mI := methodImplements
  have mA := methodAssignableTo
  have tO1 := typeOf103
  have a2 := assignable_y103
  have v2 := valueOf103
  have n8 := isNil104 ⟨w.heap.size, 0, none⟩ ⟨bt, 0, none⟩ ((w.alloc (.cells #[.pointer (some ⟨bt, 0, none⟩)] 104)).alloc (.cells #[.pointer (some ⟨1, 104, none⟩), .pointer (some ⟨w.heap.size, 0, none⟩), .int .u64 150] 113)) (by simp)
  have hlt : 0 < w.heap.size := by
    rcases Nat.eq_zero_or_pos w.heap.size with h0 | h
    · simp [World.cell?, h0] at hg
    · exact h
  have htl : bt < w.heap.size := Blk.lt (cs := old) (t := 103) ht0
  have hg2 : (((w.alloc (.cells #[.pointer (some ⟨bt, 0, none⟩)] 104)).alloc (.cells #[.pointer (some ⟨1, 104, none⟩), .pointer (some ⟨w.heap.size, 0, none⟩), .int .u64 150] 113))).cell? ⟨0, 0, none⟩ = some (.iface 127 (.agg #[.pointer (some ⟨1, 71, none⟩)])) := by
    rw [World.cell?_alloc_lt _ _ ⟨0, 0, none⟩ (by simp <;> omega), World.cell?_alloc_lt _ _ ⟨0, 0, none⟩ hlt]; exact hg
  have el := elemV104 ⟨w.heap.size, 0, none⟩ ⟨bt, 0, none⟩ (((w.alloc (.cells #[.pointer (some ⟨bt, 0, none⟩)] 104)).alloc (.cells #[.pointer (some ⟨1, 104, none⟩), .pointer (some ⟨w.heap.size, 0, none⟩), .int .u64 150] 113)).alloc (.cells #[.pointer (some ⟨1, 104, none⟩), .pointer (some ⟨w.heap.size, 0, none⟩), .int .u64 150] 113)) (by rw [World.cell?_alloc_lt _ _ ⟨w.heap.size, 0, none⟩ (by simp <;> omega), World.cell?_alloc_lt _ _ ⟨w.heap.size, 0, none⟩ (by simp)]; simp)
  have hb5 : Blk ((((w.alloc (.cells #[.pointer (some ⟨bt, 0, none⟩)] 104)).alloc (.cells #[.pointer (some ⟨1, 104, none⟩), .pointer (some ⟨w.heap.size, 0, none⟩), .int .u64 150] 113)).alloc (.cells #[.pointer (some ⟨1, 104, none⟩), .pointer (some ⟨w.heap.size, 0, none⟩), .int .u64 150] 113)).alloc (.cells #[.int .i64 a, .iface 99 (.int .i64 k)] 103)) (w.heap.size + 1 + 1 + 1) #[.int .i64 a, .iface 99 (.int .i64 k)] 103 := Blk.newAt _ _ _ _ (by simp)
  have ht5 : Blk ((((w.alloc (.cells #[.pointer (some ⟨bt, 0, none⟩)] 104)).alloc (.cells #[.pointer (some ⟨1, 104, none⟩), .pointer (some ⟨w.heap.size, 0, none⟩), .int .u64 150] 113)).alloc (.cells #[.pointer (some ⟨1, 104, none⟩), .pointer (some ⟨w.heap.size, 0, none⟩), .int .u64 150] 113)).alloc (.cells #[.int .i64 a, .iface 99 (.int .i64 k)] 103)) bt old 103 := ((((show Blk w bt old 103 from ht0).alloc _).alloc _).alloc _).alloc _
  have st := set103 bt (w.heap.size + 1 + 1 + 1) a (.iface 99 (.int .i64 k)) old ((((w.alloc (.cells #[.pointer (some ⟨bt, 0, none⟩)] 104)).alloc (.cells #[.pointer (some ⟨1, 104, none⟩), .pointer (some ⟨w.heap.size, 0, none⟩), .int .u64 150] 113)).alloc (.cells #[.pointer (some ⟨1, 104, none⟩), .pointer (some ⟨w.heap.size, 0, none⟩), .int .u64 150] 113)).alloc (.cells #[.int .i64 a, .iface 99 (.int .i64 k)] 103)) rfl hb5 ht5 hs
  have HB : Hid (Below w.heap.size w ((((w.alloc (.cells #[.pointer (some ⟨bt, 0, none⟩)] 104)).alloc (.cells #[.pointer (some ⟨1, 104, none⟩), .pointer (some ⟨w.heap.size, 0, none⟩), .int .u64 150] 113)).alloc (.cells #[.pointer (some ⟨1, 104, none⟩), .pointer (some ⟨w.heap.size, 0, none⟩), .int .u64 150] 113)).alloc (.cells #[.int .i64 a, .iface 99 (.int .i64 k)] 103))) := ((((Below.refl _ _).alloc (Nat.le_refl _) _).alloc (by simp) _).alloc (by simp <;> omega) _).alloc (by simp <;> omega) _
  go_enter Tryd.func74, Tryd.ntmps74
  go_wp2
  refine wp_loop_rounds 1 ?_
  rw [rounds_succ]
  go_wp2
  go_ret
  exact ⟨rfl, _, HB.out, rfl⟩

end Go.Proofs.YtmfmlbiplagmiaaDoor

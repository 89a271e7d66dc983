/- Zeros appended to a row of one's own; no condition. -/
import Derived.Test.YtmfmlbiplagmiaaDoorSl
import Derived.Test.YtmfmlbiplagmiaaDoorIvs
import Derived.Test.YtmfmlbiplagmiaaDoorApn
import Derived.Lib.AppendZeros
import Derived.Lib.AppendZerosOnto
import Derived.Laws.CopyRow
namespace Go.Proofs.YtmfmlbiplagmiaaDoor
open Go.RowKit Go.ChangeShapes Go.WideShapes Go.ChangeAt
set_option linter.unusedVariables false
set_option linter.unusedSimpArgs false
set_option maxRecDepth 8000

theorem grown_row' (W : World) (X : Nat) (cs : Array Value) : W.grownBy (W.setRow X cs) (some X) := ⟨rfl, rfl, rfl, by simp, fun i _ hi => setRow_other W _ i _ (fun e => hi (by simp [e]))⟩
theorem zeroC (k : Nat) : (Builtin.zeroCells (Value.int .i64 0).cells k).toList = (List.replicate k (0 : Int)).map (Value.int .i64) := by
  have h : (Value.int .i64 0).cells = #[Value.int .i64 0] := rfl
  rw [h]
  apply List.ext_getElem?
  intro i
  by_cases hi : i < k
  · simp [Builtin.zeroCells, hi, List.getElem?_range, List.getElem?_replicate, Nat.mod_one]
  · simp [Builtin.zeroCells, hi, List.getElem?_replicate]
set_option maxHeartbeats 3200000 in
theorem zeros_run (base : Nat) (ty : TypeId) (v : Value) (cs : List Int) (k : Nat) (w : World) (hown : Ow .i64 3 base w v cs) (h0 : 0 < k) (hk : k ≤ 1000) (hn : cs.length ≤ 1000) (hbase : base ≤ w.heap.size) :
    ∃ v' w', (Builtin.append_ #[25, 3] ty #[v, .int .i64 (k : Int)]).run Tryd.prog w = .ok v' w' ∧ Ow .i64 3 base w' v' (cs ++ List.replicate k 0) ∧ w.grownBy w' v.ownBlock ∧ (v'.ownBlock = v.ownBlock ∨ v'.ownBlock = some w.heap.size) := by
  obtain ⟨i, hi, hz, hs, hb⟩ := info_parts toIInfo
  have ht := Tryd.underlying25
  have htn := Tryd.underlying3
  have hw : IntKind.i64.wrap (k : Int) = k := by rw [IntKind.wrap_i64]; omega
  have hzl : (Builtin.zeroCells (Value.int .i64 0).cells k).toList.length = k := by rw [zeroC]; simp
  have fin : ∀ (c cur : Nat) (W : World) (g : Nat) (rest : Array Value), base ≤ g → W.heap[g]? = some (.cells ((cs.map (Value.int .i64)).toArray ++ Builtin.zeroCells (Value.int .i64 0).cells k ++ rest) 3 (0, 0)) → cs.length + k ≤ c → c ≤ maxLen → rest.size = c - (cs.length + k) → Ow .i64 3 base W (.slice (some ⟨g, 0, none⟩) (cs.length + k) c) (cs ++ List.replicate k 0) := by
    intro c _ W g rest hg hh h1 h2 h3
    have hl : (cs ++ List.replicate k (0 : Int)).length = cs.length + k := by simp
    unfold Ow
    rw [hl]
    refine ⟨by simp, .inr ⟨g, c, _, rfl, hg, hh, h1, h2, ?_, ?_⟩⟩
    · have : (Builtin.zeroCells (Value.int .i64 0).cells k).size = k := by rw [← Array.length_toList, hzl]
      simp only [Array.size_append, this, h3, List.size_toArray, List.length_map]; omega
    · simp only [Array.toList_append, List.append_assoc, zeroC, List.map_append]
      rw [← List.append_assoc, List.take_append_of_le_length (by simp)]
      rw [List.take_of_length_le (by simp)]
  rcases hown.2 with ⟨rfl, hn0⟩ | ⟨g, cap, cur, rfl, hbg, hg, hnc, hcm, hcs, htake⟩
  · have hx : cs = [] := List.eq_nil_of_length_eq_zero hn0
    subst hx
    have hr := Lib.run_append_nil_zeros (P := Tryd.prog) w 25 3 ty 3 i (.int .i64 0) .i64 .i64 ht htn hi hz k h0 (by omega) (by omega) (by rw [hb]; omega)
    have hge := grownCap_ge w k 0 3
    refine ⟨_, _, hr, ?_, ⟨rfl, rfl, rfl, by simp, fun j hj _ => heap_alloc_old w.drew _ hj⟩, .inr rfl⟩
    have := fin (grownCap w k 0 3) 0 (w.drew.alloc (.cells (Builtin.zeroCells (Value.int .i64 0).cells k ++ Builtin.zeroCells (Value.int .i64 0).cells (grownCap w k 0 3 - k)) 3)) w.heap.size (Builtin.zeroCells (Value.int .i64 0).cells (grownCap w k 0 3 - k)) hbase (by simpa using heap_alloc_new w.drew _) (by simpa using hge) (grownCap_le_maxLen w k 0 3 (by unfold maxLen; omega)) (by rw [← Array.length_toList, zeroC]; simp)
    simpa using this
  · by_cases hroom : cs.length + k ≤ cap
    · have h1 : ∀ u ∈ (Builtin.zeroCells (Value.int .i64 0).cells k).toList, u.oneCell' = true := by
        rw [zeroC]
        intro u hu
        obtain ⟨z, -, rfl⟩ := List.mem_map.1 hu
        rfl
      have hst := run_storeCells_at Tryd.prog g cs.length 3 (Builtin.zeroCells (Value.int .i64 0).cells k).toList 0 cur w hg (by rw [hzl]; omega) h1
      simp only [Nat.add_zero] at hst
      have hneg : ¬ ((k : Int) < 0) := by omega
      have h48 : ¬ (281474976710656 < (k : Int) * (i.bytes : Int)) := by rw [hb]; omega
      have hk0 : k ≠ 0 := by omega
      have hrun : (Builtin.append_ #[25, 3] ty #[.slice (some ⟨g, 0, none⟩) cs.length cap, .int .i64 (k : Int)]).run Tryd.prog w = .ok (.slice (some ⟨g, 0, none⟩) (cs.length + k) cap) (w.setRow g (cur.toList.take cs.length ++ (Builtin.zeroCells (Value.int .i64 0).cells k).toList ++ cur.toList.drop (cs.length + (Builtin.zeroCells (Value.int .i64 0).cells k).toList.length)).toArray) := by
        simp [Builtin.append_, run_underlying ht, run_underlying htn, sizeOf, typeInfo, zeroValue, hi, hz, hs, asInt, asIntOf, hw, hneg, h48, hk0, hroom, Addr.add_lit] at hst ⊢
        simp [hst]
      refine ⟨_, _, hrun, ?_, grown_row' w g _, .inl rfl⟩
      have htk : cur.toList.take cs.length = cs.map (Value.int .i64) := by simpa using htake
      refine fin cap 0 _ g ((cur.toList.drop (cs.length + (Builtin.zeroCells (Value.int .i64 0).cells k).toList.length)).toArray) hbg ?_ hroom hcm ?_
      · have := setRow_heap w g cur ((cur.toList.take cs.length ++ (Builtin.zeroCells (Value.int .i64 0).cells k).toList ++ cur.toList.drop (cs.length + (Builtin.zeroCells (Value.int .i64 0).cells k).toList.length)).toArray) 3 (0, 0) hg
        rw [this, htk]
        congr 2
        apply Array.ext'
        simp
      · simp only [List.size_toArray, List.length_drop, Array.length_toList, hzl]; omega
    · have holds : ∀ j u, (cs.map (Value.int .i64))[j]? = some u → w.cell? ((⟨g, 0, none⟩ : Addr).add j) = some u := World.ownsRow.cells hown (g := g) rfl
      have hold : (Builtin.firstCells i.size cs.length (.slice (some ⟨g, 0, none⟩) cs.length cap)).run Tryd.prog w.drew = .ok (cs.map (Value.int .i64)).toArray w.drew := by
        rw [hs]
        exact run_firstCells_some (P := Tryd.prog) w.drew 1 cs.length ⟨g, 0, none⟩ cs.length cap (cs.map (Value.int .i64)) (by simp) holds
      have hr := Lib.run_append_grow_zeros (P := Tryd.prog) w 25 3 ty 3 i (.int .i64 0) .i64 .i64 ht htn hi hz (some ⟨g, 0, none⟩) cs.length cap (cs.map (Value.int .i64)) hold k h0 (by omega) (by omega) (by omega) (by rw [hb]; omega) (by rw [hb]; have := growslice_fits (old := cap) (need := cs.length + k) (bytes := 8) (by omega) (by omega); omega)
      have hge := grownCap_ge w (cs.length + k) cap 3
      refine ⟨_, _, hr, ?_, ⟨rfl, rfl, rfl, by simp, fun j hj _ => heap_alloc_old w.drew _ hj⟩, .inr rfl⟩
      exact fin _ 0 _ w.heap.size _ hbase (heap_alloc_new w.drew _) hge (grownCap_le_maxLen w _ _ 3 (by unfold maxLen; omega)) (by rw [← Array.length_toList, zeroC]; simp)

end Go.Proofs.YtmfmlbiplagmiaaDoor

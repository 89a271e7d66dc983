/- append of make; no condition. -/
import Derived.Test.YtfaflnhembceoaaDsB
import Derived.Test.YtfaflnhembceoaaRtD
import Derived.Laws.AppendOwn
namespace Go.Proofs.Ytfaflnhembceoaa
open Go.RowKit Go.ChangeShapes Go.WideShapes Go.ChangeAt
set_option linter.unusedVariables false
set_option linter.unusedSimpArgs false
set_option maxRecDepth 8000

abbrev zCs : List Value := [Value.bool false, Value.bool false, Value.slice none 0 0]
theorem zeroCells_tq (m : Nat) : (Builtin.zeroCells (Value.cells (.agg #[.bool false, .bool false, .slice none 0 0])) m).toList = tq (List.replicate m zS) := by
  have := tq_replicate zS m
  unfold madeCells at this
  unfold Builtin.zeroCells
  simpa [Value.cells] using this
section
variable (w : World)
theorem run_make_room (ty : TypeId) (g n cap m : Nat) (cur : Array Value) (hg : w.heap[g]? = some (.cells cur 35 (0, 0))) (hm : 0 < m) (hm2 : m ≤ 1000) (hroom : n + m ≤ cap) (hfit : n * 3 + (tq (List.replicate m zS)).length ≤ cur.size) :
    (Builtin.append_ #[24, 3] ty #[.slice (some ⟨g, 0, none⟩) n cap, .int .i64 m]).run Try.prog w = .ok (.slice (some ⟨g, 0, none⟩) (n + m) cap) (w.setRow g (cur.toList.take (n * 3) ++ tq (List.replicate m zS) ++ cur.toList.drop (n * 3 + (tq (List.replicate m zS)).length)).toArray) := by
  obtain ⟨i0, hi, hz0, hz1, hz2⟩ := info_parts infoSub
  have hone : ∀ u ∈ tq (List.replicate m zS), u.oneCell' = true := by
    intro u hu
    have : ∀ k, ∀ u ∈ tq (List.replicate k zS), u.oneCell' = true := by
      intro k
      induction k with
      | zero => intro u hu; simp [tq] at hu
      | succ k ih => intro u hu; rw [List.replicate_succ] at hu; simp [tq] at hu; rcases hu with h | h | h <;> first | (subst h; rfl) | exact ih u h
    exact this m u hu
  have hst := run_storeCells_at Try.prog g (n * 3) 35 (tq (List.replicate m zS)) 0 cur w hg (by simpa using hfit) hone
  simp only [Nat.add_zero] at hst
  have hw : IntKind.i64.wrap (m : Int) = m := by rw [IntKind.wrap_i64]; omega
  have h48 : ¬ (281474976710656 < (m : Int) * 32) := by omega
  have hneg : ¬ ((m : Int) < 0) := by omega
  have hm0 : m ≠ 0 := by omega
  have hm3 : ¬ m * 3 = 0 := by omega
  have hzc := zeroCells_tq m
  simp [Builtin.append_, run_underlying Try.underlying24, run_underlying Try.underlying3, sizeOf, typeInfo, zeroValue, hi, hz0, hz1, hz2, asInt, asIntOf, hw, h48, hneg, hm0, hroom, Addr.add_lit, hzc, hst]
  intro h; omega
theorem run_make_grow (ty : TypeId) (g n cap m : Nat) (olds : List Value) (hlo : olds.length = n * 3) (holds : ∀ j v, olds[j]? = some v → w.cell? ((⟨g, 0, none⟩ : Addr).add j) = some v) (hm : 0 < m) (hm2 : m ≤ 1000) (hn : n ≤ 1000) (hg : cap < n + m) :
    (Builtin.append_ #[24, 3] ty #[.slice (some ⟨g, 0, none⟩) n cap, .int .i64 m]).run Try.prog w = .ok (.slice (some ⟨w.heap.size, 0, none⟩) (n + m) (grownCap w (n + m) cap 35)) (w.drew.alloc (.cells (olds.toArray ++ (tq (List.replicate m zS)).toArray ++ Builtin.zeroCells (Value.cells (.agg #[.bool false, .bool false, .slice none 0 0])) (grownCap w (n + m) cap 35 - (n + m))) 35)) := by
  obtain ⟨i0, hi, hz0, hz1, hz2⟩ := info_parts infoSub
  have hw : IntKind.i64.wrap (m : Int) = m := by rw [IntKind.wrap_i64]; omega
  have h48 : ¬ (281474976710656 < (m : Int) * 32) := by omega
  have hneg : ¬ ((m : Int) < 0) := by omega
  have hm0 : m ≠ 0 := by omega
  have hm3 : ¬ m * 3 = 0 := by omega
  have hnn : ¬ (n + m ≤ cap) := by omega
  have h63' : ¬ (9223372036854775807 < ((n : Int) + (m : Int))) := by omega
  have hfit := growslice_fits (need := n + m) (old := cap) (bytes := 32) (by omega) (by omega)
  have h48' : ¬ (281474976710656 < Builtin.nextslicecap (n + m) cap * 32) := by omega
  have hfo := run_firstCells_some (P := Try.prog) w.drew 3 n ⟨g, 0, none⟩ n cap olds hlo (by simpa using holds)
  have hzc : Builtin.zeroCells (Value.cells (.agg #[.bool false, .bool false, .slice none 0 0])) m = (tq (List.replicate m zS)).toArray := by apply Array.ext'; exact zeroCells_tq m
  simp [Builtin.append_, run_underlying Try.underlying24, run_underlying Try.underlying3, sizeOf, typeInfo, zeroValue, hi, hz0, hz1, hz2, asInt, asIntOf, hw, h48, hneg, hm0, hnn, h63', h48', Question.forced, hfo, newRow, grownCap, hzc]
  rw [if_neg hm3]
  congr 3
  apply Array.ext'
  simp [List.append_assoc]
end
/-- subs of nothing put behind subs -/
theorem appM {ops : Array Oper} {rest : List Oper} {o : Oper} {a : Act} {w : World} {Q : Exit → Act → World → Prop} (hgd : o.guard = none) (s x : Operand)
    (ho : o.op = .call { callee := .builtin .append, args := #[s, x], argTypes := #[24, 3] }) (base : Nat) (v : Value) (cs : Sbs) (lv : List V3) (hs : a.eval s = v) (hown : OwT base w v lv cs)
    (m : Nat) (hx : a.eval x = .int .i64 m) (hp : 0 < cs.length) (hm : 0 < m) (hm2 : m ≤ 1000) (hl : cs.length ≤ 1000) (hbase : base ≤ w.heap.size)
    (h : ∀ v' w', OwT base w' v' (lv ++ List.replicate m zS) (cs ++ List.replicate m sb0) → w.grownBy w' v.ownBlock → wpList Try.prog ops Q rest (a.put o.dst v') w') : wpList Try.prog ops Q (o :: rest) a w := by
  obtain ⟨h1, h2, h3⟩ := hown
  have hzl : (tq (List.replicate m zS)).length = m * 3 := by rw [tq_len, List.length_replicate]
  obtain ⟨v', w', hr, o', q2⟩ : ∃ v' w', (Builtin.append_ #[24, 3] o.type #[v, .int .i64 m]).run Try.prog w = .ok v' w' ∧ Oq 35 base w' v' (lv ++ List.replicate m zS) ∧ w.grownBy w' v.ownBlock := by
    have hlen : (tq lv ++ tq (List.replicate m zS)).length = (lv.length + m) * 3 := by rw [List.length_append, tq_len, hzl]; omega
    rcases h2.2 with ⟨rfl, h0⟩ | ⟨g, cap, cur, rfl, hbg, hg, hnc, hcm, hcs, htake⟩
    · omega
    · by_cases hroom : lv.length + m ≤ cap
      · have hfit : lv.length * 3 + (tq (List.replicate m zS)).length ≤ cur.size := by rw [hzl, hcs]; omega
        refine ⟨_, _, run_make_room w o.type g lv.length cap m cur hg hm hm2 hroom hfit, ?_, ⟨rfl, rfl, rfl, by simp, fun k _ hk => setRow_other w g k _ (fun e => hk (by simp [Value.ownBlock, e]))⟩⟩
        unfold Oq
        rw [tq_app, List.length_append, List.length_replicate]
        refine ⟨hlen, .inr ⟨g, cap, _, rfl, hbg, setRow_heap w g cur _ 35 _ hg, hroom, hcm, ?_, ?_⟩⟩
        · simp only [List.size_toArray, List.length_append, List.length_take, List.length_drop, Array.length_toList]
          omega
        · rw [htake, ← hlen]
          exact List.take_left
      · have holds : ∀ j u, (tq lv)[j]? = some u → w.cell? ((⟨g, 0, none⟩ : Addr).add j) = some u := h2.cells (g := g) rfl
        have hge := grownCap_ge w (lv.length + m) cap 35
        have hcm' : grownCap w (lv.length + m) cap 35 ≤ maxLen := grownCap_le_maxLen w (lv.length + m) cap 35 (by unfold maxLen; omega)
        refine ⟨_, _, run_make_grow w o.type g lv.length cap m (tq lv) (tq_len lv) holds hm hm2 (by omega) (by omega), ?_, ⟨rfl, rfl, rfl, by simp, fun k hk _ => heap_alloc_old w.drew _ hk⟩⟩
        unfold Oq
        rw [tq_app, List.length_append, List.length_replicate]
        refine ⟨hlen, .inr ⟨w.heap.size, _, _, rfl, hbase, heap_alloc_new w.drew _, hge, hcm', ?_, ?_⟩⟩
        · simp only [Array.size_append, List.size_toArray, size_zeroCells, tq_len, List.length_replicate]
          have : (Value.cells (.agg #[.bool false, .bool false, .slice none 0 0])).size = 3 := rfl
          rw [this]; omega
        · simp only [Array.toList_append, List.append_assoc]
          rw [← List.append_assoc, ← hlen]
          exact List.take_left
  refine wpList_plain hgd fun K hK => ?_
  unfold Oper.wp execOp
  simp only [ho, resolve, invoke, builtin, Sem.run_bind, Sem.run_pure, Result.andThen_ok, List.map_toArray, List.map_cons, List.map_nil, hs, hx, hr]
  refine hK _ _ (h v' w' ⟨by simp [h1], o', fun i hi hi' => ?_⟩ q2)
  have kf : ∀ {b : Nat} {u : Value} {ls : Fts}, Op mf mg 37 b w u ls → Op mf mg 37 b w' u ls := fun hu => World.ownsRow.kept hu q2 (own_tag hu h2 (by decide))
  by_cases e : i < lv.length
  · have e' : i < cs.length := by omega
    obtain ⟨a1, a2, a3, a4, a5⟩ := h3 i e e'
    simp only [List.getElem_append_left e, List.getElem_append_left e']
    refine ⟨a1, a2, kf a3, own_tag (kf a3) o' (by decide), fun j hj hji => ?_⟩
    rw [List.getElem_append_left (show j < lv.length by omega)]
    exact a5 j (by omega) hji
  · have e1 : (lv ++ List.replicate m zS)[i]'hi = zS := by rw [List.getElem_append_right (by omega)]; simp
    have e2 : (cs ++ List.replicate m sb0)[i]'hi' = sb0 := by rw [List.getElem_append_right (by omega)]; simp
    rw [e1, e2]
    exact ⟨rfl, rfl, ⟨rfl, .inl ⟨rfl, rfl⟩⟩, .inl rfl, fun j hj hji => .inl rfl⟩
end Go.Proofs.Ytfaflnhembceoaa

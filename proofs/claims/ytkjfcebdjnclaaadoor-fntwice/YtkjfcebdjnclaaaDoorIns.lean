/- Packets are put in between; no condition. -/
import Derived.Test.YtkjfcebdjnclaaaDoorApk
import Derived.Test.YtkjfcebdjnclaaaDoorSlc
import Derived.Laws.CopyRow
import Derived.Deep.AppendSrc
import Derived.Lib.Overlaps
import Derived.Laws.Externs
namespace Go.Proofs.YtkjfcebdjnclaaaDoor
open Go.RowKit Go.ChangeShapes Go.WideShapes Go.ChangeAt
set_option linter.unusedVariables false
set_option linter.unusedSimpArgs false
set_option maxRecDepth 8000

abbrev F18 (ls : List Pk) : List Value := ls.flatMap pkC
theorem F18_len (ls : List Pk) : (F18 ls).length = ls.length * 18 := fm_len pkC_len ls
theorem F18_one (ls : List Pk) : ∀ u ∈ F18 ls, u.oneCell' = true := fm_one ls
theorem F18_app (a b : List Pk) : F18 (a ++ b) = F18 a ++ F18 b := List.flatMap_append
/-- copy where elements are of eighteen cells -/
theorem run_copy18 (w : World) (dT sT ty : TypeId) (g o dLen dCap : Nat) (a : Addr) (sLen sCap : Nat) (cur : Array Value) (cs : List Value)
    (hu : Tryd.prog.underlying dT = some (.slice 40)) (hg : w.heap[g]? = some (.cells cur 40 (0, 0))) (n : Nat) (hn : n = Nat.min sLen dLen) (hl : cs.length = n * 18)
    (hsrc : ∀ j v, cs[j]? = some v → w.cell? (a.add j) = some v) (hfit : o + cs.length ≤ cur.size) (h1 : ∀ v ∈ cs, v.oneCell' = true) :
    (Builtin.copy_ #[dT, sT] ty #[.slice (some ⟨g, o, none⟩) dLen dCap, .slice (some a) sLen sCap]).run Tryd.prog w =
      .ok (goInt n) (w.setRow g (cur.toList.take o ++ cs ++ cur.toList.drop (o + cs.length)).toArray) := by
  have hfc := run_firstCells_some (P := Tryd.prog) w 18 n a sLen sCap cs hl hsrc
  have hst := run_storeCells_at Tryd.prog g o 40 cs 0 cur w hg (by simpa using hfit) h1
  have hz : (Go.sizeOf 40).run Tryd.prog w = .ok 18 w := by kernel_rfl
  simp [Builtin.copy_, run_underlying hu, Builtin.lenOf, hz, ← hn, hfc, hst]
theorem wp_copy_run (w : World) {ops : Array Oper} {rest : List Oper} {o : Oper} {a : Act} {Q : Exit → Act → World → Prop} (hgd : o.guard = none) (d s : Operand) (t t' : TypeId)
    (ho : o.op = .call { callee := .builtin .copy, args := #[d, s], argTypes := #[t, t'] }) (v u : Value) (hd : a.eval d = v) (hs : a.eval s = u) {v' : Value} {w' : World}
    (hr : (Builtin.copy_ #[t, t'] o.type #[v, u]).run Tryd.prog w = .ok v' w') (h : wpList Tryd.prog ops Q rest (a.put o.dst v') w') : wpList Tryd.prog ops Q (o :: rest) a w := by
  refine wpList_plain hgd fun K hK => ?_
  unfold Oper.wp execOp
  simp only [ho, resolve, invoke, builtin, Sem.run_bind, Sem.run_pure, Result.andThen_ok, List.map_toArray, List.map_cons, List.map_nil, hd, hs, hr]
  exact hK _ _ h
theorem wp_app_run (w : World) {ops : Array Oper} {rest : List Oper} {o : Oper} {a : Act} {Q : Exit → Act → World → Prop} (hgd : o.guard = none) (d s : Operand) (t t' : TypeId)
    (ho : o.op = .call { callee := .builtin .append, args := #[d, s], argTypes := #[t, t'] }) (v u : Value) (hd : a.eval d = v) (hs : a.eval s = u) {v' : Value} {w' : World}
    (hr : (Builtin.append_ #[t, t'] o.type #[v, u]).run Tryd.prog w = .ok v' w') (h : wpList Tryd.prog ops Q rest (a.put o.dst v') w') : wpList Tryd.prog ops Q (o :: rest) a w := by
  refine wpList_plain hgd fun K hK => ?_
  unfold Oper.wp execOp
  simp only [ho, resolve, invoke, builtin, Sem.run_bind, Sem.run_pure, Result.andThen_ok, List.map_toArray, List.map_cons, List.map_nil, hd, hs, hr]
  exact hK _ _ h
theorem size18 (w : World) : (Go.sizeOf 40).run Tryd.prog w = .ok 18 w := by kernel_rfl
/-- one packet more at the end, the two of different names -/
theorem run_app_end (w : World) (ty : TypeId) (base : Nat) (v : Value) (ls : List Pk) (k : Pk) (vb : Nat) (h : Og 18 pkC 40 base w v ls) (hk : Blk w vb (pkA k) 40) (hl : ls.length ≤ 1048576) (hbase : base ≤ w.heap.size) :
    ∃ v' w', (Builtin.append_ #[92, 36] ty #[v, .slice (some ⟨vb, 0, none⟩) 1 1]).run Tryd.prog w = .ok v' w' ∧ Og 18 pkC 40 base w' v' (ls ++ [k]) ∧ w.grownBy w' v.ownBlock := by
  obtain ⟨i0, hi, hz0, hz1, hz2⟩ := info_parts infoPk
  have hsrc : Src Tryd.prog i0.size 36 (.slice (some ⟨vb, 0, none⟩) 1 1) 1 (pkC k) w := by
    rw [hz1]
    exact Src.ofSlice w Tryd.underlying36 ⟨vb, 0, none⟩ 1 1 (pkC k) (by rw [pkC_len]) (fun j u hj => by
      rw [add_plain, Nat.zero_add, hk.cell j]; simpa using hj) (pkC_one' k)
  have hlen : (F18 ls ++ pkC k).length = (ls.length + 1) * 18 := by rw [List.length_append, F18_len, pkC_len]; omega
  have hF : (ls ++ [k]).flatMap pkC = F18 ls ++ pkC k := by rw [List.flatMap_append]; simp
  rcases h.2 with ⟨rfl, h0⟩ | ⟨g, cap, cur, rfl, hbg, hg, hnc, hcm, hcs, htake⟩
  · obtain rfl : ls = [] := List.eq_nil_of_length_eq_zero h0
    have hr := run_append_grow_src (P := Tryd.prog) w 92 36 ty 40 i0 _ Tryd.underlying92 hi hz0 none 0 0 [] (by rw [hz1]; exact run_firstCells_none w.drew 18 0 0 0) _ 1 (pkC k) hsrc (by omega) (by omega) (by rw [hz2]; exact growslice_fits (by omega) (by omega))
    refine ⟨_, _, hr, ?_, ⟨rfl, rfl, rfl, by simp, fun j hj _ => heap_alloc_old w.drew _ hj⟩⟩
    unfold Og
    refine ⟨by rw [show (([] : List Pk) ++ [k]).flatMap pkC = pkC k by simp, pkC_len]; rfl, .inr ⟨w.heap.size, _, _, rfl, hbase, heap_alloc_new w.drew _, grownCap_ge w (0 + 1) 0 40, grownCap_le_maxLen w (0 + 1) 0 40 (by unfold maxLen; omega), ?_, ?_⟩⟩
    · simp only [Array.size_append, List.size_toArray, size_zeroCells, List.nil_append, pkC_len]
      have hge := grownCap_ge w (0 + 1) 0 40
      have : (Value.cells (.agg (pkA zPk))).size = 18 := pkA_size _
      rw [this]; omega
    · have e : (([] : List Pk) ++ [k]).length * 18 = (pkC k).length := by rw [pkC_len]; rfl
      rw [e]
      simp
  · by_cases hroom : ls.length + 1 ≤ cap
    · have hfit : ls.length * 18 + (pkC k).length ≤ cur.size := by rw [hcs, pkC_len]; omega
      have hst := run_storeCells_at Tryd.prog g (ls.length * 18) 40 (pkC k) 0 cur w hg (by simpa using hfit) (pkC_one' k)
      have hr : (Builtin.append_ #[92, 36] ty #[.slice (some ⟨g, 0, none⟩) ls.length cap, .slice (some ⟨vb, 0, none⟩) 1 1]).run Tryd.prog w = .ok (.slice (some ⟨g, 0, none⟩) (ls.length + 1) cap) (w.setRow g (cur.toList.take (ls.length * 18) ++ pkC k ++ cur.toList.drop (ls.length * 18 + (pkC k).length)).toArray) := by
        have hcl := hsrc.cells
        rw [hz1] at hcl
        simp only [Nat.add_zero] at hst
        simp [Builtin.append_, run_underlying Tryd.underlying92, run_underlying Tryd.underlying36, sizeOf, typeInfo, hi, hz1, Builtin.lenOf, hroom, hcl, add_plain, hst]
      refine ⟨_, _, hr, ?_, ⟨rfl, rfl, rfl, by simp, fun j _ hj => setRow_other w g j _ (fun e => hj (by simp [Value.ownBlock, e]))⟩⟩
      unfold Og
      rw [hF]
      refine ⟨by rw [hlen]; simp, .inr ⟨g, cap, _, by simp, hbg, setRow_heap w g cur _ 40 _ hg, by simpa using hroom, hcm, ?_, ?_⟩⟩
      · simp only [List.size_toArray, List.length_append, List.length_take, List.length_drop, Array.length_toList]
        omega
      · rw [htake, show (ls ++ [k]).length * 18 = (F18 ls ++ pkC k).length by rw [hlen]; simp]
        exact List.take_left
    · have holds : ∀ j u, (F18 ls)[j]? = some u → w.cell? ((⟨g, 0, none⟩ : Addr).add j) = some u := World.ownsRow.cells h (g := g) rfl
      have hge := grownCap_ge w (ls.length + 1) cap 40
      have hcm' : grownCap w (ls.length + 1) cap 40 ≤ maxLen := grownCap_le_maxLen w (ls.length + 1) cap 40 (by unfold maxLen; omega)
      have hr := run_append_grow_src (P := Tryd.prog) w 92 36 ty 40 i0 _ Tryd.underlying92 hi hz0 (some ⟨g, 0, none⟩) ls.length cap (F18 ls) (by rw [hz1]; exact run_firstCells_some w.drew 18 ls.length ⟨g, 0, none⟩ ls.length cap (F18 ls) (F18_len ls) (by simpa using holds)) _ 1 (pkC k) hsrc (by omega) (by omega) (by rw [hz2]; exact growslice_fits (by omega) (by omega))
      refine ⟨_, _, hr, ?_, ⟨rfl, rfl, rfl, by simp, fun j hj _ => heap_alloc_old w.drew _ hj⟩⟩
      unfold Og
      rw [hF]
      refine ⟨by rw [hlen]; simp, .inr ⟨w.heap.size, _, _, by simp, hbase, heap_alloc_new w.drew _, by simpa using hge, hcm', ?_, ?_⟩⟩
      · simp only [Array.size_append, List.size_toArray, size_zeroCells, hlen]
        have : (Value.cells (.agg (pkA zPk))).size = 18 := pkA_size _
        rw [this]; omega
      · rw [show (ls ++ [k]).length * 18 = (F18 ls ++ pkC k).length by rw [hlen]; simp, Array.toList_append]
        exact List.take_left

/-- zeros behind the first n, where there is no room: a new row -/
theorem run_make18 (w : World) (ty : TypeId) (g n cap m : Nat) (olds : List Value) (hlo : olds.length = n * 18) (holds : ∀ j v, olds[j]? = some v → w.cell? ((⟨g, 0, none⟩ : Addr).add j) = some v) (hm : 0 < m) (hm2 : m ≤ 2000000) (hn : n ≤ 2000000) (hg : cap < n + m) :
    ∃ (Z : List Value) (c2 : Nat), (Builtin.append_ #[92, 3] ty #[.slice (some ⟨g, 0, none⟩) n cap, .int .i64 m]).run Tryd.prog w = .ok (.slice (some ⟨w.heap.size, 0, none⟩) (n + m) c2) (w.drew.alloc (.cells (olds ++ Z).toArray 40)) ∧ n + m ≤ c2 ∧ c2 ≤ maxLen ∧ (olds ++ Z).length = c2 * 18 := by
  obtain ⟨i0, hi, hz0, hz1, hz2⟩ := info_parts infoPk
  have hw : IntKind.i64.wrap (m : Int) = m := by rw [IntKind.wrap_i64]; omega
  have h48 : ¬ (281474976710656 < (m : Int) * 32) := by omega
  have hneg : ¬ ((m : Int) < 0) := by omega
  have hm0 : m ≠ 0 := by omega
  have hm3 : ¬ m * 18 = 0 := by omega
  have hnn : ¬ (n + m ≤ cap) := by omega
  have h63' : ¬ (9223372036854775807 < ((n : Int) + (m : Int))) := by omega
  have hfit := growslice_fits (need := n + m) (old := cap) (bytes := 32) (by omega) (by omega)
  have h48' : ¬ (281474976710656 < Builtin.nextslicecap (n + m) cap * 32) := by omega
  have hfo := run_firstCells_some (P := Tryd.prog) w.drew 18 n ⟨g, 0, none⟩ n cap olds hlo (by simpa using holds)
  have hge := grownCap_ge w (n + m) cap 40
  have hcm' : grownCap w (n + m) cap 40 ≤ maxLen := grownCap_le_maxLen w (n + m) cap 40 (by unfold maxLen; omega)
  have hzs : (Value.cells (.agg (pkA zPk))).size = 18 := pkA_size _
  obtain ⟨ZZ, hZZ⟩ : ∃ ZZ : Value, ZZ = .agg (pkA zPk) := ⟨_, rfl⟩
  rw [← hZZ] at hz0 hzs
  refine ⟨(Builtin.zeroCells ZZ.cells m).toList ++ (Builtin.zeroCells ZZ.cells (grownCap w (n + m) cap 40 - (n + m))).toList, grownCap w (n + m) cap 40, ?_, hge, hcm', ?_⟩
  · clear hZZ
    simp [Builtin.append_, run_underlying Tryd.underlying92, run_underlying Tryd.underlying3, sizeOf, typeInfo, zeroValue, hi, hz0, hz1, hz2, asInt, asIntOf, hw, h48, hneg, hm0, hnn, h63', h48', Question.forced, hfo, newRow, grownCap]
    rw [if_neg hm3]
    congr 3
    apply Array.ext'
    simp [List.append_assoc]
  · simp only [List.length_append, Array.length_toList, size_zeroCells, hzs, hlo]
    omega

end Go.Proofs.YtkjfcebdjnclaaaDoor

/- Packets are put in between; no condition. -/
import Derived.Test.YtkjfcebdjnclaaaDoorApk
import Derived.Test.YtkjfcebdjnclaaaDoorSlc
import Derived.Laws.CopyRow
import Derived.Deep.AppendSrc
import Derived.Lib.Overlaps
import Derived.Laws.Externs
import Derived.Test.YtkjfcebdjnclaaaDoorMixT
import Derived.Deep.DeepCutAuto
namespace Go.Proofs.YtkjfcebdjnclaaaDoor
open Go.RowKit Go.ChangeShapes Go.WideShapes Go.ChangeAt
set_option linter.unusedVariables false
set_option linter.unusedSimpArgs false
set_option maxRecDepth 8000

abbrev F18 (ls : List Pk) : List Value := ls.flatMap pkC
theorem F18_len (ls : List Pk) : (F18 ls).length = ls.length * 18 := fm_len pkC_len ls
theorem F18_one (ls : List Pk) : ∀ u ∈ F18 ls, u.oneCell' = true := fm_one ls
theorem F18_app (a b : List Pk) : F18 (a ++ b) = F18 a ++ F18 b := List.flatMap_append
/-- copy where elements are of eighteen cells -/
theorem run_copy18 (w : World) (dT sT ty : TypeId) (g o dLen dCap : Nat) (a : Addr) (sLen sCap : Nat) (cur : Array Value) (cs : List Value)
    (hu : Tryd.prog.underlying dT = some (.slice 40)) (hg : w.heap[g]? = some (.cells cur 40 (0, 0))) (n : Nat) (hn : n = Nat.min sLen dLen) (hl : cs.length = n * 18)
    (hsrc : ∀ j v, cs[j]? = some v → w.cell? (a.add j) = some v) (hfit : o + cs.length ≤ cur.size) (h1 : ∀ v ∈ cs, v.oneCell' = true) :
    (Builtin.copy_ #[dT, sT] ty #[.slice (some ⟨g, o, none⟩) dLen dCap, .slice (some a) sLen sCap]).run Tryd.prog w =
      .ok (goInt n) (w.setRow g (cur.toList.take o ++ cs ++ cur.toList.drop (o + cs.length)).toArray) := by
  have hfc := run_firstCells_some (P := Tryd.prog) w 18 n a sLen sCap cs hl hsrc
  have hst := run_storeCells_at Tryd.prog g o 40 cs 0 cur w hg (by simpa using hfit) h1
  have hz : (Go.sizeOf 40).run Tryd.prog w = .ok 18 w := by kernel_rfl
  simp [Builtin.copy_, run_underlying hu, Builtin.lenOf, hz, ← hn, hfc, hst]
theorem wp_copy_run (w : World) {ops : Array Oper} {rest : List Oper} {o : Oper} {a : Act} {Q : Exit → Act → World → Prop} (hgd : o.guard = none) (d s : Operand) (t t' : TypeId)
    (ho : o.op = .call { callee := .builtin .copy, args := #[d, s], argTypes := #[t, t'] }) (v u : Value) (hd : a.eval d = v) (hs : a.eval s = u) {v' : Value} {w' : World}
    (hr : (Builtin.copy_ #[t, t'] o.type #[v, u]).run Tryd.prog w = .ok v' w') (h : wpList Tryd.prog ops Q rest (a.put o.dst v') w') : wpList Tryd.prog ops Q (o :: rest) a w := by
  refine wpList_plain hgd fun K hK => ?_
  unfold Oper.wp execOp
  simp only [ho, resolve, invoke, builtin, Sem.run_bind, Sem.run_pure, Result.andThen_ok, List.map_toArray, List.map_cons, List.map_nil, hd, hs, hr]
  exact hK _ _ h
theorem wp_app_run (w : World) {ops : Array Oper} {rest : List Oper} {o : Oper} {a : Act} {Q : Exit → Act → World → Prop} (hgd : o.guard = none) (d s : Operand) (t t' : TypeId)
    (ho : o.op = .call { callee := .builtin .append, args := #[d, s], argTypes := #[t, t'] }) (v u : Value) (hd : a.eval d = v) (hs : a.eval s = u) {v' : Value} {w' : World}
    (hr : (Builtin.append_ #[t, t'] o.type #[v, u]).run Tryd.prog w = .ok v' w') (h : wpList Tryd.prog ops Q rest (a.put o.dst v') w') : wpList Tryd.prog ops Q (o :: rest) a w := by
  refine wpList_plain hgd fun K hK => ?_
  unfold Oper.wp execOp
  simp only [ho, resolve, invoke, builtin, Sem.run_bind, Sem.run_pure, Result.andThen_ok, List.map_toArray, List.map_cons, List.map_nil, hd, hs, hr]
  exact hK _ _ h
theorem size18 (w : World) : (Go.sizeOf 40).run Tryd.prog w = .ok 18 w := by kernel_rfl
/-- one packet more at the end, the two of different names -/
theorem run_app_end (w : World) (ty : TypeId) (base : Nat) (v : Value) (ls : List Pk) (k : Pk) (vb : Nat) (h : Og 18 pkC 40 base w v ls) (hk : Blk w vb (pkA k) 40) (hl : ls.length ≤ 1048576) (hbase : base ≤ w.heap.size) :
    ∃ v' w', (Builtin.append_ #[92, 36] ty #[v, .slice (some ⟨vb, 0, none⟩) 1 1]).run Tryd.prog w = .ok v' w' ∧ Og 18 pkC 40 base w' v' (ls ++ [k]) ∧ w.grownBy w' v.ownBlock := by
  obtain ⟨i0, hi, hz0, hz1, hz2⟩ := info_parts infoPk
  have hsrc : Src Tryd.prog i0.size 36 (.slice (some ⟨vb, 0, none⟩) 1 1) 1 (pkC k) w := by
    rw [hz1]
    exact Src.ofSlice w Tryd.underlying36 ⟨vb, 0, none⟩ 1 1 (pkC k) (by rw [pkC_len]) (fun j u hj => by
      rw [add_plain, Nat.zero_add, hk.cell j]; simpa using hj) (pkC_one' k)
  have hlen : (F18 ls ++ pkC k).length = (ls.length + 1) * 18 := by rw [List.length_append, F18_len, pkC_len]; omega
  have hF : (ls ++ [k]).flatMap pkC = F18 ls ++ pkC k := by rw [List.flatMap_append]; simp
  rcases h.2 with ⟨rfl, h0⟩ | ⟨g, cap, cur, rfl, hbg, hg, hnc, hcm, hcs, htake⟩
  · obtain rfl : ls = [] := List.eq_nil_of_length_eq_zero h0
    have hr := run_append_grow_src (P := Tryd.prog) w 92 36 ty 40 i0 _ Tryd.underlying92 hi hz0 none 0 0 [] (by rw [hz1]; exact run_firstCells_none w.drew 18 0 0 0) _ 1 (pkC k) hsrc (by omega) (by omega) (by rw [hz2]; exact growslice_fits (by omega) (by omega))
    refine ⟨_, _, hr, ?_, ⟨rfl, rfl, rfl, by simp, fun j hj _ => heap_alloc_old w.drew _ hj⟩⟩
    unfold Og
    refine ⟨by rw [show (([] : List Pk) ++ [k]).flatMap pkC = pkC k by simp, pkC_len]; rfl, .inr ⟨w.heap.size, _, _, rfl, hbase, heap_alloc_new w.drew _, grownCap_ge w (0 + 1) 0 40, grownCap_le_maxLen w (0 + 1) 0 40 (by unfold maxLen; omega), ?_, ?_⟩⟩
    · simp only [Array.size_append, List.size_toArray, size_zeroCells, List.nil_append, pkC_len]
      have hge := grownCap_ge w (0 + 1) 0 40
      have : (Value.cells (.agg (pkA zPk))).size = 18 := pkA_size _
      rw [this]; omega
    · have e : (([] : List Pk) ++ [k]).length * 18 = (pkC k).length := by rw [pkC_len]; rfl
      rw [e]
      simp
  · by_cases hroom : ls.length + 1 ≤ cap
    · have hfit : ls.length * 18 + (pkC k).length ≤ cur.size := by rw [hcs, pkC_len]; omega
      have hst := run_storeCells_at Tryd.prog g (ls.length * 18) 40 (pkC k) 0 cur w hg (by simpa using hfit) (pkC_one' k)
      have hr : (Builtin.append_ #[92, 36] ty #[.slice (some ⟨g, 0, none⟩) ls.length cap, .slice (some ⟨vb, 0, none⟩) 1 1]).run Tryd.prog w = .ok (.slice (some ⟨g, 0, none⟩) (ls.length + 1) cap) (w.setRow g (cur.toList.take (ls.length * 18) ++ pkC k ++ cur.toList.drop (ls.length * 18 + (pkC k).length)).toArray) := by
        have hcl := hsrc.cells
        rw [hz1] at hcl
        simp only [Nat.add_zero] at hst
        simp [Builtin.append_, run_underlying Tryd.underlying92, run_underlying Tryd.underlying36, sizeOf, typeInfo, hi, hz1, Builtin.lenOf, hroom, hcl, add_plain, hst]
      refine ⟨_, _, hr, ?_, ⟨rfl, rfl, rfl, by simp, fun j _ hj => setRow_other w g j _ (fun e => hj (by simp [Value.ownBlock, e]))⟩⟩
      unfold Og
      rw [hF]
      refine ⟨by rw [hlen]; simp, .inr ⟨g, cap, _, by simp, hbg, setRow_heap w g cur _ 40 _ hg, by simpa using hroom, hcm, ?_, ?_⟩⟩
      · simp only [List.size_toArray, List.length_append, List.length_take, List.length_drop, Array.length_toList]
        omega
      · rw [htake, show (ls ++ [k]).length * 18 = (F18 ls ++ pkC k).length by rw [hlen]; simp]
        exact List.take_left
    · have holds : ∀ j u, (F18 ls)[j]? = some u → w.cell? ((⟨g, 0, none⟩ : Addr).add j) = some u := World.ownsRow.cells h (g := g) rfl
      have hge := grownCap_ge w (ls.length + 1) cap 40
      have hcm' : grownCap w (ls.length + 1) cap 40 ≤ maxLen := grownCap_le_maxLen w (ls.length + 1) cap 40 (by unfold maxLen; omega)
      have hr := run_append_grow_src (P := Tryd.prog) w 92 36 ty 40 i0 _ Tryd.underlying92 hi hz0 (some ⟨g, 0, none⟩) ls.length cap (F18 ls) (by rw [hz1]; exact run_firstCells_some w.drew 18 ls.length ⟨g, 0, none⟩ ls.length cap (F18 ls) (F18_len ls) (by simpa using holds)) _ 1 (pkC k) hsrc (by omega) (by omega) (by rw [hz2]; exact growslice_fits (by omega) (by omega))
      refine ⟨_, _, hr, ?_, ⟨rfl, rfl, rfl, by simp, fun j hj _ => heap_alloc_old w.drew _ hj⟩⟩
      unfold Og
      rw [hF]
      refine ⟨by rw [hlen]; simp, .inr ⟨w.heap.size, _, _, by simp, hbase, heap_alloc_new w.drew _, by simpa using hge, hcm', ?_, ?_⟩⟩
      · simp only [Array.size_append, List.size_toArray, size_zeroCells, hlen]
        have : (Value.cells (.agg (pkA zPk))).size = 18 := pkA_size _
        rw [this]; omega
      · rw [show (ls ++ [k]).length * 18 = (F18 ls ++ pkC k).length by rw [hlen]; simp, Array.toList_append]
        exact List.take_left

/-- zeros behind the first n, where there is no room: a new row -/
theorem run_make18 (w : World) (ty : TypeId) (g n cap m : Nat) (olds : List Value) (hlo : olds.length = n * 18) (holds : ∀ j v, olds[j]? = some v → w.cell? ((⟨g, 0, none⟩ : Addr).add j) = some v) (hm : 0 < m) (hm2 : m ≤ 2000000) (hn : n ≤ 2000000) (hg : cap < n + m) :
    ∃ (Z : List Value) (c2 : Nat), (Builtin.append_ #[92, 3] ty #[.slice (some ⟨g, 0, none⟩) n cap, .int .i64 m]).run Tryd.prog w = .ok (.slice (some ⟨w.heap.size, 0, none⟩) (n + m) c2) (w.drew.alloc (.cells (olds ++ Z).toArray 40)) ∧ n + m ≤ c2 ∧ c2 ≤ maxLen ∧ (olds ++ Z).length = c2 * 18 := by
  obtain ⟨i0, hi, hz0, hz1, hz2⟩ := info_parts infoPk
  have hw : IntKind.i64.wrap (m : Int) = m := by rw [IntKind.wrap_i64]; omega
  have h48 : ¬ (281474976710656 < (m : Int) * 32) := by omega
  have hneg : ¬ ((m : Int) < 0) := by omega
  have hm0 : m ≠ 0 := by omega
  have hm3 : ¬ m * 18 = 0 := by omega
  have hnn : ¬ (n + m ≤ cap) := by omega
  have h63' : ¬ (9223372036854775807 < ((n : Int) + (m : Int))) := by omega
  have hfit := growslice_fits (need := n + m) (old := cap) (bytes := 32) (by omega) (by omega)
  have h48' : ¬ (281474976710656 < Builtin.nextslicecap (n + m) cap * 32) := by omega
  have hfo := run_firstCells_some (P := Tryd.prog) w.drew 18 n ⟨g, 0, none⟩ n cap olds hlo (by simpa using holds)
  have hge := grownCap_ge w (n + m) cap 40
  have hcm' : grownCap w (n + m) cap 40 ≤ maxLen := grownCap_le_maxLen w (n + m) cap 40 (by unfold maxLen; omega)
  have hzs : (Value.cells (.agg (pkA zPk))).size = 18 := pkA_size _
  obtain ⟨ZZ, hZZ⟩ : ∃ ZZ : Value, ZZ = .agg (pkA zPk) := ⟨_, rfl⟩
  rw [← hZZ] at hz0 hzs
  refine ⟨(Builtin.zeroCells ZZ.cells m).toList ++ (Builtin.zeroCells ZZ.cells (grownCap w (n + m) cap 40 - (n + m))).toList, grownCap w (n + m) cap 40, ?_, hge, hcm', ?_⟩
  · clear hZZ
    simp [Builtin.append_, run_underlying Tryd.underlying92, run_underlying Tryd.underlying3, sizeOf, typeInfo, zeroValue, hi, hz0, hz1, hz2, asInt, asIntOf, hw, h48, hneg, hm0, hnn, h63', h48', Question.forced, hfo, newRow, grownCap]
    rw [if_neg hm3]
    congr 3
    apply Array.ext'
    simp [List.append_assoc]
  · simp only [List.length_append, Array.length_toList, size_zeroCells, hzs, hlo]
    omega

end Go.Proofs.YtkjfcebdjnclaaaDoor
namespace Go.Proofs.YtkjfcebdjnclaaaDoor
open Go.RowKit Go.ChangeShapes Go.WideShapes Go.ChangeAt
set_option linter.unusedVariables false
set_option linter.unusedSimpArgs false
set_option maxRecDepth 8000

theorem sl92 (W : World) (a : Option Addr) (n cap l : Nat) (z : Int) (hz : z = (l : Int)) (hl : l ≤ n) : (Instr.slice 92 (.slice a n cap) (some (.int .i64 z)) none none).run Tryd.prog W = .ok (sliced a l n cap 18) W := by
  rw [run_slice_l (P := Tryd.prog) W 92 a n cap (by kernel_rfl) .i64 z (by omega) (by omega)]
  have : (Go.sizeOf (Tryd.prog.elem 92)).run Tryd.prog W = .ok 18 W := by kernel_rfl
  rw [this, hz]; rfl
theorem sh92 (W : World) (a : Option Addr) (n cap h : Nat) (z : Int) (hz : z = (h : Int)) (hl : h ≤ cap) : (Instr.slice 92 (.slice a n cap) none (some (.int .i64 z)) none).run Tryd.prog W = .ok (sliced a 0 h cap 18) W := by
  rw [run_slice_h (P := Tryd.prog) W 92 a n cap (by kernel_rfl) .i64 z (by omega) (by omega)]
  have : (Go.sizeOf (Tryd.prog.elem 92)).run Tryd.prog W = .ok 18 W := by kernel_rfl
  rw [this, hz]; rfl
theorem sliced_at (b l h m : Nat) (hm : m ≠ l) : sliced (some ⟨b, 0, none⟩) l h m 18 = .slice (some ⟨b, l * 18, none⟩) (h - l) (m - l) := by
  unfold sliced; rw [if_neg hm, Option.map_some, add_plain, Nat.zero_add]
theorem sliced_0 (b h m : Nat) : sliced (some ⟨b, 0, none⟩) 0 h m 18 = .slice (some ⟨b, 0, none⟩) h m := by
  unfold sliced
  split
  · simp
  · simp [add_plain]
theorem blk_shape {w : World} {g : Nat} {cs : Array Value} {t : TypeId} (h : w.heap[g]? = some (.cells cs t (0, 0))) : w.shape? g = some (t, cs.size) ∧ ∀ o, w.frozen? ⟨g, o, none⟩ = false := by
  constructor
  · simp [World.shape?, h]
  · intro o; simp [World.frozen?, h]
theorem ovl18 (W : World) (vb b o lb cb : Nat) (cs cur : Array Value) (hv : W.heap[vb]? = some (.cells cs 40 (0, 0))) (hb : W.heap[b]? = some (.cells cur 40 (0, 0))) (hc : cur.size ≠ 0) (hne : vb ≠ b) :
    (callFunc 114 #[.slice (some ⟨vb, 0, none⟩) 1 1, .slice (some ⟨b, o, none⟩) lb cb]).run Tryd.prog W = .ok (.value (.bool false)) W := by
  rw [run_callFunc_extern Tryd.func114 (by kernel_rfl) (by kernel_rfl) (by kernel_rfl) (e := Extern.SlicesOverlaps.overlaps #[36, 36] #[4]) (by kernel_rfl),
    Lib.run_overlaps_apart W 36 4 40 Tryd.underlying36 18 size18 ⟨vb, 0, none⟩ ⟨b, o, none⟩ 1 1 lb cb hne 40 40 _ _ (blk_shape hv).1 (blk_shape hb).1 hc ((blk_shape hv).2 0) ((blk_shape hv).2 _)]
  rfl
/-- what comes of putting k in at i -/
theorem put_cells {L A B C : List Value} {a c : Nat} (hA : A.length = a) (hB : B.length = 18) (hC : C.length = c) (hL : L.take a = A) (hs : a + 18 + c ≤ L.length) :
    (((L.take (a + 18) ++ C ++ L.drop (a + 18 + C.length)).take a ++ B ++ (L.take (a + 18) ++ C ++ L.drop (a + 18 + C.length)).drop (a + B.length)).take (a + 18 + c)) = A ++ B ++ C := by
  have h1 : (L.take (a + 18)).length = a + 18 := by rw [List.length_take]; omega
  have e1 : (L.take (a + 18) ++ C ++ L.drop (a + 18 + C.length)).take a = A := by
    rw [List.append_assoc, List.take_append_of_le_length (by omega), List.take_take, ← hL]; congr 1; omega
  have e2 : (L.take (a + 18) ++ C ++ L.drop (a + 18 + C.length)).drop (a + B.length) = C ++ L.drop (a + 18 + C.length) := by
    rw [hB, List.append_assoc]; exact List.drop_left' h1
  rw [e1, e2, ← List.append_assoc]
  exact List.take_left' (by rw [List.length_append, List.length_append, hA, hB, hC])
theorem put_cells2 {L A B C : List Value} {a c : Nat} (hA : A.length = a) (hB : B.length = 18) (hC : C.length = c) (hL : L.take a = A) (hs : a + 18 + c ≤ L.length) :
    (((L.take a ++ B ++ L.drop (a + B.length)).take (a + 18) ++ C ++ (L.take a ++ B ++ L.drop (a + B.length)).drop (a + 18 + C.length)).take (a + 18 + c)) = A ++ B ++ C := by
  have e1 : (L.take a ++ B ++ L.drop (a + B.length)).take (a + 18) = A ++ B := by
    rw [hL]; exact List.take_left' (by rw [List.length_append, hA, hB])
  rw [e1]
  exact List.take_left' (by rw [List.length_append, List.length_append, hA, hB, hC])
/-- a row with a packet in between -/
def InR (base : Nat) (v : Value) (st : List Pk) (w : World) (e : Ending) (w' : World) : Prop := ∃ v', e = .returned v' ∧ Og 18 pkC 40 base w' v' st ∧ w.grownBy w' v.ownBlock
set_option maxHeartbeats 12800000 in
theorem insert_c (base : Nat) (v : Value) (ls : List Pk) (i : Nat) (k : Pk) (vb : Nat) (w : World) (h : Og 18 pkC 40 base w v ls) (hi : i ≤ ls.length) (hk : Blk w vb (pkA k) 40) (hne : v.ownBlock ≠ some vb) (hl : ls.length ≤ 1048576) (hbase : base ≤ w.heap.size) :
    Calls Tryd.prog 106 #[v, .int .i64 (i : Int), .slice (some ⟨vb, 0, none⟩) 1 1] w (InR base v (ls.take i ++ k :: ls.drop i) w) := by
  have HO : Hid (Og 18 pkC 40 base w v ls) := h
  have HK : Hid (Blk w vb (pkA k) 40) := hk
  obtain ⟨a, cap, rfl, hc1, hc2, hc3⟩ := own_form h
  by_cases hin : i = ls.length
  · obtain ⟨v', w', hr, ho', hg'⟩ := run_app_end w 36 base _ ls k vb h hk hl hbase
    have HF : Hid (Og 18 pkC 40 base w' v' (ls.take i ++ k :: ls.drop i) ∧ w.grownBy w' (Value.slice a ls.length cap).ownBlock) := ⟨by rw [hin, List.take_length, List.drop_length]; exact ho', hg'⟩
    have hs1 := sl92 w a ls.length cap i (i : Int) rfl hi
    obtain ⟨x, hx⟩ : ∃ x, sliced a i ls.length cap 18 = x := ⟨_, rfl⟩
    rw [hx] at hs1
    have e1 : ((i : Int) == (ls.length : Int)) = true := by rw [hin]; simp
    have e2 : ((1 : Int) == 0) = false := rfl
    have hrT : ∀ ty, ∃ v'' w'', (Builtin.append_ #[92, 36] ty #[.slice a ls.length cap, .slice (some ⟨vb, 0, none⟩) 1 1]).run Tryd.prog w = .ok v'' w'' ∧ Og 18 pkC 40 base w'' v'' (ls.take i ++ k :: ls.drop i) ∧ w.grownBy w'' (Value.slice a ls.length cap).ownBlock := fun ty => by
      obtain ⟨v', w', hr, ho', hg'⟩ := run_app_end w ty base _ ls k vb h hk hl hbase
      exact ⟨v', w', hr, by rw [hin, List.take_length, List.drop_length]; exact ho', hg'⟩
    obtain ⟨v2, w2, hr2, ho2, hg2⟩ := hrT 92
    have HG : Hid (Og 18 pkC 40 base w2 v2 (ls.take i ++ k :: ls.drop i) ∧ w.grownBy w2 (Value.slice a ls.length cap).ownBlock) := ⟨ho2, hg2⟩
    clear hr ho' hg' HF hrT ho2 hg2 hx hin hc3 h hk
    go_enter Tryd.func106, Tryd.ntmps106
    go_wp2_with (at_builtin; refine wp_app_run w rfl _ _ 92 36 rfl _ _ rfl rfl hr2 ?_)
    go_wp2
    go_ret
    exact ⟨v2, rfl, HG.out.1, HG.out.2⟩
  have hlt : i < ls.length := by omega
  rcases hc3 with hc3 | ⟨b, rfl⟩
  · omega
  have hbv : vb ≠ b := fun e => hne (by rw [e]; rfl)
  obtain ⟨b', cap', cur, hv', hbg, hg, hnc, hcm, hcs, htake⟩ : ∃ b' cap' cur, Value.slice (some ⟨b, 0, none⟩) ls.length cap = .slice (some ⟨b', 0, none⟩) ls.length cap' ∧ base ≤ b' ∧ w.heap[b']? = some (.cells cur 40 (0, 0)) ∧ ls.length ≤ cap' ∧ cap' ≤ maxLen ∧ cur.size = cap' * 18 ∧ cur.toList.take (ls.length * 18) = F18 ls := by
    rcases h.2 with ⟨e, h0⟩ | ⟨g, cp, cur, e, h1, h2, h3, h4, h5, h6⟩
    · cases e
    · exact ⟨g, cp, cur, e, h1, h2, h3, h4, h5, h6⟩
  injection hv' with e1 _ e3
  injection e1 with e1
  injection e1 with e1
  subst e1; subst e3
  obtain ⟨n, hn⟩ : ∃ n, ls.length = n := ⟨_, rfl⟩
  have hA : (F18 (ls.take i)).length = i * 18 := by rw [F18_len, List.length_take]; congr 1; omega
  have hC : (F18 (ls.drop i)).length = (n - i) * 18 := by rw [F18_len, List.length_drop, hn]
  have hsplit : F18 ls = F18 (ls.take i) ++ F18 (ls.drop i) := by rw [← F18_app, List.take_append_drop]
  have hres : (ls.take i ++ k :: ls.drop i).flatMap pkC = F18 (ls.take i) ++ pkC k ++ F18 (ls.drop i) := by rw [List.flatMap_append, List.flatMap_cons, ← List.append_assoc]
  have hresl : (ls.take i ++ k :: ls.drop i).length = n + 1 := by rw [List.length_append, List.length_take, List.length_cons, List.length_drop]; omega
  have hLt : cur.toList.take (i * 18) = F18 (ls.take i) := by
    have h1 : cur.toList.take (i * 18) = (cur.toList.take (ls.length * 18)).take (i * 18) := by rw [List.take_take]; congr 1; omega
    rw [h1, htake, hsplit]; exact List.take_left' hA
  have hsrcD : ∀ (W : World), W.heap[b]? = some (.cells cur 40 (0, 0)) → ∀ j u, (F18 (ls.drop i))[j]? = some u → W.cell? ((⟨b, i * 18, none⟩ : Addr).add j) = some u := fun W hW j u hj => by
    rw [add_plain, (show Blk W b cur 40 from hW).cell]
    have hjl : j < (F18 (ls.drop i)).length := (List.getElem?_eq_some_iff.1 hj).1
    have : (F18 ls)[i * 18 + j]? = some u := by rw [hsplit, List.getElem?_append_right (by omega), hA, Nat.add_sub_cancel_left]; exact hj
    rw [← htake, List.getElem?_take] at this
    split at this
    · rw [← Array.getElem?_toList]; exact this
    · cases this
  have hsrcK : ∀ (W : World), Blk W vb (pkA k) 40 → ∀ j u, (pkC k)[j]? = some u → W.cell? ((⟨vb, 0, none⟩ : Addr).add j) = some u := fun W hW j u hj => by
    rw [add_plain, Nat.zero_add, hW.cell j]; simpa using hj
  have HA := hA
  have e1 : ((i : Int) == (n : Int)) = false := by rw [beq_eq_false_iff_ne]; omega
  have e2 : ((1 : Int) == 0) = false := rfl
  by_cases hroom : n + 1 ≤ cap
  case pos =>
    have hs1 := sl92 w (some ⟨b, 0, none⟩) n cap i (i : Int) rfl (by omega)
    rw [sliced_at b i n cap (by omega)] at hs1
    have hs2 : ∀ W, (Instr.slice 92 (.slice (some ⟨b, 0, none⟩) n cap) none (some (.int .i64 ((n : Int) + 1))) none).run Tryd.prog W = .ok (.slice (some ⟨b, 0, none⟩) (n + 1) cap) W := fun W => by
      rw [sh92 W _ n cap (n + 1) _ (by omega) hroom, sliced_0]
    have hs3 : ∀ W, (Instr.slice 92 (.slice (some ⟨b, 0, none⟩) (n + 1) cap) (some (.int .i64 ((i : Int) + 1))) none none).run Tryd.prog W = .ok (.slice (some ⟨b, (i + 1) * 18, none⟩) (n - i) (cap - (i + 1))) W := fun W => by
      rw [sl92 W _ (n + 1) cap (i + 1) _ (by omega) (by omega), sliced_at b (i + 1) (n + 1) cap (by omega), show n + 1 - (i + 1) = n - i by omega]
    have hs4 : ∀ W, (Instr.slice 92 (.slice (some ⟨b, 0, none⟩) (n + 1) cap) (some (.int .i64 (i : Int))) none none).run Tryd.prog W = .ok (.slice (some ⟨b, i * 18, none⟩) (n + 1 - i) (cap - i)) W := fun W => by
      rw [sl92 W _ (n + 1) cap i _ rfl (by omega), sliced_at b i (n + 1) cap (by omega)]
    have hov := ovl18 w vb b ((i + 1) * 18) (n - i) (cap - (i + 1)) (pkA k) cur hk hg (by rw [hcs]; omega) hbv
    obtain ⟨L1, hL1⟩ : ∃ L1, cur.toList.take (i * 18 + 18) ++ F18 (ls.drop i) ++ cur.toList.drop (i * 18 + 18 + (F18 (ls.drop i)).length) = L1 := ⟨_, rfl⟩
    have hL1l : L1.length = cap * 18 := by
      rw [← hL1, List.length_append, List.length_append, List.length_take, List.length_drop, Array.length_toList, hC, hcs]; omega
    obtain ⟨W1, hW1⟩ : ∃ W, w.drew.setRow b L1.toArray = W := ⟨_, rfl⟩
    have hcp1 : ∀ ty, (Builtin.copy_ #[92, 92] ty #[.slice (some ⟨b, (i + 1) * 18, none⟩) (n - i) (cap - (i + 1)), .slice (some ⟨b, i * 18, none⟩) (n + 1 - i) (cap - i)]).run Tryd.prog w.drew = .ok (goInt ((n - i : Nat) : Int)) W1 := fun ty => by
      have hm : n - i = Nat.min (n + 1 - i) (n - i) := (Nat.min_eq_right (by omega)).symm
      have := run_copy18 w.drew 92 92 ty b ((i + 1) * 18) (n - i) (cap - (i + 1)) ⟨b, i * 18, none⟩ (n + 1 - i) (cap - i) cur (F18 (ls.drop i)) Tryd.underlying92 hg (n - i) hm hC (hsrcD w.drew hg) (by rw [hC, hcs]; omega) (F18_one _)
      rw [this, ← hW1, ← hL1]
      rw [show (i + 1) * 18 = i * 18 + 18 by omega]
    have hg1 : W1.heap[b]? = some (.cells L1.toArray 40 (0, 0)) := by rw [← hW1]; exact setRow_heap w.drew b cur _ 40 _ hg
    have hk1 : Blk W1 vb (pkA k) 40 := by rw [← hW1]; exact (setRow_other w.drew b vb _ hbv).trans hk
    obtain ⟨W2, hW2⟩ : ∃ W, W1.setRow b (L1.take (i * 18) ++ pkC k ++ L1.drop (i * 18 + (pkC k).length)).toArray = W := ⟨_, rfl⟩
    have hcp2 : ∀ ty, (Builtin.copy_ #[92, 36] ty #[.slice (some ⟨b, i * 18, none⟩) (n + 1 - i) (cap - i), .slice (some ⟨vb, 0, none⟩) 1 1]).run Tryd.prog W1 = .ok (goInt ((1 : Nat) : Int)) W2 := fun ty => by
      have hm : 1 = Nat.min 1 (n + 1 - i) := (Nat.min_eq_left (by omega)).symm
      have := run_copy18 W1 92 36 ty b (i * 18) (n + 1 - i) (cap - i) ⟨vb, 0, none⟩ 1 1 L1.toArray (pkC k) Tryd.underlying92 hg1 1 hm (by rw [pkC_len]) (hsrcK W1 hk1) (by rw [pkC_len, List.size_toArray, hL1l]; omega) (pkC_one' k)
      rw [this, ← hW2]
    have HF : Hid (Og 18 pkC 40 base W2 (.slice (some ⟨b, 0, none⟩) (n + 1) cap) (ls.take i ++ k :: ls.drop i) ∧ w.grownBy W2 (some b)) := by
      refine ⟨?_, ?_⟩
      · unfold Og
        rw [hres, hresl]
        refine ⟨by rw [List.length_append, List.length_append, hA, pkC_len, hC]; omega, .inr ⟨b, cap, _, rfl, hbg, by rw [← hW2]; exact setRow_heap W1 b _ _ 40 _ hg1, hroom, hcm, ?_, ?_⟩⟩
        · rw [List.size_toArray, List.length_append, List.length_append, List.length_take, List.length_drop, pkC_len, hL1l]; omega
        · rw [List.toList_toArray, ← hL1, show (n + 1) * 18 = i * 18 + 18 + (n - i) * 18 by omega]
          exact put_cells hA (pkC_len k) hC hLt (by rw [Array.length_toList, hcs]; omega)
      · rw [← hW2, ← hW1]
        exact ⟨rfl, rfl, rfl, by simp, fun j _ hj => (setRow_other _ b j _ (fun e => hj (by rw [e]))).trans (setRow_other w.drew b j _ (fun e => hj (by rw [e])))⟩
    have HB : Hid (n + 1 ≤ cap) := hroom
    have hg1 : ((n : Int) + 1 ≤ (cap : Int)) := by omega
    have hgt : decide ((cap : Int) < (n : Int) + 1) = false := decide_eq_false (by omega)
    have hgt' : ((cap : Int) < (n : Int) + 1) = False := eq_false (by omega)
    have hcb : (cap : Int) ≤ 9223372036854775807 := by unfold maxLen at hcm; omega
    rw [hn]
    clear hL1 hW1 hW2 hk1 hsplit hres hresl hLt hsrcD hsrcK htake hg h hk hA HA hC hcs hL1l
    go_enter Tryd.func106, Tryd.ntmps106
    go_wp2_with (simp only [hov])
    have ne1 : Nonempty (At (fun _ : World => True)) := ⟨⟨w, trivial⟩⟩
    refine region_mixT [true, true, true, true, true, true, true, true, false] 8 0 (fun _ => True) (by kernel_rfl) rfl (by kernel_rfl) (fun _ _ _ _ _ h => h) trivial ?_
    simp only [selT, selF]
    try simp only [Act.put]
    repeat (go_big_quiet_step (fail))
    refine wpQuiet_nil ?_
    refine tail_end ?_
    refine wp_copy_run _ rfl _ _ 92 92 rfl _ _ rfl rfl (hcp1 _) ?_
    refine wpList_nil ?_
    clear hcp1 ne1
    go_wp2_with (at_builtin; refine wp_copy_run _ rfl _ _ 92 36 rfl _ _ rfl rfl (hcp2 _) ?_)
    go_wp2
    go_ret
    exact ⟨_, rfl, HF.out.1, HF.out.2⟩
  case neg =>
    obtain rfl : cap = n := by omega
    have hs1 : ∀ W, (Instr.slice 92 (.slice (some ⟨b, 0, none⟩) cap cap) (some (.int .i64 (i : Int))) none none).run Tryd.prog W = .ok (.slice (some ⟨b, i * 18, none⟩) (cap - i) (cap - i)) W := fun W => by
      rw [sl92 W _ cap cap i _ rfl (by omega), sliced_at b i cap cap (by omega)]
    have hs5 : ∀ W, (Instr.slice 92 (.slice (some ⟨b, 0, none⟩) cap cap) none (some (.int .i64 (i : Int))) none).run Tryd.prog W = .ok (.slice (some ⟨b, 0, none⟩) i cap) W := fun W => by
      rw [sh92 W _ cap cap i _ rfl (by omega), sliced_0]
    have holds : ∀ j u, (F18 (ls.take i))[j]? = some u → w.cell? ((⟨b, 0, none⟩ : Addr).add j) = some u := fun j u hj => by
      rw [add_plain, Nat.zero_add, (show Blk w b cur 40 from hg).cell]
      rw [← hLt, List.getElem?_take] at hj
      split at hj
      · rw [← Array.getElem?_toList]; exact hj
      · cases hj
    obtain ⟨Z, c2, hmk, hc2, hc2m, hLl⟩ := run_make18 w 92 b i cap (cap + 1 - i) (F18 (ls.take i)) hA holds (by omega) (by omega) (by omega) (by omega)
    rw [show i + (cap + 1 - i) = cap + 1 by omega] at hmk hc2
    rw [show ((cap + 1 - i : Nat) : Int) = (cap : Int) + 1 - (i : Int) by omega] at hmk
    obtain ⟨X, hX⟩ : ∃ X, w.heap.size = X := ⟨_, rfl⟩
    obtain ⟨L, hL⟩ : ∃ L, F18 (ls.take i) ++ Z = L := ⟨_, rfl⟩
    obtain ⟨W1, hW1⟩ : ∃ W, w.drew.alloc (.cells L.toArray 40) = W := ⟨_, rfl⟩
    have hLt2 : L.take (i * 18) = F18 (ls.take i) := by rw [← hL]; exact List.take_left' hA
    rw [hL, hW1, hX] at hmk
    rw [hL] at hLl
    have hg1 : W1.heap[X]? = some (.cells L.toArray 40 (0, 0)) := by rw [← hW1, ← hX]; exact heap_alloc_new w.drew _
    have hbX : b < X := by rw [← hX]; exact (show Blk w b cur 40 from hg).lt
    have hvX : vb < X := by rw [← hX]; exact hk.lt
    have hold1 : ∀ j, j < X → W1.heap[j]? = w.heap[j]? := fun j hj => by rw [← hW1]; exact heap_alloc_old w.drew _ (by rw [← hX] at hj; exact hj)
    have hs6 : ∀ W, (Instr.slice 92 (.slice (some ⟨X, 0, none⟩) (cap + 1) c2) (some (.int .i64 (i : Int))) none none).run Tryd.prog W = .ok (.slice (some ⟨X, i * 18, none⟩) (cap + 1 - i) (c2 - i)) W := fun W => by
      rw [sl92 W _ (cap + 1) c2 i _ rfl (by omega), sliced_at X i (cap + 1) c2 (by omega)]
    have hs7 : ∀ W, (Instr.slice 92 (.slice (some ⟨X, 0, none⟩) (cap + 1) c2) (some (.int .i64 ((i : Int) + 1))) none none).run Tryd.prog W = .ok (.slice (some ⟨X, (i + 1) * 18, none⟩) (cap - i) (c2 - (i + 1))) W := fun W => by
      rw [sl92 W _ (cap + 1) c2 (i + 1) _ (by omega) (by omega), sliced_at X (i + 1) (cap + 1) c2 (by omega), show cap + 1 - (i + 1) = cap - i by omega]
    obtain ⟨L1, hL1⟩ : ∃ L1, L.take (i * 18) ++ pkC k ++ L.drop (i * 18 + (pkC k).length) = L1 := ⟨_, rfl⟩
    have hL1l : L1.length = c2 * 18 := by rw [← hL1, List.length_append, List.length_append, List.length_take, List.length_drop, pkC_len, hLl]; omega
    obtain ⟨W2, hW2⟩ : ∃ W, W1.setRow X L1.toArray = W := ⟨_, rfl⟩
    have hk1 : Blk W1 vb (pkA k) 40 := (hold1 vb hvX).trans hk
    have hcp1 : ∀ ty, (Builtin.copy_ #[92, 36] ty #[.slice (some ⟨X, i * 18, none⟩) (cap + 1 - i) (c2 - i), .slice (some ⟨vb, 0, none⟩) 1 1]).run Tryd.prog W1 = .ok (goInt ((1 : Nat) : Int)) W2 := fun ty => by
      have hm : 1 = Nat.min 1 (cap + 1 - i) := (Nat.min_eq_left (by omega)).symm
      have := run_copy18 W1 92 36 ty X (i * 18) (cap + 1 - i) (c2 - i) ⟨vb, 0, none⟩ 1 1 L.toArray (pkC k) Tryd.underlying92 hg1 1 hm (by rw [pkC_len]) (hsrcK W1 hk1) (by rw [pkC_len, List.size_toArray, hLl]; omega) (pkC_one' k)
      rw [this, ← hW2, ← hL1]
    have hg2 : W2.heap[X]? = some (.cells L1.toArray 40 (0, 0)) := by rw [← hW2]; exact setRow_heap W1 X _ _ 40 _ hg1
    have hgb2 : W2.drew.heap[b]? = some (.cells cur 40 (0, 0)) := by rw [← hW2]; exact (setRow_other W1 X b _ (by omega)).trans ((hold1 b hbX).trans hg)
    obtain ⟨L2, hL2⟩ : ∃ L2, L1.take (i * 18 + 18) ++ F18 (ls.drop i) ++ L1.drop (i * 18 + 18 + (F18 (ls.drop i)).length) = L2 := ⟨_, rfl⟩
    obtain ⟨W3, hW3⟩ : ∃ W, W2.drew.setRow X L2.toArray = W := ⟨_, rfl⟩
    have hcp2 : ∀ ty, (Builtin.copy_ #[92, 92] ty #[.slice (some ⟨X, (i + 1) * 18, none⟩) (cap - i) (c2 - (i + 1)), .slice (some ⟨b, i * 18, none⟩) (cap - i) (cap - i)]).run Tryd.prog W2.drew = .ok (goInt ((cap - i : Nat) : Int)) W3 := fun ty => by
      have hm : cap - i = Nat.min (cap - i) (cap - i) := (Nat.min_self _).symm
      have := run_copy18 W2.drew 92 92 ty X ((i + 1) * 18) (cap - i) (c2 - (i + 1)) ⟨b, i * 18, none⟩ (cap - i) (cap - i) L1.toArray (F18 (ls.drop i)) Tryd.underlying92 hg2 (cap - i) hm hC (hsrcD W2.drew hgb2) (by rw [hC, List.size_toArray, hL1l]; omega) (F18_one _)
      rw [this, ← hW3, ← hL2]
      rw [show (i + 1) * 18 = i * 18 + 18 by omega]
    have HF : Hid (Og 18 pkC 40 base W3 (.slice (some ⟨X, 0, none⟩) (cap + 1) c2) (ls.take i ++ k :: ls.drop i) ∧ w.grownBy W3 (some b)) := by
      refine ⟨?_, ?_⟩
      · unfold Og
        rw [hres, hresl]
        refine ⟨by rw [List.length_append, List.length_append, hA, pkC_len, hC]; omega, .inr ⟨X, c2, _, rfl, by rw [← hX]; exact hbase, by rw [← hW3]; exact setRow_heap W2.drew X _ _ 40 _ hg2, hc2, hc2m, ?_, ?_⟩⟩
        · rw [← hL2, List.size_toArray, List.length_append, List.length_append, List.length_take, List.length_drop, hC, hL1l]; omega
        · rw [List.toList_toArray, ← hL2, ← hL1, show (cap + 1) * 18 = i * 18 + 18 + (cap - i) * 18 by omega]
          exact put_cells2 hA (pkC_len k) hC hLt2 (by rw [hLl]; omega)
      · have hs : ∀ j, j < X → W3.heap[j]? = w.heap[j]? := fun j hj => by
          rw [← hW3, ← hW2]
          exact (setRow_other _ X j _ (by omega)).trans ((setRow_other W1 X j _ (by omega)).trans (hold1 j hj))
        refine ⟨?_, ?_, ?_, ?_, fun j hj _ => hs j (by rw [← hX]; exact hj)⟩
        · rw [← hW3, ← hW2, ← hW1]; rfl
        · rw [← hW3, ← hW2, ← hW1]; rfl
        · rw [← hW3, ← hW2, ← hW1]; rfl
        · rw [← hW3, ← hW2, ← hW1]; simp
    have hgt : decide ((cap : Int) < (cap : Int) + 1) = true := decide_eq_true (by omega)
    have hgt' : (cap : Int) < (cap : Int) + 1 := by omega
    have hcb : (cap : Int) ≤ 1048576 := by omega
    rw [hn]
    clear hL1 hW1 hW2 hk1 hsplit hres hresl hLt hsrcD hsrcK htake hg h hk hA HA hC hcs hL1l holds hL hLt2 hg1 hold1 hg2 hgb2 hL2 hW3 hLl hroom hn
    go_enter Tryd.func106, Tryd.ntmps106
    go_wp2_with (at_builtin; refine wp_app_run w rfl _ _ 92 3 rfl _ _ rfl rfl hmk ?_)
    clear hmk
    go_wp2_with (at_builtin; refine wp_copy_run _ rfl _ _ 92 36 rfl _ _ rfl rfl (hcp1 _) ?_)
    go_upto_region 11 with fail
    have ne1 : Nonempty (At (fun _ : World => True)) := ⟨⟨w, trivial⟩⟩
    refine region_mixT [true, true, true, true, true, true, true, true, false] 8 0 (fun _ => True) (by kernel_rfl) rfl (by kernel_rfl) (fun _ _ _ _ _ h => h) trivial ?_
    simp only [selT, selF]
    try simp only [Act.put]
    repeat (go_big_quiet_step (fail))
    refine wpQuiet_nil ?_
    refine tail_end ?_
    refine wp_copy_run _ rfl _ _ 92 92 rfl _ _ rfl rfl (hcp2 _) ?_
    refine wpList_nil ?_
    clear hcp1 hcp2 ne1
    go_wp2
    go_ret
    exact ⟨_, rfl, HF.out.1, HF.out.2⟩

end Go.Proofs.YtkjfcebdjnclaaaDoor

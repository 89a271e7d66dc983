/- What the searches answer, as values; which pairs need a move; no condition. -/
import Derived.Test.YtikhfeafbckjlaaDoorFMids
import Derived.Test.YtikhfeafbckjlaaDoorFPathT
import Derived.Test.YtikhfeafbckjlaaDoorFL3
import Derived.Test.YtikhfeafbckjlaaDoorFEq
namespace Go.Proofs.YtikhfeafbckjlaaDoor
open Go.RowKit Go.ChangeShapes Go.WideShapes Go.ChangeAt
set_option linter.unusedVariables false
set_option linter.unusedSimpArgs false
set_option maxRecDepth 8000
/-- the first path that is as asked, or the one that is none -/
def fstP (q : Int × Int × Int → Bool) (ps : Tri) : Int × Int × Int := (ps.find? q).getD (-1, -1, -1)
/-- the first place that is as asked, or -1 -/
def ixV (q : Int × Int × Int → Bool) (ps : Tri) : Int := match ps.findIdx? q with | some k => (k : Int) | none => -1
theorem Fst.find {q : Int × Int × Int → Bool} {ps : Tri} {k : Nat} (h : Fst q ps k) : ps.find? q = some (ps[k]'h.1) := by
  obtain ⟨h1, h2, h3⟩ := h
  rw [List.find?_eq_some_iff_getElem]
  exact ⟨h2, k, h1, rfl, fun j hj => by simp [h3 j hj]⟩
theorem Fst.findIdx {q : Int × Int × Int → Bool} {ps : Tri} {k : Nat} (h : Fst q ps k) : ps.findIdx? q = some k := by
  obtain ⟨h1, h2, h3⟩ := h
  rw [List.findIdx?_eq_some_iff_getElem]
  exact ⟨h1, h2, fun j hj => by simp [h3 j hj]⟩
theorem None3.find {q : Int × Int × Int → Bool} {ps : Tri} (h : None3 q ps) : ps.find? q = none := by
  rw [List.find?_eq_none]
  intro x hx
  obtain ⟨i, hi, rfl⟩ := List.getElem_of_mem hx
  simp [h i hi]
theorem None3.findIdx {q : Int × Int × Int → Bool} {ps : Tri} (h : None3 q ps) : ps.findIdx? q = none := by
  rw [List.findIdx?_eq_none_iff]
  intro x hx
  obtain ⟨i, hi, rfl⟩ := List.getElem_of_mem hx
  exact h i hi
theorem PaE.val {q : Int × Int × Int → Bool} {ps : Tri} {w w' : World} {e : Ending} (h : PaE q ps w e w') : e = .returned (.agg (P3 (fstP q ps).1 (fstP q ps).2.1 (fstP q ps).2.2)) ∧ Below w.heap.size w w' := by
  obtain ⟨x, y, z, rfl, h, hb⟩ := h
  refine ⟨?_, hb⟩
  have e : fstP q ps = (x, y, z) := by
    rcases h with ⟨k, hk, hx⟩ | ⟨hn, hx⟩
    · rw [fstP, hk.find]
      rw [List.getElem?_eq_getElem hk.1] at hx
      simpa using hx
    · rw [fstP, hn.find]; simp [hx]
  rw [e]
theorem IxR.val {q : Int × Int × Int → Bool} {ps : Tri} {r : Int} (h : IxR q ps r) : r = ixV q ps := by
  rcases h with ⟨k, rfl, hk⟩ | ⟨rfl, hn⟩
  · rw [ixV, hk.findIdx]
  · rw [ixV, hn.findIdx]
theorem IxE.val {q : Int × Int × Int → Bool} {ps : Tri} {w w' : World} {e : Ending} (h : IxE q ps w e w') : e = .returned (.int .i64 (ixV q ps)) ∧ Below w.heap.size w w' := by
  obtain ⟨r, rfl, hr, hb⟩ := h
  exact ⟨by rw [hr.val], hb⟩
theorem ixV_neg (q : Int × Int × Int → Bool) (ps : Tri) : ixV q ps < 0 ↔ ps.any q = false := by
  rw [ixV]
  cases h : ps.findIdx? q with
  | none =>
    rw [List.findIdx?_eq_none_iff] at h
    simp only [List.any_eq_false]
    exact ⟨fun _ x hx => by simp [h x hx], fun _ => by decide⟩
  | some k =>
    rw [List.findIdx?_eq_some_iff_getElem] at h
    obtain ⟨h1, h2, -⟩ := h
    constructor
    · intro h; have : ¬ ((k : Int) < 0) := by omega
      exact absurd h this
    · intro h; rw [List.any_eq_false] at h
      exact absurd h2 (h _ (List.getElem_mem h1))
theorem fstP_none {q : Int × Int × Int → Bool} {ps : Tri} (hR : InR ps) : decide (fstP q ps = (-1, -1, -1)) = !ps.any q := by
  rw [fstP]
  cases h : ps.find? q with
  | none =>
    have : ps.any q = false := by
      rw [List.any_eq_false]; intro x hx; have := List.find?_eq_none.1 h x hx; simpa using this
    simp [this]
  | some x =>
    have h1 := List.find?_some h
    have h2 := List.mem_of_find?_eq_some h
    have h3 := hR x h2
    have : ps.any q = true := List.any_eq_true.2 ⟨x, h2, h1⟩
    rw [this]
    simp only [Option.getD_some, Bool.not_true, decide_eq_false_iff_not]
    intro e; rw [e] at h3
    have := h3.1.1
    dsimp only at this
    omega
/-- the least that is free below m, or -1 -/
def lfV (u m : Nat) : Int := match (List.range m).find? (fun k => !u.testBit k) with | some k => (k : Int) | none => -1
theorem LfR.val {u m : Nat} {r : Int} (h : LfR u m r) : r = lfV u m := by
  rcases h with ⟨k, rfl, hk, h1, h2⟩ | ⟨rfl, h1⟩
  · have : (List.range m).find? (fun k => !u.testBit k) = some k := by
      rw [List.find?_eq_some_iff_getElem]
      exact ⟨by simp [h1], k, by simpa using hk, by simp, fun j hj => by simp [h2 j hj]⟩
    rw [lfV, this]
  · have : (List.range m).find? (fun k => !u.testBit k) = none := by
      rw [List.find?_eq_none]; intro k hk; simp [h1 k (List.mem_range.1 hk)]
    rw [lfV, this]
theorem lfV_none (u m : Nat) : (lfV u m == -1) = (List.range m).all fun k => u.testBit k := by
  rw [lfV]
  cases h : (List.range m).find? (fun k => !u.testBit k) with
  | none =>
    have : ((List.range m).all fun k => u.testBit k) = true := by
      rw [List.all_eq_true]; intro k hk; have := List.find?_eq_none.1 h k hk; simpa using this
    rw [this]; rfl
  | some k =>
    have h1 := List.find?_some h
    have h2 := List.mem_of_find?_eq_some h
    have : ((List.range m).all fun k => u.testBit k) = false := by
      rw [List.all_eq_false]; exact ⟨k, h2, by simpa using h1⟩
    rw [this]
    have : ((k : Int) == -1) = false := by simp <;> omega
    exact this
theorem pathFrom_v (s p m : Int) (v : Value) (ps : Tri) (f : Int) (w : World) (h : Rt w v ps) (hN : NoP w) :
   Calls Tryd.prog 38 #[.agg (F4 s p m v), .int .i64 f] w fun e w' => e = .returned (.agg (P3 (fstP (fun x => x.1 == f) ps).1 (fstP (fun x => x.1 == f) ps).2.1 (fstP (fun x => x.1 == f) ps).2.2)) ∧ Below w.heap.size w w' :=
  (pathFrom_c s p m v ps f w h hN).mono fun _ _ h => h.val
theorem pathTo_v (s p m : Int) (v : Value) (ps : Tri) (f : Int) (w : World) (h : Rt w v ps) (hN : NoP w) :
   Calls Tryd.prog 39 #[.agg (F4 s p m v), .int .i64 f] w fun e w' => e = .returned (.agg (P3 (fstP (fun x => x.2.1 == f) ps).1 (fstP (fun x => x.2.1 == f) ps).2.1 (fstP (fun x => x.2.1 == f) ps).2.2)) ∧ Below w.heap.size w w' :=
  (pathTo_c s p m v ps f w h hN).mono fun _ _ h => h.val
theorem leastFree_v (u : Nat) (hu : u < 65536) (s p : Int) (m : Nat) (v : Value) (hm : m ≤ 16) (w : World) (hT : Tab w) : Calls Tryd.prog 41 #[.int .u16 u, .agg (F4 s p m v)] w fun e w' => e = .returned (.int .i64 (lfV u m)) ∧ Below w.heap.size w w' :=
  (leastFree_c u hu s p m v hm w hT).mono fun _ _ ⟨r, he, hr, hb⟩ => ⟨by rw [he, hr.val], hb⟩
theorem l3In_v (s p m side mid : Int) (v : Value) (ps : Tri) (w : World) (h : Rt w v ps) (hR : InR ps) (hp1 : 1 ≤ p) (hp4 : p ≤ 4) :
   Calls Tryd.prog 46 #[.agg (F4 s p m v), .int .i64 side, .int .i64 mid] w fun e w' => e = .returned (.int .i64 (ixV (inQ p side mid) ps)) ∧ Below w.heap.size w w' :=
  (l3In_c s p m side mid v ps w h hR hp1 hp4).mono fun _ _ h => h.val
theorem l3Out_v (s p m side mid : Int) (v : Value) (ps : Tri) (w : World) (h : Rt w v ps) (hR : InR ps) (hp1 : 1 ≤ p) (hp4 : p ≤ 4) :
   Calls Tryd.prog 47 #[.agg (F4 s p m v), .int .i64 side, .int .i64 mid] w fun e w' => e = .returned (.int .i64 (ixV (outQ p side mid) ps)) ∧ Below w.heap.size w w' :=
  (l3Out_c s p m side mid v ps w h hR hp1 hp4).mono fun _ _ h => h.val
theorem neqRun {o : Oper} {a : Act} (x y : Operand) (ho : o.op = .binOp .neq 35 x y 35) (p q r p' q' r' : Int) (hx : a.eval x = .agg (P3 p q r)) (hy : a.eval y = .agg (P3 p' q' r')) (w : World) :
    (execOp a.eval o).run Tryd.prog w = .ok (.value (.bool (!decide ((p, q, r) = (p', q', r'))))) w := by
  simp only [execOp, ho, hx, hy, Sem.run_bind, run_eqGuard_agg w _ _ _ _ _ _ guard35, Result.andThen_ok, run_neq_struct, eqRun, Sem.run_pure]
theorem quietNeq {o : Oper} {a : Act} {C : World → Prop} {K : Act → Prop} (x y : Operand) (ho : o.op = .binOp .neq 35 x y 35) (p q r p' q' r' : Int) (hx : a.eval x = .agg (P3 p q r)) (hy : a.eval y = .agg (P3 p' q' r'))
    (h : K (a.put o.dst (.bool (!decide ((p, q, r) = (p', q', r')))))) : o.quiet Tryd.prog a C K :=
  ⟨_, fun w _ => by unfold Oper.quietAt; rw [neqRun x y ho p q r p' q' r' hx hy w]; exact ⟨rfl, rfl⟩, h⟩
/-- does a pair need a move? -/
def midB (p : Int) (ps : Tri) (x y k : Nat) : Bool := ps.any (inQ p ((x : Int) / p) k) || ps.any (outQ p ((y : Int) / p) k)
def needB (p : Int) (m : Nat) (ps : Tri) (x y : Nat) : Bool := !(ps.any fun q => q.1 == (x : Int)) && (!(ps.any fun q => q.2.1 == (y : Int)) && (List.range m).all (midB p ps x y))
def needRow (p : Int) (m : Nat) (ps : Tri) (x j : Nat) : Tri := ((List.range j).filter (needB p m ps x)).map fun y : Nat => ((x : Int), (y : Int), (-1 : Int))
def needL (p : Int) (m : Nat) (ps : Tri) (n i : Nat) : Tri := (List.range i).flatMap fun x => needRow p m ps x n
theorem needRow_succ (p : Int) (m : Nat) (ps : Tri) (x j : Nat) : needRow p m ps x (j + 1) = if needB p m ps x j then needRow p m ps x j ++ [((x : Int), (j : Int), -1)] else needRow p m ps x j := by
  rw [needRow, List.range_succ, List.filter_append]
  by_cases h : needB p m ps x j
  · simp [h, needRow]
  · simp [h, needRow]
theorem needL_succ (p : Int) (m : Nat) (ps : Tri) (n i : Nat) : needL p m ps n (i + 1) = needL p m ps n i ++ needRow p m ps i n := by
  simp [needL, List.range_succ]
theorem needRow_len (p : Int) (m : Nat) (ps : Tri) (x j : Nat) : (needRow p m ps x j).length ≤ j := by
  rw [needRow, List.length_map]
  exact Nat.le_trans (List.length_filter_le _ _) (by simp)
theorem needL_len (p : Int) (m : Nat) (ps : Tri) (n : Nat) : ∀ i, (needL p m ps n i).length ≤ i * n
  | 0 => by simp [needL]
  | i + 1 => by
    have h1 := needL_len p m ps n i
    have h2 := needRow_len p m ps i n
    rw [needL_succ, List.length_append, Nat.add_mul]
    omega
def NeedsS (s p m : Int) (ps zs : Tri) : Prop := (¬ FOk s p m ps ∧ zs = []) ∨ (FOk s p m ps ∧ zs = needL p m.toNat ps (s * p).toNat (s * p).toNat)
theorem NeedsS.same {s p m : Int} {ps a b : Tri} (h : NeedsS s p m ps a) (h' : NeedsS s p m ps b) : a = b := by
  rcases h with ⟨h1, rfl⟩ | ⟨h1, rfl⟩ <;> rcases h' with ⟨g1, rfl⟩ | ⟨g1, rfl⟩
  · rfl
  · exact absurd g1 h1
  · exact absurd h1 g1
  · rfl
theorem NeedsS.len {s p m : Int} {ps a : Tri} (h : NeedsS s p m ps a) : a.length ≤ 576 := by
  rcases h with ⟨h1, rfl⟩ | ⟨h1, rfl⟩
  · simp
  · have hs := sides h1.1 h1.2.1
    have := needL_len p m.toNat ps (s * p).toNat (s * p).toNat
    have h24 : (s * p).toNat ≤ 24 := by omega
    have : (s * p).toNat * (s * p).toNat ≤ 24 * 24 := Nat.mul_le_mul h24 h24
    omega
/-- what is in use at two switches, bit by bit -/
theorem used_mid {p : Int} {ps : Tri} (h : ∀ x ∈ ps, 0 ≤ x.2.2) {x y : Nat} {kx ky : Nat} (hx : (x : Int) / p = kx) (hy : (y : Int) / p = ky) (k : Nat) :
    (usedOf (fun x => x.1 / p) ps kx ||| usedOf (fun x => x.2.1 / p) ps ky).testBit k = midB p ps x y k := by
  rw [Nat.testBit_or, midB]
  have e1 : (usedOf (fun x => x.1 / p) ps kx).testBit k = ps.any (inQ p ((x : Int) / p) k) := by
    rw [Bool.eq_iff_iff, usedOf_bit, List.any_eq_true]
    constructor
    · rintro ⟨q, hq, h1, h2⟩
      refine ⟨q, hq, ?_⟩
      have := h q hq
      simp only [inQ, hx, h1, Bool.and_eq_true, beq_iff_eq, true_and]; omega
    · rintro ⟨q, hq, h1⟩
      simp only [inQ, hx, Bool.and_eq_true, beq_iff_eq] at h1
      exact ⟨q, hq, h1.1, by omega⟩
  have e2 : (usedOf (fun x => x.2.1 / p) ps ky).testBit k = ps.any (outQ p ((y : Int) / p) k) := by
    rw [Bool.eq_iff_iff, usedOf_bit, List.any_eq_true]
    constructor
    · rintro ⟨q, hq, h1, h2⟩
      refine ⟨q, hq, ?_⟩
      have := h q hq
      simp only [outQ, hy, h1, Bool.and_eq_true, beq_iff_eq, true_and]; omega
    · rintro ⟨q, hq, h1⟩
      simp only [outQ, hy, Bool.and_eq_true, beq_iff_eq] at h1
      exact ⟨q, hq, h1.1, by omega⟩
  rw [e1, e2]
theorem FOk.mid0 {s p m : Int} {ps : Tri} (h : FOk s p m ps) : ∀ x ∈ ps, 0 ≤ x.2.2 ∧ x.2.2 < 16 := fun x hx => by
  obtain ⟨i, hi, rfl⟩ := List.getElem_of_mem hx
  have := (h.2.2.2 i hi hi).1.2.2
  have := h.2.2.1
  omega
end Go.Proofs.YtikhfeafbckjlaaDoor

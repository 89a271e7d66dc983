/- The rule for a statement whose order of evaluation is left open, for operations that are guarded too; arrays of sixteen bytes held against one another by the language's own comparison; no condition. -/
import Derived.Test.YtadhiddnjhjioaaReg
import Derived.Test.YtadhiddnjhjioaaCell
import Derived.ChangeKeysEq
import Derived.Laws.StructEq
import Derived.OwnWalk
namespace Go.Proofs.Ytadhiddnjhjioaa
open Go.RowKit
set_option linter.unusedVariables false
set_option linter.unusedSimpArgs false
/-- each operation of the list keeps J, where those that it waits for are done: run if it is wanted, else passed by -/
def StepAllG (P : Program) (ops : Array Oper) (Q : Exit → Act → World → Prop) (J : (Nat → Bool) → Act → World → Prop) : Nat → List Oper → Prop
  | _, [] => True
  | i, o :: rest => (∀ d a w, J d a w → d i = false → (∀ e ∈ o.after.toList, d e.on = true) →
      (Region.wanted o (yielded ops a.tmps) = true → o.wp P a w (J (doneSet d i)) Q) ∧ (Region.wanted o (yielded ops a.tmps) = false → J (doneSet d i) (a.put o.dst undef) w)) ∧ StepAllG P ops Q J (i + 1) rest
theorem stepAllG_at {P : Program} {ops : Array Oper} {Q : Exit → Act → World → Prop} {J : (Nat → Bool) → Act → World → Prop} : ∀ (l : List Oper) (k : Nat), StepAllG P ops Q J k l → ∀ (i : Nat) (o : Oper), l[i]? = some o →
    ∀ (d : Nat → Bool) (a : Act) (w : World), J d a w → d (k + i) = false → (∀ e ∈ o.after.toList, d e.on = true) →
      (Region.wanted o (yielded ops a.tmps) = true → o.wp P a w (J (doneSet d (k + i))) Q) ∧ (Region.wanted o (yielded ops a.tmps) = false → J (doneSet d (k + i)) (a.put o.dst undef) w)
  | [], _, _, i, o, h => by simp at h
  | o :: rest, k, hs, 0, o', h => by simp at h; subst h; exact hs.1
  | o :: rest, k, hs, i + 1, o', h => by
    have := stepAllG_at rest (k + 1) hs.2 i o' (by simpa using h)
    rwa [show k + 1 + i = k + (i + 1) by omega] at this
def orderOps (ops : Array Oper) : Bool := (List.range ops.size).all fun i => match ops[i]? with
  | some o => o.after.all fun e => decide (e.on < i) && Region.binds .any e
  | none => true
theorem region_invG {P : Program} {id : Nat} {ops : Array Oper} {Q : Exit → Act → World → Prop} {a : Act} {w : World} (hm : P.follows .mixedOrders = true) (hp : orderOps ops = true)
    (J : (Nat → Bool) → Act → World → Prop) (h0 : J (fun _ => false) a { w with drawn := w.drawn + 1 }) (hs : StepAllG P ops Q J 0 ops.toList)
    (hend : ∀ d a w, J d a w → (∀ i, i < ops.size → d i = true) → Q .normal a w) : (Code.region id ops true).wp P Q a w := by
  have hplain : ∀ i o, ops[i]? = some o → ∀ e ∈ o.after, e.on < i ∧ Region.binds .any e = true := by
    intro i o ho
    have hlt : i < ops.size := (Array.getElem?_eq_some_iff.1 ho).1
    have := (List.all_eq_true.1 hp) i (List.mem_range.2 hlt)
    simp only [ho, Bool.and_eq_true, Array.all_eq_true_iff_forall_mem, decide_eq_true_eq] at this
    exact this
  refine wp_region_any hm ?_
  have key : ∀ (fuel : Nat) (listed : Array Bool) (a : Act) (w : World), listed.size = ops.size → (listed.toList.count false ≤ fuel) → J (fun i => listed.getD i false) a w → wpAny P .any ops Q fuel listed a w := by
    intro fuel
    induction fuel with
    | zero =>
      intro listed a w hsz hc hJ
      have hall : ∀ i, i < ops.size → listed.getD i false = true := by
        intro i hi
        cases hb : listed[i]'(by omega) with
        | true => simp [Array.getElem?_eq_getElem (show i < listed.size by omega), hb]
        | false =>
          exfalso
          have : false ∈ listed.toList := by rw [← hb]; exact Array.mem_toList_iff.2 (Array.getElem_mem _)
          have := List.count_pos_iff.2 this
          omega
      refine ⟨?_, hend _ a w hJ hall⟩
      rw [List.eq_nil_iff_forall_not_mem]
      intro j hj
      rw [mem_ready] at hj
      obtain ⟨h1, o, ho, _⟩ := hj
      have hlt : j < ops.size := (Array.getElem?_eq_some_iff.1 ho).1
      have := hall j hlt
      simp [Array.getElem?_eq_getElem (show j < listed.size by omega)] at this h1
      rw [this] at h1; cases h1
    | succ n ih =>
      intro listed a w hsz hc hJ
      refine ⟨fun hr => hend _ a w hJ ?_, fun i hi => ?_⟩
      · intro i
        induction i using Nat.strongRecOn with
        | _ i ihi =>
          intro hi
          cases hb : listed[i]'(by omega) with
          | true => simp [Array.getElem?_eq_getElem (show i < listed.size by omega), hb]
          | false =>
            exfalso
            have ho : ops[i]? = some ops[i] := Array.getElem?_eq_getElem hi
            have : i ∈ Region.ready .any ops listed := by
              rw [mem_ready]
              refine ⟨by simp [Array.getElem?_eq_getElem (show i < listed.size by omega), hb], _, ho, fun e he _ => ?_⟩
              have := hplain i _ ho e he
              exact ihi e.on this.1 (by omega)
            rw [hr] at this; cases this
      · rw [mem_ready] at hi
        obtain ⟨h1, o, ho, hall⟩ := hi
        have hlt : i < ops.size := (Array.getElem?_eq_some_iff.1 ho).1
        have hst := stepAllG_at ops.toList 0 hs i o (by simpa using ho) (fun i => listed.getD i false) a w hJ (by simpa [Array.getElem?_eq_getElem (show i < listed.size by omega)] using h1) (fun e he => hall e (by simpa using he) (hplain i o ho e (by simpa using he)).2)
        have hcnt : (listed.setIfInBounds i true).toList.count false ≤ n := by
          have hf : listed[i]'(by omega) = false := by simpa [Array.getElem?_eq_getElem (show i < listed.size by omega)] using h1
          have : (listed.setIfInBounds i true).toList = listed.toList.set i true := by simp
          rw [this, List.count_set (by simp; omega)]
          have h3 : listed.toList[i]'(by simp; omega) = false := by simpa using hf
          have h4 : 0 < listed.toList.count false := List.count_pos_iff.2 (by rw [← h3]; exact List.getElem_mem _)
          rw [h3]
          simp only [beq_self_eq_true, if_true, show (true == false) = false from rfl, if_false, Bool.false_eq_true]
          omega
        have heq : (fun j => (listed.setIfInBounds i true).getD j false) = doneSet (fun j => listed.getD j false) (0 + i) := by
          funext j
          simp only [doneSet, Nat.zero_add]
          by_cases hj : j = i
          · subst hj; simp [show j < listed.size by omega]
          · rw [if_neg hj, getD_set_ne false (Ne.symm hj)]
        simp only [wpOp, ho]
        cases hw : Region.wanted o (yielded ops a.tmps) with
        | true =>
          simp only [if_true]
          left
          refine Oper.wp_mono (fun a' w' hJ' => ih _ a' w' (by simp [hsz]) hcnt ?_) (hst.1 hw)
          rw [heq]; exact hJ'
        | false =>
          simp only [Bool.false_eq_true, if_false]
          refine ih _ _ w (by simp [hsz]) hcnt ?_
          rw [heq]; exact hst.2 hw
  exact key ops.size _ a _ (by simp) (by simp) (by simpa [Array.getD, Array.getElem?_replicate] using h0)
/-- two arrays of sixteen, place by place -/
theorem eqItems16 {a b : List Int} (ha : B16 a) (hb : B16 b) (d : Nat) (w : World) : ∀ (is : List Nat), (∀ i ∈ is, i < 16) →
    (Op.eqItems (d + 1) 5 1 (A16 a) (A16 b) is).run Try.prog w = .ok (is.all fun i => a.getD i 0 == b.getD i 0) w
  | [], _ => by simp [Op.eqItems]
  | i :: is, h => by
    have hp : ∀ {c : List Int}, B16 c → (part 5 (A16 c) (i * 1)).run Try.prog w = .ok (.int .u8 (c.getD i 0)) w := by
      intro c hc
      have ha5 : (isAgg 5).run Try.prog w = .ok false w := by
        unfold isAgg; rw [Sem.run_bind, run_underlying Try.underlying5 w]; rfl
      simp [part, ha5, Nat.mul_one, A16_at hc i (h i (by simp))]
    have ih := eqItems16 ha hb d w is (fun j hj => h j (by simp [hj]))
    simp only [Op.eqItems, Sem.run_bind, hp ha, hp hb, Result.andThen_ok, run_equalIn_int w d 5 .u8 .u8 _ _ Try.underlying5, List.all_cons]
    cases hc : (a.getD i 0 == b.getD i 0)
    · simp
    · simpa using ih
theorem all16 {a b : List Int} (ha : B16 a) (hb : B16 b) : ((List.range 16).all fun i => a.getD i 0 == b.getD i 0) = decide (a = b) := by
  rw [Bool.eq_iff_iff, List.all_eq_true, decide_eq_true_eq]
  constructor
  · intro h; exact B16_ext ha hb fun k hk => by have := h k (List.mem_range.2 hk); simpa using this
  · intro h; subst h; intro i _; simp
theorem guard29 : Try.prog.eqGuardType Try.prog.depth 29 = false := by kernel_rfl
theorem eql29run {a b : List Int} (ha : B16 a) (hb : B16 b) (w : World) : (Op.equal 29 (.agg (A16 a)) (.agg (A16 b))).run Try.prog w = .ok (decide (a = b)) w := by
  obtain ⟨i0, hi, -⟩ := info_parts (show (Try.prog.info? 5).map (fun i => (i.zero, i.size, i.bytes)) = some (some (.int .u8 0), 1, 1) by kernel_rfl)
  have hd : Op.maxDepth = (Op.maxDepth - 2) + 1 + 1 := by decide
  rw [Op.equal, hd, run_equalIn_array w _ (A16 a) (A16 b) Try.underlying29 hi, cells5, eqItems16 ha hb _ w (List.range 16) (fun i hi => List.mem_range.1 hi), all16 ha hb]
theorem wp_eql29 {o : Oper} {a : Act} {w : World} {K : Act → World → Prop} {Q : Exit → Act → World → Prop} (x y : Operand) (ho : o.op = .binOp .eql 29 x y 29) (p q : List Int) (hp : B16 p) (hq : B16 q) (hx : a.eval x = .agg (A16 p)) (hy : a.eval y = .agg (A16 q))
    (h : K (a.put o.dst (.bool (decide (p = q)))) w) : o.wp Try.prog a w K Q := by
  refine wp_val (.bool (decide (p = q))) ?_ h
  simp [execOp, ho, hx, hy, eqGuard, guard29, binOp, eql29run hp hq]
theorem wp_neq29 {o : Oper} {a : Act} {w : World} {K : Act → World → Prop} {Q : Exit → Act → World → Prop} (x y : Operand) (ho : o.op = .binOp .neq 29 x y 29) (p q : List Int) (hp : B16 p) (hq : B16 q) (hx : a.eval x = .agg (A16 p)) (hy : a.eval y = .agg (A16 q))
    (h : K (a.put o.dst (.bool (!decide (p = q)))) w) : o.wp Try.prog a w K Q := by
  refine wp_val (.bool (!decide (p = q))) ?_ h
  simp [execOp, ho, hx, hy, eqGuard, guard29, binOp, eql29run hp hq]
end Go.Proofs.Ytadhiddnjhjioaa

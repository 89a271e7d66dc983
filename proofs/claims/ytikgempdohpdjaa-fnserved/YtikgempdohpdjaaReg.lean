/- A rule for a statement whose order of evaluation is left open: a relation that each operation keeps, whichever comes next, holds behind all of them; no condition. -/
import Derived.Orders
import Derived.RegionTactic
namespace Go.Proofs.Ytikgempdohpdjaa
/-- what has been done, with one more -/
def doneSet (d : Nat → Bool) (i : Nat) : Nat → Bool := fun j => if j = i then true else d j
/-- each operation of the list keeps J, where those that it waits for are done -/
def StepAll (P : Program) (Q : Exit → Act → World → Prop) (J : (Nat → Bool) → Act → World → Prop) : Nat → List Oper → Prop
  | _, [] => True
  | i, o :: rest => (∀ d a w, J d a w → d i = false → (∀ e ∈ o.after.toList, d e.on = true) → o.wp P a w (J (doneSet d i)) Q) ∧ StepAll P Q J (i + 1) rest
theorem stepAll_at {P : Program} {Q : Exit → Act → World → Prop} {J : (Nat → Bool) → Act → World → Prop} : ∀ (l : List Oper) (k : Nat), StepAll P Q J k l → ∀ (i : Nat) (o : Oper), l[i]? = some o →
    ∀ (d : Nat → Bool) (a : Act) (w : World), J d a w → d (k + i) = false → (∀ e ∈ o.after.toList, d e.on = true) → o.wp P a w (J (doneSet d (k + i))) Q
  | [], _, _, i, o, h => by simp at h
  | o :: rest, k, hs, 0, o', h => by simp at h; subst h; exact hs.1
  | o :: rest, k, hs, i + 1, o', h => by
    have := stepAll_at rest (k + 1) hs.2 i o' (by simpa using h)
    rwa [show k + 1 + i = k + (i + 1) by omega] at this
/-- the operations are unguarded, and each waits for earlier ones alone, and for all that it names -/
def plainOps (ops : Array Oper) : Bool := (List.range ops.size).all fun i => match ops[i]? with
  | some o => o.guard.isNone && o.after.all fun e => decide (e.on < i) && Region.binds .any e
  | none => true
theorem region_inv {P : Program} {id : Nat} {ops : Array Oper} {Q : Exit → Act → World → Prop} {a : Act} {w : World} (hm : P.follows .mixedOrders = true) (hp : plainOps ops = true)
    (J : (Nat → Bool) → Act → World → Prop) (h0 : J (fun _ => false) a { w with drawn := w.drawn + 1 }) (hs : StepAll P Q J 0 ops.toList)
    (hend : ∀ d a w, J d a w → (∀ i, i < ops.size → d i = true) → Q .normal a w) : (Code.region id ops true).wp P Q a w := by
  have hplain : ∀ i o, ops[i]? = some o → o.guard = none ∧ ∀ e ∈ o.after, e.on < i ∧ Region.binds .any e = true := by
    intro i o ho
    have hlt : i < ops.size := (Array.getElem?_eq_some_iff.1 ho).1
    have := (List.all_eq_true.1 hp) i (List.mem_range.2 hlt)
    simp only [ho, Bool.and_eq_true, Option.isNone_iff_eq_none, Array.all_eq_true_iff_forall_mem, decide_eq_true_eq] at this
    exact this
  refine wp_region_any hm ?_
  have key : ∀ (fuel : Nat) (listed : Array Bool) (a : Act) (w : World), listed.size = ops.size → (listed.toList.count false ≤ fuel) → J (fun i => listed.getD i false) a w → wpAny P .any ops Q fuel listed a w := by
    intro fuel
    induction fuel with
    | zero =>
      intro listed a w hsz hc hJ
      have hall : ∀ i, i < ops.size → listed.getD i false = true := by
        intro i hi
        cases hb : listed[i]'(by omega) with
        | true => simp [Array.getElem?_eq_getElem (show i < listed.size by omega), hb]
        | false =>
          exfalso
          have : false ∈ listed.toList := by rw [← hb]; exact Array.mem_toList_iff.2 (Array.getElem_mem _)
          have := List.count_pos_iff.2 this
          omega
      refine ⟨?_, hend _ a w hJ hall⟩
      rw [List.eq_nil_iff_forall_not_mem]
      intro j hj
      rw [mem_ready] at hj
      obtain ⟨h1, o, ho, _⟩ := hj
      have hlt : j < ops.size := (Array.getElem?_eq_some_iff.1 ho).1
      have := hall j hlt
      simp [Array.getElem?_eq_getElem (show j < listed.size by omega)] at this h1
      rw [this] at h1; cases h1
    | succ n ih =>
      intro listed a w hsz hc hJ
      refine ⟨fun hr => hend _ a w hJ ?_, fun i hi => ?_⟩
      · -- none is ready: all are done
        intro i
        induction i using Nat.strongRecOn with
        | _ i ihi =>
          intro hi
          cases hb : listed[i]'(by omega) with
          | true => simp [Array.getElem?_eq_getElem (show i < listed.size by omega), hb]
          | false =>
            exfalso
            have ho : ops[i]? = some ops[i] := Array.getElem?_eq_getElem hi
            have : i ∈ Region.ready .any ops listed := by
              rw [mem_ready]
              refine ⟨by simp [Array.getElem?_eq_getElem (show i < listed.size by omega), hb], _, ho, fun e he _ => ?_⟩
              have := (hplain i _ ho).2 e he
              exact ihi e.on this.1 (by omega)
            rw [hr] at this; cases this
      · rw [mem_ready] at hi
        obtain ⟨h1, o, ho, hall⟩ := hi
        have hlt : i < ops.size := (Array.getElem?_eq_some_iff.1 ho).1
        have hg := (hplain i o ho).1
        have hw : Region.wanted o (yielded ops a.tmps) = true := by simp [Region.wanted, hg]
        simp only [wpOp, ho, hw, if_true]
        left
        have hst := stepAll_at ops.toList 0 hs i o (by simpa using ho) (fun i => listed.getD i false) a w hJ (by simpa [Array.getElem?_eq_getElem (show i < listed.size by omega)] using h1) (fun e he => hall e (by simpa using he) ((hplain i o ho).2 e (by simpa using he)).2)
        refine Oper.wp_mono (fun a' w' hJ' => ih _ a' w' (by simp [hsz]) ?_ ?_) hst
        · have hf : listed[i]'(by omega) = false := by simpa [Array.getElem?_eq_getElem (show i < listed.size by omega)] using h1
          have : (listed.setIfInBounds i true).toList = listed.toList.set i true := by simp
          rw [this, List.count_set (by simp; omega)]
          have h3 : listed.toList[i]'(by simp; omega) = false := by simpa using hf
          have h4 : 0 < listed.toList.count false := List.count_pos_iff.2 (by rw [← h3]; exact List.getElem_mem _)
          rw [h3]
          simp only [beq_self_eq_true, if_true, show (true == false) = false from rfl, if_false, Bool.false_eq_true]
          omega
        · have : (fun j => (listed.setIfInBounds i true).getD j false) = doneSet (fun j => listed.getD j false) (0 + i) := by
            funext j
            simp only [doneSet, Nat.zero_add]
            by_cases hj : j = i
            · subst hj; simp [show j < listed.size by omega]
            · rw [if_neg hj, getD_set_ne false (Ne.symm hj)]
          rw [this]; exact hJ'
  exact key ops.size _ a _ (by simp) (by simp) (by simpa [Array.getD, Array.getElem?_replicate] using h0)
/-- a call of a Go function, in a statement whose order is open -/
theorem wp_call {P : Program} {o : Oper} {a : Act} {w : World} {K : Act → World → Prop} {Q : Exit → Act → World → Prop} (f : FuncId) (args : Array Value)
    (hrun : (execOp a.eval o).run P w = .ok (.enter f args) w) (R : Ending → World → Prop) (hc : Calls P f args w R) (h : ∀ e w', R e w' → ∃ v, e = .returned v ∧ K (a.put o.dst v) w') : o.wp P a w K Q := by
  unfold Oper.wp
  rw [hrun, Oper.upon_enter]
  refine hc.mono fun e w' hh => ?_
  obtain ⟨v, rfl, hk⟩ := h e w' hh
  exact hk
theorem wp_val {P : Program} {o : Oper} {a : Act} {w w' : World} {K : Act → World → Prop} {Q : Exit → Act → World → Prop} (v : Value)
    (hrun : (execOp a.eval o).run P w = .ok (.value v) w') (h : K (a.put o.dst v) w') : o.wp P a w K Q := by
  unfold Oper.wp
  rw [hrun]
  exact h
end Go.Proofs.Ytikgempdohpdjaa

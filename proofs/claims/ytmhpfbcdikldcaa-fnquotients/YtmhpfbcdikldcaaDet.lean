/- A statement whose order is open, told by what its operations leave in their slots; no condition. -/
import Derived.Test.YtmhpfbcdikldcaaMixE
namespace Go.Proofs.Ytmhpfbcdikldcaa
open Go.RowKit Go.ChangeShapes Go.WideShapes Go.ChangeAt
set_option linter.unusedVariables false
set_option linter.unusedSimpArgs false
set_option maxRecDepth 8000
/-- all that a region's operations leave in their slots -/
def putAll : Act → List Oper → List Value → Act
  | a, o :: l, v :: vs => putAll (a.put o.dst v) l vs
  | a, _, _ => a
/-- each operation waits for earlier ones, no two have one slot, and each looks at slots of operations that it waits for, or of none -/
def detB (ops : Array Oper) : Bool := Region.noSelect ops && (List.range ops.size).all fun i => match ops[i]? with
  | none => true
  | some o => (o.after.all fun e => !Region.binds .any e || decide (e.on < i)) &&
    ((List.range ops.size).all fun j => match ops[j]? with
      | none => true
      | some p => decide (j = i) || (match o.dst with | none => true | some t => decide (p.dst ≠ some t))) &&
    ((o.looksAt ops).all fun t => ((List.range ops.size).all fun j => match ops[j]? with | none => true | some p => decide (p.dst ≠ some t)) || o.after.any fun e => Region.binds .any e && (match ops[e.on]? with | none => false | some p => decide (p.dst = some t)))
def DetQ (full : Act) (S : (Nat → Bool) → World → Prop) (d : Nat → Bool) (i : Nat) : Exit → Act → World → Prop := fun ex a w => ex = .normal ∧ a = full ∧ S (doneSet d i) w
def DetAll (P : Program) (ops : Array Oper) (full : Act) (S : (Nat → Bool) → World → Prop) : Nat → List Oper → Prop
  | _, [] => True
  | i, o :: rest => (∀ d W, S d W → d i = false → (∀ e ∈ o.after.toList, Region.binds .any e = true → d e.on = true) → wpList P ops (DetQ full S d i) [o] full W) ∧ DetAll P ops full S (i + 1) rest
theorem detAll_at {P : Program} {ops : Array Oper} {full : Act} {S : (Nat → Bool) → World → Prop} : ∀ (l : List Oper) (k : Nat), DetAll P ops full S k l → ∀ (i : Nat) (o : Oper), l[i]? = some o →
    ∀ d W, S d W → d (k + i) = false → (∀ e ∈ o.after.toList, Region.binds .any e = true → d e.on = true) → wpList P ops (DetQ full S d (k + i)) [o] full W
  | [], _, _, i, o, h => by simp at h
  | o :: rest, k, hs, 0, o', h => by simp at h; subst h; exact hs.1
  | o :: rest, k, hs, i + 1, o', h => by
    have := detAll_at rest (k + 1) hs.2 i o' (by simpa using h)
    rw [show k + (i + 1) = k + 1 + i by omega]; exact this
theorem det_upon {P : Program} {o : Oper} {A full : Act} {Q : Exit → Act → World → Prop} {K : Act → World → Prop} {S : (Nat → Bool) → World → Prop} {d : Nat → Bool} {i : Nat} {r : Result Next}
    (h : o.upon P full (wpList P #[] (DetQ full S d i) []) (DetQ full S d i) r) (hK : ∀ v w, full.put o.dst v = full → S (doneSet d i) w → K (A.put o.dst v) w) : o.upon P A K Q r := by
  cases r with
  | ok n w' =>
    cases n <;> simp only [Oper.upon] at h ⊢
    case value v => exact hK v w' h.2.1 h.2.2
    case skip => exact hK undef w' h.2.1 h.2.2
    case defer df =>
      exfalso
      have h1 := congrArg Act.defers h.2.1
      have h2 : ∀ (a : Act) (x : Option Tmp) (v : Value), (a.put x v).defers = a.defers := fun a x v => by cases x <;> rfl
      rw [h2] at h1
      exact absurd (congrArg List.length h1) (by simp)
    case enter f args =>
      refine Calls.mono h fun e w'' he => ?_
      cases e with
      | returned v => exact hK v w'' he.2.1 he.2.2
      | panicked c => exact absurd he.1 (by simp)
      | outgrown => obtain ⟨a, w, h1, -⟩ := he; cases h1
    case row => exact Rows.mono h fun v w'' he => hK v w'' he.2.1 he.2.2
  | halt x w' =>
    cases x <;> simp only [Oper.upon] at h ⊢
    exact absurd h.1 (by simp)
theorem region_det {P : Program} {id : Nat} {Q : Exit → Act → World → Prop} {a : Act} {w : World} {l : List Oper} (vals : List Value) (S : (Nat → Bool) → World → Prop) {full : Act} (hm : P.follows .mixedOrders = true) (hB : detB l.toArray = true) (hf : putAll a l vals = full)
    (h0 : S (fun _ => false) w.drew) (hs : DetAll P l.toArray full S 0 l) (hend : ∀ d W, S d W → (∀ i, i < l.length → d i = true) → Q .normal full W) : (Code.region id l.toArray true).wp P Q a w := by
  obtain ⟨ops, hops⟩ : ∃ ops, l.toArray = ops := ⟨_, rfl⟩
  have hl : l = ops.toList := by rw [← hops]
  have hsz : l.length = ops.size := by rw [← hops]; simp
  rw [hops] at hB hs ⊢
  simp only [detB, Bool.and_eq_true] at hB
  obtain ⟨hsel, hB⟩ := hB
  have hat : ∀ (i : Nat) (o : Oper), ops[i]? = some o → (∀ e ∈ o.after, Region.binds .any e = true → e.on < i) ∧ (∀ (j : Nat) (p : Oper) (t : Tmp), ops[j]? = some p → o.dst = some t → p.dst = some t → j = i) ∧ (∀ t ∈ o.looksAt ops, (∀ (j : Nat) (p : Oper), ops[j]? = some p → p.dst ≠ some t) ∨ ∃ e ∈ o.after, Region.binds .any e = true ∧ ∃ p, ops[e.on]? = some p ∧ p.dst = some t) := by
    intro i o ho
    have hlt : i < ops.size := (Array.getElem?_eq_some_iff.1 ho).1
    have hx := (List.all_eq_true.1 hB) i (List.mem_range.2 hlt)
    simp only [ho, Bool.and_eq_true] at hx
    obtain ⟨⟨h1, h2⟩, h3⟩ := hx
    refine ⟨fun e he hb => ?_, fun j p t hj hd hp => ?_, fun t ht => ?_⟩
    · have := (Array.all_eq_true_iff_forall_mem.1 h1) e he
      simpa [hb] using this
    · have := (List.all_eq_true.1 h2) j (List.mem_range.2 (Array.getElem?_eq_some_iff.1 hj).1)
      simpa [hj, hd, hp] using this
    · have := (List.all_eq_true.1 h3) t ht
      rw [Bool.or_eq_true] at this
      rcases this with h | h
      · refine .inl fun j p hj => ?_
        have := (List.all_eq_true.1 h) j (List.mem_range.2 (Array.getElem?_eq_some_iff.1 hj).1)
        simpa [hj] using this
      · obtain ⟨ke, hke, h⟩ := Array.any_eq_true.1 h
        obtain ⟨e, hee⟩ : ∃ e, o.after[ke] = e := ⟨_, rfl⟩
        have he : e ∈ o.after := hee ▸ Array.getElem_mem hke
        rw [hee] at h
        rw [Bool.and_eq_true] at h
        refine .inr ⟨e, he, h.1, ?_⟩
        cases hp : ops[e.on]? with
        | none => rw [hp] at h; simp at h
        | some p => rw [hp] at h; exact ⟨p, rfl, by simpa using h.2⟩
  have hput : ∀ (l : List Oper) (vs : List Value) (a : Act), (putAll a l vs).defers = a.defers ∧ (putAll a l vs).tmps.size = a.tmps.size ∧ ∀ t, (∀ o ∈ l, o.dst ≠ some t) → (putAll a l vs).tmps[t]? = a.tmps[t]? := by
    intro l
    induction l with
    | nil => intro vs a; exact ⟨rfl, rfl, fun _ _ => rfl⟩
    | cons o l ih =>
      intro vs a
      cases vs with
      | nil => exact ⟨rfl, rfl, fun _ _ => rfl⟩
      | cons v vs =>
        obtain ⟨h1, h2, h3⟩ := ih vs (a.put o.dst v)
        refine ⟨by rw [putAll, h1]; cases o.dst <;> rfl, by rw [putAll, h2]; cases o.dst <;> simp [Act.put], fun t ht => ?_⟩
        rw [putAll, h3 t (fun o ho => ht o (List.mem_cons_of_mem _ ho))]
        have := ht o (List.mem_cons_self ..)
        cases hd : o.dst with
        | none => rfl
        | some u => rw [hd] at this; simp [Act.put, Array.getElem?_setIfInBounds_ne (show u ≠ t from fun e => this (by rw [e]))]
  obtain ⟨p1, p2, p3⟩ := hput l vals a
  rw [hf] at p1 p2 p3
  refine wp_region_any hm ?_
  have key : ∀ (fuel : Nat) (listed : Array Bool) (A : Act) (W : World), listed.size = ops.size → (listed.toList.count false ≤ fuel) → A.defers = full.defers → A.tmps.size = full.tmps.size → (∀ t, (∀ (i : Nat) (o : Oper), ops[i]? = some o → o.dst = some t → listed.getD i false = true) → A.tmps[t]? = full.tmps[t]?) → S (fun i => listed.getD i false) W → wpAny P .any ops Q fuel listed A W := by
    have fin : ∀ (listed : Array Bool) (A : Act) (W : World), (∀ i, i < ops.size → listed.getD i false = true) → A.defers = full.defers → A.tmps.size = full.tmps.size → (∀ t, (∀ (i : Nat) (o : Oper), ops[i]? = some o → o.dst = some t → listed.getD i false = true) → A.tmps[t]? = full.tmps[t]?) → S (fun i => listed.getD i false) W → Q .normal A W := by
      intro listed A W hall j1 j2 j3 j4
      have : A = full := by
        obtain ⟨tm, df⟩ := A
        obtain ⟨tm', df'⟩ := full
        have e1 : tm = tm' := Array.ext_getElem? fun t => j3 t fun i o ho _ => hall i (Array.getElem?_eq_some_iff.1 ho).1
        simp only at j1
        rw [e1, j1]
      rw [this]
      exact hend _ W j4 fun i hi => hall i (by omega)
    intro fuel
    induction fuel with
    | zero =>
      intro listed A W hls hc j1 j2 j3 j4
      have hall : ∀ i, i < ops.size → listed.getD i false = true := by
        intro i hi
        cases hb : listed[i]'(by omega) with
        | true => simp [Array.getElem?_eq_getElem (show i < listed.size by omega), hb]
        | false =>
          exfalso
          have : false ∈ listed.toList := by rw [← hb]; exact Array.mem_toList_iff.2 (Array.getElem_mem _)
          have := List.count_pos_iff.2 this
          omega
      refine ⟨?_, fin listed A W hall j1 j2 j3 j4⟩
      rw [List.eq_nil_iff_forall_not_mem]
      intro j hj
      rw [mem_ready] at hj
      obtain ⟨h1, o, ho, _⟩ := hj
      have hlt : j < ops.size := (Array.getElem?_eq_some_iff.1 ho).1
      have := hall j hlt
      simp [Array.getElem?_eq_getElem (show j < listed.size by omega)] at this h1
      rw [this] at h1; cases h1
    | succ n ih =>
      intro listed A W hls hc j1 j2 j3 j4
      refine ⟨fun hr => fin listed A W ?_ j1 j2 j3 j4, fun i hi => ?_⟩
      · intro i
        induction i using Nat.strongRecOn with
        | _ i ihi =>
          intro hi
          cases hb : listed[i]'(by omega) with
          | true => simp [Array.getElem?_eq_getElem (show i < listed.size by omega), hb]
          | false =>
            exfalso
            have ho : ops[i]? = some ops[i] := Array.getElem?_eq_getElem hi
            have : i ∈ Region.ready .any ops listed := by
              rw [mem_ready]
              refine ⟨by simp [Array.getElem?_eq_getElem (show i < listed.size by omega), hb], _, ho, fun e he hbd => ?_⟩
              have := (hat i _ ho).1 e he hbd
              exact ihi e.on this (by omega)
            rw [hr] at this; cases this
      · rw [mem_ready] at hi
        obtain ⟨h1, o, ho, hall⟩ := hi
        have hlt : i < ops.size := (Array.getElem?_eq_some_iff.1 ho).1
        have h1' : listed.getD i false = false := by simpa [Array.getElem?_eq_getElem (show i < listed.size by omega)] using h1
        have hlook : ∀ t ∈ o.looksAt ops, A.tmps[t]? = full.tmps[t]? := by
          intro t ht
          refine j3 t fun k p hk hp => ?_
          rcases (hat i o ho).2.2 t ht with h | ⟨e, he, hb, p', hp', hd'⟩
          · exact absurd hp (h k p hk)
          · have := (hat _ _ hp').2.1 k p t hk hd' hp
            rw [this]; exact hall e he hb
        have hev : ∀ x ∈ o.op.operands, A.eval x = full.eval x := by
          intro x hx
          cases x with
          | tmp t =>
            have := hlook t (List.mem_append_left _ (List.mem_filterMap.2 ⟨.tmp t, by simpa using hx, rfl⟩))
            simp [Act.eval, this]
          | _ => rfl
        have hexec : execOp A.eval o = execOp full.eval o := execOp_congr o (fun cs b => Region.noSelect_spec hsel i o cs b ho) hev
        have hwant : Region.wanted o (yielded ops A.tmps) = Region.wanted o (yielded ops full.tmps) := by
          unfold Region.wanted
          cases hg : o.guard with
          | none => rfl
          | some gw =>
            obtain ⟨g, want⟩ := gw
            have hy : yielded ops A.tmps g = yielded ops full.tmps g := by
              unfold yielded
              cases ht : (ops[g]?).bind (·.dst) with
              | none => rfl
              | some t => simp only [Option.bind_some, hlook t (by simp [Oper.looksAt, hg, ht])]
            simp only [hy]
        have hst := detAll_at l 0 hs i o (by rw [hl]; simpa using ho) (fun i => listed.getD i false) W j4 (by simpa using h1') (fun e he hb => hall e (by simpa using he) hb)
        rw [Nat.zero_add] at hst
        have hnext : ∀ v w', full.put o.dst v = full → S (doneSet (fun i => listed.getD i false) i) w' → wpAny P .any ops Q n (listed.setIfInBounds i true) (A.put o.dst v) w' := by
          intro v w' hv hS'
          refine ih _ _ _ (by simp [hls]) ?_ ?_ ?_ ?_ ?_
          · have hf : listed[i]'(by omega) = false := by simpa [Array.getElem?_eq_getElem (show i < listed.size by omega)] using h1
            have : (listed.setIfInBounds i true).toList = listed.toList.set i true := by simp
            rw [this, List.count_set (by simp; omega)]
            have h3 : listed.toList[i]'(by simp; omega) = false := by simpa using hf
            have h4 : 0 < listed.toList.count false := List.count_pos_iff.2 (by rw [← h3]; exact List.getElem_mem _)
            rw [h3]
            simp only [beq_self_eq_true, if_true, show (true == false) = false from rfl, if_false, Bool.false_eq_true]
            omega
          · rw [← j1]; cases o.dst <;> rfl
          · rw [← j2]; cases o.dst <;> simp [Act.put]
          · intro t ht
            by_cases hd : o.dst = some t
            · have e1 := congrArg Act.tmps hv
              rw [hd] at e1 ⊢
              simp only [Act.put] at e1 ⊢
              rw [← e1]
              simp only [Array.getElem?_setIfInBounds_self, j2]
            · have e2 : (A.put o.dst v).tmps[t]? = A.tmps[t]? := by
                cases hd' : o.dst with
                | none => rfl
                | some u => simp [Act.put, Array.getElem?_setIfInBounds_ne (show u ≠ t from fun e => hd (by rw [hd', e]))]
              rw [e2]
              refine j3 t fun k p hk hp => ?_
              have hki : k ≠ i := fun e => by subst e; rw [ho] at hk; cases hk; exact hd hp
              have := ht k p hk hp
              rwa [getD_set_ne false (Ne.symm hki)] at this
          · have : (fun j => (listed.setIfInBounds i true).getD j false) = doneSet (fun j => listed.getD j false) i := by
              funext j
              simp only [doneSet]
              by_cases hj : j = i
              · subst hj; simp [show j < listed.size by omega]
              · rw [if_neg hj, getD_set_ne false (Ne.symm hj)]
            rw [this]; exact hS'
        simp only [wpOp, ho]
        rw [hwant]
        simp only [wpList] at hst
        by_cases hw : Region.wanted o (yielded ops full.tmps) = true
        · rw [if_pos hw] at hst ⊢
          rcases hst with hst | ⟨_, aa, ww, h, -⟩
          · left
            unfold Oper.wp at hst ⊢
            rw [hexec]
            exact det_upon hst hnext
          · cases h
        · rw [if_neg hw] at hst ⊢
          exact hnext _ _ hst.2.1 hst.2.2
  exact key ops.size _ a _ (by simp) (by simp) p1.symm p2.symm (fun t ht => (p3 t (fun o ho hd => by
    obtain ⟨i, hi, rfl⟩ := List.getElem_of_mem ho
    have := ht i l[i] (by rw [← hops]; simp [List.getElem?_eq_getElem hi]) hd
    rw [← hsz] at this
    simp [hi] at this)).symm) (by
      have : (fun i => (Array.replicate ops.size false).getD i false) = fun _ => false := by
        funext i; by_cases h : i < ops.size <;> simp [h]
      rw [this]; exact h0)
end Go.Proofs.Ytmhpfbcdikldcaa

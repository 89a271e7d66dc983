/- A statement whose order is open, told by an invariant over its slots; no condition. -/
import Derived.Test.YtmhpfbcdikldcaaDet
namespace Go.Proofs.Ytmhpfbcdikldcaa
open Go.RowKit Go.ChangeShapes Go.WideShapes Go.ChangeAt
set_option linter.unusedVariables false
set_option linter.unusedSimpArgs false
set_option maxRecDepth 8000
/-- as DetQ, the slots being part of what is told -/
def InvQ (S : (Nat → Bool) → Act → World → Prop) (d : Nat → Bool) (i : Nat) : Exit → Act → World → Prop := fun ex a w => ex = .normal ∧ S (doneSet d i) a w
def InvAll (P : Program) (ops : Array Oper) (S : (Nat → Bool) → Act → World → Prop) : Nat → List Oper → Prop
  | _, [] => True
  | i, o :: rest => (∀ d F W, S d F W → d i = false → (∀ e ∈ o.after.toList, Region.binds .any e = true → d e.on = true) → wpList P ops (InvQ S d i) [o] F W) ∧ InvAll P ops S (i + 1) rest
theorem invAll_at {P : Program} {ops : Array Oper} {S : (Nat → Bool) → Act → World → Prop} : ∀ (l : List Oper) (k : Nat), InvAll P ops S k l → ∀ (i : Nat) (o : Oper), l[i]? = some o →
    ∀ d F W, S d F W → d (k + i) = false → (∀ e ∈ o.after.toList, Region.binds .any e = true → d e.on = true) → wpList P ops (InvQ S d (k + i)) [o] F W
  | [], _, _, i, o, h => by simp at h
  | o :: rest, k, hs, 0, o', h => by simp at h; subst h; exact hs.1
  | o :: rest, k, hs, i + 1, o', h => by
    have := invAll_at rest (k + 1) hs.2 i o' (by simpa using h)
    rw [show k + (i + 1) = k + 1 + i by omega]; exact this
theorem inv_upon {P : Program} {o : Oper} {A full : Act} {Q : Exit → Act → World → Prop} {K : Act → World → Prop} {S : (Nat → Bool) → Act → World → Prop} {d : Nat → Bool} {i : Nat} {r : Result Next} (hdf : ∀ d F W, S d F W → F.defers = full.defers)
    (h : o.upon P full (wpList P #[] (InvQ S d i) []) (InvQ S d i) r) (hK : ∀ v w, S (doneSet d i) (full.put o.dst v) w → K (A.put o.dst v) w) : o.upon P A K Q r := by
  cases r with
  | ok n w' =>
    cases n <;> simp only [Oper.upon] at h ⊢
    case value v => exact hK v w' h.2
    case skip => exact hK undef w' h.2
    case defer df =>
      exfalso
      have h1 := hdf _ _ _ h.2
      have h2 : ∀ (a : Act) (x : Option Tmp) (v : Value), (a.put x v).defers = a.defers := fun a x v => by cases x <;> rfl
      rw [h2] at h1
      exact absurd (congrArg List.length h1) (by simp)
    case enter f args =>
      refine Calls.mono h fun e w'' he => ?_
      cases e with
      | returned v => exact hK v w'' he.2
      | panicked c => exact absurd he.1 (by simp)
      | outgrown => obtain ⟨a, w, h1, -⟩ := he; cases h1
    case row => exact Rows.mono h fun v w'' he => hK v w'' he.2
  | halt x w' =>
    cases x <;> simp only [Oper.upon] at h ⊢
    exact absurd h.1 (by simp)
/-- a region in any order, its slots told by an invariant: S d F W holds of the done operations d, the slots F and the world W -/
theorem region_slots {P : Program} {id : Nat} {Q : Exit → Act → World → Prop} {a : Act} {w : World} {l : List Oper} (vals : List Value) (S : (Nat → Bool) → Act → World → Prop) (hm : P.follows .mixedOrders = true) (hB : detB l.toArray = true)
    (hdf : ∀ d F W, S d F W → F.defers = a.defers)
    (h0 : S (fun _ => false) (putAll a l vals) w.drew) (hs : InvAll P l.toArray S 0 l) (hend : ∀ d F W, S d F W → (∀ i, i < l.length → d i = true) → Q .normal F W) : (Code.region id l.toArray true).wp P Q a w := by
  obtain ⟨ops, hops⟩ : ∃ ops, l.toArray = ops := ⟨_, rfl⟩
  have hl : l = ops.toList := by rw [← hops]
  have hsz : l.length = ops.size := by rw [← hops]; simp
  rw [hops] at hB hs ⊢
  simp only [detB, Bool.and_eq_true] at hB
  obtain ⟨hsel, hB⟩ := hB
  have hat : ∀ (i : Nat) (o : Oper), ops[i]? = some o → (∀ e ∈ o.after, Region.binds .any e = true → e.on < i) ∧ (∀ (j : Nat) (p : Oper) (t : Tmp), ops[j]? = some p → o.dst = some t → p.dst = some t → j = i) ∧ (∀ t ∈ o.looksAt ops, (∀ (j : Nat) (p : Oper), ops[j]? = some p → p.dst ≠ some t) ∨ ∃ e ∈ o.after, Region.binds .any e = true ∧ ∃ p, ops[e.on]? = some p ∧ p.dst = some t) := by
    intro i o ho
    have hlt : i < ops.size := (Array.getElem?_eq_some_iff.1 ho).1
    have hx := (List.all_eq_true.1 hB) i (List.mem_range.2 hlt)
    simp only [ho, Bool.and_eq_true] at hx
    obtain ⟨⟨h1, h2⟩, h3⟩ := hx
    refine ⟨fun e he hb => ?_, fun j p t hj hd hp => ?_, fun t ht => ?_⟩
    · have := (Array.all_eq_true_iff_forall_mem.1 h1) e he
      simpa [hb] using this
    · have := (List.all_eq_true.1 h2) j (List.mem_range.2 (Array.getElem?_eq_some_iff.1 hj).1)
      simpa [hj, hd, hp] using this
    · have := (List.all_eq_true.1 h3) t ht
      rw [Bool.or_eq_true] at this
      rcases this with h | h
      · refine .inl fun j p hj => ?_
        have := (List.all_eq_true.1 h) j (List.mem_range.2 (Array.getElem?_eq_some_iff.1 hj).1)
        simpa [hj] using this
      · obtain ⟨ke, hke, h⟩ := Array.any_eq_true.1 h
        obtain ⟨e, hee⟩ : ∃ e, o.after[ke] = e := ⟨_, rfl⟩
        have he : e ∈ o.after := hee ▸ Array.getElem_mem hke
        rw [hee] at h
        rw [Bool.and_eq_true] at h
        refine .inr ⟨e, he, h.1, ?_⟩
        cases hp : ops[e.on]? with
        | none => rw [hp] at h; simp at h
        | some p => rw [hp] at h; exact ⟨p, rfl, by simpa using h.2⟩
  have hput : ∀ (l : List Oper) (vs : List Value) (a : Act), (putAll a l vs).defers = a.defers ∧ (putAll a l vs).tmps.size = a.tmps.size ∧ ∀ t, (∀ o ∈ l, o.dst ≠ some t) → (putAll a l vs).tmps[t]? = a.tmps[t]? := by
    intro l
    induction l with
    | nil => intro vs a; exact ⟨rfl, rfl, fun _ _ => rfl⟩
    | cons o l ih =>
      intro vs a
      cases vs with
      | nil => exact ⟨rfl, rfl, fun _ _ => rfl⟩
      | cons v vs =>
        obtain ⟨h1, h2, h3⟩ := ih vs (a.put o.dst v)
        refine ⟨by rw [putAll, h1]; cases o.dst <;> rfl, by rw [putAll, h2]; cases o.dst <;> simp [Act.put], fun t ht => ?_⟩
        rw [putAll, h3 t (fun o ho => ht o (List.mem_cons_of_mem _ ho))]
        have := ht o (List.mem_cons_self ..)
        cases hd : o.dst with
        | none => rfl
        | some u => rw [hd] at this; simp [Act.put, Array.getElem?_setIfInBounds_ne (show u ≠ t from fun e => this (by rw [e]))]
  obtain ⟨p1, p2, p3⟩ := hput l vals a
  refine wp_region_any hm ?_
  have key : ∀ (fuel : Nat) (listed : Array Bool) (A full : Act) (W : World), listed.size = ops.size → (listed.toList.count false ≤ fuel) → A.defers = full.defers → A.tmps.size = full.tmps.size → (∀ t, (∀ (i : Nat) (o : Oper), ops[i]? = some o → o.dst = some t → listed.getD i false = true) → A.tmps[t]? = full.tmps[t]?) → S (fun i => listed.getD i false) full W → wpAny P .any ops Q fuel listed A W := by
    have fin : ∀ (listed : Array Bool) (A full : Act) (W : World), (∀ i, i < ops.size → listed.getD i false = true) → A.defers = full.defers → A.tmps.size = full.tmps.size → (∀ t, (∀ (i : Nat) (o : Oper), ops[i]? = some o → o.dst = some t → listed.getD i false = true) → A.tmps[t]? = full.tmps[t]?) → S (fun i => listed.getD i false) full W → Q .normal A W := by
      intro listed A full W hall j1 j2 j3 j4
      have : A = full := by
        obtain ⟨tm, df⟩ := A
        obtain ⟨tm', df'⟩ := full
        have e1 : tm = tm' := Array.ext_getElem? fun t => j3 t fun i o ho _ => hall i (Array.getElem?_eq_some_iff.1 ho).1
        simp only at j1
        rw [e1, j1]
      rw [this]
      exact hend _ _ W j4 fun i hi => hall i (by omega)
    intro fuel
    induction fuel with
    | zero =>
      intro listed A full W hls hc j1 j2 j3 j4
      have hall : ∀ i, i < ops.size → listed.getD i false = true := by
        intro i hi
        cases hb : listed[i]'(by omega) with
        | true => simp [Array.getElem?_eq_getElem (show i < listed.size by omega), hb]
        | false =>
          exfalso
          have : false ∈ listed.toList := by rw [← hb]; exact Array.mem_toList_iff.2 (Array.getElem_mem _)
          have := List.count_pos_iff.2 this
          omega
      refine ⟨?_, fin listed A full W hall j1 j2 j3 j4⟩
      rw [List.eq_nil_iff_forall_not_mem]
      intro j hj
      rw [mem_ready] at hj
      obtain ⟨h1, o, ho, _⟩ := hj
      have hlt : j < ops.size := (Array.getElem?_eq_some_iff.1 ho).1
      have := hall j hlt
      simp [Array.getElem?_eq_getElem (show j < listed.size by omega)] at this h1
      rw [this] at h1; cases h1
    | succ n ih =>
      intro listed A full W hls hc j1 j2 j3 j4
      refine ⟨fun hr => fin listed A full W ?_ j1 j2 j3 j4, fun i hi => ?_⟩
      · intro i
        induction i using Nat.strongRecOn with
        | _ i ihi =>
          intro hi
          cases hb : listed[i]'(by omega) with
          | true => simp [Array.getElem?_eq_getElem (show i < listed.size by omega), hb]
          | false =>
            exfalso
            have ho : ops[i]? = some ops[i] := Array.getElem?_eq_getElem hi
            have : i ∈ Region.ready .any ops listed := by
              rw [mem_ready]
              refine ⟨by simp [Array.getElem?_eq_getElem (show i < listed.size by omega), hb], _, ho, fun e he hbd => ?_⟩
              have := (hat i _ ho).1 e he hbd
              exact ihi e.on this (by omega)
            rw [hr] at this; cases this
      · rw [mem_ready] at hi
        obtain ⟨h1, o, ho, hall⟩ := hi
        have hlt : i < ops.size := (Array.getElem?_eq_some_iff.1 ho).1
        have h1' : listed.getD i false = false := by simpa [Array.getElem?_eq_getElem (show i < listed.size by omega)] using h1
        have hlook : ∀ t ∈ o.looksAt ops, A.tmps[t]? = full.tmps[t]? := by
          intro t ht
          refine j3 t fun k p hk hp => ?_
          rcases (hat i o ho).2.2 t ht with h | ⟨e, he, hb, p', hp', hd'⟩
          · exact absurd hp (h k p hk)
          · have := (hat _ _ hp').2.1 k p t hk hd' hp
            rw [this]; exact hall e he hb
        have hev : ∀ x ∈ o.op.operands, A.eval x = full.eval x := by
          intro x hx
          cases x with
          | tmp t =>
            have := hlook t (List.mem_append_left _ (List.mem_filterMap.2 ⟨.tmp t, by simpa using hx, rfl⟩))
            simp [Act.eval, this]
          | _ => rfl
        have hexec : execOp A.eval o = execOp full.eval o := execOp_congr o (fun cs b => Region.noSelect_spec hsel i o cs b ho) hev
        have hwant : Region.wanted o (yielded ops A.tmps) = Region.wanted o (yielded ops full.tmps) := by
          unfold Region.wanted
          cases hg : o.guard with
          | none => rfl
          | some gw =>
            obtain ⟨g, want⟩ := gw
            have hy : yielded ops A.tmps g = yielded ops full.tmps g := by
              unfold yielded
              cases ht : (ops[g]?).bind (·.dst) with
              | none => rfl
              | some t => simp only [Option.bind_some, hlook t (by simp [Oper.looksAt, hg, ht])]
            simp only [hy]
        have hst := invAll_at l 0 hs i o (by rw [hl]; simpa using ho) (fun i => listed.getD i false) full W j4 (by simpa using h1') (fun e he hb => hall e (by simpa using he) hb)
        rw [Nat.zero_add] at hst
        have hnext : ∀ v w', S (doneSet (fun i => listed.getD i false) i) (full.put o.dst v) w' → wpAny P .any ops Q n (listed.setIfInBounds i true) (A.put o.dst v) w' := by
          intro v w' hS'
          refine ih _ _ (full.put o.dst v) _ (by simp [hls]) ?_ ?_ ?_ ?_ ?_
          · have hf : listed[i]'(by omega) = false := by simpa [Array.getElem?_eq_getElem (show i < listed.size by omega)] using h1
            have : (listed.setIfInBounds i true).toList = listed.toList.set i true := by simp
            rw [this, List.count_set (by simp; omega)]
            have h3 : listed.toList[i]'(by simp; omega) = false := by simpa using hf
            have h4 : 0 < listed.toList.count false := List.count_pos_iff.2 (by rw [← h3]; exact List.getElem_mem _)
            rw [h3]
            simp only [beq_self_eq_true, if_true, show (true == false) = false from rfl, if_false, Bool.false_eq_true]
            omega
          · cases o.dst <;> exact j1
          · cases o.dst <;> simp [Act.put, j2]
          · intro t ht
            by_cases hd : o.dst = some t
            · rw [hd]
              simp only [Act.put]
              simp only [Array.getElem?_setIfInBounds_self, j2]
            · have e3 : (full.put o.dst v).tmps[t]? = full.tmps[t]? := by
                cases hd' : o.dst with
                | none => rfl
                | some u => simp [Act.put, Array.getElem?_setIfInBounds_ne (show u ≠ t from fun e => hd (by rw [hd', e]))]
              have e2 : (A.put o.dst v).tmps[t]? = A.tmps[t]? := by
                cases hd' : o.dst with
                | none => rfl
                | some u => simp [Act.put, Array.getElem?_setIfInBounds_ne (show u ≠ t from fun e => hd (by rw [hd', e]))]
              rw [e2, e3]
              refine j3 t fun k p hk hp => ?_
              have hki : k ≠ i := fun e => by subst e; rw [ho] at hk; cases hk; exact hd hp
              have := ht k p hk hp
              rwa [getD_set_ne false (Ne.symm hki)] at this
          · have : (fun j => (listed.setIfInBounds i true).getD j false) = doneSet (fun j => listed.getD j false) i := by
              funext j
              simp only [doneSet]
              by_cases hj : j = i
              · subst hj; simp [show j < listed.size by omega]
              · rw [if_neg hj, getD_set_ne false (Ne.symm hj)]
            rw [this]; exact hS'
        simp only [wpOp, ho]
        rw [hwant]
        simp only [wpList] at hst
        by_cases hw : Region.wanted o (yielded ops full.tmps) = true
        · rw [if_pos hw] at hst ⊢
          rcases hst with hst | ⟨_, aa, ww, h, -⟩
          · left
            unfold Oper.wp at hst ⊢
            rw [hexec]
            exact inv_upon (fun d F W hS => (hdf d F W hS).trans (hdf _ _ _ j4).symm) hst hnext
          · cases h
        · rw [if_neg hw] at hst ⊢
          exact hnext _ _ hst.2
  exact key ops.size _ a (putAll a l vals) _ (by simp) (by simp) p1.symm p2.symm (fun t ht => (p3 t (fun o ho hd => by
    obtain ⟨i, hi, rfl⟩ := List.getElem_of_mem ho
    have := ht i l[i] (by rw [← hops]; simp [List.getElem?_eq_getElem hi]) hd
    rw [← hsz] at this
    simp [hi] at this)).symm) (by
      have : (fun i => (Array.replicate ops.size false).getD i false) = fun _ => false := by
        funext i; by_cases h : i < ops.size <;> simp [h]
      rw [this]; exact h0)
/-- what is left behind an operation -/
def ValQ (a : Act) (l : List Oper) (S : (Nat → Bool) → List Value → World → Prop) (d : Nat → Bool) (i : Nat) : Exit → Act → World → Prop := fun ex a' w' => ex = .normal ∧ ∃ vs', a' = putAll a l vs' ∧ S (doneSet d i) vs' w'
def ValAll (P : Program) (ops : Array Oper) (a : Act) (l : List Oper) (S : (Nat → Bool) → List Value → World → Prop) : Nat → List Oper → Prop
  | _, [] => True
  | i, o :: rest => (∀ d vs W, S d vs W → d i = false → (∀ e ∈ o.after.toList, Region.binds .any e = true → d e.on = true) → wpList P ops (ValQ a l S d i) [o] (putAll a l vs) W) ∧ ValAll P ops a l S (i + 1) rest
theorem invAll_of_val {P : Program} {ops : Array Oper} {a : Act} {l : List Oper} {S : (Nat → Bool) → List Value → World → Prop} : ∀ (m : List Oper) (k : Nat), ValAll P ops a l S k m → InvAll P ops (fun d F W => ∃ vs, F = putAll a l vs ∧ S d vs W) k m
  | [], _, _ => trivial
  | o :: rest, k, h => ⟨fun d F W ⟨vs, hF, hS⟩ hn hd => by subst hF; exact h.1 d vs W hS hn hd, invAll_of_val rest (k + 1) h.2⟩
theorem putAll_defers : ∀ (l : List Oper) (vs : List Value) (a : Act), (putAll a l vs).defers = a.defers
  | [], _, _ => rfl
  | _ :: _, [], _ => rfl
  | o :: l, v :: vs, a => by rw [putAll, putAll_defers l vs]; cases o.dst <;> rfl
/-- a region in any order, an invariant telling the values of its slots: those of operations that are not done are free -/
theorem region_vals {P : Program} {id : Nat} {Q : Exit → Act → World → Prop} {a : Act} {w : World} {l : List Oper} (vals : List Value) (S : (Nat → Bool) → List Value → World → Prop) (hm : P.follows .mixedOrders = true) (hB : detB l.toArray = true)
    (h0 : S (fun _ => false) vals w.drew) (hs : ValAll P l.toArray a l S 0 l) (hend : ∀ d vs W, S d vs W → (∀ i, i < l.length → d i = true) → Q .normal (putAll a l vs) W) : (Code.region id l.toArray true).wp P Q a w :=
  region_slots vals (fun d F W => ∃ vs, F = putAll a l vs ∧ S d vs W) hm hB (fun d F W ⟨vs, hF, _⟩ => by rw [hF, putAll_defers]) ⟨_, rfl, h0⟩ (invAll_of_val _ _ hs) (fun d F W ⟨vs, hF, hS⟩ hn => hF ▸ hend d vs W hS hn)
end Go.Proofs.Ytmhpfbcdikldcaa

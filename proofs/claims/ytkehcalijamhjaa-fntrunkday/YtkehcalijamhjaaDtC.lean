/- A statement whose order is open and that communicates, told by what its operations leave in their slots; no condition. -/
import Derived.Test.YtkehcalijamhjaaChn
import Derived.Test.YtkehcalijamhjaaDet
namespace Go.Proofs.Ytkehcalijamhjaa
open Go.RowKit Go.ChangeShapes Go.WideShapes Go.ChangeAt
set_option linter.unusedVariables false
set_option linter.unusedSimpArgs false
set_option maxRecDepth 8000
open Go.Conc
section
variable {P : Program} {Q : Exit → Act → World → Prop}
/-- one operation at the full act: it hands a value on, or it communicates -/
def DetC (P : Program) (ops : Array Oper) (full : Act) (S : (Nat → Bool) → World → Prop) (d : Nat → Bool) (i : Nat) (o : Oper) (W : World) : Prop :=
  (val1 o.op = true ∧ wpList P ops (DetQ full S d i) [o] full W) ∨
  (∃ cases bl shape v W', (execOp full.eval o).run P W = .ok (.comm cases bl shape) W ∧ (∀ (cs : List Frame) (fr : Frame) es, stepG P true (G fr cs) W = .comm (G fr cs) cases bl shape W es → step P (solo (G fr cs) W) = .next (solo (G (fr.finish v) cs) W')) ∧ full.put o.dst v = full ∧ S (doneSet d i) W')
def DetAllC (P : Program) (ops : Array Oper) (full : Act) (S : (Nat → Bool) → World → Prop) : Nat → List Oper → Prop
  | _, [] => True
  | i, o :: rest => (∀ d W, S d W → d i = false → (∀ e ∈ o.after.toList, d e.on = true) → DetC P ops full S d i o W) ∧ DetAllC P ops full S (i + 1) rest
theorem detAllC_at {ops : Array Oper} {full : Act} {S : (Nat → Bool) → World → Prop} : ∀ (l : List Oper) (k : Nat), DetAllC P ops full S k l → ∀ (i : Nat) (o : Oper), l[i]? = some o →
    ∀ d W, S d W → d (k + i) = false → (∀ e ∈ o.after.toList, d e.on = true) → DetC P ops full S d (k + i) o W
  | [], _, _, i, o, h => by simp at h
  | o :: rest, k, hs, 0, o', h => by simp at h; subst h; exact hs.1
  | o :: rest, k, hs, i + 1, o', h => by
    have := detAllC_at rest (k + 1) hs.2 i o' (by simpa using h)
    rw [show k + (i + 1) = k + 1 + i by omega]; exact this
/-- the slots of what is done agree -/
structure Agr (ops : Array Oper) (full : Act) (d : Nat → Bool) (A : Act) : Prop where
  df : A.defers = full.defers
  sz : A.tmps.size = full.tmps.size
  at_ : ∀ t, (∀ (i : Nat) (o : Oper), ops[i]? = some o → o.dst = some t → d i = true) → A.tmps[t]? = full.tmps[t]?
theorem Agr.put {ops : Array Oper} {full : Act} {d : Nat → Bool} {A : Act} (h : Agr ops full d A) {i : Nat} {o : Oper} (ho : ops[i]? = some o) (v : Value) (hv : full.put o.dst v = full) : Agr ops full (doneSet d i) (A.put o.dst v) := by
  refine ⟨by rw [← h.df]; cases o.dst <;> rfl, by rw [← h.sz]; cases o.dst <;> simp [Act.put], fun t ht => ?_⟩
  by_cases hd : o.dst = some t
  · have e1 := congrArg Act.tmps hv
    rw [hd] at e1 ⊢
    simp only [Act.put] at e1 ⊢
    rw [← e1]
    simp only [Array.getElem?_setIfInBounds_self, h.sz]
  · have e2 : (A.put o.dst v).tmps[t]? = A.tmps[t]? := by
      cases hd' : o.dst with
      | none => rfl
      | some u => simp [Act.put, Array.getElem?_setIfInBounds_ne (show u ≠ t from fun e => hd (by rw [hd', e]))]
    rw [e2]
    refine h.at_ t fun k p hk hp => ?_
    have hki : k ≠ i := fun e => by subst e; rw [ho] at hk; cases hk; exact hd hp
    have := ht k p hk hp
    simpa [doneSet, hki] using this
theorem region_detC {id : Nat} {a : Act} {w : World} {l : List Oper} (vals : List Value) (S : (Nat → Bool) → World → Prop) {full : Act} (hm : P.follows .mixedOrders = true) (hp : plainOps l.toArray = true) (hB : detB l.toArray = true) (hf : putAll a l vals = full)
    (h0 : S (fun _ => false) w.drew) (hs : DetAllC P l.toArray full S 0 l) (hend : ∀ d W, S d W → (∀ i, i < l.length → d i = true) → Q .normal full W) : (Code.region id l.toArray true).wp P Q a w := by
  have hB' := hB
  simp only [detB, Bool.and_eq_true] at hB
  obtain ⟨hsel, hB⟩ := hB
  obtain ⟨ops, hops⟩ : ∃ ops, l.toArray = ops := ⟨_, rfl⟩
  have hl : l = ops.toList := by rw [← hops]
  have hsz : l.length = ops.size := by rw [← hops]; simp
  rw [hops] at hp hs hsel hB ⊢
  have hat : ∀ (i : Nat) (o : Oper), ops[i]? = some o → (∀ (j : Nat) (p : Oper) (t : Tmp), ops[j]? = some p → o.dst = some t → p.dst = some t → j = i) ∧ (∀ t ∈ o.looksAt ops, (∀ (j : Nat) (p : Oper), ops[j]? = some p → p.dst ≠ some t) ∨ ∃ e ∈ o.after, Region.binds .any e = true ∧ ∃ p, ops[e.on]? = some p ∧ p.dst = some t) := by
    intro i o ho
    have hlt : i < ops.size := (Array.getElem?_eq_some_iff.1 ho).1
    have hx := (List.all_eq_true.1 hB) i (List.mem_range.2 hlt)
    simp only [ho, Bool.and_eq_true] at hx
    obtain ⟨⟨h1, h2⟩, h3⟩ := hx
    refine ⟨fun j p t hj hd hp => ?_, fun t ht => ?_⟩
    · have := (List.all_eq_true.1 h2) j (List.mem_range.2 (Array.getElem?_eq_some_iff.1 hj).1)
      simpa [hj, hd, hp] using this
    · have := (List.all_eq_true.1 h3) t ht
      rw [Bool.or_eq_true] at this
      rcases this with h | h
      · refine .inl fun j p hj => ?_
        have := (List.all_eq_true.1 h) j (List.mem_range.2 (Array.getElem?_eq_some_iff.1 hj).1)
        simpa [hj] using this
      · obtain ⟨ke, hke, h⟩ := Array.any_eq_true.1 h
        obtain ⟨e, hee⟩ : ∃ e, o.after[ke] = e := ⟨_, rfl⟩
        have he : e ∈ o.after := hee ▸ Array.getElem_mem hke
        rw [hee] at h
        rw [Bool.and_eq_true] at h
        refine .inr ⟨e, he, h.1, ?_⟩
        cases hp : ops[e.on]? with
        | none => rw [hp] at h; simp at h
        | some p => rw [hp] at h; exact ⟨p, rfl, by simpa using h.2⟩
  have hput : ∀ (l : List Oper) (vs : List Value) (a : Act), (putAll a l vs).defers = a.defers ∧ (putAll a l vs).tmps.size = a.tmps.size ∧ ∀ t, (∀ o ∈ l, o.dst ≠ some t) → (putAll a l vs).tmps[t]? = a.tmps[t]? := by
    intro l
    induction l with
    | nil => intro vs a; exact ⟨rfl, rfl, fun _ _ => rfl⟩
    | cons o l ih =>
      intro vs a
      cases vs with
      | nil => exact ⟨rfl, rfl, fun _ _ => rfl⟩
      | cons v vs =>
        obtain ⟨h1, h2, h3⟩ := ih vs (a.put o.dst v)
        refine ⟨by rw [putAll, h1]; cases o.dst <;> rfl, by rw [putAll, h2]; cases o.dst <;> simp [Act.put], fun t ht => ?_⟩
        rw [putAll, h3 t (fun o ho => ht o (List.mem_cons_of_mem _ ho))]
        have := ht o (List.mem_cons_self ..)
        cases hd : o.dst with
        | none => rfl
        | some u => rw [hd] at this; simp [Act.put, Array.getElem?_setIfInBounds_ne (show u ≠ t from fun e => this (by rw [e]))]
  obtain ⟨p1, p2, p3⟩ := hput l vals a
  rw [hf] at p1 p2 p3
  refine region_invC hm hp (fun d A W => Agr ops full d A ∧ S d W) ⟨⟨p1.symm, p2.symm, fun t ht => (p3 t fun o ho hd => ?_).symm⟩, h0⟩ ?_ ?_
  · obtain ⟨i, hi, rfl⟩ := List.getElem_of_mem ho
    have := ht i l[i] (by rw [← hops]; simp [List.getElem?_eq_getElem hi]) hd
    cases this
  · intro i o ho d A W ⟨hA, hS⟩ hd hafter
    have hplain : o.guard = none := by
      have hlt : i < ops.size := (Array.getElem?_eq_some_iff.1 ho).1
      have := (List.all_eq_true.1 hp) i (List.mem_range.2 hlt)
      simp only [ho, Bool.and_eq_true, Option.isNone_iff_eq_none] at this
      exact this.1
    have hlook : ∀ t ∈ o.looksAt ops, A.tmps[t]? = full.tmps[t]? := by
      intro t ht
      refine hA.at_ t fun k p hk hp => ?_
      rcases (hat i o ho).2 t ht with h | ⟨e, he, hb, p', hp', hd'⟩
      · exact absurd hp (h k p hk)
      · have := (hat _ _ hp').1 k p t hk hd' hp
        rw [this]; exact hafter e (by simpa using he)
    have hev : ∀ x ∈ o.op.operands, A.eval x = full.eval x := by
      intro x hx
      cases x with
      | tmp t =>
        have := hlook t (List.mem_append_left _ (List.mem_filterMap.2 ⟨.tmp t, by simpa using hx, rfl⟩))
        simp [Act.eval, this]
      | _ => rfl
    have hexec : execOp A.eval o = execOp full.eval o := execOp_congr o (fun cs b => Region.noSelect_spec hsel i o cs b ho) hev
    have hst := detAllC_at l 0 hs i o (by rw [hl]; simpa using ho) d W hS (by simpa using hd) hafter
    rw [Nat.zero_add] at hst
    rcases hst with ⟨hv1, hst⟩ | ⟨cases, bl, shape, v, W', hrun, hstep, hv, hS'⟩
    · have hw : Region.wanted o (yielded ops full.tmps) = true := by simp [Region.wanted, hplain]
      simp only [wpList, hw, if_true] at hst
      rcases hst with h | ⟨_, a0, w0, h0, _⟩
      case inr => cases h0
      unfold Oper.wp at h
      cases hr : (execOp full.eval o).run P W with
      | halt x w' =>
        rw [hr] at h
        cases x <;> first | exact h.elim | (cases h.1)
      | ok nx w' =>
        obtain ⟨u, rfl⟩ := val1_spec hv1 hr
        rw [hr, Oper.upon_value] at h
        exact oneC_val ho hplain u (by rw [hexec]; exact hr) ⟨hA.put ho u h.2.1, h.2.2⟩
    · refine oneC_comm v ⟨hA.put ho v hv, hS'⟩ fun b k cs rest => ?_
      exact step_commB ho hplain (by rw [hexec]; exact hrun) (fun fr es h => hstep cs fr es h)
  · intro d A W ⟨hA, hS⟩ hall
    have : A = full := by
      obtain ⟨tm, df⟩ := A
      obtain ⟨tm', df'⟩ := full
      have e1 : tm = tm' := Array.ext_getElem? fun t => hA.at_ t fun i o ho _ => hall i (Array.getElem?_eq_some_iff.1 ho).1
      have e2 := hA.df
      simp only at e2
      rw [e1, e2]
    rw [this]
    exact hend d W hS fun i hi => hall i (by omega)
end
end Go.Proofs.Ytkehcalijamhjaa

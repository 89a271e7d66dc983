/- Sends, receives and a deferred close in one goroutine, for the walk; no condition. -/
import Derived.Test.YtkehcalijamhjaaOver
import Derived.Conc.LoneCalls
import Derived.Defers
import Derived.ScopeJumps
namespace Go.Proofs.Ytkehcalijamhjaa
open Go.RowKit Go.ChangeShapes Go.WideShapes Go.ChangeAt
set_option linter.unusedVariables false
set_option linter.unusedSimpArgs false
set_option maxRecDepth 8000
open Go.Conc
section
variable {P : Program} {Q : Exit → Act → World → Prop}
/-- a communication, as one step of the machine -/
theorem step_comm {b : Frame} {a : Act} {k : List Item} {cs : List Frame} {w w' : World} {ops : Array Oper} {i : Nat} {rest : List Nat} {o : Oper} {cases : Array CommCase} {shape : CommShape} {v : Value}
    (ho : ops[i]? = some o) (hg : o.guard = none) (hrun : (execOp a.eval o).run P w = .ok (.comm cases true shape) w)
    (hstep : ∀ (fr : Frame) es, stepG P true (G fr cs) w = .comm (G fr cs) cases true shape w es → step P (solo (G fr cs) w) = .next (solo (G (fr.finish v) cs) w')) :
    step P (lone (b.at a (.inRegion ops (i :: rest) :: k)) cs w) = .next (lone (b.at (a.put o.dst v) (.inRegion ops rest :: k)) cs w') := by
  have hw : Region.wanted o (yielded ops a.tmps) = true := by simp [Region.wanted, hg]
  have hst := stepG_op (P := P) (b := b) (k := k) (cs := cs) (w := w) (rest := rest) ho hw
  have hfin : (b.at a (.inRegion ops (i :: rest) :: k)).finish v = b.at (a.put o.dst v) (.inRegion ops rest :: k) := by
    rw [Frame.finish_at, ho]; rfl
  rw [← hfin, lone_eq_solo, lone_eq_solo]
  obtain ⟨es, hes⟩ : ∃ es, stepG P true (G (b.at a (.inRegion ops (i :: rest) :: k)) cs) w = .comm (G (b.at a (.inRegion ops (i :: rest) :: k)) cs) cases true shape w es := by
    unfold G
    rw [hst]
    simp only [stepG.apply, Sem.runT_eq, hrun]
    exact ⟨_, rfl⟩
  exact hstep _ es hes
/-- operations that hand values on, one behind the other, ahead of others -/
theorem pre_steps {K : Act → World → Prop} {ops : Array Oper} : ∀ (l : List Oper) (k0 : Nat) (a : Act) (w : World), (∀ j, j < l.length → l[j]? = ops[k0 + j]?) → (l.all fun o => o.guard.isNone && val1 o.op) = true →
    wpList P ops (fun ex a w => ex = .normal ∧ K a w) l a w → ∀ (b : Frame) (k : List Item) (cs : List Frame) (rest : List Nat),
    ∃ a' w', K a' w' ∧ Steps P (lone (b.at a (.inRegion ops (List.range' k0 l.length ++ rest) :: k)) cs w) (lone (b.at a' (.inRegion ops rest :: k)) cs w')
  | [], k0, a, w, _, _, h, b, k, cs, rest => ⟨a, w, h.2, by simpa using Steps.refl P _⟩
  | o :: l, k0, a, w, hl, hv, h, b, k, cs, rest => by
    have ho : ops[k0]? = some o := by simpa using (hl 0 (by simp)).symm
    simp only [List.all_cons, Bool.and_eq_true, Option.isNone_iff_eq_none] at hv
    obtain ⟨⟨hg, hv1⟩, hvr⟩ := hv
    have hw : Region.wanted o (yielded ops a.tmps) = true := by simp [Region.wanted, hg]
    simp only [wpList, hw, if_true] at h
    rcases h with h | ⟨_, a0, w0, h0, _⟩
    case inr => cases h0
    unfold Oper.wp at h
    have hst := stepG_op (P := P) (b := b) (k := k) (cs := cs) (w := w) (rest := List.range' (k0 + 1) l.length ++ rest) ho hw
    cases hr : (execOp a.eval o).run P w with
    | halt x w' =>
      rw [hr] at h
      cases x <;> first | exact h.elim | (cases h.1)
    | ok nx w' =>
      obtain ⟨u, rfl⟩ := val1_spec hv1 hr
      rw [hr, Oper.upon_value] at h
      obtain ⟨a', w'', hK, hs⟩ := pre_steps l (k0 + 1) (a.put o.dst u) w' (fun j hj => by have := hl (j + 1) (by simpa using hj); simpa [Nat.add_assoc, Nat.add_comm 1 j] using this) hvr h b k cs rest
      refine ⟨a', w'', hK, Steps.head (m₁ := lone (b.at (a.put o.dst u) (.inRegion ops (List.range' (k0 + 1) l.length ++ rest) :: k)) cs w') ?_ hs⟩
      have hfin : (b.at a (.inRegion ops (k0 :: (List.range' (k0 + 1) l.length ++ rest)) :: k)).finish u = b.at (a.put o.dst u) (.inRegion ops (List.range' (k0 + 1) l.length ++ rest) :: k) := by
        rw [Frame.finish_at, ho]; rfl
      simp only [List.length_cons, List.range'_succ, List.cons_append]
      refine step_lone_go ?_
      rw [hst, ← hfin]; simp [stepG.apply, hr]
/-- what is to hold ahead of a communication -/
def CommQ (P : Program) (Q : Exit → Act → World → Prop) (l : List Oper) (n : Nat) (o : Oper) (ex : Exit) (a : Act) (w : World) : Prop :=
  ex = .normal ∧ ∃ v w', (∀ (b : Frame) k cs rest, step P (lone (b.at a (.inRegion l.toArray (n :: rest) :: k)) cs w) = .next (lone (b.at (a.put o.dst v) (.inRegion l.toArray rest :: k)) cs w')) ∧ wpList P l.toArray Q (l.drop (n + 1)) (a.put o.dst v) w'
/-- a region that holds one communication -/
theorem region_comm {id : Nat} {l : List Oper} {a : Act} {w : World} (n : Nat) (o : Oper) (hn : l[n]? = some o) (hv : ((l.take n).all fun o => o.guard.isNone && val1 o.op) = true)
    (h : wpList P l.toArray (CommQ P Q l n o) (l.take n) a w) :
    (Code.region id l.toArray false).wp P Q a w := by
  intro b k cs
  have hlt : n < l.length := by
    by_cases hlt : n < l.length
    · exact hlt
    · rw [List.getElem?_eq_none (by omega)] at hn; cases hn
  obtain ⟨a', w', ⟨v, w'', hstep, hpost⟩, hs⟩ := pre_steps (l.take n) 0 a w (fun j hj => by
    simp only [List.length_take] at hj
    simp [List.getElem?_take, show j < n by omega]) hv h b k cs (n :: List.range' (n + 1) (l.drop (n + 1)).length)
  rw [← wpOps_eq_wpList (l.drop (n + 1)) (n + 1) (fun j => by simp)] at hpost
  obtain ⟨e, a₃, w₃, hq, harr⟩ := wp_ops _ _ _ hpost b k cs
  refine ⟨e, a₃, w₃, hq, .of_steps (.one step_region) (.of_steps (Steps.trans ?_ (.one (hstep b k cs _))) harr)⟩
  have hr : List.range l.toArray.size = List.range' 0 (l.take n).length ++ (n :: List.range' (n + 1) (l.drop (n + 1)).length) := by
    rw [List.range_eq_range', ← List.range'_succ, show (l.take n).length = n by simp; omega]
    have := List.range'_append_1 (s := 0) (m := n) (n := (l.drop (n + 1)).length + 1)
    rw [Nat.zero_add] at this
    rw [this]
    congr 1
    simp; omega
  rw [hr]
  exact hs
/-- behind the body: one deferred call of a builtin function, then the results -/
def bodyPostC (P : Program) (fn : Func) (R : Ending → World → Prop) : Exit → Act → World → Prop
  | .ret, a, w => ∃ bi ats ty cns args u v w1, a.defers = [{ target := .builtin bi ats ty cns, args := args }] ∧ (invoke (.builtin bi ats ty cns) args).run P w = .ok (.value u) w1 ∧ (results fn a.tmps).run P w1 = .ok v w1 ∧ R (.returned v) w1
  | _, _, _ => False
theorem calls_of_wp_builtin {f : FuncId} {fn : Func} {c : Code} {args : Array Value} {w : World} {R : Ending → World → Prop}
    (hf : P.funcs[f]? = some fn) (hb : fn.body = some c)
    (h : c.wp P (bodyPostC P fn R) { tmps := args ++ Array.replicate (fn.ntmps - args.size) undef, defers := [] } w) : Calls P f args w R := by
  intro cs
  let b : Frame := { (default : Frame) with fn := f, kind := .normal }
  have henter : Frame.enter P f args .normal = b.at { tmps := args ++ Array.replicate (fn.ntmps - args.size) undef, defers := [] } [.code c] := by
    simp [Frame.enter, Frame.at, hf, hb, b]
  obtain ⟨e, a', w', hq, harr⟩ := h b [] cs
  rw [← henter] at harr
  cases e with
  | ret =>
    obtain ⟨bi, ats, ty, cns, dargs, u, v, w1, hd, hinv, hr, hR⟩ := hq
    obtain ⟨todo, hs⟩ := harr
    refine ⟨.returned v, w1, { b.at { a' with defers := [] } todo with mode := .returning }, hR, Steps.trans hs (.one ?_), rfl, rfl, rfl, rfl, fn, hf, hr⟩
    refine step_lone_go ?_
    simp [stepG, unwind, callDeferred, Frame.at, hd, hinv]
  | normal => exact hq.elim
  | panic chain => exact hq.elim
  | exit id => exact hq.elim
  | goto l => exact hq.elim
  | outgrown => exact hq.elim
/-- a scope whose jumps lead to labels from which none leads on -/
def FwdQ (P : Program) (c : Code) (Q : Exit → Act → World → Prop) : Exit → Act → World → Prop
  | .goto l, a, w => ∃ rest, findLabel c l = some rest ∧ rest.wp P (fun ex a w => match ex with | .goto _ => False | ex => Q ex a w) a w
  | ex, a, w => Q ex a w
theorem scope_fwd {c : Code} {a : Act} {w : World} (h : ∀ c', Hid (c' = c) → c.wp P (FwdQ P c' Q) a w) : (Code.scope c).wp P Q a w := by
  intro b k cs
  obtain ⟨e, a₁, w₁, hq, harr⟩ := h c rfl b (.inScope c :: k) cs
  cases e with
  | normal => exact ⟨.normal, a₁, w₁, hq, .head step_scope (Steps.trans harr (.one step_inScope))⟩
  | exit id => exact ⟨.exit id, a₁, w₁, hq, fun k' hk => .head step_scope (harr k' (by simp [exitTo, hk]))⟩
  | goto l' =>
    obtain ⟨rest, hf, hp⟩ := hq
    have hg : gotoIn l' (.inScope c :: k) = some (.code rest :: .inScope c :: k) := by simp [gotoIn, hf]
    have hs := harr _ hg
    obtain ⟨e, a₂, w₂, hq₂, harr₂⟩ := hp b (.inScope c :: k) cs
    have hs0 : Steps P (lone (b.at a (.code (Code.scope c) :: k)) cs w) (lone (b.at a₁ (.code rest :: .inScope c :: k)) cs w₁) := .head step_scope hs
    cases e with
    | normal => exact ⟨.normal, a₂, w₂, hq₂, Steps.trans hs0 (Steps.trans harr₂ (.one step_inScope))⟩
    | exit id => exact ⟨.exit id, a₂, w₂, hq₂, fun k' hk => Steps.trans hs0 (harr₂ k' (by simp [exitTo, hk]))⟩
    | goto l'' => exact hq₂.elim
    | ret => exact ⟨_, a₂, w₂, hq₂, .of_steps hs0 harr₂⟩
    | panic ch => exact ⟨_, a₂, w₂, hq₂, .of_steps hs0 harr₂⟩
    | outgrown => exact ⟨_, a₂, w₂, hq₂, .of_steps hs0 harr₂⟩
  | ret => exact ⟨_, a₁, w₁, hq, .of_steps (.one step_scope) harr⟩
  | panic ch => exact ⟨_, a₁, w₁, hq, .of_steps (.one step_scope) harr⟩
  | outgrown => exact ⟨_, a₁, w₁, hq, .of_steps (.one step_scope) harr⟩
end
end Go.Proofs.Ytkehcalijamhjaa
namespace Go.Proofs.Ytkehcalijamhjaa
open Go.RowKit Go.ChangeShapes Go.WideShapes Go.ChangeAt
set_option linter.unusedVariables false
set_option linter.unusedSimpArgs false
set_option maxRecDepth 8000
open Go.Conc
section
variable {P : Program} {Q : Exit → Act → World → Prop} {ops : Array Oper}
/-- one operation of a region, as steps of the machine -/
def OneC (P : Program) (ops : Array Oper) (i : Nat) (a : Act) (w : World) (K : Act → World → Prop) : Prop :=
  ∃ a' w', K a' w' ∧ ∀ (b : Frame) (k : List Item) (cs : List Frame) (rest : List Nat), Steps P (lone (b.at a (.inRegion ops (i :: rest) :: k)) cs w) (lone (b.at a' (.inRegion ops rest :: k)) cs w')
theorem oneC_val {i : Nat} {o : Oper} {a : Act} {w w' : World} {K : Act → World → Prop} (ho : ops[i]? = some o) (hg : o.guard = none) (v : Value) (hrun : (execOp a.eval o).run P w = .ok (.value v) w') (h : K (a.put o.dst v) w') : OneC P ops i a w K := by
  refine ⟨_, _, h, fun b k cs rest => .one ?_⟩
  have hw : Region.wanted o (yielded ops a.tmps) = true := by simp [Region.wanted, hg]
  have hst := stepG_op (P := P) (b := b) (k := k) (cs := cs) (w := w) (rest := rest) ho hw
  have hfin : (b.at a (.inRegion ops (i :: rest) :: k)).finish v = b.at (a.put o.dst v) (.inRegion ops rest :: k) := by
    rw [Frame.finish_at, ho]; rfl
  refine step_lone_go ?_
  rw [hst, ← hfin]; simp [stepG.apply, hrun]
theorem oneC_comm {i : Nat} {o : Oper} {a : Act} {w w' : World} {K : Act → World → Prop} (v : Value) (h : K (a.put o.dst v) w')
    (hs : ∀ (b : Frame) (k : List Item) (cs : List Frame) (rest : List Nat), step P (lone (b.at a (.inRegion ops (i :: rest) :: k)) cs w) = .next (lone (b.at (a.put o.dst v) (.inRegion ops rest :: k)) cs w')) : OneC P ops i a w K :=
  ⟨_, _, h, fun b k cs rest => .one (hs b k cs rest)⟩
/-- a statement whose order is open, that may hold a communication: a relation that each operation keeps -/
theorem region_invC {id : Nat} {a : Act} {w : World} (hm : P.follows .mixedOrders = true) (hp : plainOps ops = true)
    (J : (Nat → Bool) → Act → World → Prop) (h0 : J (fun _ => false) a { w with drawn := w.drawn + 1 })
    (hs : ∀ (i : Nat) (o : Oper), ops[i]? = some o → ∀ (d : Nat → Bool) (a : Act) (w : World), J d a w → d i = false → (∀ e ∈ o.after.toList, d e.on = true) → OneC P ops i a w (J (doneSet d i)))
    (hend : ∀ d a w, J d a w → (∀ i, i < ops.size → d i = true) → Q .normal a w) : (Code.region id ops true).wp P Q a w := by
  have hplain : ∀ i o, ops[i]? = some o → o.guard = none ∧ ∀ e ∈ o.after, e.on < i ∧ Region.binds .any e = true := by
    intro i o ho
    have hlt : i < ops.size := (Array.getElem?_eq_some_iff.1 ho).1
    have := (List.all_eq_true.1 hp) i (List.mem_range.2 hlt)
    simp only [ho, Bool.and_eq_true, Option.isNone_iff_eq_none, Array.all_eq_true_iff_forall_mem, decide_eq_true_eq] at this
    exact this
  have key : ∀ (fuel t : Nat) (listed : Array Bool) (a : Act) (w : World), listed.size = ops.size → (listed.toList.count false ≤ fuel) → J (fun i => listed.getD i false) a w →
      ∃ a' w', Q .normal a' w' ∧ ∀ (b : Frame) (k : List Item) (cs : List Frame), Steps P (lone (b.at a (.inRegion ops (Region.linearise.go .any ops fuel t listed []) :: k)) cs w) (lone (b.at a' (.inRegion ops [] :: k)) cs w') := by
    intro fuel
    induction fuel with
    | zero =>
      intro t listed a w hsz hc hJ
      have hall : ∀ i, i < ops.size → listed.getD i false = true := by
        intro i hi
        cases hb : listed[i]'(by omega) with
        | true => simp [Array.getElem?_eq_getElem (show i < listed.size by omega), hb]
        | false =>
          exfalso
          have : false ∈ listed.toList := by rw [← hb]; exact Array.mem_toList_iff.2 (Array.getElem_mem _)
          have := List.count_pos_iff.2 this
          omega
      exact ⟨a, w, hend _ a w hJ hall, fun b k cs => by simpa [Region.linearise.go] using Steps.refl P _⟩
    | succ n ih =>
      intro t listed a w hsz hc hJ
      have hgo : Region.linearise.go .any ops (n + 1) t listed [] = match (Region.ready .any ops listed)[t % (Region.ready .any ops listed).length]? with
        | some i => Region.linearise.go .any ops n (t / (Region.ready .any ops listed).length) (listed.setIfInBounds i true) [i]
        | none => [].reverse := rfl
      cases hi : (Region.ready .any ops listed)[t % (Region.ready .any ops listed).length]? with
      | none =>
        have hr : Region.ready .any ops listed = [] := by
          cases hr : Region.ready .any ops listed with
          | nil => rfl
          | cons x xs =>
            rw [hr] at hi
            have hlt : t % (x :: xs).length < (x :: xs).length := Nat.mod_lt _ (by simp)
            simp at hi
            simp at hlt
            omega
        rw [hgo, hi]
        refine ⟨a, w, hend _ a w hJ ?_, fun b k cs => Steps.refl P _⟩
        intro i
        induction i using Nat.strongRecOn with
        | _ i ihi =>
          intro hi
          cases hb : listed[i]'(by omega) with
          | true => simp [Array.getElem?_eq_getElem (show i < listed.size by omega), hb]
          | false =>
            exfalso
            have ho : ops[i]? = some ops[i] := Array.getElem?_eq_getElem hi
            have : i ∈ Region.ready .any ops listed := by
              rw [mem_ready]
              refine ⟨by simp [Array.getElem?_eq_getElem (show i < listed.size by omega), hb], _, ho, fun e he _ => ?_⟩
              have := (hplain i _ ho).2 e he
              exact ihi e.on this.1 (by omega)
            rw [hr] at this; cases this
      | some i =>
        rw [hgo, hi]
        simp only []
        rw [linearise_go_acc, List.reverse_singleton, List.singleton_append]
        have hmem := List.mem_of_getElem? hi
        rw [mem_ready] at hmem
        obtain ⟨h1, o, ho, hall⟩ := hmem
        have hlt : i < ops.size := (Array.getElem?_eq_some_iff.1 ho).1
        obtain ⟨a1, w1, hJ1, hs1⟩ := hs i o ho (fun i => listed.getD i false) a w hJ (by simpa [Array.getElem?_eq_getElem (show i < listed.size by omega)] using h1) (fun e he => hall e (by simpa using he) ((hplain i o ho).2 e (by simpa using he)).2)
        obtain ⟨a2, w2, hQ2, hs2⟩ := ih (t / (Region.ready .any ops listed).length) (listed.setIfInBounds i true) a1 w1 (by simp [hsz]) (by
          have hf : listed[i]'(by omega) = false := by simpa [Array.getElem?_eq_getElem (show i < listed.size by omega)] using h1
          have : (listed.setIfInBounds i true).toList = listed.toList.set i true := by simp
          rw [this, List.count_set (by simp; omega)]
          have h3 : listed.toList[i]'(by simp; omega) = false := by simpa using hf
          have h4 : 0 < listed.toList.count false := List.count_pos_iff.2 (by rw [← h3]; exact List.getElem_mem _)
          rw [h3]
          simp only [beq_self_eq_true, if_true, show (true == false) = false from rfl, if_false, Bool.false_eq_true]
          omega) (by
          have : (fun j => (listed.setIfInBounds i true).getD j false) = doneSet (fun j => listed.getD j false) i := by
            funext j
            simp only [doneSet]
            by_cases hj : j = i
            · subst hj; simp [show j < listed.size by omega]
            · rw [if_neg hj, getD_set_ne false (Ne.symm hj)]
          rw [this]; exact hJ1)
        exact ⟨a2, w2, hQ2, fun b k cs => Steps.trans (hs1 b k cs _) (hs2 b k cs)⟩
  intro b k cs
  obtain ⟨a', w', hQ, hst⟩ := key ops.size (w.tape w.drawn (.order b.fn id)) (Array.replicate ops.size false) a { w with drawn := w.drawn + 1 } (by simp) (by simp) (by simpa [Array.getD, Array.getElem?_replicate] using h0)
  refine ⟨.normal, a', w', hQ, .of_steps (.one step_region_draw) ?_⟩
  have : Region.schedule (P.follows .mixedOrders) ops (w.tape w.drawn (.order b.fn id)) = Region.linearise.go .any ops ops.size (w.tape w.drawn (.order b.fn id)) (Array.replicate ops.size false) [] := by
    simp only [Region.schedule, hm, Bool.true_or, if_true]; rfl
  rw [this]
  exact Steps.trans (hst b k cs) (.one step_region_end)
end
end Go.Proofs.Ytkehcalijamhjaa

/- A statement whose order is open and that communicates; no condition. -/
import Derived.Test.YtkehcalijamhjaaSnd
namespace Go.Proofs.Ytkehcalijamhjaa
open Go.RowKit Go.ChangeShapes Go.WideShapes Go.ChangeAt
set_option linter.unusedVariables false
set_option linter.unusedSimpArgs false
set_option maxRecDepth 8000
open Go.Conc
section
variable {P : Program} {Q : Exit → Act → World → Prop} {ops : Array Oper}
/-- one operation of a region, as steps of the machine -/
def OneC (P : Program) (ops : Array Oper) (i : Nat) (a : Act) (w : World) (K : Act → World → Prop) : Prop :=
  ∃ a' w', K a' w' ∧ ∀ (b : Frame) (k : List Item) (cs : List Frame) (rest : List Nat), Steps P (lone (b.at a (.inRegion ops (i :: rest) :: k)) cs w) (lone (b.at a' (.inRegion ops rest :: k)) cs w')
theorem oneC_val {i : Nat} {o : Oper} {a : Act} {w w' : World} {K : Act → World → Prop} (ho : ops[i]? = some o) (hg : o.guard = none) (v : Value) (hrun : (execOp a.eval o).run P w = .ok (.value v) w') (h : K (a.put o.dst v) w') : OneC P ops i a w K := by
  refine ⟨_, _, h, fun b k cs rest => .one ?_⟩
  have hw : Region.wanted o (yielded ops a.tmps) = true := by simp [Region.wanted, hg]
  have hst := stepG_op (P := P) (b := b) (k := k) (cs := cs) (w := w) (rest := rest) ho hw
  have hfin : (b.at a (.inRegion ops (i :: rest) :: k)).finish v = b.at (a.put o.dst v) (.inRegion ops rest :: k) := by
    rw [Frame.finish_at, ho]; rfl
  refine step_lone_go ?_
  rw [hst, ← hfin]; simp [stepG.apply, hrun]
theorem oneC_comm {i : Nat} {o : Oper} {a : Act} {w w' : World} {K : Act → World → Prop} (v : Value) (h : K (a.put o.dst v) w')
    (hs : ∀ (b : Frame) (k : List Item) (cs : List Frame) (rest : List Nat), step P (lone (b.at a (.inRegion ops (i :: rest) :: k)) cs w) = .next (lone (b.at (a.put o.dst v) (.inRegion ops rest :: k)) cs w')) : OneC P ops i a w K :=
  ⟨_, _, h, fun b k cs rest => .one (hs b k cs rest)⟩
/-- a statement whose order is open, that may hold a communication: a relation that each operation keeps -/
theorem region_invC {id : Nat} {a : Act} {w : World} (hm : P.follows .mixedOrders = true) (hp : plainOps ops = true)
    (J : (Nat → Bool) → Act → World → Prop) (h0 : J (fun _ => false) a { w with drawn := w.drawn + 1 })
    (hs : ∀ (i : Nat) (o : Oper), ops[i]? = some o → ∀ (d : Nat → Bool) (a : Act) (w : World), J d a w → d i = false → (∀ e ∈ o.after.toList, d e.on = true) → OneC P ops i a w (J (doneSet d i)))
    (hend : ∀ d a w, J d a w → (∀ i, i < ops.size → d i = true) → Q .normal a w) : (Code.region id ops true).wp P Q a w := by
  have hplain : ∀ i o, ops[i]? = some o → o.guard = none ∧ ∀ e ∈ o.after, e.on < i ∧ Region.binds .any e = true := by
    intro i o ho
    have hlt : i < ops.size := (Array.getElem?_eq_some_iff.1 ho).1
    have := (List.all_eq_true.1 hp) i (List.mem_range.2 hlt)
    simp only [ho, Bool.and_eq_true, Option.isNone_iff_eq_none, Array.all_eq_true_iff_forall_mem, decide_eq_true_eq] at this
    exact this
  have key : ∀ (fuel t : Nat) (listed : Array Bool) (a : Act) (w : World), listed.size = ops.size → (listed.toList.count false ≤ fuel) → J (fun i => listed.getD i false) a w →
      ∃ a' w', Q .normal a' w' ∧ ∀ (b : Frame) (k : List Item) (cs : List Frame), Steps P (lone (b.at a (.inRegion ops (Region.linearise.go .any ops fuel t listed []) :: k)) cs w) (lone (b.at a' (.inRegion ops [] :: k)) cs w') := by
    intro fuel
    induction fuel with
    | zero =>
      intro t listed a w hsz hc hJ
      have hall : ∀ i, i < ops.size → listed.getD i false = true := by
        intro i hi
        cases hb : listed[i]'(by omega) with
        | true => simp [Array.getElem?_eq_getElem (show i < listed.size by omega), hb]
        | false =>
          exfalso
          have : false ∈ listed.toList := by rw [← hb]; exact Array.mem_toList_iff.2 (Array.getElem_mem _)
          have := List.count_pos_iff.2 this
          omega
      exact ⟨a, w, hend _ a w hJ hall, fun b k cs => by simpa [Region.linearise.go] using Steps.refl P _⟩
    | succ n ih =>
      intro t listed a w hsz hc hJ
      have hgo : Region.linearise.go .any ops (n + 1) t listed [] = match (Region.ready .any ops listed)[t % (Region.ready .any ops listed).length]? with
        | some i => Region.linearise.go .any ops n (t / (Region.ready .any ops listed).length) (listed.setIfInBounds i true) [i]
        | none => [].reverse := rfl
      cases hi : (Region.ready .any ops listed)[t % (Region.ready .any ops listed).length]? with
      | none =>
        have hr : Region.ready .any ops listed = [] := by
          cases hr : Region.ready .any ops listed with
          | nil => rfl
          | cons x xs =>
            rw [hr] at hi
            have hlt : t % (x :: xs).length < (x :: xs).length := Nat.mod_lt _ (by simp)
            simp at hi
            simp at hlt
            omega
        rw [hgo, hi]
        refine ⟨a, w, hend _ a w hJ ?_, fun b k cs => Steps.refl P _⟩
        intro i
        induction i using Nat.strongRecOn with
        | _ i ihi =>
          intro hi
          cases hb : listed[i]'(by omega) with
          | true => simp [Array.getElem?_eq_getElem (show i < listed.size by omega), hb]
          | false =>
            exfalso
            have ho : ops[i]? = some ops[i] := Array.getElem?_eq_getElem hi
            have : i ∈ Region.ready .any ops listed := by
              rw [mem_ready]
              refine ⟨by simp [Array.getElem?_eq_getElem (show i < listed.size by omega), hb], _, ho, fun e he _ => ?_⟩
              have := (hplain i _ ho).2 e he
              exact ihi e.on this.1 (by omega)
            rw [hr] at this; cases this
      | some i =>
        rw [hgo, hi]
        simp only []
        rw [linearise_go_acc, List.reverse_singleton, List.singleton_append]
        have hmem := List.mem_of_getElem? hi
        rw [mem_ready] at hmem
        obtain ⟨h1, o, ho, hall⟩ := hmem
        have hlt : i < ops.size := (Array.getElem?_eq_some_iff.1 ho).1
        obtain ⟨a1, w1, hJ1, hs1⟩ := hs i o ho (fun i => listed.getD i false) a w hJ (by simpa [Array.getElem?_eq_getElem (show i < listed.size by omega)] using h1) (fun e he => hall e (by simpa using he) ((hplain i o ho).2 e (by simpa using he)).2)
        obtain ⟨a2, w2, hQ2, hs2⟩ := ih (t / (Region.ready .any ops listed).length) (listed.setIfInBounds i true) a1 w1 (by simp [hsz]) (by
          have hf : listed[i]'(by omega) = false := by simpa [Array.getElem?_eq_getElem (show i < listed.size by omega)] using h1
          have : (listed.setIfInBounds i true).toList = listed.toList.set i true := by simp
          rw [this, List.count_set (by simp; omega)]
          have h3 : listed.toList[i]'(by simp; omega) = false := by simpa using hf
          have h4 : 0 < listed.toList.count false := List.count_pos_iff.2 (by rw [← h3]; exact List.getElem_mem _)
          rw [h3]
          simp only [beq_self_eq_true, if_true, show (true == false) = false from rfl, if_false, Bool.false_eq_true]
          omega) (by
          have : (fun j => (listed.setIfInBounds i true).getD j false) = doneSet (fun j => listed.getD j false) i := by
            funext j
            simp only [doneSet]
            by_cases hj : j = i
            · subst hj; simp [show j < listed.size by omega]
            · rw [if_neg hj, getD_set_ne false (Ne.symm hj)]
          rw [this]; exact hJ1)
        exact ⟨a2, w2, hQ2, fun b k cs => Steps.trans (hs1 b k cs _) (hs2 b k cs)⟩
  intro b k cs
  obtain ⟨a', w', hQ, hst⟩ := key ops.size (w.tape w.drawn (.order b.fn id)) (Array.replicate ops.size false) a { w with drawn := w.drawn + 1 } (by simp) (by simp) (by simpa [Array.getD, Array.getElem?_replicate] using h0)
  refine ⟨.normal, a', w', hQ, .of_steps (.one step_region_draw) ?_⟩
  have : Region.schedule (P.follows .mixedOrders) ops (w.tape w.drawn (.order b.fn id)) = Region.linearise.go .any ops ops.size (w.tape w.drawn (.order b.fn id)) (Array.replicate ops.size false) [] := by
    simp only [Region.schedule, hm, Bool.true_or, if_true]; rfl
  rw [this]
  exact Steps.trans (hst b k cs) (.one step_region_end)
end
end Go.Proofs.Ytkehcalijamhjaa

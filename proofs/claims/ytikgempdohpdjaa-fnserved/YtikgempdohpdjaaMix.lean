/- A statement whose order of evaluation is left open, some of whose operations write: those that read are taken first, where the cells that they read stay as they are till the last one; the others follow in the one order that is left. No condition. -/
import Derived.OrdersHeld
import Derived.Deep.Quiet
import Derived.Tactics
namespace Go.Proofs.Ytikgempdohpdjaa
section
variable {P : Program} {ops : Array Oper} {Q : Exit → Act → World → Prop} {md : Region.Mode} {S : World → Prop} {z : Nat}
/-- whatever order is picked, S holding behind each operation ahead of z -/
def wpAnyZ (P : Program) (md : Region.Mode) (ops : Array Oper) (Q : Exit → Act → World → Prop) (S : World → Prop) (z : Nat) : Nat → Array Bool → Act → World → Prop
  | 0, listed, a, w => Region.ready md ops listed = [] ∧ Q .normal a w
  | fuel + 1, listed, a, w => (Region.ready md ops listed = [] → Q .normal a w) ∧
    ∀ i ∈ Region.ready md ops listed, wpOp P ops Q i (fun a' w' => (i < z → S w') ∧ wpAnyZ P md ops Q S z fuel (listed.setIfInBounds i true) a' w') a w
theorem wpAny_of_Z : ∀ (fuel : Nat) (listed : Array Bool) (a : Act) (w : World), wpAnyZ P md ops Q S z fuel listed a w → wpAny P md ops Q fuel listed a w
  | 0, _, _, _, h => h
  | fuel + 1, _, _, _, h => ⟨h.1, fun i hi => wpOp_mono (fun a' w' h' => wpAny_of_Z fuel _ a' w' h'.2) (h.2 i hi)⟩
theorem wpAnyZ_first {i : Nat} {oi : Oper} {v : Value} (hi : ops[i]? = some oi) (hsel : ∀ (j : Nat) (o : Oper) cs b, ops[j]? = some o → o.op ≠ .select cs b)
    (hz : ∀ j oj, z ≤ j → ops[j]? = some oj → ∃ e ∈ oj.after, Region.binds md e = true ∧ e.on = i)
    (hQ : ∀ c a w, Q (.panic c) (a.put oi.dst v) w → Q (.panic c) a w) :
    ∀ (fuel : Nat) (listed : Array Bool) (a : Act) (w : World),
      (∀ j oj, ops[j]? = some oj → j ≠ i → listed.getD j true = false → (∀ e ∈ oj.after, Region.binds md e = true → e.on ≠ i) → oi.apart ops oj = true) →
      i ∈ Region.ready md ops listed → YieldsIf P ops S oi v a → S w →
      wpAnyZ P md ops Q S z fuel (listed.setIfInBounds i true) (a.put oi.dst v) w → wpAnyZ P md ops Q S z (fuel + 1) listed a w := by
  intro fuel
  induction fuel with
  | zero =>
    intro listed a w _ hr hy hS H
    refine ⟨fun h => (by rw [h] at hr; cases hr), fun j hj => ?_⟩
    by_cases hji : j = i
    · subst hji; exact hy.wpOp hi hS ⟨fun _ => hS, H⟩
    · have := ready_mono hj hji
      rw [H.1] at this
      cases this
  | succ fuel ih =>
    intro listed a w hfree hr hy hS H
    refine ⟨fun h => (by rw [h] at hr; cases hr), fun j hj => ?_⟩
    by_cases hji : j = i
    · subst hji; exact hy.wpOp hi hS ⟨fun _ => hS, H⟩
    · have h1 := H.2 j (ready_mono hj hji)
      obtain ⟨hjun, oj, hoj, hall⟩ := mem_ready.1 hj
      have hnot : ∀ e ∈ oj.after, Region.binds md e = true → e.on ≠ i := fun e he hb heq => by
        have h1 := hall e he hb
        have h0 := (mem_ready.1 hr).1
        rw [heq] at h1
        rcases Nat.lt_or_ge i listed.size with h' | h'
        · simp [h'] at h0 h1; rw [h0] at h1; cases h1
        · simp [Array.getElem?_eq_none h'] at h1
      have hjz : j < z := Nat.lt_of_not_le fun hle => by
        obtain ⟨e, he, hb, ho⟩ := hz j oj hle hoj
        exact hnot e he hb ho
      have h2 := wpOp_putIf hoj (hfree j oj hoj hji hjun hnot) (fun cs b => hsel i oi cs b hi) (fun cs b => hsel j oj cs b hoj) hQ hy h1
      have hfree' : ∀ k ok, ops[k]? = some ok → k ≠ i → (listed.setIfInBounds j true).getD k true = false →
          (∀ e ∈ ok.after, Region.binds md e = true → e.on ≠ i) → oi.apart ops ok = true := fun k ok hk hki hun hno => by
        refine hfree k ok hk hki ?_ hno
        by_cases hjk : j = k
        · subst hjk; exact hjun
        · rw [getD_set_ne true hjk] at hun; exact hun
      refine wpOp_mono (fun a' w' h3 => ⟨fun _ => h3.2.1 hjz, ih (listed.setIfInBounds j true) a' w' hfree' (ready_mono hr (Ne.symm hji)) h3.1 (h3.2.1 hjz) ?_⟩) h2
      rw [Array.setIfInBounds_comm _ _ hji]
      exact h3.2.2
/-- operations that hand a value on and call no Go function -/
def valB : Callee → Bool
  | .builtin .min | .builtin .max | .builtin .len => true
  | _ => false
def val1 : Op → Bool
  | .call c => valB c.callee
  | .move _ | .assign _ | .pick .. | .build .. | .load .. | .nilCheck _ | .binOp .. | .unOp .. | .convert .. | .slice .. | .fieldAddr .. | .field .. | .indexAddr .. | .index .. | .lookup .. | .extract .. => true
  | _ => false
theorem andThen_val {α : Type} {s : Result α} {f : α → Value} {r : Next} {w' : World} (h : (s.andThen fun a w => Result.ok (Next.value (f a)) w) = .ok r w') : ∃ u, r = .value u := by
  cases s with
  | ok a w => simp [Result.andThen] at h; exact ⟨f a, h.1.symm⟩
  | halt x w => simp [Result.andThen] at h
theorem val1_spec {ρ : Operand → Value} {o : Oper} {w w' : World} {r : Next} (hv : val1 o.op = true) (h : (execOp ρ o).run P w = .ok r w') : ∃ u, r = .value u := by
  unfold execOp at h
  cases hop : o.op <;> rw [hop] at h hv <;> first | (cases hv) | skip
  all_goals dsimp only at h
  case nilCheck x =>
    split at h
    · simp [runtimePanic, goPanic] at h
    · simp [runtimePanic, goPanic] at h
    · simp [runtimePanic, goPanic] at h
    · split at h
      · simp [runtimePanic, goPanic] at h
      · simp only [Sem.run_bind] at h
        revert h
        generalize Sem.run P program w = s1
        intro h
        cases s1 with
        | halt x w1 => simp [Result.andThen] at h
        | ok p w1 =>
          simp only [Result.andThen_ok] at h
          revert h
          generalize Sem.run P (nilAhead _ _ _ _) w1 = s2
          intro h
          cases s2 with
          | halt x w2 => simp [Result.andThen] at h
          | ok b w2 =>
            simp only [Result.andThen_ok] at h
            split at h
            · simp [unsupported] at h
            · simp only [Sem.run_pure, Result.ok.injEq] at h; exact ⟨_, h.1.symm⟩
      · simp only [Sem.run_pure, Result.ok.injEq] at h; exact ⟨_, h.1.symm⟩
    · simp only [Sem.run_pure, Result.ok.injEq] at h; exact ⟨_, h.1.symm⟩
  case call c =>
    have hc : valB c.callee = true := hv
    revert hc h
    generalize hcal : c.callee = cl
    intro h hc
    cases cl with
    | builtin b =>
      cases b <;> first | (cases hc; done) | skip
      all_goals
        simp only [resolve, hcal, Sem.run_bind, Sem.run_pure, Result.andThen_ok, invoke, builtin] at h
        first
          | exact andThen_val (f := id) h
          | exact andThen_val h
    | invoke a b => cases hc
    | value f => cases hc
  case move x => simp only [Sem.run_pure, Result.ok.injEq] at h; exact ⟨_, h.1.symm⟩
  case assign x => simp only [Sem.run_pure, Result.ok.injEq] at h; exact ⟨_, h.1.symm⟩
  all_goals
    simp only [Sem.run_bind, Sem.run_pure] at h
    first
      | exact andThen_val (f := id) h
      | exact andThen_val h
/-- what is quiet and calls nothing yields -/
theorem yieldsIf_of_quiet {o : Oper} {a : Act} {v : Value} (hv : val1 o.op = true) (hw : Region.wanted o (yielded ops a.tmps) = true) (h : ∀ w, S w → o.quietAt P a S w v) : YieldsIf P ops S o v a := by
  refine .inl ⟨hw, fun w hS => ?_⟩
  have h1 := h w hS
  unfold Oper.quietAt at h1
  revert h1
  generalize hr : (execOp a.eval o).run P w = r
  intro h1
  cases r with
  | halt x w' => simp only [Oper.quietUpon] at h1
  | ok n w' =>
    obtain ⟨u, rfl⟩ := val1_spec hv hr
    simp only [Oper.quietUpon] at h1
    rw [h1.1, h1.2]
/-- those that are told true; those that are told false -/
def selT : List Bool → List Oper → List Oper
  | true :: fl, o :: l => o :: selT fl l
  | false :: fl, _ :: l => selT fl l
  | _, _ => []
def selF : List Bool → List Oper → List Oper
  | true :: fl, _ :: l => selF fl l
  | false :: fl, o :: l => o :: selF fl l
  | _, _ => []
def numT : List Bool → Nat
  | true :: fl => numT fl + 1
  | false :: fl => numT fl
  | [] => 0
def numF : List Bool → Nat
  | true :: fl => numF fl
  | false :: fl => numF fl + 1
  | [] => 0
/-- may those that are told true be taken first, in the order of the text? -/
def mixQ (md : Region.Mode) (ops : Array Oper) (z : Nat) : List Bool → Nat → Array Bool → Bool
  | [], _, _ => true
  | false :: fl, k, listed => mixQ md ops z fl (k + 1) listed
  | true :: fl, k, listed => (Region.ready md ops listed).contains k && Region.free md ops listed k && (match ops[k]? with | some o => val1 o.op | none => false) &&
      ((List.range ops.size).all fun j => decide (j < z) || (match ops[j]? with | some oj => oj.after.any (fun e => Region.binds md e && e.on == k) | none => true)) && mixQ md ops z fl (k + 1) (listed.setIfInBounds k true)
def mixL : List Bool → Nat → Array Bool → Array Bool
  | [], _, listed => listed
  | false :: fl, k, listed => mixL fl (k + 1) listed
  | true :: fl, k, listed => mixL fl (k + 1) (listed.setIfInBounds k true)
theorem mix_quiet {T : Act → Prop} (hs : Region.noSelect ops = true) (hQ : ∀ c t v a w, Q (.panic c) (Act.put a (some t) v) w → Q (.panic c) a w) (n : Nat) (w : World) (hS : S w) : ∀ (l : List Oper) (fl : List Bool) (k : Nat) (listed : Array Bool) (a : Act), (∀ j, l[j]? = ops[k + j]?) → fl.length = l.length →
    mixQ md ops z fl k listed = true → wpQuiet P ops S T (selT fl l) a → (∀ a', T a' → wpAnyZ P md ops Q S z n (mixL fl k listed) a' w) → wpAnyZ P md ops Q S z (n + numT fl) listed a w
  | [], [], k, listed, a, _, _, _, h, ht => by simpa [numT, mixL] using ht a h
  | o :: l, false :: fl, k, listed, a, hl, hn, hB, h, ht => by
    simp only [numT]
    exact mix_quiet hs hQ n w hS l fl (k + 1) listed a (fun j => by have := hl (j + 1); simpa [Nat.add_assoc, Nat.add_comm 1 j] using this) (by simpa using hn) (by simpa [mixQ] using hB) (by simpa [selT] using h) (by simpa [mixL] using ht)
  | o :: l, true :: fl, k, listed, a, hl, hn, hB, h, ht => by
    have h0 : ops[k]? = some o := by simpa using (hl 0).symm
    simp only [mixQ, h0, Bool.and_eq_true] at hB
    obtain ⟨⟨⟨⟨hr, hf⟩, hv⟩, hzz⟩, hB'⟩ := hB
    have hz : ∀ j oj, z ≤ j → ops[j]? = some oj → ∃ e ∈ oj.after, Region.binds md e = true ∧ e.on = k := by
      intro j oz hle ho
      have hlt : j < ops.size := (Array.getElem?_eq_some_iff.1 ho).1
      have hzz := (List.all_eq_true.1 hzz) j (List.mem_range.2 hlt)
      simp only [ho, Bool.or_eq_true, decide_eq_true_eq] at hzz
      rcases hzz with hzz | hzz
      · omega
      obtain ⟨j, hj, h⟩ := Array.any_eq_true.1 hzz
      simp only [Bool.and_eq_true, beq_iff_eq] at h
      exact ⟨_, Array.getElem_mem hj, h⟩
    have hst : qOp P ops S k (wpQuiet P ops S T (selT fl l)) a := by unfold qOp; simp only [h0]; exact h
    have hgo : ∀ v, YieldsIf P ops S o v a → wpQuiet P ops S T (selT fl l) (a.put o.dst v) → wpAnyZ P md ops Q S z (n + numT (true :: fl)) listed a w := by
      intro v hy hK
      simp only [numT, ← Nat.add_assoc]
      exact wpAnyZ_first h0 (Region.noSelect_spec hs) hz (fun c a w h => (by cases hd : o.dst with | none => rw [hd] at h; exact h | some t => rw [hd] at h; exact hQ c t v a w h)) _ listed a w (Region.free_spec h0 hf) (by simpa using hr) hy hS
        (mix_quiet hs hQ n w hS l fl (k + 1) _ _ (fun j => by have := hl (j + 1); simpa [Nat.add_assoc, Nat.add_comm 1 j] using this) (by simpa using hn) hB' hK (by simpa [mixL] using ht))
    unfold qOp at hst
    simp only [h0] at hst
    by_cases hw : Region.wanted o (yielded ops a.tmps) = true
    · rw [if_pos hw] at hst
      obtain ⟨v, h1, h2⟩ := hst
      exact hgo v (yieldsIf_of_quiet hv hw h1) h2
    · rw [if_neg hw] at hst
      exact hgo undef (.inr ⟨by simpa using hw, rfl⟩) hst
  | [], _ :: _, _, _, _, _, hn, _, _, _ => by simp at hn
  | _ :: _, [], _, _, _, _, hn, _, _, _ => by simp at hn
/-- the others, one behind the other, S behind the first m -/
def wpTail (P : Program) (ops : Array Oper) (Q : Exit → Act → World → Prop) (S : World → Prop) : Nat → List Oper → Act → World → Prop
  | 0, l, a, w => wpList P ops Q l a w
  | _ + 1, [], a, w => Q .normal a w
  | m + 1, o :: rest, a, w => wpList P ops (fun ex a w => match ex with | .normal => S w ∧ wpTail P ops Q S m rest a w | ex => Q ex a w) [o] a w
/-- how many of those that are told false lie ahead of z -/
def cntF (z : Nat) : List Bool → Nat → Nat
  | [], _ => 0
  | true :: fl, k => cntF z fl (k + 1)
  | false :: fl, k => if k < z then cntF z fl (k + 1) + 1 else 0
/-- is there one order left for those that are told false? -/
def mixT (md : Region.Mode) (ops : Array Oper) (z : Nat) : List Bool → Nat → Array Bool → Bool
  | [], _, listed => (Region.ready md ops listed).isEmpty
  | true :: fl, k, listed => mixT md ops z fl (k + 1) listed
  | false :: fl, k, listed => (Region.ready md ops listed == [k]) && mixT md ops z fl (k + 1) (listed.setIfInBounds k true)
theorem cntF_past (z : Nat) : ∀ (fl : List Bool) (k : Nat), z ≤ k → cntF z fl k = 0
  | [], _, _ => rfl
  | true :: fl, k, h => by simp only [cntF]; exact cntF_past z fl (k + 1) (by omega)
  | false :: fl, k, h => by simp [cntF]; omega
theorem wp_change {o : Oper} {a : Act} {w : World} {K : Act → World → Prop} {Q1 : Exit → Act → World → Prop} (hp : ∀ e a w, e ≠ .normal → Q1 e a w → Q e a w) (h : o.wp P a w K Q1) : o.wp P a w K Q := by
  unfold Oper.wp at *
  generalize (execOp a.eval o).run P w = r at *
  cases r with
  | ok n w' =>
    cases n <;> simp only [Oper.upon] at h ⊢ <;> first | exact h | skip
    case enter f args =>
      refine Calls.mono h fun e w'' he => ?_
      cases e with
      | returned u => exact he
      | panicked c => exact hp _ _ _ (by simp) he
      | outgrown => obtain ⟨a1, w1, hq⟩ := he; exact ⟨a1, w1, hp _ _ _ (by simp) hq⟩
  | halt x w' =>
    cases x <;> simp only [Oper.upon] at h ⊢ <;> first | exact hp _ _ _ (by simp) h | exact h
theorem mix_tail : ∀ (l : List Oper) (fl : List Bool) (k : Nat) (listed : Array Bool) (a : Act) (w : World), (∀ j, l[j]? = ops[k + j]?) → fl.length = l.length →
    mixT md ops z fl k listed = true → wpTail P ops Q S (cntF z fl k) (selF fl l) a w → wpAnyZ P md ops Q S z (numF fl) listed a w
  | [], [], k, listed, a, w, _, _, hB, h => ⟨by simpa [mixT] using hB, by simpa [selF, cntF, wpTail, wpList] using h⟩
  | o :: l, true :: fl, k, listed, a, w, hl, hn, hB, h => by
    simp only [numF]
    exact mix_tail l fl (k + 1) listed a w (fun j => by have := hl (j + 1); simpa [Nat.add_assoc, Nat.add_comm 1 j] using this) (by simpa using hn) (by simpa [mixT] using hB) (by simpa [selF, cntF] using h)
  | o :: l, false :: fl, k, listed, a, w, hl, hn, hB, h => by
    have h0 : ops[k]? = some o := by simpa using (hl 0).symm
    simp only [mixT, Bool.and_eq_true, beq_iff_eq] at hB
    obtain ⟨hr, hB'⟩ := hB
    have hrec : ∀ a' w', wpTail P ops Q S (cntF z fl (k + 1)) (selF fl l) a' w' → wpAnyZ P md ops Q S z (numF fl) (listed.setIfInBounds k true) a' w' := fun a' w' h' =>
      mix_tail l fl (k + 1) _ a' w' (fun j => by have := hl (j + 1); simpa [Nat.add_assoc, Nat.add_comm 1 j] using this) (by simpa using hn) hB' h'
    simp only [numF]
    refine ⟨fun e => (by rw [hr] at e; cases e), fun i hi => ?_⟩
    rw [hr] at hi
    obtain rfl : i = k := by simpa using hi
    unfold wpOp
    simp only [h0]
    by_cases hz : i < z
    · simp only [cntF, if_pos hz, selF, wpTail, wpList] at h
      split
      · rename_i hw
        rw [if_pos hw] at h
        rcases h with h | ⟨h1, h2⟩
        · exact .inl (wp_change (fun e a w hne hq => by cases e <;> first | exact hq | exact absurd rfl hne) (Oper.wp_mono (fun a' w' h' => ⟨fun _ => h'.1, hrec a' w' h'.2⟩) h))
        · exact .inr ⟨h1, by obtain ⟨a, w, hq⟩ := h2; exact ⟨a, w, hq⟩⟩
      · rename_i hw
        rw [if_neg hw] at h
        exact ⟨fun _ => h.1, hrec _ _ h.2⟩
    · simp only [cntF, if_neg hz, selF, wpTail, wpList] at h
      have hc : cntF z fl (i + 1) = 0 := cntF_past z fl (i + 1) (by omega)
      rw [hc] at hrec
      split
      · rename_i hw
        rw [if_pos hw] at h
        rcases h with h | h
        · exact .inl (Oper.wp_mono (fun a' w' h' => ⟨fun hlt => absurd hlt hz, hrec a' w' h'⟩) h)
        · exact .inr h
      · rename_i hw
        rw [if_neg hw] at h
        exact ⟨fun hlt => absurd hlt hz, hrec _ _ h⟩
  | [], _ :: _, _, _, _, _, _, hn, _, _ => by simp at hn
  | _ :: _, [], _, _, _, _, _, hn, _, _ => by simp at hn
def mixB (ops : Array Oper) (fl : List Bool) (z : Nat) : Bool := Region.noSelect ops && (fl.length == ops.size) && mixQ .any ops z fl 0 (Array.replicate ops.size false) && mixT .any ops z fl 0 (mixL fl 0 (Array.replicate ops.size false))
theorem num_add : ∀ fl : List Bool, numF fl + numT fl = fl.length
  | [] => rfl
  | true :: fl => by have := num_add fl; simp [numF, numT]; omega
  | false :: fl => by have := num_add fl; simp [numF, numT]; omega
/-- THE RULE -/
theorem region_mix {id : Nat} {a : Act} {w : World} {l : List Oper} (fl : List Bool) (z : Nat) (S : World → Prop) (hm : P.follows .mixedOrders = true) (hB : mixB l.toArray fl z = true) (hQ : ∀ c t v a w, Q (.panic c) (Act.put a (some t) v) w → Q (.panic c) a w) (hS : S w.drew)
    (h : wpQuiet P l.toArray S (fun a' => wpTail P l.toArray Q S (cntF z fl 0) (selF fl l) a' w.drew) (selT fl l) a) : (Code.region id l.toArray true).wp P Q a w := by
  simp only [mixB, Bool.and_eq_true, beq_iff_eq] at hB
  obtain ⟨⟨⟨hs, hn⟩, hq⟩, ht⟩ := hB
  refine wp_region_any hm (wpAny_of_Z (S := S) (z := z) _ _ _ _ ?_)
  have := mix_quiet (Q := Q) (z := z) (T := fun a' => wpTail P l.toArray Q S (cntF z fl 0) (selF fl l) a' w.drew) hs hQ (numF fl) w.drew hS l fl 0 (Array.replicate l.toArray.size false) a (by simp) (by simpa using hn) hq h
    (fun a' h' => mix_tail l fl 0 _ a' w.drew (by simp) (by simpa using hn) ht h')
  rw [num_add, hn] at this
  exact this
end
end Go.Proofs.Ytikgempdohpdjaa

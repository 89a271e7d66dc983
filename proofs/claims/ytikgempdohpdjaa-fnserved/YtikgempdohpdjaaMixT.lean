/- A statement whose order is left open: what reads is taken first, where what follows waits for it, be it over others; no condition. -/
import Derived.Test.YtikgempdohpdjaaOver
namespace Go.Proofs.Ytikgempdohpdjaa
open Go.RowKit Go.ChangeShapes Go.WideShapes Go.ChangeAt
set_option linter.unusedVariables false
set_option linter.unusedSimpArgs false
set_option maxRecDepth 8000
section
variable {P : Program} {ops : Array Oper} {Q : Exit → Act → World → Prop} {md : Region.Mode} {S : World → Prop} {z : Nat}
/-- whatever order is picked, S holding behind each operation ahead of z -/
theorem wpAnyZ_firstT {i : Nat} {oi : Oper} {v : Value} (hi : ops[i]? = some oi) (hsel : ∀ (j : Nat) (o : Oper) cs b, ops[j]? = some o → o.op ≠ .select cs b)
    (D : Nat → Bool) (hD : ∀ j oj, D j = true → ops[j]? = some oj → ∃ e ∈ oj.after, Region.binds md e = true ∧ (e.on = i ∨ D e.on = true))
    (hz : ∀ j oj, z ≤ j → ops[j]? = some oj → D j = true)
    (hQ : ∀ c a w, Q (.panic c) (a.put oi.dst v) w → Q (.panic c) a w) :
    ∀ (fuel : Nat) (listed : Array Bool) (a : Act) (w : World),
      (∀ j, D j = true → listed[j]? ≠ some true) →
      (∀ j oj, ops[j]? = some oj → j ≠ i → listed.getD j true = false → (∀ e ∈ oj.after, Region.binds md e = true → e.on ≠ i) → oi.apart ops oj = true) →
      i ∈ Region.ready md ops listed → YieldsIf P ops S oi v a → S w →
      wpAnyZ P md ops Q S z fuel (listed.setIfInBounds i true) (a.put oi.dst v) w → wpAnyZ P md ops Q S z (fuel + 1) listed a w := by
  intro fuel
  induction fuel with
  | zero =>
    intro listed a w _ _ hr hy hS H
    refine ⟨fun h => (by rw [h] at hr; cases hr), fun j hj => ?_⟩
    by_cases hji : j = i
    · subst hji; exact hy.wpOp hi hS ⟨fun _ => hS, H⟩
    · have := ready_mono hj hji
      rw [H.1] at this
      cases this
  | succ fuel ih =>
    intro listed a w hDl hfree hr hy hS H
    refine ⟨fun h => (by rw [h] at hr; cases hr), fun j hj => ?_⟩
    by_cases hji : j = i
    · subst hji; exact hy.wpOp hi hS ⟨fun _ => hS, H⟩
    · have h1 := H.2 j (ready_mono hj hji)
      obtain ⟨hjun, oj, hoj, hall⟩ := mem_ready.1 hj
      have hnot : ∀ e ∈ oj.after, Region.binds md e = true → e.on ≠ i := fun e he hb heq => by
        have h1 := hall e he hb
        have h0 := (mem_ready.1 hr).1
        rw [heq] at h1
        rcases Nat.lt_or_ge i listed.size with h' | h'
        · simp [h'] at h0 h1; rw [h0] at h1; cases h1
        · simp [Array.getElem?_eq_none h'] at h1
      have hjD : ¬ D j = true := fun hd => by
        obtain ⟨e, he, hb, ho⟩ := hD j oj hd hoj
        rcases ho with ho | ho
        · exact hnot e he hb ho
        · have h1 := hall e he hb
          have h2 := hDl e.on ho
          rcases Nat.lt_or_ge e.on listed.size with h' | h'
          · simp [h'] at h1 h2; rw [h2] at h1; cases h1
          · simp [Array.getElem?_eq_none h'] at h1
      have hjz : j < z := Nat.lt_of_not_le fun hle => hjD (hz j oj hle hoj)
      have hDl' : ∀ k, D k = true → (listed.setIfInBounds j true)[k]? ≠ some true := fun k hk => by
        by_cases hjk : j = k
        · subst hjk; exact absurd hk hjD
        · rw [Array.getElem?_setIfInBounds_ne hjk]; exact hDl k hk
      have h2 := wpOp_putIf hoj (hfree j oj hoj hji hjun hnot) (fun cs b => hsel i oi cs b hi) (fun cs b => hsel j oj cs b hoj) hQ hy h1
      have hfree' : ∀ k ok, ops[k]? = some ok → k ≠ i → (listed.setIfInBounds j true).getD k true = false →
          (∀ e ∈ ok.after, Region.binds md e = true → e.on ≠ i) → oi.apart ops ok = true := fun k ok hk hki hun hno => by
        refine hfree k ok hk hki ?_ hno
        by_cases hjk : j = k
        · subst hjk; exact hjun
        · rw [getD_set_ne true hjk] at hun; exact hun
      refine wpOp_mono (fun a' w' h3 => ⟨fun _ => h3.2.1 hjz, ih (listed.setIfInBounds j true) a' w' hDl' hfree' (ready_mono hr (Ne.symm hji)) h3.1 (h3.2.1 hjz) ?_⟩) h2
      rw [Array.setIfInBounds_comm _ _ hji]
      exact h3.2.2
/-- which operations wait for k, be it over others -/
def waitL (md : Region.Mode) (ops : Array Oper) (k : Nat) : List Bool := (List.range ops.size).foldl (fun acc j => acc ++ [match ops[j]? with | some o => o.after.any (fun e => Region.binds md e && (e.on == k || acc.getD e.on false)) | none => false]) []
def waitB (md : Region.Mode) (ops : Array Oper) (z k : Nat) (listed : Array Bool) (D : List Bool) : Bool :=
  ((List.range ops.size).all fun j => !D.getD j false || (match ops[j]? with | some o => o.after.any (fun e => Region.binds md e && (e.on == k || D.getD e.on false)) | none => false)) &&
  ((List.range ops.size).all fun j => decide (j < z) || D.getD j false) && ((List.range D.length).all fun j => !D.getD j false || (listed[j]? != some true))
/-- may those that are told true be taken first, in the order of the text? -/
def mixQT (md : Region.Mode) (ops : Array Oper) (z : Nat) : List Bool → Nat → Array Bool → Bool
  | [], _, _ => true
  | false :: fl, k, listed => mixQT md ops z fl (k + 1) listed
  | true :: fl, k, listed => (Region.ready md ops listed).contains k && Region.free md ops listed k && (match ops[k]? with | some o => val1 o.op | none => false) &&
      waitB md ops z k listed (waitL md ops k) && mixQT md ops z fl (k + 1) (listed.setIfInBounds k true)
theorem mix_quietT {T : Act → Prop} (hs : Region.noSelect ops = true) (hQ : ∀ c t v a w, Q (.panic c) (Act.put a (some t) v) w → Q (.panic c) a w) (n : Nat) (w : World) (hS : S w) : ∀ (l : List Oper) (fl : List Bool) (k : Nat) (listed : Array Bool) (a : Act), (∀ j, l[j]? = ops[k + j]?) → fl.length = l.length →
    mixQT md ops z fl k listed = true → wpQuiet P ops S T (selT fl l) a → (∀ a', T a' → wpAnyZ P md ops Q S z n (mixL fl k listed) a' w) → wpAnyZ P md ops Q S z (n + numT fl) listed a w
  | [], [], k, listed, a, _, _, _, h, ht => by simpa [numT, mixL] using ht a h
  | o :: l, false :: fl, k, listed, a, hl, hn, hB, h, ht => by
    simp only [numT]
    exact mix_quietT hs hQ n w hS l fl (k + 1) listed a (fun j => by have := hl (j + 1); simpa [Nat.add_assoc, Nat.add_comm 1 j] using this) (by simpa using hn) (by simpa [mixQT] using hB) (by simpa [selT] using h) (by simpa [mixL] using ht)
  | o :: l, true :: fl, k, listed, a, hl, hn, hB, h, ht => by
    have h0 : ops[k]? = some o := by simpa using (hl 0).symm
    simp only [mixQT, h0, Bool.and_eq_true] at hB
    obtain ⟨⟨⟨⟨hr, hf⟩, hv⟩, hzz⟩, hB'⟩ := hB
    obtain ⟨D, hDD⟩ : ∃ D, waitL md ops k = D := ⟨_, rfl⟩
    rw [hDD] at hzz
    simp only [waitB, Bool.and_eq_true] at hzz
    obtain ⟨⟨z1, z2⟩, z3⟩ := hzz
    have hD : ∀ j oj, D.getD j false = true → ops[j]? = some oj → ∃ e ∈ oj.after, Region.binds md e = true ∧ (e.on = k ∨ D.getD e.on false = true) := by
      intro j oz hd ho
      have hlt : j < ops.size := (Array.getElem?_eq_some_iff.1 ho).1
      have h1 := (List.all_eq_true.1 z1) j (List.mem_range.2 hlt)
      simp only [ho, hd, Bool.not_true, Bool.false_or] at h1
      obtain ⟨j, hj, h⟩ := Array.any_eq_true.1 h1
      simp only [Bool.and_eq_true, Bool.or_eq_true, beq_iff_eq] at h
      exact ⟨_, Array.getElem_mem hj, h⟩
    have hz : ∀ j oj, z ≤ j → ops[j]? = some oj → D.getD j false = true := by
      intro j oz hle ho
      have hlt : j < ops.size := (Array.getElem?_eq_some_iff.1 ho).1
      have h1 := (List.all_eq_true.1 z2) j (List.mem_range.2 hlt)
      simp only [Bool.or_eq_true, decide_eq_true_eq] at h1
      rcases h1 with h1 | h1
      · omega
      · exact h1
    have hDl : ∀ j, D.getD j false = true → listed[j]? ≠ some true := by
      intro j hd
      have hlt : j < D.length := by
        rcases Nat.lt_or_ge j D.length with h' | h'
        · exact h'
        · rw [List.getD_eq_getElem?_getD, List.getElem?_eq_none h'] at hd; cases hd
      have h1 := (List.all_eq_true.1 z3) j (List.mem_range.2 hlt)
      simp only [hd, Bool.not_true, Bool.false_or, bne_iff_ne] at h1
      exact h1
    have hst : qOp P ops S k (wpQuiet P ops S T (selT fl l)) a := by unfold qOp; simp only [h0]; exact h
    have hgo : ∀ v, YieldsIf P ops S o v a → wpQuiet P ops S T (selT fl l) (a.put o.dst v) → wpAnyZ P md ops Q S z (n + numT (true :: fl)) listed a w := by
      intro v hy hK
      simp only [numT, ← Nat.add_assoc]
      exact wpAnyZ_firstT h0 (Region.noSelect_spec hs) (fun j => D.getD j false) hD hz (fun c a w h => (by cases hd : o.dst with | none => rw [hd] at h; exact h | some t => rw [hd] at h; exact hQ c t v a w h)) _ listed a w hDl (Region.free_spec h0 hf) (by simpa using hr) hy hS
        (mix_quietT hs hQ n w hS l fl (k + 1) _ _ (fun j => by have := hl (j + 1); simpa [Nat.add_assoc, Nat.add_comm 1 j] using this) (by simpa using hn) hB' hK (by simpa [mixL] using ht))
    unfold qOp at hst
    simp only [h0] at hst
    by_cases hw : Region.wanted o (yielded ops a.tmps) = true
    · rw [if_pos hw] at hst
      obtain ⟨v, h1, h2⟩ := hst
      exact hgo v (yieldsIf_of_quiet hv hw h1) h2
    · rw [if_neg hw] at hst
      exact hgo undef (.inr ⟨by simpa using hw, rfl⟩) hst
  | [], _ :: _, _, _, _, _, hn, _, _, _ => by simp at hn
  | _ :: _, [], _, _, _, _, hn, _, _, _ => by simp at hn
def mixBT (ops : Array Oper) (fl : List Bool) (z : Nat) : Bool := Region.noSelect ops && (fl.length == ops.size) && mixQT .any ops z fl 0 (Array.replicate ops.size false) && mixT .any ops z fl 0 (mixL fl 0 (Array.replicate ops.size false))
theorem region_mixT0 {id : Nat} {a : Act} {w : World} {l : List Oper} (fl : List Bool) (z : Nat) (S : World → Prop) (hm : P.follows .mixedOrders = true) (hB : mixBT l.toArray fl z = true) (hQ : ∀ c t v a w, Q (.panic c) (Act.put a (some t) v) w → Q (.panic c) a w) (hS : S w.drew)
    (h : wpQuiet P l.toArray S (fun a' => wpTail P l.toArray Q S (cntF z fl 0) (selF fl l) a' w.drew) (selT fl l) a) : (Code.region id l.toArray true).wp P Q a w := by
  simp only [mixBT, Bool.and_eq_true, beq_iff_eq] at hB
  obtain ⟨⟨⟨hs, hn⟩, hq⟩, ht⟩ := hB
  refine wp_region_any hm (wpAny_of_Z (S := S) (z := z) _ _ _ _ ?_)
  have := mix_quietT (Q := Q) (z := z) (T := fun a' => wpTail P l.toArray Q S (cntF z fl 0) (selF fl l) a' w.drew) hs hQ (numF fl) w.drew hS l fl 0 (Array.replicate l.toArray.size false) a (by simp) (by simpa using hn) hq h
    (fun a' h' => mix_tail l fl 0 _ a' w.drew (by simp) (by simpa using hn) ht h')
  rw [num_add, hn] at this
  exact this
end
theorem region_mixT {P : Program} {id : Nat} {Q : Exit → Act → World → Prop} {a : Act} {w : World} {l : List Oper} (fl : List Bool) (z m : Nat) (S : World → Prop) (hm : P.follows .mixedOrders = true) (hc : cntF z fl 0 = m) (hB : mixBT l.toArray fl z = true) (hQ : ∀ c t v a w, Q (.panic c) (Act.put a (some t) v) w → Q (.panic c) a w) (hS : S w.drew)
    (h : wpQuiet P l.toArray (fun w' => ∃ W : At S, w' = W.wd) (fun a' => wpTail P l.toArray Q S m (selF fl l) a' w.drew) (selT fl l) a) : (Code.region id l.toArray true).wp P Q a w := by
  have e : (fun w' => ∃ W : At S, w' = W.wd) = S := by
    funext w'
    exact propext ⟨fun ⟨W, hW⟩ => hW ▸ W.ok, fun h => ⟨⟨w', h⟩, rfl⟩⟩
  rw [e] at h
  subst hc
  exact region_mixT0 fl z S hm hB hQ hS h

end Go.Proofs.Ytikgempdohpdjaa

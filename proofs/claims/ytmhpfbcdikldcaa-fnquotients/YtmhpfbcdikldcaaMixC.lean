/- A statement whose order is left open, which reads, calls once, and hands on what came of it; no condition. -/
import Derived.Test.YtmhpfbcdikldcaaOver
namespace Go.Proofs.Ytmhpfbcdikldcaa
open Go.RowKit Go.ChangeShapes Go.WideShapes Go.ChangeAt
set_option linter.unusedVariables false
set_option linter.unusedSimpArgs false
set_option maxRecDepth 8000
section
variable {P : Program} {Q : Exit → Act → World → Prop} {S : World → Prop}
theorem wpAnyZ_mono {ops : Array Oper} {md : Region.Mode} {z z' : Nat} (hz : z ≤ z') : ∀ (fuel : Nat) (listed : Array Bool) (a : Act) (w : World), wpAnyZ P md ops Q S z' fuel listed a w → wpAnyZ P md ops Q S z fuel listed a w
  | 0, _, _, _, h => h
  | fuel + 1, _, _, _, h => ⟨h.1, fun i hi => wpOp_mono (fun a' w' h' => ⟨fun hlt => h'.1 (by omega), wpAnyZ_mono hz fuel _ a' w' h'.2⟩) (h.2 i hi)⟩
def callB (ops : Array Oper) (fl1 fl2 : List Bool) (k z : Nat) : Bool := Region.noSelect ops && (fl1.length == ops.size) && (fl2.length == ops.size) && mixQ .any ops z fl1 0 (Array.replicate ops.size false) && (Region.ready .any ops (mixL fl1 0 (Array.replicate ops.size false)) == [k]) &&
  mixQ .any ops ops.size fl2 0 ((mixL fl1 0 (Array.replicate ops.size false)).setIfInBounds k true) && (Region.ready .any ops (mixL fl2 0 ((mixL fl1 0 (Array.replicate ops.size false)).setIfInBounds k true))).isEmpty && decide (z ≤ ops.size) && (numT fl2 + 1 + numT fl1 == ops.size) && decide (k < z)
/-- THE RULE: those that read, then one that does more, then those that hand on what it made -/
theorem region_call {id : Nat} {a : Act} {w : World} {l : List Oper} {c : Oper} (fl1 fl2 : List Bool) (k z : Nat) (S : World → Prop) (hm : P.follows .mixedOrders = true) (hB : callB l.toArray fl1 fl2 k z = true) (hk : l[k]? = some c) (hQ : ∀ c t v a w, Q (.panic c) (Act.put a (some t) v) w → Q (.panic c) a w) (hS : S w.drew)
    (h : wpQuiet P l.toArray (fun w' => ∃ W : At S, w' = W.wd) (fun a' => wpList P l.toArray (fun ex a w => match ex with | .normal => S w ∧ wpQuiet P l.toArray (fun w' => ∃ W : At S, w' = W.wd) (fun a3 => Q .normal a3 w) (selT fl2 l) a | ex => Q ex a w) [c] a' w.drew) (selT fl1 l) a) : (Code.region id l.toArray true).wp P Q a w := by
  have e : (fun w' => ∃ W : At S, w' = W.wd) = S := by
    funext w'
    exact propext ⟨fun ⟨W, hW⟩ => hW ▸ W.ok, fun h => ⟨⟨w', h⟩, rfl⟩⟩
  rw [e] at h
  simp only [callB, Bool.and_eq_true, beq_iff_eq, decide_eq_true_eq, List.isEmpty_iff] at hB
  obtain ⟨⟨⟨⟨⟨⟨⟨⟨⟨hs, hn1⟩, hn2⟩, hq1⟩, hr1⟩, hq2⟩, hr2⟩, hz⟩, hnum⟩, hkz⟩ := hB
  refine wp_region_any hm (wpAny_of_Z (S := S) (z := z) _ _ _ _ ?_)
  have hrec : ∀ a' w', S w' → wpQuiet P l.toArray S (fun a3 => Q .normal a3 w') (selT fl2 l) a' → wpAnyZ P .any l.toArray Q S z (numT fl2) ((mixL fl1 0 (Array.replicate l.toArray.size false)).setIfInBounds k true) a' w' := by
    intro a' w' hS' h'
    have := mix_quiet (Q := Q) (z := l.toArray.size) (T := fun a3 => Q .normal a3 w') hs hQ 0 w' hS' l fl2 0 _ a' (by simp) (by simpa using hn2) hq2 h' (fun a3 h3 => ⟨hr2, h3⟩)
    rw [Nat.zero_add] at this
    exact wpAnyZ_mono hz _ _ _ _ this
  have := mix_quiet (Q := Q) (z := z) hs hQ (numT fl2 + 1) w.drew hS l fl1 0 (Array.replicate l.toArray.size false) a (by simp) (by simpa using hn1) hq1 h (fun a' h' => by
    refine ⟨fun e => (by rw [hr1] at e; cases e), fun i hi => ?_⟩
    rw [hr1] at hi
    obtain rfl : i = k := by simpa using hi
    have h0 : l.toArray[i]? = some c := by simpa using hk
    unfold wpOp
    simp only [h0]
    simp only [wpList] at h'
    split
    · rename_i hw
      rw [if_pos hw] at h'
      rcases h' with h' | ⟨h1, h2⟩
      · exact .inl (wp_change (fun e a w hne hq => by cases e <;> first | exact hq | exact absurd rfl hne) (Oper.wp_mono (fun a' w' h' => ⟨fun _ => h'.1, hrec a' w' h'.1 h'.2⟩) h'))
      · exact .inr ⟨h1, by obtain ⟨a, w, hq⟩ := h2; exact ⟨a, w, hq⟩⟩
    · rename_i hw
      rw [if_neg hw] at h'
      exact ⟨fun _ => h'.1, hrec _ _ h'.1 h'.2⟩)
  rw [show numT fl2 + 1 + numT fl1 = l.toArray.size from hnum] at this
  exact this
end
end Go.Proofs.Ytmhpfbcdikldcaa

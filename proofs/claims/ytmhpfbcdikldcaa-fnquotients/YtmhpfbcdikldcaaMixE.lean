/- A statement whose order is left open, its orders taken one by one, something standing throughout; no condition. -/
import Derived.Test.YtmhpfbcdikldcaaMixD
namespace Go.Proofs.Ytmhpfbcdikldcaa
open Go.RowKit Go.ChangeShapes Go.WideShapes Go.ChangeAt
set_option linter.unusedVariables false
set_option linter.unusedSimpArgs false
set_option maxRecDepth 8000
/-- whatever order is picked from here on, S standing throughout -/
def AnyS (P : Program) (ops : Array Oper) (Q : Exit → Act → World → Prop) (S : World → Prop) (n : Nat) (listed : Array Bool) (a : Act) (w : World) : Prop := wpAnyZ P .any ops Q S ops.size n listed a w
section
variable {P : Program} {Q : Exit → Act → World → Prop} {S : World → Prop}
theorem region_anyS {id : Nat} {a : Act} {w : World} {l : List Oper} (S : World → Prop) (hm : P.follows .mixedOrders = true) (h : AnyS P l.toArray Q S l.toArray.size (Array.replicate l.toArray.size false) a w.drew) : (Code.region id l.toArray true).wp P Q a w :=
  wp_region_any hm (wpAny_of_Z _ _ _ _ h)
theorem anyS_quiet {a : Act} {w : World} {l : List Oper} {listed : Array Bool} (fl : List Bool) (n : Nat) {N : Nat} (hN : n + numT fl = N) (hs : (Region.noSelect l.toArray && (fl.length == l.length) && mixQ .any l.toArray l.toArray.size fl 0 listed) = true) (hQ : ∀ c t v a w, Q (.panic c) (Act.put a (some t) v) w → Q (.panic c) a w) (hS : S w)
    (h : wpQuiet P l.toArray (fun w' => ∃ W : At S, w' = W.wd) (fun a' => AnyS P l.toArray Q S n (mixL fl 0 listed) a' w) (selT fl l) a) : AnyS P l.toArray Q S N listed a w := by
  subst hN
  have e : (fun w' => ∃ W : At S, w' = W.wd) = S := by
    funext w'
    exact propext ⟨fun ⟨W, hW⟩ => hW ▸ W.ok, fun h => ⟨⟨w', h⟩, rfl⟩⟩
  rw [e] at h
  simp only [Bool.and_eq_true, beq_iff_eq] at hs
  exact mix_quiet hs.1.1 hQ n w hS l fl 0 listed a (by simp) hs.1.2 hs.2 h (fun _ h => h)
theorem anyS_op {ops : Array Oper} {n k : Nat} {listed : Array Bool} {o : Oper} {a : Act} {w : World} (ho : ops[k]? = some o)
    (h : wpList P ops (fun ex a w => match ex with | .normal => S w ∧ AnyS P ops Q S n (listed.setIfInBounds k true) a w | ex => Q ex a w) [o] a w) : wpOp P ops Q k (fun a' w' => (k < ops.size → S w') ∧ wpAnyZ P .any ops Q S ops.size n (listed.setIfInBounds k true) a' w') a w := by
  unfold wpOp
  simp only [ho]
  simp only [wpList] at h
  split
  · rename_i hw
    rw [if_pos hw] at h
    rcases h with h | ⟨h1, h2⟩
    · exact .inl (wp_change (fun e a w hne hq => by cases e <;> first | exact hq | exact absurd rfl hne) (Oper.wp_mono (fun a' w' h' => ⟨fun _ => h'.1, h'.2⟩) h))
    · exact .inr ⟨h1, by obtain ⟨a, w, hq⟩ := h2; exact ⟨a, w, hq⟩⟩
  · rename_i hw
    rw [if_neg hw] at h
    exact ⟨fun _ => h.1, h.2⟩
theorem anyS_one {ops : Array Oper} {n : Nat} (k : Nat) {listed : Array Bool} {o : Oper} {a : Act} {w : World} (hr : Region.ready .any ops listed = [k]) (ho : ops[k]? = some o)
    (h : wpList P ops (fun ex a w => match ex with | .normal => S w ∧ AnyS P ops Q S n (listed.setIfInBounds k true) a w | ex => Q ex a w) [o] a w) : AnyS P ops Q S (n + 1) listed a w := by
  refine ⟨fun e => (by rw [hr] at e; cases e), fun i hi => ?_⟩
  rw [hr] at hi
  obtain rfl : i = k := by simpa using hi
  exact anyS_op ho h
theorem anyS_two {ops : Array Oper} {n : Nat} (k k' : Nat) {listed : Array Bool} {o o' : Oper} {a : Act} {w : World} (hr : Region.ready .any ops listed = [k, k']) (ho : ops[k]? = some o) (ho' : ops[k']? = some o')
    (h : wpList P ops (fun ex a w => match ex with | .normal => S w ∧ AnyS P ops Q S n (listed.setIfInBounds k true) a w | ex => Q ex a w) [o] a w)
    (h' : wpList P ops (fun ex a w => match ex with | .normal => S w ∧ AnyS P ops Q S n (listed.setIfInBounds k' true) a w | ex => Q ex a w) [o'] a w) : AnyS P ops Q S (n + 1) listed a w := by
  refine ⟨fun e => (by rw [hr] at e; cases e), fun i hi => ?_⟩
  rw [hr] at hi
  have hi' : i = k ∨ i = k' := by simpa using hi
  rcases hi' with rfl | rfl
  · exact anyS_op ho h
  · exact anyS_op ho' h'
theorem anyS_end {ops : Array Oper} {listed : Array Bool} {a : Act} {w : World} (hr : Region.ready .any ops listed = []) (h : Q .normal a w) : AnyS P ops Q S 0 listed a w := ⟨hr, h⟩
end
end Go.Proofs.Ytmhpfbcdikldcaa

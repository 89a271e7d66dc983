/- All notes carried, as mathematics; no condition. -/
import Derived.Test.YtkehcalijamhjaaArr
namespace Go.Proofs.Ytkehcalijamhjaa
open Go.RowKit Go.ChangeShapes Go.WideShapes Go.ChangeAt
set_option linter.unusedVariables false
set_option linter.unusedSimpArgs false
set_option maxRecDepth 8000

/-- a trunk as numbers and lists -/
structure Ts where
  l0 : Int
  l1 : Int
  z0 : List Int
  z1 : List Int
  n0 : Mvs
  n1 : Mvs
def Ts.ok (t : Ts) : Prop := TOk t.z0 t.z1 t.l0 t.l1 t.n0 t.n1
/-- what a note weighs: twice, where one goes back for it -/
def wtN (ns : Mvs) : Nat := (ns.map fun x => if x.1 = 1 ∨ x.1 = 4 then 2 else 1).sum
def Ts.wt (t : Ts) : Nat := wtN t.n0 + wtN t.n1
theorem wtN_app (a b : Mvs) : wtN (a ++ b) = wtN a + wtN b := by simp [wtN]
theorem wtN_cons (x : Int × Int) (a : Mvs) : wtN (x :: a) = (if x.1 = 1 ∨ x.1 = 4 then 2 else 1) + wtN a := by simp [wtN]
theorem hearF_seen (kd sn : Int) (ow : Bool) (h : 0 ≤ sn ∧ sn ≤ 4) : 0 ≤ (hearF kd sn ow).1 ∧ (hearF kd sn ow).1 ≤ 4 := by
  unfold hearF; repeat' split
  all_goals (try simp only) <;> omega
theorem hearF_kind (kd sn : Int) (ow : Bool) : ((hearF kd sn ow).2.1 = 0 ∨ (kd = 1 ∨ kd = 4)) ∧ ((hearF kd sn ow).2.1 = 0 ∨ (hearF kd sn ow).2.1 = 2 ∨ (hearF kd sn ow).2.1 = 3 ∨ (hearF kd sn ow).2.1 = 5) := by
  unfold hearF; repeat' split
  all_goals simp <;> omega
/-- side 0 hears the first note on its way -/
def Ts.c0 (t : Ts) : Ts := ⟨t.l0 + (hearF ((t.n0.headD (0, 0)).1) (t.z0.getD ((t.n0.headD (0, 0)).2.toNat) 0) ((((t.n0.headD (0, 0)).2.toNat) : Int) % 2 == 0)).2.2, t.l1, t.z0.set ((t.n0.headD (0, 0)).2.toNat) (hearF ((t.n0.headD (0, 0)).1) (t.z0.getD ((t.n0.headD (0, 0)).2.toNat) 0) ((((t.n0.headD (0, 0)).2.toNat) : Int) % 2 == 0)).1, t.z1, t.n0.tail, t.n1 ++ bkN0 t.z0 ((t.n0.headD (0, 0)).1) ((t.n0.headD (0, 0)).2.toNat)⟩
def Ts.a0 (t : Ts) : Bool := decide (t.l0 + (hearF ((t.n0.headD (0, 0)).1) (t.z0.getD ((t.n0.headD (0, 0)).2.toNat) 0) ((((t.n0.headD (0, 0)).2.toNat) : Int) % 2 == 0)).2.2 ≤ 1000000 ∧ ((hearF ((t.n0.headD (0, 0)).1) (t.z0.getD ((t.n0.headD (0, 0)).2.toNat) 0) ((((t.n0.headD (0, 0)).2.toNat) : Int) % 2 == 0)).2.1 = 0 ∨ t.n1.length < 60))
theorem Ts.a0_iff (t : Ts) (kd : Int) (m : Nat) (ns : Mvs) (h : t.n0 = (kd, (m : Int)) :: ns) : t.a0 = true ↔ ArOk0 t.l0 t.l1 t.z0 t.z1 ns t.n1 kd m := by
  unfold Ts.a0 ArOk0; rw [h]; simp
theorem Ts.c0_eq (t : Ts) (kd : Int) (m : Nat) (ns : Mvs) (h : t.n0 = (kd, (m : Int)) :: ns) : t.c0 = ⟨t.l0 + (hearF kd (t.z0.getD m 0) ((m : Int) % 2 == 0)).2.2, t.l1, t.z0.set m (hearF kd (t.z0.getD m 0) ((m : Int) % 2 == 0)).1, t.z1, ns, t.n1 ++ bkN0 t.z0 kd m⟩ := by
  unfold Ts.c0; rw [h]; simp
theorem Ts.c0_ok (t : Ts) (ht : t.ok) (kd : Int) (m : Nat) (ns : Mvs) (h : t.n0 = (kd, (m : Int)) :: ns) (ha : t.a0 = true) : t.c0.ok ∧ t.c0.wt < t.wt := by
  have hA := (t.a0_iff kd m ns h).1 ha
  obtain ⟨⟨h1, h2⟩, h3, ⟨s0, q0, p0⟩, ⟨s1, q1, p1⟩⟩ := ht
  have hno := p0.2 0 (by rw [h]; simp)
  simp only [h, List.getElem_cons_zero] at hno
  obtain ⟨⟨k1, k2⟩, k3, k4⟩ := hno
  simp only at k1 k2 k3 k4
  have hs := hearF_seen kd (t.z0.getD m 0) ((m : Int) % 2 == 0) (s0 m (by omega))
  have hk := hearF_kind kd (t.z0.getD m 0) ((m : Int) % 2 == 0)
  have hlo := hearF_lost kd (t.z0.getD m 0) ((m : Int) % 2 == 0)
  have hbl : (bkN0 t.z0 kd m).length ≤ 1 ∧ t.n1.length + (bkN0 t.z0 kd m).length ≤ 60 := by
    unfold bkN0; have := p1.1; have := hA.2
    split
    · simp; omega
    · simp only [List.length_singleton]; omega
  rw [t.c0_eq kd m ns h]
  constructor
  · refine ⟨⟨?_, ?_⟩, ?_, ⟨?_, ?_, ?_⟩, ⟨?_, ?_, ?_⟩⟩ <;> simp only [List.length_set]
    · exact h1
    · exact h2
    · exact h3
    · intro i hi
      by_cases e : i = m
      · subst e; rw [List.getD_eq_getElem?_getD, List.getElem?_set_self (by simpa using hi)]; exact hs
      · rw [List.getD_eq_getElem?_getD, List.getElem?_set_ne (by omega), ← List.getD_eq_getElem?_getD]; exact s0 i (by simpa using hi)
    · have := q0.1; have := q0.2; have := hA.1; constructor <;> omega
    · refine ⟨by have := p0.1; rw [h] at this; simp only [List.length_cons] at this; omega, fun i hi => ?_⟩
      have := p0.2 (i + 1) (by rw [h]; simp; omega)
      simpa only [h, List.getElem_cons_succ] using this
    · exact s1
    · exact q1
    · refine ⟨by rw [List.length_append]; exact hbl.2, fun i hi => ?_⟩
      by_cases e : i < t.n1.length
      · rw [List.getElem_append_left e]; exact p1.2 i e
      · rw [List.getElem_append_right (by omega)]
        have hm : (bkN0 t.z0 kd m)[i - t.n1.length]'(by rw [List.length_append] at hi; omega) ∈ bkN0 t.z0 kd m := List.getElem_mem _
        revert hm
        generalize (bkN0 t.z0 kd m)[i - t.n1.length]'(by rw [List.length_append] at hi; omega) = y
        intro hm
        unfold bkN0 at hm
        split at hm
        · simp at hm
        · rename_i hz
          rw [List.mem_singleton] at hm
          subst hm
          have h5 : (hearF kd (t.z0.getD m 0) ((m : Int) % 2 == 0)).2.1 = 2 ∨ (hearF kd (t.z0.getD m 0) ((m : Int) % 2 == 0)).2.1 = 3 ∨ (hearF kd (t.z0.getD m 0) ((m : Int) % 2 == 0)).2.1 = 5 := by rcases hk.2 with a | a; exact absurd a hz; exact a
          refine ⟨⟨?_, ?_⟩, ?_, ?_⟩ <;> simp only <;> omega
  · have hbw : wtN (bkN0 t.z0 kd m) + 1 ≤ (if kd = 1 ∨ kd = 4 then 2 else 1) := by
      unfold bkN0
      split
      · split <;> simp [wtN]
      · rename_i hz
        have h6 : kd = 1 ∨ kd = 4 := by rcases hk.1 with a | a; exact absurd a hz; exact a
        rw [if_pos h6]
        have h5 : ¬ ((hearF kd (t.z0.getD m 0) ((m : Int) % 2 == 0)).2.1 = 1 ∨ (hearF kd (t.z0.getD m 0) ((m : Int) % 2 == 0)).2.1 = 4) := by rcases hk.2 with a | a | a | a <;> rw [a] <;> decide
        have : wtN [((hearF kd (t.z0.getD m 0) ((m : Int) % 2 == 0)).2.1, (m : Int))] = 1 := by rw [wtN_cons, if_neg h5]; rfl
        omega
    show wtN ns + wtN (t.n1 ++ bkN0 t.z0 kd m) < wtN t.n0 + wtN t.n1
    rw [wtN_app, h, wtN_cons]
    simp only
    omega
/-- side 1 hears the first note on its way -/
def Ts.c1 (t : Ts) : Ts := ⟨t.l0, t.l1 + (hearF ((t.n1.headD (0, 0)).1) (t.z1.getD ((t.n1.headD (0, 0)).2.toNat) 0) ((((t.n1.headD (0, 0)).2.toNat) : Int) % 2 == 1)).2.2, t.z0, t.z1.set ((t.n1.headD (0, 0)).2.toNat) (hearF ((t.n1.headD (0, 0)).1) (t.z1.getD ((t.n1.headD (0, 0)).2.toNat) 0) ((((t.n1.headD (0, 0)).2.toNat) : Int) % 2 == 1)).1, t.n0 ++ bkN1 t.z1 ((t.n1.headD (0, 0)).1) ((t.n1.headD (0, 0)).2.toNat), t.n1.tail⟩
def Ts.a1 (t : Ts) : Bool := decide (t.l1 + (hearF ((t.n1.headD (0, 0)).1) (t.z1.getD ((t.n1.headD (0, 0)).2.toNat) 0) ((((t.n1.headD (0, 0)).2.toNat) : Int) % 2 == 1)).2.2 ≤ 1000000 ∧ ((hearF ((t.n1.headD (0, 0)).1) (t.z1.getD ((t.n1.headD (0, 0)).2.toNat) 0) ((((t.n1.headD (0, 0)).2.toNat) : Int) % 2 == 1)).2.1 = 0 ∨ t.n0.length < 60))
theorem Ts.a1_iff (t : Ts) (kd : Int) (m : Nat) (ns : Mvs) (h : t.n1 = (kd, (m : Int)) :: ns) : t.a1 = true ↔ ArOk1 t.l0 t.l1 t.z0 t.z1 t.n0 ns kd m := by
  unfold Ts.a1 ArOk1; rw [h]; simp
theorem Ts.c1_eq (t : Ts) (kd : Int) (m : Nat) (ns : Mvs) (h : t.n1 = (kd, (m : Int)) :: ns) : t.c1 = ⟨t.l0, t.l1 + (hearF kd (t.z1.getD m 0) ((m : Int) % 2 == 1)).2.2, t.z0, t.z1.set m (hearF kd (t.z1.getD m 0) ((m : Int) % 2 == 1)).1, t.n0 ++ bkN1 t.z1 kd m, ns⟩ := by
  unfold Ts.c1; rw [h]; simp
theorem Ts.c1_ok (t : Ts) (ht : t.ok) (kd : Int) (m : Nat) (ns : Mvs) (h : t.n1 = (kd, (m : Int)) :: ns) (ha : t.a1 = true) : t.c1.ok ∧ t.c1.wt < t.wt := by
  have hA := (t.a1_iff kd m ns h).1 ha
  obtain ⟨⟨h1, h2⟩, h3, ⟨s0, q0, p0⟩, ⟨s1, q1, p1⟩⟩ := ht
  have hno := p1.2 0 (by rw [h]; simp)
  simp only [h, List.getElem_cons_zero] at hno
  obtain ⟨⟨k1, k2⟩, k3, k4⟩ := hno
  simp only at k1 k2 k3 k4
  have hs := hearF_seen kd (t.z1.getD m 0) ((m : Int) % 2 == 1) (s1 m (by omega))
  have hk := hearF_kind kd (t.z1.getD m 0) ((m : Int) % 2 == 1)
  have hlo := hearF_lost kd (t.z1.getD m 0) ((m : Int) % 2 == 1)
  have hbl : (bkN1 t.z1 kd m).length ≤ 1 ∧ t.n0.length + (bkN1 t.z1 kd m).length ≤ 60 := by
    unfold bkN1; have := p0.1; have := hA.2
    split
    · simp; omega
    · simp only [List.length_singleton]; omega
  rw [t.c1_eq kd m ns h]
  constructor
  · refine ⟨⟨?_, ?_⟩, ?_, ⟨?_, ?_, ?_⟩, ⟨?_, ?_, ?_⟩⟩ <;> simp only [List.length_set]
    · exact h1
    · exact h2
    · exact h3
    · exact s0
    · exact q0
    · refine ⟨by rw [List.length_append]; exact hbl.2, fun i hi => ?_⟩
      by_cases e : i < t.n0.length
      · rw [List.getElem_append_left e]; exact p0.2 i e
      · rw [List.getElem_append_right (by omega)]
        have hm : (bkN1 t.z1 kd m)[i - t.n0.length]'(by rw [List.length_append] at hi; omega) ∈ bkN1 t.z1 kd m := List.getElem_mem _
        revert hm
        generalize (bkN1 t.z1 kd m)[i - t.n0.length]'(by rw [List.length_append] at hi; omega) = y
        intro hm
        unfold bkN1 at hm
        split at hm
        · simp at hm
        · rename_i hz
          rw [List.mem_singleton] at hm
          subst hm
          have h5 : (hearF kd (t.z1.getD m 0) ((m : Int) % 2 == 1)).2.1 = 2 ∨ (hearF kd (t.z1.getD m 0) ((m : Int) % 2 == 1)).2.1 = 3 ∨ (hearF kd (t.z1.getD m 0) ((m : Int) % 2 == 1)).2.1 = 5 := by rcases hk.2 with a | a; exact absurd a hz; exact a
          refine ⟨⟨?_, ?_⟩, ?_, ?_⟩ <;> simp only <;> omega
    · intro i hi
      by_cases e : i = m
      · subst e; rw [List.getD_eq_getElem?_getD, List.getElem?_set_self (by simpa using hi)]; exact hs
      · rw [List.getD_eq_getElem?_getD, List.getElem?_set_ne (by omega), ← List.getD_eq_getElem?_getD]; exact s1 i (by simpa using hi)
    · have := q1.1; have := q1.2; have := hA.1; constructor <;> omega
    · refine ⟨by have := p1.1; rw [h] at this; simp only [List.length_cons] at this; omega, fun i hi => ?_⟩
      have := p1.2 (i + 1) (by rw [h]; simp; omega)
      simpa only [h, List.getElem_cons_succ] using this
  · have hbw : wtN (bkN1 t.z1 kd m) + 1 ≤ (if kd = 1 ∨ kd = 4 then 2 else 1) := by
      unfold bkN1
      split
      · split <;> simp [wtN]
      · rename_i hz
        have h6 : kd = 1 ∨ kd = 4 := by rcases hk.1 with a | a; exact absurd a hz; exact a
        rw [if_pos h6]
        have h5 : ¬ ((hearF kd (t.z1.getD m 0) ((m : Int) % 2 == 1)).2.1 = 1 ∨ (hearF kd (t.z1.getD m 0) ((m : Int) % 2 == 1)).2.1 = 4) := by rcases hk.2 with a | a | a | a <;> rw [a] <;> decide
        have : wtN [((hearF kd (t.z1.getD m 0) ((m : Int) % 2 == 1)).2.1, (m : Int))] = 1 := by rw [wtN_cons, if_neg h5]; rfl
        omega
    show wtN (t.n0 ++ bkN1 t.z1 kd m) + wtN ns < wtN t.n0 + wtN t.n1
    rw [wtN_app, h, wtN_cons]
    simp only
    omega

/-- nothing is on the way -/
def Ts.still (t : Ts) : Bool := t.n0.isEmpty && t.n1.isEmpty
def Ts.next (t : Ts) : Ts := if t.n0.isEmpty then t.c1 else t.c0
def Ts.may (t : Ts) : Bool := if t.n0.isEmpty then t.a1 else t.a0
/-- all notes are carried, k at most -/
def runT : Nat → Ts → Option Ts
  | 0, t => some t
  | k + 1, t => if t.still then some t else if t.may then runT k t.next else none
def Ts.end (t : Ts) : Option Ts := runT t.wt t
theorem Ts.head (t : Ts) (ht : t.ok) : (∀ x ns, t.n0 = x :: ns → ∃ (kd : Int) (m : Nat), x = (kd, (m : Int)) ∧ (1 ≤ kd ∧ kd ≤ 5) ∧ m < t.z0.length) ∧ (∀ x ns, t.n1 = x :: ns → ∃ (kd : Int) (m : Nat), x = (kd, (m : Int)) ∧ (1 ≤ kd ∧ kd ≤ 5) ∧ m < t.z0.length) := by
  obtain ⟨⟨h1, h2⟩, h3, ⟨s0, q0, p0⟩, ⟨s1, q1, p1⟩⟩ := ht
  constructor
  · rintro ⟨a, b⟩ ns h
    have hno := p0.2 0 (by rw [h]; simp)
    simp only [h, List.getElem_cons_zero] at hno
    obtain ⟨⟨k1, k2⟩, k3, k4⟩ := hno
    simp only at k1 k2 k3 k4
    exact ⟨a, b.toNat, by rw [Int.toNat_of_nonneg k3], ⟨k1, k2⟩, by omega⟩
  · rintro ⟨a, b⟩ ns h
    have hno := p1.2 0 (by rw [h]; simp)
    simp only [h, List.getElem_cons_zero] at hno
    obtain ⟨⟨k1, k2⟩, k3, k4⟩ := hno
    simp only at k1 k2 k3 k4
    exact ⟨a, b.toNat, by rw [Int.toNat_of_nonneg k3], ⟨k1, k2⟩, by omega⟩
theorem Ts.next_ok (t : Ts) (ht : t.ok) (hs : t.still = false) (hm : t.may = true) : t.next.ok ∧ t.next.wt < t.wt := by
  unfold Ts.may at hm
  unfold Ts.next
  cases e0 : t.n0 with
  | cons x ns =>
    obtain ⟨kd, m, rfl, -, -⟩ := (t.head ht).1 x ns e0
    rw [e0] at hm
    exact t.c0_ok ht kd m ns e0 hm
  | nil =>
    rw [e0] at hm
    cases e1 : t.n1 with
    | nil => unfold Ts.still at hs; rw [e0, e1] at hs; cases hs
    | cons x ns =>
      obtain ⟨kd, m, rfl, -, -⟩ := (t.head ht).2 x ns e1
      exact t.c1_ok ht kd m ns e1 hm
theorem Ts.wt_pos (t : Ts) (hs : t.still = false) : 0 < t.wt := by
  unfold Ts.wt
  unfold Ts.still at hs
  cases e0 : t.n0 with
  | cons x ns => rw [wtN_cons]; split <;> omega
  | nil =>
    cases e1 : t.n1 with
    | nil => rw [e0, e1] at hs; cases hs
    | cons x ns => rw [wtN_cons]; split <;> omega
theorem runT_still (k : Nat) (t : Ts) (h : t.still = true) : runT k t = some t := by
  cases k with
  | zero => rfl
  | succ k => rw [runT, if_pos h]
theorem runT_go (k : Nat) (t : Ts) (h : t.still = false) : runT (k + 1) t = if t.may then runT k t.next else none := by
  rw [runT, if_neg (by rw [h]; simp)]
theorem runT_fuel : ∀ (n : Nat) (t : Ts), t.wt ≤ n → t.ok → ∀ k, t.wt ≤ k → runT k t = runT t.wt t := by
  intro n
  induction n with
  | zero =>
    intro t hn ht k hk
    cases hs : t.still with
    | true => rw [runT_still _ _ hs, runT_still _ _ hs]
    | false => have := t.wt_pos hs; omega
  | succ n ih =>
    intro t hn ht k hk
    cases hs : t.still with
    | true => rw [runT_still _ _ hs, runT_still _ _ hs]
    | false =>
      have hp := t.wt_pos hs
      obtain ⟨a, ha⟩ : ∃ a, t.wt = a + 1 := ⟨t.wt - 1, by omega⟩
      obtain ⟨b, rfl⟩ : ∃ b, k = b + 1 := ⟨k - 1, by omega⟩
      rw [ha, runT_go _ _ hs, runT_go _ _ hs]
      cases hm : t.may with
      | false => rfl
      | true =>
        have hx := t.next_ok ht hs hm
        rw [if_pos rfl, if_pos rfl, ih t.next (by omega) hx.1 b (by omega), ih t.next (by omega) hx.1 a (by omega)]
theorem Ts.end_still (t : Ts) (h : t.still = true) : t.end = some t := runT_still _ _ h
theorem Ts.end_no (t : Ts) (hs : t.still = false) (hm : t.may = false) : t.end = none := by
  have hp := t.wt_pos hs
  obtain ⟨a, ha⟩ : ∃ a, t.wt = a + 1 := ⟨t.wt - 1, by omega⟩
  unfold Ts.end
  rw [ha, runT, if_neg (by rw [hs]; simp), if_neg (by rw [hm]; simp)]
theorem Ts.end_next (t : Ts) (ht : t.ok) (hs : t.still = false) (hm : t.may = true) : t.end = t.next.end := by
  have hp := t.wt_pos hs
  have hx := t.next_ok ht hs hm
  obtain ⟨a, ha⟩ : ∃ a, t.wt = a + 1 := ⟨t.wt - 1, by omega⟩
  unfold Ts.end
  rw [ha, runT, if_neg (by rw [hs]; simp), if_pos hm, runT_fuel _ t.next (Nat.le_refl _) hx.1 a (by omega)]
/-- what CarryAll tells -/
def Ts.all (t : Ts) : Ts := t.end.getD t
theorem Ts.end_ok : ∀ (n : Nat) (t : Ts), t.wt ≤ n → t.ok → ∀ s, t.end = some s → s.ok ∧ s.still = true := by
  intro n
  induction n with
  | zero =>
    intro t hn ht s he
    cases hs : t.still with
    | true => rw [t.end_still hs] at he; cases he; exact ⟨ht, hs⟩
    | false => have := t.wt_pos hs; omega
  | succ n ih =>
    intro t hn ht s he
    cases hs : t.still with
    | true => rw [t.end_still hs] at he; cases he; exact ⟨ht, hs⟩
    | false =>
      cases hm : t.may with
      | false => rw [t.end_no hs hm] at he; cases he
      | true => have hx := t.next_ok ht hs hm; rw [t.end_next ht hs hm] at he; exact ih t.next (by omega) hx.1 s he
theorem Ts.all_ok (t : Ts) (ht : t.ok) : t.all.ok := by
  unfold Ts.all
  cases he : t.end with
  | none => exact ht
  | some s => exact (Ts.end_ok _ t (Nat.le_refl _) ht s he).1
end Go.Proofs.Ytkehcalijamhjaa

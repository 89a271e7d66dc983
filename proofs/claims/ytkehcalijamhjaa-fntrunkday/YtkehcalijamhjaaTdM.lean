/- A trunk's day, as mathematics; no condition. -/
import Derived.Test.YtkehcalijamhjaaCaD
import Derived.Test.YtkehcalijamhjaaFre
import Derived.Test.YtkehcalijamhjaaStl
import Derived.Test.YtkehcalijamhjaaNwx
namespace Go.Proofs.Ytkehcalijamhjaa
open Go.RowKit Go.ChangeShapes Go.WideShapes Go.ChangeAt
set_option linter.unusedVariables false
set_option linter.unusedSimpArgs false
set_option maxRecDepth 8000
abbrev Cf := Int × Int × List Int × List Int
/-- how a circuit of that parity may stand, with the notes about it on both ways -/
def RS (p : Nat) : List Cf := if p = 0 then [(0, 0, [], []), (0, 1, [1], []), (0, 4, [], [5]), (1, 0, [], [1]), (1, 1, [], [1, 3]), (1, 1, [1], [1]), (1, 3, [1, 2], []), (1, 3, [2], []), (1, 3, [2], [3]), (1, 4, [], [5, 1]), (2, 3, [], []), (2, 3, [], [3]), (3, 1, [], [2]), (3, 2, [], []), (3, 4, [4], []), (4, 0, [5], []), (4, 1, [5, 1], []), (4, 3, [], [3, 4]), (4, 3, [], [4])] else [(0, 0, [], []), (0, 1, [1], []), (0, 4, [], [5]), (1, 0, [], [1]), (1, 1, [1], [1]), (1, 1, [1, 3], []), (1, 3, [2], []), (1, 4, [], [5, 1]), (2, 3, [], []), (3, 1, [], [1, 2]), (3, 1, [], [2]), (3, 1, [3], [2]), (3, 2, [], []), (3, 2, [3], []), (3, 4, [3, 4], []), (3, 4, [4], []), (4, 0, [5], []), (4, 1, [5, 1], []), (4, 3, [], [4])]
def bkL (k : Int) : List Int := if k = 0 then [] else [k]
def stA (p : Nat) : Bool := (RS p).all fun c => (c.1 != 0 || (RS p).contains (1, c.2.1, c.2.2.1, c.2.2.2 ++ [1])) && (c.2.1 != 0 || (RS p).contains (c.1, 1, c.2.2.1 ++ [1], c.2.2.2)) && (c.1 != 2 || (RS p).contains (4, c.2.1, c.2.2.1, c.2.2.2 ++ [4])) && (c.2.1 != 2 || (RS p).contains (c.1, 4, c.2.2.1 ++ [4], c.2.2.2))
def stB (p : Nat) : Bool := (RS p).all fun c => (match c.2.2.1 with | [] => true | k :: r => (RS p).contains ((hearF k c.1 (p == 0)).1, c.2.1, r, c.2.2.2 ++ bkL (hearF k c.1 (p == 0)).2.1)) && (match c.2.2.2 with | [] => true | k :: r => (RS p).contains (c.1, (hearF k c.2.1 (p == 1)).1, c.2.2.1 ++ bkL (hearF k c.2.1 (p == 1)).2.1, r))
def stC (p : Nat) : Bool := (RS p).all fun c => decide (c.2.2.1.length ≤ 2) && decide (c.2.2.2.length ≤ 2) && (c.2.2.1 != [] || c.2.2.2 != [] || ((c.1 == 0 && c.2.1 == 0) || (c.1 == 2 && c.2.1 == 3) || (c.1 == 3 && c.2.1 == 2)))
theorem st_all : (stA 0 && stA 1 && stB 0 && stB 1 && stC 0 && stC 1) = true := by decide +kernel
theorem p2 (p : Nat) (h : p < 2) : p = 0 ∨ p = 1 := by omega
theorem stA_at (p : Nat) (h : p < 2) (c : Cf) (hc : c ∈ RS p) : (c.1 = 0 → (1, c.2.1, c.2.2.1, c.2.2.2 ++ [1]) ∈ RS p) ∧ (c.2.1 = 0 → (c.1, 1, c.2.2.1 ++ [1], c.2.2.2) ∈ RS p) ∧ (c.1 = 2 → (4, c.2.1, c.2.2.1, c.2.2.2 ++ [4]) ∈ RS p) ∧ (c.2.1 = 2 → (c.1, 4, c.2.2.1 ++ [4], c.2.2.2) ∈ RS p) := by
  have ha := st_all
  simp only [Bool.and_eq_true] at ha
  have hp : stA p = true := by rcases p2 p h with rfl | rfl; exact ha.1.1.1.1.1; exact ha.1.1.1.1.2
  unfold stA at hp
  rw [List.all_eq_true] at hp
  have := hp c hc
  simp only [Bool.and_eq_true, Bool.or_eq_true, bne_iff_ne, ne_eq, List.contains_iff_mem] at this
  obtain ⟨⟨⟨h1, h2⟩, h3⟩, h4⟩ := this
  exact ⟨fun e => h1.resolve_left (fun n => n e), fun e => h2.resolve_left (fun n => n e), fun e => h3.resolve_left (fun n => n e), fun e => h4.resolve_left (fun n => n e)⟩
theorem stB_at (p : Nat) (h : p < 2) (c : Cf) (hc : c ∈ RS p) : (∀ k r, c.2.2.1 = k :: r → ((hearF k c.1 (p == 0)).1, c.2.1, r, c.2.2.2 ++ bkL (hearF k c.1 (p == 0)).2.1) ∈ RS p) ∧ (∀ k r, c.2.2.2 = k :: r → (c.1, (hearF k c.2.1 (p == 1)).1, c.2.2.1 ++ bkL (hearF k c.2.1 (p == 1)).2.1, r) ∈ RS p) := by
  have ha := st_all
  simp only [Bool.and_eq_true] at ha
  have hp : stB p = true := by rcases p2 p h with rfl | rfl; exact ha.1.1.1.2; exact ha.1.1.2
  unfold stB at hp
  rw [List.all_eq_true] at hp
  have := hp c hc
  rw [Bool.and_eq_true] at this
  obtain ⟨h1, h2⟩ := this
  refine ⟨fun k r e => ?_, fun k r e => ?_⟩
  · rw [e] at h1; simpa [List.contains_iff_mem] using h1
  · rw [e] at h2; simpa [List.contains_iff_mem] using h2
theorem stC_at (p : Nat) (h : p < 2) (c : Cf) (hc : c ∈ RS p) : c.2.2.1.length ≤ 2 ∧ c.2.2.2.length ≤ 2 ∧ (c.2.2.1 = [] → c.2.2.2 = [] → (c.1 = 0 ∧ c.2.1 = 0) ∨ (c.1 = 2 ∧ c.2.1 = 3) ∨ (c.1 = 3 ∧ c.2.1 = 2)) := by
  have ha := st_all
  simp only [Bool.and_eq_true] at ha
  have hp : stC p = true := by rcases p2 p h with rfl | rfl; exact ha.1.2; exact ha.2
  unfold stC at hp
  rw [List.all_eq_true] at hp
  have := hp c hc
  simp only [Bool.and_eq_true, Bool.or_eq_true, bne_iff_ne, ne_eq, decide_eq_true_eq, beq_iff_eq] at this
  obtain ⟨⟨h1, h2⟩, h3⟩ := this
  refine ⟨h1, h2, fun e1 e2 => ?_⟩
  rcases h3 with (h3 | h3) | h3
  · exact absurd e1 h3
  · exact absurd e2 h3
  · rcases h3 with (h3 | h3) | h3
    · exact .inl h3
    · exact .inr (.inl h3)
    · exact .inr (.inr h3)
/-- the kinds of the notes about a circuit -/
def ofC (ns : Mvs) (i : Nat) : List Int := (ns.filter fun x => x.2 == (i : Int)).map (·.1)
theorem ofC_app (ns ms : Mvs) (i : Nat) : ofC (ns ++ ms) i = ofC ns i ++ ofC ms i := by unfold ofC; rw [List.filter_append, List.map_append]
theorem ofC_one (k : Int) (m i : Nat) : ofC [(k, (m : Int))] i = if m = i then [k] else [] := by
  unfold ofC
  by_cases e : m = i
  · subst e; simp
  · have : ((m : Int) == (i : Int)) = false := by simp; omega
    simp [this, e]
theorem ofC_cons (k : Int) (m : Nat) (ns : Mvs) (i : Nat) : ofC ((k, (m : Int)) :: ns) i = if m = i then k :: ofC ns i else ofC ns i := by
  have := ofC_app [(k, (m : Int))] ns i
  rw [List.singleton_append, ofC_one] at this
  rw [this]; split <;> rfl
theorem len_split (ns : Mvs) (K : Nat) : (ns.filter fun x => decide (x.2 < (K : Int) + 1)).length = (ns.filter fun x => decide (x.2 < (K : Int))).length + (ofC ns K).length := by
  unfold ofC
  induction ns with
  | nil => rfl
  | cons x ns ih =>
    simp only [List.filter_cons, List.length_map] at ih ⊢
    by_cases h1 : x.2 < (K : Int)
    · have h2 : x.2 < (K : Int) + 1 := by omega
      have h3 : (x.2 == (K : Int)) = false := by simp; omega
      simp only [h1, h2, h3, decide_true, if_true, List.length_cons]; simp; omega
    · by_cases h4 : x.2 = (K : Int)
      · have h2 : x.2 < (K : Int) + 1 := by omega
        have h3 : (x.2 == (K : Int)) = true := by simp; omega
        simp only [h1, h2, h3, decide_true, decide_false, if_true, List.length_cons]; simp; omega
      · have h2 : ¬ x.2 < (K : Int) + 1 := by omega
        have h3 : (x.2 == (K : Int)) = false := by simp; omega
        simp only [h1, h2, h3, decide_false]; simpa using ih
theorem len_few (ns : Mvs) (n : Nat) (h0 : ∀ x ∈ ns, 0 ≤ x.2 ∧ x.2 < (n : Int)) (h : ∀ i, i < n → (ofC ns i).length ≤ 2) : ns.length ≤ 2 * n := by
  have key : ∀ K, K ≤ n → (ns.filter fun x => decide (x.2 < (K : Int))).length ≤ 2 * K := by
    intro K
    induction K with
    | zero =>
      intro _
      have : (ns.filter fun x => decide (x.2 < ((0 : Nat) : Int))) = [] := by
        rw [List.filter_eq_nil_iff]; intro x hx; have := h0 x hx; simp; omega
      rw [this]; simp
    | succ K ih =>
      intro hK
      have h1 := ih (by omega)
      have h2 := h K (by omega)
      have h3 := len_split ns K
      have e : ((K + 1 : Nat) : Int) = (K : Int) + 1 := by omega
      rw [e]
      omega
  have e : (ns.filter fun x => decide (x.2 < (n : Int))) = ns := by
    rw [List.filter_eq_self]; intro x hx; have := h0 x hx; simp; omega
  have := key n (Nat.le_refl _)
  rw [e] at this; exact this
/-- how many circuits a side has asked for or has -/
def cnt : List Int → Int
  | [] => 0
  | x :: r => (if x = 1 ∨ x = 2 then 1 else 0) + cnt r
theorem cnt_nn (z : List Int) : 0 ≤ cnt z := by
  induction z with
  | nil => exact Int.le_refl _
  | cons x r ih => unfold cnt; split <;> omega
theorem cnt_set : ∀ (z : List Int) (m : Nat) (v : Int), m < z.length → cnt (z.set m v) + (if z.getD m 0 = 1 ∨ z.getD m 0 = 2 then 1 else 0) = cnt z + (if v = 1 ∨ v = 2 then 1 else 0)
  | [], m, v, h => by simp at h
  | x :: r, 0, v, h => by simp only [List.set_cons_zero, cnt, List.getD_cons_zero]; omega
  | x :: r, m + 1, v, h => by
    have := cnt_set r m v (by simpa using h)
    simp only [List.set_cons_succ, cnt, List.getD_cons_succ]; omega
theorem getD_set (z : List Int) (m i : Nat) (v : Int) (hm : m < z.length) : (z.set m v).getD i 0 = if m = i then v else z.getD i 0 := by
  by_cases e : m = i
  · subst e; rw [if_pos rfl, List.getD_eq_getElem?_getD, List.getElem?_set_self hm]; rfl
  · rw [if_neg e, List.getD_eq_getElem?_getD, List.getElem?_set_ne e, ← List.getD_eq_getElem?_getD]
def cfg (t : Ts) (i : Nat) : Cf := (t.z0.getD i 0, t.z1.getD i 0, ofC t.n0 i, ofC t.n1 i)
/-- what stands all day -/
structure Day (n : Nat) (t : Ts) : Prop where
  ok : t.ok
  len : t.z0.length = n
  few : n ≤ 6
  cf : ∀ i, i < n → cfg t i ∈ RS (i % 2)
/-- the accounts -/
def Acc (t : Ts) (asked left : Int) : Prop := asked = cnt t.z0 + cnt t.z1 + left + t.l0 + t.l1 ∧ 0 ≤ left
theorem Day.ways {n : Nat} {t : Ts} (h : Day n t) : t.n0.length ≤ 12 ∧ t.n1.length ≤ 12 := by
  have hw : ∀ ns : Mvs, NoOk t.z0.length ns → (∀ i, i < n → (ofC ns i).length ≤ 2) → ns.length ≤ 12 := by
    intro ns hno hf
    have := len_few ns n (fun x hx => by obtain ⟨k, hk, rfl⟩ := List.getElem_of_mem hx; have := (hno.2 k hk).2; rw [h.len] at this; exact this) hf
    have := h.few
    omega
  obtain ⟨-, -, ⟨-, -, p0⟩, ⟨-, -, p1⟩⟩ := h.ok
  exact ⟨hw _ p0 (fun i hi => (stC_at _ (Nat.mod_lt _ (by omega)) _ (h.cf i hi)).1), hw _ p1 (fun i hi => (stC_at _ (Nat.mod_lt _ (by omega)) _ (h.cf i hi)).2.1)⟩
theorem mod2_0 (m : Nat) : (((m : Int) % 2 == 0) : Bool) = (m % 2 == 0) := by
  rw [Bool.eq_iff_iff]; simp; omega
theorem mod2_1 (m : Nat) : (((m : Int) % 2 == 1) : Bool) = (m % 2 == 1) := by
  rw [Bool.eq_iff_iff]; simp; omega
theorem Day.seize0 {n : Nat} {t : Ts} (h : Day n t) (m : Nat) (hm : m < n) (hz : t.z0.getD m 0 = 0) : Day n ⟨t.l0, t.l1, t.z0.set m 1, t.z1, t.n0, t.n1 ++ [(1, (m : Int))]⟩ := by
  have hw := h.ways
  obtain ⟨ok, len, few, cf⟩ := h
  obtain ⟨⟨h1, h2⟩, h3, ⟨s0, q0, p0⟩, ⟨s1, q1, p1⟩⟩ := ok
  have hml : m < t.z0.length := by omega
  have hse : SeOk (t.z0.set m 1) := by
    intro i hi
    rw [getD_set _ _ _ _ hml]
    split
    · omega
    · exact s0 i (by simpa using hi)
  have hno : NoOk t.z0.length (t.n1 ++ [(1, (m : Int))]) := by
    refine ⟨by rw [List.length_append]; simp only [List.length_singleton]; omega, fun i hi => ?_⟩
    by_cases e : i < t.n1.length
    · rw [List.getElem_append_left e]; exact p1.2 i e
    · rw [List.getElem_append_right (by omega)]
      simp only [List.getElem_singleton]
      refine ⟨⟨?_, ?_⟩, ?_, ?_⟩ <;> simp only <;> omega
  refine ⟨⟨⟨?_, ?_⟩, ?_, ⟨?_, q0, ?_⟩, ⟨?_, q1, ?_⟩⟩, ?_, few, fun i hi => ?_⟩ <;> try simp only [List.length_set]
  · exact h1
  · exact h2
  · exact h3
  · exact hse
  · exact p0
  · exact s1
  · exact hno
  · exact len
  · unfold cfg
    rw [getD_set _ _ _ _ hml, ofC_app, ofC_one]
    by_cases e : m = i
    · subst e
      rw [if_pos rfl, if_pos rfl]
      exact (stA_at _ (Nat.mod_lt _ (by omega)) _ (cf m hi)).1 hz
    · rw [if_neg e, if_neg e, List.append_nil]
      exact cf i hi
theorem Day.seize1 {n : Nat} {t : Ts} (h : Day n t) (m : Nat) (hm : m < n) (hz : t.z1.getD m 0 = 0) : Day n ⟨t.l0, t.l1, t.z0, t.z1.set m 1, t.n0 ++ [(1, (m : Int))], t.n1⟩ := by
  have hw := h.ways
  obtain ⟨ok, len, few, cf⟩ := h
  obtain ⟨⟨h1, h2⟩, h3, ⟨s0, q0, p0⟩, ⟨s1, q1, p1⟩⟩ := ok
  have hml : m < t.z1.length := by omega
  have hse : SeOk (t.z1.set m 1) := by
    intro i hi
    rw [getD_set _ _ _ _ hml]
    split
    · omega
    · exact s1 i (by simpa using hi)
  have hno : NoOk t.z0.length (t.n0 ++ [(1, (m : Int))]) := by
    refine ⟨by rw [List.length_append]; simp only [List.length_singleton]; omega, fun i hi => ?_⟩
    by_cases e : i < t.n0.length
    · rw [List.getElem_append_left e]; exact p0.2 i e
    · rw [List.getElem_append_right (by omega)]
      simp only [List.getElem_singleton]
      refine ⟨⟨?_, ?_⟩, ?_, ?_⟩ <;> simp only <;> omega
  refine ⟨⟨⟨?_, ?_⟩, ?_, ⟨?_, q0, ?_⟩, ⟨?_, q1, ?_⟩⟩, ?_, few, fun i hi => ?_⟩ <;> try simp only [List.length_set]
  · exact h1
  · exact h2
  · exact h3
  · exact s0
  · exact hno
  · exact hse
  · exact p1
  · exact len
  · unfold cfg
    rw [getD_set _ _ _ _ hml, ofC_app, ofC_one]
    by_cases e : m = i
    · subst e
      rw [if_pos rfl, if_pos rfl]
      exact (stA_at _ (Nat.mod_lt _ (by omega)) _ (cf m hi)).2.1 hz
    · rw [if_neg e, if_neg e, List.append_nil]
      exact cf i hi
theorem Day.leave0 {n : Nat} {t : Ts} (h : Day n t) (m : Nat) (hm : m < n) (hz : t.z0.getD m 0 = 2) : Day n ⟨t.l0, t.l1, t.z0.set m 4, t.z1, t.n0, t.n1 ++ [(4, (m : Int))]⟩ := by
  have hw := h.ways
  obtain ⟨ok, len, few, cf⟩ := h
  obtain ⟨⟨h1, h2⟩, h3, ⟨s0, q0, p0⟩, ⟨s1, q1, p1⟩⟩ := ok
  have hml : m < t.z0.length := by omega
  have hse : SeOk (t.z0.set m 4) := by
    intro i hi
    rw [getD_set _ _ _ _ hml]
    split
    · omega
    · exact s0 i (by simpa using hi)
  have hno : NoOk t.z0.length (t.n1 ++ [(4, (m : Int))]) := by
    refine ⟨by rw [List.length_append]; simp only [List.length_singleton]; omega, fun i hi => ?_⟩
    by_cases e : i < t.n1.length
    · rw [List.getElem_append_left e]; exact p1.2 i e
    · rw [List.getElem_append_right (by omega)]
      simp only [List.getElem_singleton]
      refine ⟨⟨?_, ?_⟩, ?_, ?_⟩ <;> simp only <;> omega
  refine ⟨⟨⟨?_, ?_⟩, ?_, ⟨?_, q0, ?_⟩, ⟨?_, q1, ?_⟩⟩, ?_, few, fun i hi => ?_⟩ <;> try simp only [List.length_set]
  · exact h1
  · exact h2
  · exact h3
  · exact hse
  · exact p0
  · exact s1
  · exact hno
  · exact len
  · unfold cfg
    rw [getD_set _ _ _ _ hml, ofC_app, ofC_one]
    by_cases e : m = i
    · subst e
      rw [if_pos rfl, if_pos rfl]
      exact (stA_at _ (Nat.mod_lt _ (by omega)) _ (cf m hi)).2.2.1 hz
    · rw [if_neg e, if_neg e, List.append_nil]
      exact cf i hi
theorem Day.leave1 {n : Nat} {t : Ts} (h : Day n t) (m : Nat) (hm : m < n) (hz : t.z1.getD m 0 = 2) : Day n ⟨t.l0, t.l1, t.z0, t.z1.set m 4, t.n0 ++ [(4, (m : Int))], t.n1⟩ := by
  have hw := h.ways
  obtain ⟨ok, len, few, cf⟩ := h
  obtain ⟨⟨h1, h2⟩, h3, ⟨s0, q0, p0⟩, ⟨s1, q1, p1⟩⟩ := ok
  have hml : m < t.z1.length := by omega
  have hse : SeOk (t.z1.set m 4) := by
    intro i hi
    rw [getD_set _ _ _ _ hml]
    split
    · omega
    · exact s1 i (by simpa using hi)
  have hno : NoOk t.z0.length (t.n0 ++ [(4, (m : Int))]) := by
    refine ⟨by rw [List.length_append]; simp only [List.length_singleton]; omega, fun i hi => ?_⟩
    by_cases e : i < t.n0.length
    · rw [List.getElem_append_left e]; exact p0.2 i e
    · rw [List.getElem_append_right (by omega)]
      simp only [List.getElem_singleton]
      refine ⟨⟨?_, ?_⟩, ?_, ?_⟩ <;> simp only <;> omega
  refine ⟨⟨⟨?_, ?_⟩, ?_, ⟨?_, q0, ?_⟩, ⟨?_, q1, ?_⟩⟩, ?_, few, fun i hi => ?_⟩ <;> try simp only [List.length_set]
  · exact h1
  · exact h2
  · exact h3
  · exact s0
  · exact hno
  · exact hse
  · exact p1
  · exact len
  · unfold cfg
    rw [getD_set _ _ _ _ hml, ofC_app, ofC_one]
    by_cases e : m = i
    · subst e
      rw [if_pos rfl, if_pos rfl]
      exact (stA_at _ (Nat.mod_lt _ (by omega)) _ (cf m hi)).2.2.2 hz
    · rw [if_neg e, if_neg e, List.append_nil]
      exact cf i hi
theorem Day.carry0 {n : Nat} {t : Ts} (h : Day n t) (kd : Int) (m : Nat) (ns : Mvs) (hn : t.n0 = (kd, (m : Int)) :: ns) (ha : t.a0 = true) : Day n t.c0 := by
  have hk := (t.c0_ok h.ok kd m ns hn ha).1
  obtain ⟨ok, len, few, cf⟩ := h
  have hx := (t.head ok).1 _ ns hn
  obtain ⟨kd', m', he, hkd, hmz⟩ := hx
  obtain ⟨rfl, he2⟩ := Prod.mk.inj he
  obtain rfl : m = m' := by omega
  have h3 := ok.2.1
  have hml : m < t.z0.length := by omega
  refine ⟨hk, ?_, few, fun i hi => ?_⟩
  · rw [t.c0_eq kd m ns hn]; simp only [List.length_set]; exact len
  · rw [t.c0_eq kd m ns hn]
    have hc := cf i hi
    unfold cfg at hc ⊢
    rw [hn, ofC_cons] at hc
    simp only
    rw [getD_set _ _ _ _ hml, ofC_app]
    by_cases e : m = i
    · subst e
      rw [if_pos rfl] at hc
      have := (stB_at _ (Nat.mod_lt _ (by omega)) _ hc).1 kd (ofC ns m) rfl
      simp only at this
      rw [if_pos rfl, mod2_0 m]
      have e2 : ofC (bkN0 t.z0 kd m) m = bkL (hearF kd (t.z0.getD m 0) (m % 2 == 0)).2.1 := by
        unfold bkN0 bkL
        rw [mod2_0 m]
        split
        · rfl
        · rw [ofC_one, if_pos rfl]
      rw [e2]
      exact this
    · rw [if_neg e] at hc
      have e2 : ofC (bkN0 t.z0 kd m) i = [] := by
        unfold bkN0
        split
        · rfl
        · rw [ofC_one, if_neg e]
      rw [if_neg e, e2, List.append_nil]
      exact hc
theorem hearF_acc0 (kd sn : Int) (ow : Bool) (h : 0 ≤ sn ∧ sn ≤ 4) : (if (hearF kd sn ow).1 = 1 ∨ (hearF kd sn ow).1 = 2 then (1 : Int) else 0) + (hearF kd sn ow).2.2 = (if sn = 1 ∨ sn = 2 then 1 else 0) := by
  unfold hearF; repeat' split
  all_goals (try simp_all) <;> omega
theorem Acc.carry0 {t : Ts} (ok : t.ok) {asked left : Int} (h : Acc t asked left) (kd : Int) (m : Nat) (ns : Mvs) (hn : t.n0 = (kd, (m : Int)) :: ns) : Acc t.c0 asked left := by
  have hx := (t.head ok).1 _ ns hn
  obtain ⟨kd', m', he, hkd, hmz⟩ := hx
  obtain ⟨rfl, he2⟩ := Prod.mk.inj he
  obtain rfl : m = m' := by omega
  have h3 := ok.2.1
  have hml : m < t.z0.length := by omega
  have hs := ok.2.2.1.1 m hml
  have h1 := cnt_set t.z0 m (hearF kd (t.z0.getD m 0) ((m : Int) % 2 == 0)).1 hml
  have h2 := hearF_acc0 kd (t.z0.getD m 0) ((m : Int) % 2 == 0) hs
  obtain ⟨h4, h5⟩ := h
  refine ⟨?_, h5⟩
  rw [t.c0_eq kd m ns hn]
  simp only
  omega
theorem Day.carry1 {n : Nat} {t : Ts} (h : Day n t) (kd : Int) (m : Nat) (ns : Mvs) (hn : t.n1 = (kd, (m : Int)) :: ns) (ha : t.a1 = true) : Day n t.c1 := by
  have hk := (t.c1_ok h.ok kd m ns hn ha).1
  obtain ⟨ok, len, few, cf⟩ := h
  have hx := (t.head ok).2 _ ns hn
  obtain ⟨kd', m', he, hkd, hmz⟩ := hx
  obtain ⟨rfl, he2⟩ := Prod.mk.inj he
  obtain rfl : m = m' := by omega
  have h3 := ok.2.1
  have hml : m < t.z1.length := by omega
  refine ⟨hk, ?_, few, fun i hi => ?_⟩
  · rw [t.c1_eq kd m ns hn]; simp only [List.length_set]; exact len
  · rw [t.c1_eq kd m ns hn]
    have hc := cf i hi
    unfold cfg at hc ⊢
    rw [hn, ofC_cons] at hc
    simp only
    rw [getD_set _ _ _ _ hml, ofC_app]
    by_cases e : m = i
    · subst e
      rw [if_pos rfl] at hc
      have := (stB_at _ (Nat.mod_lt _ (by omega)) _ hc).2 kd (ofC ns m) rfl
      simp only at this
      rw [if_pos rfl, mod2_1 m]
      have e2 : ofC (bkN1 t.z1 kd m) m = bkL (hearF kd (t.z1.getD m 0) (m % 2 == 1)).2.1 := by
        unfold bkN1 bkL
        rw [mod2_1 m]
        split
        · rfl
        · rw [ofC_one, if_pos rfl]
      rw [e2]
      exact this
    · rw [if_neg e] at hc
      have e2 : ofC (bkN1 t.z1 kd m) i = [] := by
        unfold bkN1
        split
        · rfl
        · rw [ofC_one, if_neg e]
      rw [if_neg e, e2, List.append_nil]
      exact hc
theorem hearF_acc1 (kd sn : Int) (ow : Bool) (h : 0 ≤ sn ∧ sn ≤ 4) : (if (hearF kd sn ow).1 = 1 ∨ (hearF kd sn ow).1 = 2 then (1 : Int) else 0) + (hearF kd sn ow).2.2 = (if sn = 1 ∨ sn = 2 then 1 else 0) := by
  unfold hearF; repeat' split
  all_goals (try simp_all) <;> omega
theorem Acc.carry1 {t : Ts} (ok : t.ok) {asked left : Int} (h : Acc t asked left) (kd : Int) (m : Nat) (ns : Mvs) (hn : t.n1 = (kd, (m : Int)) :: ns) : Acc t.c1 asked left := by
  have hx := (t.head ok).2 _ ns hn
  obtain ⟨kd', m', he, hkd, hmz⟩ := hx
  obtain ⟨rfl, he2⟩ := Prod.mk.inj he
  obtain rfl : m = m' := by omega
  have h3 := ok.2.1
  have hml : m < t.z1.length := by omega
  have hs := ok.2.2.2.1 m hml
  have h1 := cnt_set t.z1 m (hearF kd (t.z1.getD m 0) ((m : Int) % 2 == 1)).1 hml
  have h2 := hearF_acc1 kd (t.z1.getD m 0) ((m : Int) % 2 == 1) hs
  obtain ⟨h4, h5⟩ := h
  refine ⟨?_, h5⟩
  rw [t.c1_eq kd m ns hn]
  simp only
  omega
theorem Day.may {n : Nat} {t : Ts} (h : Day n t) {asked left : Int} (ha : Acc t asked left) (hl : asked ≤ 100000) (hs : t.still = false) : t.may = true := by
  have hw := h.ways
  have lo : ∀ (kd sn : Int) (ow : Bool), (hearF kd sn ow).2.2 ≤ 1 := fun kd sn ow => by rcases hearF_lost kd sn ow with e | e <;> omega
  have c0 := cnt_nn t.z0
  have c1 := cnt_nn t.z1
  have q0 := h.ok.2.2.1.2.1.1
  have q1 := h.ok.2.2.2.2.1.1
  obtain ⟨h4, h5⟩ := ha
  unfold Ts.may
  split
  · unfold Ts.a1
    rw [decide_eq_true_eq]
    have := lo (t.n1.headD (0, 0)).1 (t.z1.getD ((t.n1.headD (0, 0)).2.toNat) 0) (((((t.n1.headD (0, 0)).2.toNat) : Int)) % 2 == 1)
    exact ⟨by omega, .inr (by omega)⟩
  · unfold Ts.a0
    rw [decide_eq_true_eq]
    have := lo (t.n0.headD (0, 0)).1 (t.z0.getD ((t.n0.headD (0, 0)).2.toNat) 0) (((((t.n0.headD (0, 0)).2.toNat) : Int)) % 2 == 0)
    exact ⟨by omega, .inr (by omega)⟩
theorem Day.next {n : Nat} {t : Ts} (h : Day n t) {asked left : Int} (ha : Acc t asked left) (hs : t.still = false) (hm : t.may = true) : Day n t.next ∧ Acc t.next asked left := by
  unfold Ts.may at hm
  unfold Ts.next
  cases e0 : t.n0 with
  | cons x ns =>
    obtain ⟨kd, m, rfl, -, -⟩ := (t.head h.ok).1 x ns e0
    rw [e0] at hm
    exact ⟨h.carry0 kd m ns e0 hm, ha.carry0 h.ok kd m ns e0⟩
  | nil =>
    rw [e0] at hm
    cases e1 : t.n1 with
    | nil => unfold Ts.still at hs; rw [e0, e1] at hs; cases hs
    | cons x ns =>
      obtain ⟨kd, m, rfl, -, -⟩ := (t.head h.ok).2 x ns e1
      exact ⟨h.carry1 kd m ns e1 hm, ha.carry1 h.ok kd m ns e1⟩
theorem Day.ends {n : Nat} {asked left : Int} (hl : asked ≤ 100000) : ∀ (k : Nat) (t : Ts), t.wt ≤ k → Day n t → Acc t asked left → Day n t.all ∧ Acc t.all asked left ∧ t.all.still = true := by
  intro k
  induction k with
  | zero =>
    intro t hk h ha
    cases hs : t.still with
    | true => unfold Ts.all; rw [t.end_still hs]; exact ⟨h, ha, hs⟩
    | false => have := t.wt_pos hs; omega
  | succ k ih =>
    intro t hk h ha
    cases hs : t.still with
    | true => unfold Ts.all; rw [t.end_still hs]; exact ⟨h, ha, hs⟩
    | false =>
      have hm := h.may ha hl hs
      have hx := t.next_ok h.ok hs hm
      have hn := h.next ha hs hm
      have := ih t.next (by omega) hn.1 hn.2
      have he := Ts.end_ok _ t.next (Nat.le_refl _) hx.1
      unfold Ts.all at this ⊢
      rw [t.end_next h.ok hs hm]
      cases hq : t.next.end with
      | some s => rw [hq] at this; exact this
      | none =>
        rw [hq] at this
        have h2 := this.2.2
        rw [Option.getD_none] at h2
        rw [Ts.end_still _ h2] at hq; cases hq
theorem Day.settled {n : Nat} {t : Ts} (h : Day n t) (hs : t.still = true) : StP t.z0 t.z1 t.l0 t.l1 t.n0 t.n1 := by
  unfold Ts.still at hs
  rw [Bool.and_eq_true, List.isEmpty_iff, List.isEmpty_iff] at hs
  refine ⟨h.ok, by rw [hs.1]; rfl, by rw [hs.2]; rfl, fun k hk => ?_⟩
  have := (stC_at _ (Nat.mod_lt _ (by omega)) _ (h.cf k (by rw [← h.len]; exact hk))).2.2 (by unfold cfg; rw [hs.1]; rfl) (by unfold cfg; rw [hs.2]; rfl)
  unfold cfg at this
  unfold AlP
  simp only at this
  first | exact this | omega
/-- how many of the first j circuits are a side's own -/
def mineN (z : List Int) : Nat → Int
  | 0 => 0
  | j + 1 => mineN z j + (if z.getD j 0 = 2 then 1 else 0)
theorem mineN_cnt : ∀ (z : List Int), (∀ k, k < z.length → z.getD k 0 = 0 ∨ z.getD k 0 = 2 ∨ z.getD k 0 = 3) → mineN z z.length = cnt z := by
  intro z h
  have key : ∀ (a b : List Int), (∀ k, k < (a ++ b).length → (a ++ b).getD k 0 = 0 ∨ (a ++ b).getD k 0 = 2 ∨ (a ++ b).getD k 0 = 3) → mineN (a ++ b) a.length = cnt a := by
    intro a
    induction hh : a.length generalizing a with
    | zero => intro b _; obtain rfl : a = [] := List.eq_nil_of_length_eq_zero hh; rfl
    | succ n ih =>
      intro b hb
      obtain ⟨a', x, rfl⟩ : ∃ a' x, a = a' ++ [x] := ⟨a.dropLast, a.getLast (by intro e; rw [e] at hh; simp at hh), (List.dropLast_concat_getLast _).symm⟩
      have hl : a'.length = n := by simpa using hh
      have h1 := ih a' hl ([x] ++ b) (by rw [← List.append_assoc]; exact hb)
      rw [← List.append_assoc] at h1
      have hx := hb n (by simp; omega)
      have hxe : (a' ++ [x] ++ b).getD n 0 = x := by
        rw [List.getD_eq_getElem?_getD, List.append_assoc, List.getElem?_append_right (by omega), hl]; simp
      rw [hxe] at hx
      have hcx : ∀ l : List Int, cnt (l ++ [x]) = cnt l + (if x = 2 then 1 else 0) := by
        intro l
        induction l with
        | nil => simp only [List.nil_append, cnt]; rcases hx with e | e | e <;> subst e <;> decide
        | cons y r ih => simp only [List.cons_append, cnt]; rw [ih]; omega
      show mineN _ (n) + _ = _
      rw [h1, hxe, hcx]
  have := key z [] (by rw [List.append_nil]; exact h)
  rw [List.append_nil] at this; exact this
theorem Day.mine {n : Nat} {t : Ts} (h : Day n t) (hs : t.still = true) : mineN t.z0 n = cnt t.z0 ∧ mineN t.z1 n = cnt t.z1 := by
  have st := (h.settled hs).2.2.2
  have h3 := h.ok.2.1
  have hal : ∀ k, k < n → AlP (t.z0.getD k 0) (t.z1.getD k 0) := fun k hk => st k (by rw [h.len]; exact hk)
  constructor
  · have := mineN_cnt t.z0 (fun k hk => by have := hal k (by rw [← h.len]; exact hk); unfold AlP at this; omega)
    rw [h.len] at this; exact this
  · have := mineN_cnt t.z1 (fun k hk => by have := hal k (by rw [← h.len, ← h3]; exact hk); unfold AlP at this; omega)
    rw [h3, h.len] at this; exact this
theorem atN_free (z : List Int) (sd : Int) : ∀ j, j ≤ z.length → (0 ≤ atN z sd j → (atN z sd j).toNat < j ∧ z.getD (atN z sd j).toNat 0 = 0) ∧ (0 ≤ laN z sd j → (laN z sd j).toNat < j ∧ z.getD (laN z sd j).toNat 0 = 0) := by
  intro j
  induction j with
  | zero => intro _; exact ⟨fun h => by simp [atN] at h, fun h => by simp [laN] at h⟩
  | succ j ih =>
    intro hj
    have := ih (by omega)
    constructor
    · intro h
      unfold atN at h ⊢
      by_cases h1 : 0 ≤ atN z sd j
      · rw [if_pos h1]
        have := this.1 h1; exact ⟨by omega, this.2⟩
      · rw [if_neg h1] at h ⊢
        by_cases hc : z.getD j 0 = 0 ∧ (j : Int) % 2 = sd
        · rw [if_pos hc]
          simp only [Int.toNat_natCast]
          exact ⟨by omega, hc.1⟩
        · rw [if_neg hc] at h; omega
    · intro h
      unfold laN at h ⊢
      split at h
      · rename_i hc
        rw [if_pos hc]
        simp only [Int.toNat_natCast]
        refine ⟨by omega, ?_⟩
        exact hc.1
      · rename_i hc
        rw [if_neg hc]
        have := this.2 h; exact ⟨by omega, this.2⟩
theorem freeF_free (z : List Int) (sd : Int) (h : 0 ≤ freeF z sd) : (freeF z sd).toNat < z.length ∧ z.getD (freeF z sd).toNat 0 = 0 := by
  have := atN_free z sd z.length (Nat.le_refl _)
  unfold freeF at h ⊢
  split at h
  · rename_i hc; rw [if_pos hc]; exact this.1 hc
  · rename_i hc; rw [if_neg hc]; exact this.2 h
theorem Day.new (n : Nat) (h0 : 1 ≤ n) (h : n ≤ 6) : Day n ⟨0, 0, nz n, nz n, [], []⟩ ∧ Acc ⟨0, 0, nz n, nz n, [], []⟩ 0 0 := by
  have e : nz n = List.replicate n 0 := by unfold nz; rw [if_pos (by omega)]; rfl
  have hg : ∀ i, (List.replicate n (0 : Int)).getD i 0 = 0 := by
    intro i
    rw [List.getD_eq_getElem?_getD, List.getElem?_replicate]; split <;> rfl
  have hc : ∀ m, cnt (List.replicate m 0) = 0 := by
    intro m
    induction m with
    | zero => rfl
    | succ m ih => rw [List.replicate_succ, cnt, ih]; decide
  rw [e]
  refine ⟨⟨⟨⟨by simp; omega, by simp; omega⟩, rfl, ⟨fun k _ => by rw [hg]; omega, ⟨by show (0 : Int) ≤ 0; omega, by show (0 : Int) ≤ 1000000; omega⟩, ⟨by simp, fun k hk => by simp at hk⟩⟩, ⟨fun k _ => by rw [hg]; omega, ⟨by show (0 : Int) ≤ 0; omega, by show (0 : Int) ≤ 1000000; omega⟩, ⟨by simp, fun k hk => by simp at hk⟩⟩⟩, by simp, h, fun i hi => ?_⟩, ?_⟩
  · unfold cfg
    rw [hg]
    have : (0, 0, [], []) ∈ RS (i % 2) := by
      rcases p2 (i % 2) (Nat.mod_lt _ (by omega)) with e | e <;> rw [e] <;> decide
    exact this
  · unfold Acc; simp only [hc]; omega
end Go.Proofs.Ytkehcalijamhjaa

/- What a mended book is; no condition. -/
import Derived.Test.YtmfmlbiplagmiaaDoorBom
namespace Go.Proofs.YtmfmlbiplagmiaaDoor
open Go.RowKit Go.ChangeShapes Go.WideShapes Go.ChangeAt
set_option linter.unusedVariables false
set_option linter.unusedSimpArgs false
set_option maxRecDepth 8000

/-- a talk has a line; a circuit -/
def hasL (i : Int) (t : Tk) : Bool := decide (t.1 = i) || decide (t.2.1 = i)
def hasC (i : Int) (t : Tk) : Bool := decide (t.2.2 = i)
/-- the place of the first of which f is true; -1: of none -/
def fst18 (f : Tk → Bool) (ts : List Tk) : Int := if ts.any f then (ts.findIdx f : Int) else -1
/-- what is written of n lines (circuits) -/
def wr18 (f : Int → Tk → Bool) (n : Nat) (ts : List Tk) : List Int := (List.range n).map fun i : Nat => fst18 (f i) ts
/-- two talks share something -/
def shB (a b : Tk) : Bool := decide (a.1 = b.1) || (decide (a.1 = b.2.1) || (decide (a.2.1 = b.1) || (decide (a.2.1 = b.2.1) || (decide (0 ≤ a.2.2) && decide (a.2.2 = b.2.2)))))
/-- a talk may stand behind these -/
def okT (ks : List Tk) (t : Tk) : Bool := decide (t.1 ≠ t.2.1) && ks.all (fun k => !shB t k)
/-- of the first j talks: who stays, and the places of those that are gone -/
def mdS (ts : List Tk) : Nat → List Tk × List Int
  | 0 => ([], [])
  | j + 1 => if okT (mdS ts j).1 (ts.getD j (0, 0, 0)) then ((mdS ts j).1 ++ [ts.getD j (0, 0, 0)], (mdS ts j).2) else ((mdS ts j).1, (mdS ts j).2 ++ [(j : Int)])
theorem wr18_len (f : Int → Tk → Bool) (n : Nat) (ts : List Tk) : (wr18 f n ts).length = n := by simp [wr18]
theorem wr18_at (f : Int → Tk → Bool) (n : Nat) (ts : List Tk) (i : Nat) (h : i < n) : (wr18 f n ts)[i]? = some (fst18 (f i) ts) := by simp [wr18, List.getElem?_map, List.getElem?_range h]
theorem wr18_get (f : Int → Tk → Bool) (n : Nat) (ts : List Tk) (i : Nat) (h : i < n) : (wr18 f n ts).getD i 0 = fst18 (f i) ts := by rw [List.getD_eq_getElem?_getD, wr18_at f n ts i h]; rfl
theorem wr18_succ (f : Int → Tk → Bool) (n : Nat) (ts : List Tk) : wr18 f (n + 1) ts = wr18 f n ts ++ [fst18 (f n) ts] := by simp [wr18, List.range_succ]
theorem fst18_no {f : Tk → Bool} {ts : List Tk} (h : ts.any f = false) : fst18 f ts = -1 := by unfold fst18; rw [h]; rfl
theorem fst18_yes {f : Tk → Bool} {ts : List Tk} (h : ts.any f = true) : 0 ≤ fst18 f ts := by unfold fst18; rw [h]; simp
theorem fst18_iff {f : Tk → Bool} {ts : List Tk} : fst18 f ts = -1 ↔ ts.any f = false := by
  cases h : ts.any f with
  | false => simp [fst18_no h]
  | true => have := fst18_yes h; constructor <;> intro e <;> first | omega | cases e
theorem fst18_lt (f : Tk → Bool) (ts : List Tk) : -1 ≤ fst18 f ts ∧ fst18 f ts < ts.length ∨ fst18 f ts = -1 := by
  cases h : ts.any f with
  | false => exact .inr (fst18_no h)
  | true =>
    left
    have h2 := List.findIdx_lt_length_of_exists (p := f) (xs := ts) (by simpa using h)
    unfold fst18; rw [h]
    simp only [if_true]
    omega
theorem wr18_nil (f : Int → Tk → Bool) (n : Nat) : wr18 f n [] = List.replicate n (-1) := by
  refine List.ext_getElem? fun i => ?_
  by_cases h : i < n
  · rw [wr18_at f n [] i h, fst18_no rfl, List.getElem?_replicate, if_pos h]
  · rw [List.getElem?_eq_none (by rw [wr18_len]; omega), List.getElem?_eq_none (by rw [List.length_replicate]; omega)]
theorem fst18_app (f : Tk → Bool) (ts : List Tk) (t : Tk) : fst18 f (ts ++ [t]) = if ts.any f then fst18 f ts else if f t then (ts.length : Int) else -1 := by
  unfold fst18
  rw [List.any_append, List.findIdx_append]
  cases h : ts.any f with
  | true =>
    have h2 := List.findIdx_lt_length_of_exists (p := f) (xs := ts) (by simpa using h)
    simp [h2]
  | false =>
    have h2 : ¬ ts.findIdx f < ts.length := by
      intro hl
      have h3 := List.findIdx_getElem (w := hl) (p := f) (xs := ts)
      have h4 : ts.any f = true := by rw [List.any_eq_true]; exact ⟨_, List.getElem_mem hl, h3⟩
      rw [h] at h4; cases h4
    cases hf : f t with
    | true => simp [h2, hf, List.findIdx_cons]
    | false => simp [h2, hf]
theorem shB_L {a b : Tk} : ((hasL a.1 b || hasL a.2.1 b) || (decide (0 ≤ a.2.2) && hasC a.2.2 b)) = shB a b := by
  unfold hasL hasC shB
  have e1 : decide (b.1 = a.1) = decide (a.1 = b.1) := by simp [eq_comm]
  have e2 : decide (b.2.1 = a.1) = decide (a.1 = b.2.1) := by simp [eq_comm]
  have e3 : decide (b.1 = a.2.1) = decide (a.2.1 = b.1) := by simp [eq_comm]
  have e4 : decide (b.2.1 = a.2.1) = decide (a.2.1 = b.2.1) := by simp [eq_comm]
  have e5 : decide (b.2.2 = a.2.2) = decide (a.2.2 = b.2.2) := by simp [eq_comm]
  rw [e1, e2, e3, e4, e5]
  simp only [Bool.or_assoc]
theorem all_sh (ks : List Tk) (t : Tk) (hc : -1 ≤ t.2.2) : ks.all (fun k => !shB t k) = (!ks.any (hasL t.1) && (!ks.any (hasL t.2.1) && (decide (t.2.2 = -1) || !ks.any (hasC t.2.2)))) := by
  induction ks with
  | nil => simp
  | cons k ks ih =>
    rw [List.all_cons, ih, List.any_cons, List.any_cons, List.any_cons, ← shB_L]
    by_cases h : t.2.2 = -1
    · have h0 : decide (0 ≤ t.2.2) = false := decide_eq_false (by omega)
      rw [h0, decide_eq_true h]
      cases hasL t.1 k <;> cases hasL t.2.1 k <;> cases ks.any (hasL t.1) <;> cases ks.any (hasL t.2.1) <;> rfl
    · have h0 : decide (0 ≤ t.2.2) = true := decide_eq_true (by omega)
      rw [h0, decide_eq_false h]
      cases hasL t.1 k <;> cases hasL t.2.1 k <;> cases ks.any (hasL t.1) <;> cases ks.any (hasL t.2.1) <;> cases hasC t.2.2 k <;> cases ks.any (hasC t.2.2) <;> rfl
theorem okT_eq (ks : List Tk) (t : Tk) (hc : -1 ≤ t.2.2) : okT ks t = (decide (t.1 ≠ t.2.1) && (!ks.any (hasL t.1) && (!ks.any (hasL t.2.1) && (decide (t.2.2 = -1) || !ks.any (hasC t.2.2))))) := by unfold okT; rw [all_sh ks t hc]
/-- what a talk more turns in what is written -/
theorem wrL_push (n : Nat) (ks : List Tk) (t : Tk) (h1 : ks.any (hasL t.1) = false) (h2 : ks.any (hasL t.2.1) = false) (b1 : 0 ≤ t.1 ∧ t.1 ≤ (n : Int) - 1) (b2 : 0 ≤ t.2.1 ∧ t.2.1 ≤ (n : Int) - 1) :
    wr18 hasL n (ks ++ [t]) = ((wr18 hasL n ks).set t.1.toNat ks.length).set t.2.1.toNat ks.length := by
  refine List.ext_getElem? fun i => ?_
  by_cases hi : i < n
  · rw [wr18_at _ _ _ i hi, fst18_app, List.getElem?_set, List.getElem?_set, wr18_at _ _ _ i hi]
    by_cases e2 : t.2.1.toNat = i
    · have e2' : t.2.1 = (i : Int) := by omega
      rw [e2'] at h2
      have : hasL (i : Int) t = true := by unfold hasL; rw [decide_eq_true e2']; simp
      rw [h2, this]; simp [e2, wr18_len, hi]
    by_cases e1 : t.1.toNat = i
    · have e1' : t.1 = (i : Int) := by omega
      rw [e1'] at h1
      have : hasL (i : Int) t = true := by unfold hasL; rw [decide_eq_true e1']; simp
      rw [h1, this]; simp [e1, e2, wr18_len, hi]
    · have : hasL (i : Int) t = false := by unfold hasL; rw [decide_eq_false (by omega), decide_eq_false (by omega)]; rfl
      rw [this]
      simp only [e1, e2, if_false]
      cases h : ks.any (hasL (i : Int)) with
      | true => simp
      | false => rw [fst18_no h]; rfl
  · rw [List.getElem?_eq_none (by rw [wr18_len]; omega), List.getElem?_eq_none (by rw [List.length_set, List.length_set, wr18_len]; omega)]
theorem wrC_push (n : Nat) (ks : List Tk) (t : Tk) (h1 : ks.any (hasC t.2.2) = false) (b1 : 0 ≤ t.2.2 ∧ t.2.2 ≤ (n : Int) - 1) : wr18 hasC n (ks ++ [t]) = (wr18 hasC n ks).set t.2.2.toNat ks.length := by
  refine List.ext_getElem? fun i => ?_
  by_cases hi : i < n
  · rw [wr18_at _ _ _ i hi, fst18_app, List.getElem?_set, wr18_at _ _ _ i hi]
    by_cases e1 : t.2.2.toNat = i
    · have e1' : t.2.2 = (i : Int) := by omega
      rw [e1'] at h1
      have : hasC (i : Int) t = true := by unfold hasC; rw [decide_eq_true e1']
      rw [h1, this]; simp [e1, wr18_len, hi]
    · have : hasC (i : Int) t = false := by unfold hasC; rw [decide_eq_false (by omega)]
      rw [this]
      simp only [e1, if_false]
      cases h : ks.any (hasC (i : Int)) with
      | true => simp
      | false => rw [fst18_no h]; rfl
  · rw [List.getElem?_eq_none (by rw [wr18_len]; omega), List.getElem?_eq_none (by rw [List.length_set, wr18_len]; omega)]
theorem wrC_none (n : Nat) (ks : List Tk) (t : Tk) (h : t.2.2 = -1) : wr18 hasC n (ks ++ [t]) = wr18 hasC n ks := by
  refine List.ext_getElem? fun i => ?_
  by_cases hi : i < n
  · rw [wr18_at _ _ _ i hi, fst18_app, wr18_at _ _ _ i hi]
    have : hasC (i : Int) t = false := by unfold hasC; rw [decide_eq_false (by omega)]
    rw [this]
    cases h : ks.any (hasC (i : Int)) with
    | true => simp
    | false => rw [fst18_no h]; rfl
  · rw [List.getElem?_eq_none (by rw [wr18_len]; omega), List.getElem?_eq_none (by rw [wr18_len]; omega)]
theorem mdS_len (ts : List Tk) : ∀ j, (mdS ts j).1.length + (mdS ts j).2.length = j
  | 0 => rfl
  | j + 1 => by
    have := mdS_len ts j
    unfold mdS
    split <;> simp <;> omega
/-- the mended book, and who is gone -/
def mbT (ts : List Tk) (ls cs : List Int) : List Tk := if bkB ts ls cs then (mdS ts ts.length).1 else []
def mbL (ts : List Tk) (ls cs : List Int) : List Int := if bkB ts ls cs then wr18 hasL ls.length (mdS ts ts.length).1 else []
def mbC (ts : List Tk) (ls cs : List Int) : List Int := if bkB ts ls cs then wr18 hasC cs.length (mdS ts ts.length).1 else []
def mbG (ts : List Tk) (ls cs : List Int) : List Int := if bkB ts ls cs then (mdS ts ts.length).2 else []
theorem bkB_len {ts : List Tk} {ls cs : List Int} (h : bkB ts ls cs = true) : ts.length ≤ 30 ∧ ls.length ≤ 30 ∧ cs.length ≤ 30 := by
  unfold bkB at h; simp only [Bool.and_eq_true, decide_eq_true_eq] at h; exact ⟨h.1, h.2.1, h.2.2.1⟩
theorem bkB_at {ts : List Tk} {ls cs : List Int} (h : bkB ts ls cs = true) (k : Nat) (hk : k < ts.length) : (0 ≤ ts[k].1 ∧ ts[k].1 ≤ (ls.length : Int) - 1) ∧ (0 ≤ ts[k].2.1 ∧ ts[k].2.1 ≤ (ls.length : Int) - 1) ∧ (-1 ≤ ts[k].2.2 ∧ ts[k].2.2 ≤ (cs.length : Int) - 1) := by
  unfold bkB at h; simp only [Bool.and_eq_true, decide_eq_true_eq] at h
  have h2 := List.all_eq_true.1 h.2.2.2.1 _ (List.getElem_mem hk)
  unfold tkB at h2; simp only [Bool.and_eq_true, decide_eq_true_eq] at h2
  exact h2

end Go.Proofs.YtmfmlbiplagmiaaDoor

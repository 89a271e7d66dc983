/- Which faults a book has; no condition. -/
import Derived.Test.YtmfmlbiplagmiaaDoorMbk
import Derived.Test.YtmfmlbiplagmiaaDoorSl
namespace Go.Proofs.YtmfmlbiplagmiaaDoor
open Go.RowKit Go.ChangeShapes Go.WideShapes Go.ChangeAt
set_option linter.unusedVariables false
set_option linter.unusedSimpArgs false
set_option maxRecDepth 8000

/-- the places below n of which p is true, told with a kind -/
def fw (k : Int) (p : Nat → Bool) : Nat → List (Int × Int)
  | 0 => []
  | n + 1 => if p n then fw k p n ++ [(k, (n : Int))] else fw k p n
theorem fw_yes {k : Int} {p : Nat → Bool} {n : Nat} (h : p n = true) : fw k p (n + 1) = fw k p n ++ [(k, (n : Int))] := by show (if p n = true then _ else _) = _; rw [if_pos h]
theorem fw_no {k : Int} {p : Nat → Bool} {n : Nat} (h : p n = false) : fw k p (n + 1) = fw k p n := by show (if p n = true then _ else _) = _; rw [if_neg (by rw [h]; simp)]
theorem fw_len (k : Int) (p : Nat → Bool) : ∀ n, (fw k p n).length ≤ n
  | 0 => Nat.le_refl _
  | n + 1 => by
    have := fw_len k p n
    unfold fw
    split <;> simp <;> omega
theorem fw_congr {k : Int} {p q : Nat → Bool} : ∀ {n : Nat}, (∀ i, i < n → p i = q i) → fw k p n = fw k q n
  | 0, _ => rfl
  | n + 1, h => by unfold fw; rw [h n (by omega), fw_congr fun i hi => h i (by omega)]
/-- a talk that shares something with one ahead of it -/
def twB (ts : List Tk) (i : Nat) : Bool := (ts.take i).any (fun t => shB (ts.getD i (0, 0, 0)) t)
def seB (ts : List Tk) (i : Nat) : Bool := decide ((ts.getD i (0, 0, 0)).1 = (ts.getD i (0, 0, 0)).2.1)
/-- a line (circuit) of which not the first talk that has it is told -/
def wrB (zs fs : List Int) (i : Nat) : Bool := decide (fs.getD i 0 ≠ -1) && decide (zs.getD i 0 ≠ fs.getD i 0)
/-- one that no talk has, and is told to be in one -/
def frB' (zs fs : List Int) (i : Nat) : Bool := decide (fs.getD i 0 = -1) && decide (zs.getD i 0 ≠ -1)
def nuF (k1 k2 : Int) (zs fs : List Int) : List (Int × Int) := fw k1 (wrB zs fs) zs.length ++ fw k2 (frB' zs fs) zs.length
/-- all faults of a book that may be read -/
def ftL (ts : List Tk) (ls cs : List Int) : List (Int × Int) := (fw 1 (twB ts) ts.length ++ fw 2 (seB ts) ts.length) ++ nuF 3 4 ls (wr18 hasL ls.length ts) ++ nuF 5 6 cs (wr18 hasC cs.length ts)
/-- what Faults answers -/
def faL (ts : List Tk) (ls cs : List Int) : List (Int × Int) := if bkB ts ls cs then ftL ts ls cs else [(7, 0)]
theorem nuF_len (k1 k2 : Int) (zs fs : List Int) : (nuF k1 k2 zs fs).length ≤ 2 * zs.length := by
  have h1 := fw_len k1 (wrB zs fs) zs.length
  have h2 := fw_len k2 (frB' zs fs) zs.length
  unfold nuF
  rw [List.length_append]; omega
/-- a place that is claimed -/
def cl (zs : List Int) (x : Int) (p : Int) : List Int := if zs.getD x.toNat 0 = -1 then zs.set x.toNat p else zs
theorem cl_len (zs : List Int) (x p : Int) : (cl zs x p).length = zs.length := by unfold cl; split <;> simp
theorem cl_getD (zs : List Int) (x p : Int) (i : Nat) (hi : i < zs.length) : (cl zs x p).getD i 0 = if x.toNat = i ∧ zs.getD i 0 = -1 then p else zs.getD i 0 := by
  unfold cl
  by_cases hx : zs.getD x.toNat 0 = -1
  · rw [if_pos hx, List.getD_eq_getElem?_getD, List.getElem?_set]
    by_cases he : x.toNat = i
    · subst he; rw [if_pos rfl, if_pos hi, if_pos ⟨rfl, hx⟩]; rfl
    · rw [if_neg he, if_neg (fun h => he h.1), List.getD_eq_getElem?_getD]
  · rw [if_neg hx, if_neg]
    rintro ⟨rfl, h⟩; exact hx h
theorem ext0 {a b : List Int} (hl : a.length = b.length) (h : ∀ i, i < a.length → a.getD i 0 = b.getD i 0) : a = b := ext_getD hl h
theorem clL (n : Nat) (ks : List Tk) (t : Tk) (b1 : 0 ≤ t.1 ∧ t.1 ≤ (n : Int) - 1) (b2 : 0 ≤ t.2.1 ∧ t.2.1 ≤ (n : Int) - 1) : cl (cl (wr18 hasL n ks) t.1 ks.length) t.2.1 ks.length = wr18 hasL n (ks ++ [t]) := by
  refine ext0 (by rw [cl_len, cl_len, wr18_len, wr18_len]) fun i hi => ?_
  rw [cl_len, cl_len, wr18_len] at hi
  rw [cl_getD _ _ _ _ (by rw [cl_len, wr18_len]; exact hi), cl_getD _ _ _ _ (by rw [wr18_len]; exact hi), wr18_get _ _ _ _ hi, wr18_get _ _ _ _ hi, fst18_app]
  cases ha : ks.any (hasL (i : Int)) with
  | true =>
    have h0 := fst18_yes ha
    have hz : fst18 (hasL (i : Int)) ks ≠ -1 := by omega
    simp [hz]
  | false =>
    rw [fst18_no ha]
    by_cases h1 : t.1.toNat = i
    · have : hasL (i : Int) t = true := by unfold hasL; rw [decide_eq_true (by omega)]; rfl
      rw [this]
      by_cases h2 : t.2.1.toNat = i <;> simp [h1, h2]
    · by_cases h2 : t.2.1.toNat = i
      · have : hasL (i : Int) t = true := by unfold hasL; rw [decide_eq_true (show t.2.1 = (i : Int) by omega)]; simp
        rw [this]; simp [h1, h2]
      · have : hasL (i : Int) t = false := by unfold hasL; rw [decide_eq_false (by omega), decide_eq_false (by omega)]; rfl
        rw [this]; simp [h1, h2]
theorem clC (n : Nat) (ks : List Tk) (t : Tk) (b1 : 0 ≤ t.2.2 ∧ t.2.2 ≤ (n : Int) - 1) : cl (wr18 hasC n ks) t.2.2 ks.length = wr18 hasC n (ks ++ [t]) := by
  refine ext0 (by rw [cl_len, wr18_len, wr18_len]) fun i hi => ?_
  rw [cl_len, wr18_len] at hi
  rw [cl_getD _ _ _ _ (by rw [wr18_len]; exact hi), wr18_get _ _ _ _ hi, wr18_get _ _ _ _ hi, fst18_app]
  cases ha : ks.any (hasC (i : Int)) with
  | true =>
    have h0 := fst18_yes ha
    have hz : fst18 (hasC (i : Int)) ks ≠ -1 := by omega
    simp [hz]
  | false =>
    rw [fst18_no ha]
    by_cases h1 : t.2.2.toNat = i
    · have : hasC (i : Int) t = true := by unfold hasC; rw [decide_eq_true (by omega)]
      rw [this]; simp [h1]
    · have : hasC (i : Int) t = false := by unfold hasC; rw [decide_eq_false (by omega)]
      rw [this]; simp [h1]
/-- where the first stands ahead of a place -/
theorem fst_lt {f : Tk → Bool} {ts : List Tk} {i : Nat} (hi : i < ts.length) (hf : f ts[i] = true) : decide (fst18 f ts < (i : Int)) = (ts.take i).any f := by
  have ha : ts.any f = true := by rw [List.any_eq_true]; exact ⟨_, List.getElem_mem hi, hf⟩
  have e : fst18 f ts = (ts.findIdx f : Int) := by unfold fst18; rw [ha]; rfl
  rw [e]
  cases hb : (ts.take i).any f with
  | true =>
    refine decide_eq_true ?_
    have h1 : ts.findIdx f < i := by
      have h2 : ts = ts.take i ++ ts.drop i := (List.take_append_drop i ts).symm
      rw [h2, List.findIdx_append]
      have h3 := List.findIdx_lt_length_of_exists (p := f) (xs := ts.take i) (by simpa using hb)
      rw [if_pos h3]
      rw [List.length_take] at h3
      omega
    omega
  | false =>
    refine decide_eq_false ?_
    intro h
    have h1 : ts.findIdx f < i := by omega
    have h2 : ts.findIdx f < ts.length := by omega
    have h3 := List.findIdx_getElem (w := h2) (p := f) (xs := ts)
    have h4 : (ts.take i).any f = true := by
      rw [List.any_eq_true]
      exact ⟨ts[ts.findIdx f], by rw [List.mem_take_iff_getElem]; exact ⟨ts.findIdx f, by omega, rfl⟩, h3⟩
    rw [hb] at h4; cases h4
/-- what the program asks of the first talks -/
def twF (fl fc : List Int) (t : Tk) (i : Nat) : Bool := decide (fl.getD t.1.toNat 0 < (i : Int)) || (decide (fl.getD t.2.1.toNat 0 < (i : Int)) || (decide (t.2.2 ≠ -1) && decide (fc.getD t.2.2.toNat 0 < (i : Int))))
theorem any_or (ks : List Tk) (f g : Tk → Bool) : (ks.any fun x => f x || g x) = (ks.any f || ks.any g) := by
  induction ks with
  | nil => rfl
  | cons k ks ih => simp only [List.any_cons, ih]; cases f k <;> cases g k <;> simp
theorem any_and (ks : List Tk) (b : Bool) (g : Tk → Bool) : (ks.any fun x => b && g x) = (b && ks.any g) := by
  cases b <;> simp
theorem twF_eq (nl nc : Nat) (ts : List Tk) (i : Nat) (hi : i < ts.length) (b1 : 0 ≤ ts[i].1 ∧ ts[i].1 ≤ (nl : Int) - 1) (b2 : 0 ≤ ts[i].2.1 ∧ ts[i].2.1 ≤ (nl : Int) - 1) (b3 : -1 ≤ ts[i].2.2 ∧ ts[i].2.2 ≤ (nc : Int) - 1) :
    twF (wr18 hasL nl ts) (wr18 hasC nc ts) ts[i] i = twB ts i := by
  have hg : ts.getD i (0, 0, 0) = ts[i] := by simp [List.getD, hi]
  unfold twF twB
  rw [hg]
  have e : (fun t => shB ts[i] t) = fun t => (hasL ts[i].1 t || hasL ts[i].2.1 t) || (decide (0 ≤ ts[i].2.2) && hasC ts[i].2.2 t) := by funext t; exact shB_L.symm
  rw [e, any_or, any_or, any_and]
  rw [wr18_get _ _ _ _ (by omega), wr18_get _ _ _ _ (by omega), show ((ts[i].1.toNat : Nat) : Int) = ts[i].1 by omega, show ((ts[i].2.1.toNat : Nat) : Int) = ts[i].2.1 by omega]
  rw [fst_lt hi (by unfold hasL; simp), fst_lt hi (by unfold hasL; simp)]
  by_cases hc : ts[i].2.2 = -1
  · rw [decide_eq_false (show ¬ ts[i].2.2 ≠ -1 by simp [hc]), decide_eq_false (show ¬ 0 ≤ ts[i].2.2 by omega)]
    simp only [Bool.false_and, Bool.or_assoc]
  · rw [decide_eq_true (show ts[i].2.2 ≠ -1 from hc), decide_eq_true (show 0 ≤ ts[i].2.2 by omega), wr18_get _ _ _ _ (by omega), show ((ts[i].2.2.toNat : Nat) : Int) = ts[i].2.2 by omega, fst_lt hi (by unfold hasC; simp)]
    simp only [Bool.true_and, Bool.or_assoc]

end Go.Proofs.YtmfmlbiplagmiaaDoor

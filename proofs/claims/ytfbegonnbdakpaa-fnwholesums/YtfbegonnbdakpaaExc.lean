/- Sums of whole samples; no condition. -/
import Derived.Test.YtfbegonnbdakpaaDws
import Derived.Test.YtfbegonnbdakpaaMai
namespace Go.Proofs.Ytfbegonnbdakpaa
open Go.RowKit Go.ChangeShapes Go.WideShapes Go.ChangeAt
set_option linter.unusedVariables false
set_option linter.unusedSimpArgs false
set_option maxRecDepth 8000
theorem fc_eq {k : FloatKind} {x b : Nat} (h : fc k x = some b) : x = b := by
  rcases fc_cases k x with ⟨_, h2⟩ | ⟨_, h2⟩
  · rw [h2] at h; cases h
  · rw [h2] at h; exact Option.some.inj h
theorem fi_fc (k : FloatKind) (a : Int) : fc k (fi k a) = some (fi k a) := wN_fc ..
theorem fi0 (k : FloatKind) : fi k 0 = 0 := by cases k <;> decide
theorem wid_fi (a : Int) (h : a.natAbs < 16777216) : wid (fi .f32 a) = fi .f64 a := wid_w _ _ h
theorem b32 : (16777216 : Nat) = 2 ^ (FloatKind.f32.format.fractionBits + 1) := by decide
theorem b64 : (16777216 : Nat) ≤ 2 ^ (FloatKind.f64.format.fractionBits + 1) := by decide
theorem add32 (a b : Int) (ha : a.natAbs < 16777216) (hb : b.natAbs < 16777216) (hab : (a + b).natAbs < 16777216) : floatBits .add .f32 (fi .f32 a) (fi .f32 b) = some (fi .f32 (a + b)) :=
  add_fi a b (by rw [← b32]; exact ha) (by rw [← b32]; exact hb) (by rw [← b32]; exact hab)
theorem add64 (a b : Int) (ha : a.natAbs < 16777216) (hb : b.natAbs < 16777216) (hab : (a + b).natAbs < 16777216) : floatBits .add .f64 (fi .f64 a) (fi .f64 b) = some (fi .f64 (a + b)) :=
  add_fi a b (Nat.lt_of_lt_of_le ha b64) (Nat.lt_of_lt_of_le hb b64) (Nat.lt_of_lt_of_le hab b64)
/-- sums of whole numbers -/
def sI (g : Int × Int → Int) (ns : List (Int × Int)) : Nat → Int
  | 0 => 0
  | j + 1 => sI g ns j + g (ns.getD j (0, 0))
theorem Wh.at {ns : List (Int × Int)} (h : Wh ns) (j : Nat) : (ns.getD j (0, 0)).1.natAbs ≤ 100 ∧ (ns.getD j (0, 0)).2.natAbs ≤ 100 := by
  by_cases hj : j < ns.length
  · rw [List.getD_eq_getElem?_getD, List.getElem?_eq_getElem hj]; exact h.2 _ (List.getElem_mem _)
  · rw [List.getD_eq_getElem?_getD, List.getElem?_eq_none (by omega)]; simp
theorem sI_bd (g : Int × Int → Int) (ns : List (Int × Int)) (B : Nat) (h : ∀ j, (g (ns.getD j (0, 0))).natAbs ≤ B) : ∀ j, (sI g ns j).natAbs ≤ B * j
  | 0 => by simp [sI]
  | j + 1 => by
    have h1 := sI_bd g ns B h j
    have h2 := h j
    have e : B * (j + 1) = B * j + B := Nat.mul_succ ..
    simp only [sI]
    rw [e]
    omega
theorem fl_at (ns : List (Int × Int)) (j : Nat) : (fl ns).getD j (0, 0) = (fi .f32 (ns.getD j (0, 0)).1, fi .f32 (ns.getD j (0, 0)).2) := by
  unfold fl
  by_cases hj : j < ns.length
  · simp [List.getD_eq_getElem?_getD, List.getElem?_eq_getElem hj]
  · have e : ns[j]? = none := List.getElem?_eq_none (by omega)
    simp only [List.getD_eq_getElem?_getD, List.getElem?_map, e, Option.map_none, Option.getD_none, fi0]
theorem sg_fl (f : Nat × Nat → Nat) (g : Int × Int → Int) (hfg : ∀ p : Int × Int, f (fi .f32 p.1, fi .f32 p.2) = fi .f32 (g p)) (ns : List (Int × Int)) (hg : ∀ j, (g (ns.getD j (0, 0))).natAbs ≤ 100) : ∀ j, j ≤ 40 → sgF f (fl ns) j = some (fi .f32 (sI g ns j)) ∧ dbF f (fl ns) j = some (fi .f64 (sI g ns j))
  | 0, _ => by simp only [sgF, dbF, sI, fi0, and_self]
  | j + 1, hj => by
    obtain ⟨h1, h2⟩ := sg_fl f g hfg ns hg j (by omega)
    have b1 := sI_bd g ns 100 hg j
    have b2 := hg j
    have b3 := sI_bd g ns 100 hg (j + 1)
    simp only [sgF, dbF, h1, h2, fl_at, hfg, fi_fc, fo, Option.map_some, sI] at b3 ⊢
    rw [wid_fi _ (by omega)]
    exact ⟨add32 _ _ (by omega) (by omega) (by omega), add64 _ _ (by omega) (by omega) (by omega)⟩
/-- the squares -/
def sq (p : Int × Int) : Int := p.1 * p.1 + p.2 * p.2
theorem natAbs_sq (a : Int) : a * a = ((a.natAbs * a.natAbs : Nat) : Int) := by rw [Int.natCast_mul, Int.natAbs_mul_self' a]
theorem sq_bd {a : Int} (h : a.natAbs ≤ 100) : a.natAbs * a.natAbs ≤ 10000 := Nat.mul_le_mul h h
theorem mul64 (s t : Bool) (m n : Nat) (hm : m ≤ 100) (hn : n ≤ 100) : floatBits .mul .f64 (wN .f64 s m) (wN .f64 t n) = some (wN .f64 (s ^^ t) (m * n)) := by
  have : m * n ≤ 10000 := Nat.mul_le_mul hm hn
  exact mulw s t m n (Nat.lt_of_lt_of_le (by omega) b64) (Nat.lt_of_lt_of_le (by omega) b64) (Nat.lt_of_lt_of_le (by omega) b64)
theorem pX_fl (a b : Int) (ha : a.natAbs ≤ 100) (hb : b.natAbs ≤ 100) : pXR (fi .f32 a) (fi .f32 b) (fi .f32 a) (fi .f32 b) = some (fi .f64 (sq (a, b))) ∧ pXI (fi .f32 a) (fi .f32 b) (fi .f32 a) (fi .f32 b) = some (fi .f64 0) := by
  obtain ⟨s, hs⟩ : ∃ s, decide (a < 0) = s := ⟨_, rfl⟩
  obtain ⟨t, ht⟩ : ∃ t, decide (b < 0) = t := ⟨_, rfl⟩
  obtain ⟨m, hm⟩ : ∃ m, a.natAbs = m := ⟨_, rfl⟩
  obtain ⟨n, hn⟩ : ∃ n, b.natAbs = n := ⟨_, rfl⟩
  have hsq : sq (a, b) = ((m * m + n * n : Nat) : Int) := by simp only [sq]; rw [natAbs_sq a, natAbs_sq b, hm, hn]; omega
  have q1 : m * m ≤ 10000 := by rw [← hm]; exact sq_bd ha
  have q2 : n * n ≤ 10000 := by rw [← hn]; exact sq_bd hb
  have q3 : m * n ≤ 10000 := by rw [← hm, ← hn]; exact Nat.mul_le_mul ha hb
  rw [hm] at ha
  rw [hn] at hb
  have fa : fi .f32 a = wN .f32 s m := by unfold fi; rw [hs, hm]
  have fb : fi .f32 b = wN .f32 t n := by unfold fi; rw [ht, hn]
  unfold pXR pXI
  rw [fa, fb, neg_w]
  simp only [wN_fc, Option.map_some]
  rw [wid_w _ _ (by omega), wid_w _ _ (by omega), wid_w _ _ (by omega)]
  simp only [fo]
  rw [mul64 s s m m ha ha, mul64 t (!t) n n hb hb, mul64 s (!t) m n ha hb, mul64 t s n m hb ha]
  simp only [fo]
  constructor
  · have e1 : (t ^^ !t) = true := by cases t <;> rfl
    have e2 : (s ^^ s) = false := by cases s <;> rfl
    rw [e1, e2, subw false true _ _ (Nat.lt_of_lt_of_le (by omega) b64) (Nat.lt_of_lt_of_le (by omega) b64) (by simp only [sg, Bool.not_true, Bool.false_eq_true, if_false]; exact Nat.lt_of_lt_of_le (by omega) b64)]
    simp only [sg, Bool.not_true, Bool.false_eq_true, if_false, Bool.false_and]
    rw [hsq]
    unfold fi
    have e3 : ((m * m : Nat) : Int) + ((n * n : Nat) : Int) = ((m * m + n * n : Nat) : Int) := by omega
    have e4 : ¬ (((m * m + n * n : Nat) : Int) < 0) := by omega
    rw [e3, decide_eq_false e4]
    split <;> rfl
  · have e1 : (t ^^ s) = !(s ^^ !t) := by cases s <;> cases t <;> rfl
    obtain ⟨r, hr⟩ : ∃ r, (s ^^ !t) = r := ⟨_, rfl⟩
    have e2 : n * m = m * n := Nat.mul_comm ..
    rw [e1, hr, e2, addw r (!r) _ _ (Nat.lt_of_lt_of_le (by omega) b64) (Nat.lt_of_lt_of_le (by omega) b64) (by cases r <;> simp [sg] <;> exact Nat.lt_of_lt_of_le (by omega) b64)]
    have e3 : sg r (m * n) + sg (!r) (m * n) = 0 := by cases r <;> simp only [sg, Bool.not_true, Bool.not_false, Bool.false_eq_true, if_false, if_true] <;> omega
    rw [e3, if_pos rfl]
    have e4 : (r && !r) = false := by cases r <;> rfl
    rw [e4]
    rfl
theorem mt_fl (ns : List (Int × Int)) (h : Wh ns) : ∀ j, j ≤ 40 → mtF pXR (fl ns) (fl ns) j = some (fi .f64 (sI sq ns j)) ∧ mtF pXI (fl ns) (fl ns) j = some (fi .f64 0)
  | 0, _ => by simp only [mtF, sI, fi0, and_self]
  | j + 1, hj => by
    obtain ⟨h1, h2⟩ := mt_fl ns h j (by omega)
    have hq : ∀ j, (sq (ns.getD j (0, 0))).natAbs ≤ 20000 := by
      intro j
      have hw := h.at j
      have q1 := sq_bd hw.1
      have q2 := sq_bd hw.2
      have e : sq (ns.getD j (0, 0)) = (((ns.getD j (0, 0)).1.natAbs * (ns.getD j (0, 0)).1.natAbs + (ns.getD j (0, 0)).2.natAbs * (ns.getD j (0, 0)).2.natAbs : Nat) : Int) := by simp only [sq]; rw [natAbs_sq, natAbs_sq]; omega
      rw [e]; omega
    have b1 := sI_bd sq ns 20000 hq j
    have b2 := hq j
    have b3 := sI_bd sq ns 20000 hq (j + 1)
    have hw := h.at j
    obtain ⟨p1, p2⟩ : pXR (fi .f32 (ns.getD j (0, 0)).1) (fi .f32 (ns.getD j (0, 0)).2) (fi .f32 (ns.getD j (0, 0)).1) (fi .f32 (ns.getD j (0, 0)).2) = some (fi .f64 (sq (ns.getD j (0, 0)))) ∧ pXI (fi .f32 (ns.getD j (0, 0)).1) (fi .f32 (ns.getD j (0, 0)).2) (fi .f32 (ns.getD j (0, 0)).1) (fi .f32 (ns.getD j (0, 0)).2) = some (fi .f64 0) := pX_fl _ _ hw.1 hw.2
    simp only [mtF, h1, h2, fl_at, p1, p2, fo, sI] at b3 ⊢
    exact ⟨add64 _ _ (by omega) (by omega) (by omega), add64 0 0 (by decide) (by decide) (by decide)⟩
end Go.Proofs.Ytfbegonnbdakpaa

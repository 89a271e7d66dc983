/- What Serving tells; no condition. -/
import Derived.Test.YtikgempdohpdjaaNsd
namespace Go.Proofs.Ytikgempdohpdjaa
open Go.RowKit Go.ChangeShapes Go.WideShapes Go.ChangeAt
set_option linter.unusedVariables false
set_option linter.unusedSimpArgs false
set_option maxRecDepth 8000

/-- has each cell been stronger than another by the margin, at all these ticks? -/
def owB (rs : List (List Int)) (k c : Nat) (mg : Int) : Bool := (List.range rs.length).all fun i => decide (max mg 1 ≤ (rs.getD i []).getD k 0 - (rs.getD i []).getD c 0)
theorem owB_no {rs : List (List Int)} {k c : Nat} {mg : Int} {i : Nat} (hi : i < rs.length) (h : (rs.getD i []).getD k 0 - (rs.getD i []).getD c 0 < max mg 1) : owB rs k c mg = false := by
  unfold owB
  rw [List.all_eq_false]
  exact ⟨i, List.mem_range.2 hi, by rw [decide_eq_false (by omega)]; simp⟩
theorem owB_yes {rs : List (List Int)} {k c : Nat} {mg : Int} (h : ∀ i, i < rs.length → max mg 1 ≤ (rs.getD i []).getD k 0 - (rs.getD i []).getD c 0) : owB rs k c mg = true := by
  unfold owB
  exact List.all_eq_true.2 fun i hi => decide_eq_true (h i (List.mem_range.1 hi))
theorem owB_at {rs : List (List Int)} {k c : Nat} {mg : Int} (h : owB rs k c mg = true) (i : Nat) (hi : i < rs.length) : max mg 1 ≤ (rs.getD i []).getD k 0 - (rs.getD i []).getD c 0 := by
  unfold owB at h
  exact of_decide_eq_true (List.all_eq_true.1 h i (List.mem_range.2 hi))
/-- the last of these ticks -/
def lsR (rs : List (List Int)) : List Int := rs.getD (rs.length - 1) []
def tkF (rs : List (List Int)) (mg : Int) (c : Nat) : Nat → Nat
  | 0 => c
  | k + 1 => if (lsR rs).getD (tkF rs mg c k) 0 < (lsR rs).getD k 0 ∧ owB rs k c mg = true then k else tkF rs mg c k
theorem tkF_lt {rs : List (List Int)} {mg : Int} {c m : Nat} (hc : c < m) : ∀ k, k ≤ m → tkF rs mg c k < m
  | 0, _ => hc
  | k + 1, hk => by
    rw [tkF]; split
    · omega
    · exact tkF_lt hc k (by omega)
/-- the best of the first k, of those that may; -1: none -/
def bsF (row : List Int) (ok : Nat → Bool) : Nat → Int
  | 0 => -1
  | k + 1 => if ok k = true ∧ (bsF row ok k < 0 ∨ row.getD (bsF row ok k).toNat 0 < row.getD k 0) then (k : Int) else bsF row ok k
theorem bsF_bd (row : List Int) (ok : Nat → Bool) : ∀ k, -1 ≤ bsF row ok k ∧ bsF row ok k < (k : Int)
  | 0 => by simp [bsF]
  | k + 1 => by
    have := bsF_bd row ok k
    rw [bsF]; split <;> omega
theorem bs_none {row : List Int} {ok : Nat → Bool} (h : ∀ k, ok k = false) : ∀ k, bsF row ok k = -1
  | 0 => rfl
  | k + 1 => by rw [bsF, if_neg (by rw [h k]; simp), bs_none h k]
theorem bs_tk {rs : List (List Int)} {mg : Int} {c : Nat} (hr : 1 ≤ rs.length) : ∀ k, bsF (lsR rs) (fun k => owB rs k c mg) k = if tkF rs mg c k = c then -1 else (tkF rs mg c k : Int)
  | 0 => by simp [bsF, tkF]
  | k + 1 => by
    have ih := bs_tk (mg := mg) (c := c) hr k
    have hgt : owB rs k c mg = true → (lsR rs).getD c 0 < (lsR rs).getD k 0 := fun h => by
      have := owB_at h (rs.length - 1) (by omega)
      unfold lsR; omega
    by_cases h1 : tkF rs mg c k = c
    · by_cases h2 : owB rs k c mg = true
      · have hkc : k ≠ c := fun e => by have := hgt h2; rw [e] at this; omega
        have et : tkF rs mg c (k + 1) = k := by rw [tkF, h1, if_pos ⟨hgt h2, h2⟩]
        rw [et, if_neg hkc, bsF, ih, if_pos h1, if_pos ⟨h2, .inl (by omega)⟩]
      · have et : tkF rs mg c (k + 1) = c := by rw [tkF, h1, if_neg (fun h => h2 h.2)]
        rw [et, if_pos rfl, bsF, ih, if_pos h1, if_neg (fun h => h2 h.1)]
    · by_cases h2 : owB rs k c mg = true ∧ (lsR rs).getD (tkF rs mg c k) 0 < (lsR rs).getD k 0
      · have hkc : k ≠ c := fun e => by have := hgt h2.1; rw [e] at this; omega
        have et : tkF rs mg c (k + 1) = k := by rw [tkF, if_pos ⟨h2.2, h2.1⟩]
        rw [et, if_neg hkc, bsF, ih, if_neg h1, if_pos ⟨h2.1, .inr (by simpa using h2.2)⟩]
      · have et : tkF rs mg c (k + 1) = tkF rs mg c k := by rw [tkF, if_neg (fun h => h2 ⟨h.2, h.1⟩)]
        rw [et, if_neg h1, bsF, ih, if_neg h1, if_neg (fun h => h2 ⟨h.1, by rcases h.2 with h3 | h3; omega; simpa using h3⟩)]
/-- the greatest of the first k + 1 -/
def mxN (row : List Int) : Nat → Int
  | 0 => row.getD 0 0
  | k + 1 => if mxN row k < row.getD (k + 1) 0 then row.getD (k + 1) 0 else mxN row k
theorem bs_mx (row : List Int) : ∀ k, 0 ≤ bsF row (fun _ => true) (k + 1) ∧ row.getD (bsF row (fun _ => true) (k + 1)).toNat 0 = mxN row k ∧ ∀ i, i < (bsF row (fun _ => true) (k + 1)).toNat → row.getD i 0 < mxN row k
  | 0 => by simp [bsF, mxN]
  | k + 1 => by
    obtain ⟨h0, h1, h2⟩ := bs_mx row k
    have hall : ∀ i, i ≤ k → row.getD i 0 ≤ mxN row k := by
      intro i hi
      clear h0 h1 h2
      induction k with
      | zero => rw [show i = 0 by omega]; exact Int.le_refl _
      | succ k ih =>
        rw [mxN]
        rcases Nat.lt_or_ge i (k + 1) with h | h
        · have := ih (by omega); split <;> omega
        · rw [show i = k + 1 by omega]; split <;> omega
    rw [bsF, mxN]
    by_cases hc : mxN row k < row.getD (k + 1) 0
    · rw [if_pos ⟨rfl, .inr (by rw [h1]; exact hc)⟩, if_pos hc]
      refine ⟨by omega, by simp, fun i hi => ?_⟩
      have := hall i (by simp at hi; omega)
      omega
    · rw [if_neg (fun h => by rcases h.2 with h3 | h3; omega; rw [h1] at h3; exact hc h3), if_neg hc]
      exact ⟨h0, h1, h2⟩
def amx (row : List Int) : Nat := (bsF row (fun _ => true) row.length).toNat
def wn (ms : List (List Int)) (f n : Nat) : List (List Int) := (List.range n).map fun i => ms.getD (f + i) []
theorem wn_len (ms : List (List Int)) (f n : Nat) : (wn ms f n).length = n := by simp [wn]
theorem wn_at (ms : List (List Int)) (f n i : Nat) (h : i < n) : (wn ms f n).getD i [] = ms.getD (f + i) [] := by simp [wn, List.getElem?_map, List.getElem?_range h]
/-- the cell that serves at a tick, and since when -/
def svN (ms : List (List Int)) (mg : Int) (dw : Nat) : Nat → Nat × Nat
  | 0 => (amx (ms.getD 0 []), 0)
  | t + 1 => if (svN ms mg dw t).2 + dw ≤ t + 1 ∧ tkF (wn ms (t + 1 + 1 - dw) dw) mg (svN ms mg dw t).1 (ms.getD 0 []).length ≠ (svN ms mg dw t).1 then (tkF (wn ms (t + 1 + 1 - dw) dw) mg (svN ms mg dw t).1 (ms.getD 0 []).length, t + 1) else svN ms mg dw t
def svL (ms : List (List Int)) (mg : Int) (dw : Nat) : List Int := (List.range ms.length).map fun t => ((svN ms mg dw t).1 : Int)
theorem svL_len (ms : List (List Int)) (mg : Int) (dw : Nat) : (svL ms mg dw).length = ms.length := by simp [svL]
theorem svL_at (ms : List (List Int)) (mg : Int) (dw : Nat) (t : Nat) (h : t < ms.length) : (svL ms mg dw).getD t 0 = ((svN ms mg dw t).1 : Int) := by simp [svL, List.getElem?_map, List.getElem?_range h]
def mkB (ms : List (List Int)) (i : Nat) : Bool := decide (1 ≤ ((ms.getD i []).length : Int) ∧ ((ms.getD i []).length : Int) ≤ 12) && decide ((ms.getD i []).length = (ms.getD 0 []).length) && awB (ms.getD i []) (-120) 0
def msB (ms : List (List Int)) : Bool := decide ((ms.length : Int) ≤ 200) && (List.range ms.length).all (mkB ms)
theorem msB_row {g : List (List Int)} {i : Nat} (hi : i < g.length) (h : mkB g i = false) : msB g = false := by
  unfold msB
  rw [show (List.range g.length).all (mkB g) = false from by
    rw [List.all_eq_false]; exact ⟨i, List.mem_range.2 hi, by rw [h]; simp⟩]
  simp
theorem msB_all {g : List (List Int)} (h : ∀ i, i < g.length → mkB g i = true) : msB g = decide ((g.length : Int) ≤ 200) := by
  unfold msB
  rw [show (List.range g.length).all (mkB g) = true from List.all_eq_true.2 fun i hi => h i (List.mem_range.1 hi)]
  simp
structure MOk (ms : List (List Int)) : Prop where
  hi : ms.length ≤ 200
  len : ∀ i, i < ms.length → (ms.getD i []).length = (ms.getD 0 []).length
  lo : ∀ i, i < ms.length → 1 ≤ (ms.getD i []).length ∧ (ms.getD i []).length ≤ 12
  bd : ∀ i k, i < ms.length → k < (ms.getD 0 []).length → -120 ≤ (ms.getD i []).getD k 0 ∧ (ms.getD i []).getD k 0 ≤ 0
theorem msB_ok {g : List (List Int)} (h : msB g = true) : MOk g := by
  unfold msB at h
  rw [Bool.and_eq_true, decide_eq_true_eq] at h
  have hr : ∀ i, i < g.length → mkB g i = true := fun i hi => List.all_eq_true.1 h.2 i (List.mem_range.2 hi)
  have hp : ∀ i, i < g.length → (1 ≤ ((g.getD i []).length : Int) ∧ ((g.getD i []).length : Int) ≤ 12) ∧ (g.getD i []).length = (g.getD 0 []).length ∧ awB (g.getD i []) (-120) 0 = true := fun i hi => by
    have := hr i hi
    unfold mkB at this
    rw [Bool.and_eq_true, Bool.and_eq_true, decide_eq_true_eq, decide_eq_true_eq] at this
    exact ⟨this.1.1, this.1.2, this.2⟩
  refine ⟨by omega, fun i hi => (hp i hi).2.1, fun i hi => by have := (hp i hi).1; omega, fun i k hi hk => awB_at (hp i hi).2.2 k (by rw [(hp i hi).2.1]; exact hk)⟩
theorem amx_lt {row : List Int} (h : 1 ≤ row.length) : amx row < row.length := by
  have := bsF_bd row (fun _ => true) row.length
  unfold amx; omega
theorem svN_bd {ms : List (List Int)} (h : MOk ms) (hl : 1 ≤ ms.length) (mg : Int) (dw : Nat) : ∀ t, (svN ms mg dw t).1 < (ms.getD 0 []).length ∧ (svN ms mg dw t).2 ≤ t
  | 0 => ⟨amx_lt (h.lo 0 (by omega)).1, Nat.le_refl _⟩
  | t + 1 => by
    have ih := svN_bd h hl mg dw t
    rw [svN]; split
    · exact ⟨tkF_lt ih.1 _ (Nat.le_refl _), Nat.le_refl _⟩
    · exact ⟨ih.1, by omega⟩
def svB (ms : List (List Int)) (mg dw : Int) : Bool := msB ms && decide (0 ≤ mg ∧ mg ≤ 60) && decide (1 ≤ dw ∧ dw ≤ 20)
def svR (ms : List (List Int)) (mg dw : Int) : List Int := if svB ms mg dw = true then svL ms mg dw.toNat else []
theorem svR_no {g : List (List Int)} {mg dw : Int} (h : svB g mg dw = false) : svR g mg dw = [] := by unfold svR; rw [h]; rfl
theorem svR_yes {g : List (List Int)} {mg dw : Int} (h : svB g mg dw = true) : svR g mg dw = svL g mg dw.toNat := by unfold svR; rw [if_pos h]
theorem svR_len (g : List (List Int)) (mg dw : Int) : (svR g mg dw).length ≤ g.length := by
  cases h : svB g mg dw with
  | false => rw [svR_no h]; simp
  | true => rw [svR_yes h, svL_len]; exact Nat.le_refl _
def SvR (g : List (List Int)) (mg dw : Int) (w : World) (e : Ending) (w' : World) : Prop := ∃ v, e = .returned (.tuple #[v, .bool (svB g mg dw)]) ∧ Ow .i64 3 w.heap.size w' v (svR g mg dw) ∧ Below w.heap.size w w'

end Go.Proofs.Ytikgempdohpdjaa

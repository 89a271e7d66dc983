/- What Changes tells; no condition. -/
import Derived.Test.YtikgempdohpdjaaIvm
import Derived.Test.YtikgempdohpdjaaApp
import Derived.Test.YtikgempdohpdjaaMixT
namespace Go.Proofs.Ytikgempdohpdjaa
open Go.RowKit Go.ChangeShapes Go.WideShapes Go.ChangeAt
set_option linter.unusedVariables false
set_option linter.unusedSimpArgs false
set_option maxRecDepth 8000

/-- a row that is read, cell by cell, in every world in which nothing old was turned -/
theorem rdc {w : World} {a : Option Addr} {n cap : Nat} {zs : List Int} (h : Rd .i64 w (.slice a n cap) zs) : ∀ W j, j < zs.length → Below w.heap.size w W → ∃ bo : Nat × Nat, a = some ⟨bo.1, bo.2, none⟩ ∧ bo.1 < w.heap.size ∧ W.cell? ⟨bo.1, bo.2 + j, none⟩ = some (.int .i64 (zs.getD j 0)) := fun W j hj hW => by
  obtain ⟨a', cap', he, -, -, h3⟩ := h
  cases he
  rcases h3 with h3 | ⟨b, off, h0, h4⟩
  · rw [h3] at hj; simp at hj
  · have hc := h4 j hj
    exact ⟨(b, off), h0, block_lt_of_cell hc, by rw [hW.cell (block_lt_of_cell hc)]; exact hc⟩
/-- the ticks, among the first j, at which another one serves than at the tick ahead -/
def chT (zs : List Int) : Nat → List Int
  | 0 => []
  | 1 => []
  | j + 2 => if zs.getD (j + 1) 0 = zs.getD j 0 then chT zs (j + 1) else chT zs (j + 1) ++ [((j + 1 : Nat) : Int)]
theorem chT_step {zs : List Int} {j : Nat} (h : 1 ≤ j) : chT zs (j + 1) = if zs.getD j 0 = zs.getD (j - 1) 0 then chT zs j else chT zs j ++ [(j : Int)] := by
  obtain ⟨k, rfl⟩ : ∃ k, j = k + 1 := ⟨j - 1, by omega⟩
  rfl
theorem chT_len (zs : List Int) : ∀ j, (chT zs j).length ≤ j
  | 0 => by simp [chT]
  | 1 => by simp [chT]
  | j + 2 => by
    have := chT_len zs (j + 1)
    rw [chT]; split
    · omega
    · simp; omega
theorem chT_bd (zs : List Int) : ∀ j, ∀ x ∈ chT zs j, 0 ≤ x ∧ x < (j : Int)
  | 0 => by simp [chT]
  | 1 => by simp [chT]
  | j + 2 => by
    have := chT_bd zs (j + 1)
    intro x hx
    rw [chT] at hx
    split at hx
    · have := this x hx; omega
    · rcases List.mem_append.1 hx with h | h
      · have := this x h; omega
      · simp at h; omega
/-- the fewest ticks between two of the first i -/
def fwT (ts : List Int) : Nat → Int
  | 0 => 0
  | 1 => 0
  | i + 2 => if i = 0 ∨ ts.getD (i + 1) 0 - ts.getD i 0 < fwT ts (i + 1) then ts.getD (i + 1) 0 - ts.getD i 0 else fwT ts (i + 1)
theorem fwT_step {ts : List Int} {i : Nat} (h : 1 ≤ i) : fwT ts (i + 1) = if i = 1 ∨ ts.getD i 0 - ts.getD (i - 1) 0 < fwT ts i then ts.getD i 0 - ts.getD (i - 1) 0 else fwT ts i := by
  obtain ⟨k, rfl⟩ : ∃ k, i = k + 1 := ⟨i - 1, by omega⟩
  show (if k = 0 ∨ _ then _ else _) = _
  simp
theorem fwT_app (ts : List Int) (x : Int) : ∀ i, i ≤ ts.length → fwT (ts ++ [x]) i = fwT ts i
  | 0, _ => rfl
  | 1, _ => rfl
  | i + 2, h => by
    have e1 : (ts ++ [x]).getD (i + 1) 0 = ts.getD (i + 1) 0 := by simp [List.getElem?_append_left (show i + 1 < ts.length by omega)]
    have e2 : (ts ++ [x]).getD i 0 = ts.getD i 0 := by simp [List.getElem?_append_left (show i < ts.length by omega)]
    rw [fwT, fwT, e1, e2, fwT_app ts x (i + 1) (by omega)]
/-- the last of them, or -1 -/
def laT (ts : List Int) : Int := if ts.length = 0 then -1 else ts.getD (ts.length - 1) 0
/-- between two that follow one another at least one tick lies -/
def Asc (ts : List Int) : Prop := ∀ k, k + 1 < ts.length → ts.getD k 0 < ts.getD (k + 1) 0
theorem fwT_pos {ts : List Int} (h : Asc ts) : ∀ i, 2 ≤ i → i ≤ ts.length → 0 < fwT ts i
  | 0, h2, _ => by omega
  | 1, h2, _ => by omega
  | i + 2, _, hl => by
    have := h i (by omega)
    rw [fwT]
    split
    · omega
    · rename_i hn
      rcases Nat.eq_zero_or_pos i with h0 | h0
      · exact absurd (.inl h0) hn
      · exact fwT_pos h (i + 1) (by omega) (by omega)
theorem asc_app {ts : List Int} {x : Int} (h : Asc ts) (hx : ∀ y ∈ ts, y < x) : Asc (ts ++ [x]) := by
  intro k hk
  simp at hk
  by_cases hl : k + 1 < ts.length
  · have e1 : (ts ++ [x]).getD (k + 1) 0 = ts.getD (k + 1) 0 := by simp [List.getElem?_append_left hl]
    have e2 : (ts ++ [x]).getD k 0 = ts.getD k 0 := by simp [List.getElem?_append_left (show k < ts.length by omega)]
    rw [e1, e2]; exact h k hl
  · have hk1 : ts.length = k + 1 := by omega
    have e1 : (ts ++ [x]).getD (k + 1) 0 = x := by rw [List.getD_eq_getElem?_getD, List.getElem?_append_right (by omega)]; simp [hk1]
    have e2 : (ts ++ [x]).getD k 0 = ts.getD k 0 := by simp [List.getElem?_append_left (show k < ts.length by omega)]
    rw [e1, e2]
    have : k < ts.length := by omega
    rw [List.getD_eq_getElem?_getD, List.getElem?_eq_getElem this]
    exact hx _ (List.getElem_mem this)
theorem chT_asc (zs : List Int) : ∀ j, Asc (chT zs j)
  | 0 => by intro k hk; simp [chT] at hk
  | 1 => by intro k hk; simp [chT] at hk
  | j + 2 => by
    rw [chT]; split
    · exact chT_asc zs (j + 1)
    · exact asc_app (chT_asc zs (j + 1)) (fun y hy => (chT_bd zs (j + 1) y hy).2)
theorem laT_app (ts : List Int) (x : Int) : laT (ts ++ [x]) = x := by
  unfold laT
  rw [if_neg (by simp), List.getD_eq_getElem?_getD, List.getElem?_append_right (by simp)]
  simp
/-- one more: what the fewest is then -/
theorem fw_more {ts : List Int} {x : Int} (h : Asc ts) (hx : ∀ y ∈ ts, y < x) : fwT (ts ++ [x]) (ts.length + 1) = if 0 < ts.length ∧ (fwT ts ts.length = 0 ∨ x - laT ts < fwT ts ts.length) then x - laT ts else fwT ts ts.length := by
  rcases Nat.eq_zero_or_pos ts.length with h0 | h0
  · rw [h0, if_neg (by simp)]; rfl
  · rw [fwT_step (by omega), fwT_app ts x _ (Nat.le_refl _)]
    have e1 : (ts ++ [x]).getD ts.length 0 = x := by rw [List.getD_eq_getElem?_getD, List.getElem?_append_right (by omega)]; simp
    have e2 : (ts ++ [x]).getD (ts.length - 1) 0 = laT ts := by unfold laT; rw [if_neg (by omega)]; simp [List.getElem?_append_left (show ts.length - 1 < ts.length by omega)]
    rw [e1, e2]
    by_cases h1 : ts.length = 1
    · have e3 : fwT ts ts.length = 0 := by rw [h1]; rfl
      rw [if_pos (.inl h1), if_pos ⟨h0, .inl e3⟩]
    · have := fwT_pos h ts.length (by omega) (Nat.le_refl _)
      by_cases h2 : x - laT ts < fwT ts ts.length
      · rw [if_pos (.inr h2), if_pos ⟨h0, .inr h2⟩]
      · rw [if_neg (by omega), if_neg (by omega)]

end Go.Proofs.Ytikgempdohpdjaa

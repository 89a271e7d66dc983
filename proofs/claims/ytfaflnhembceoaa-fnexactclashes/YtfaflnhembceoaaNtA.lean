/- Rows that are filled; a feature copied; no condition. -/
import Derived.Test.YtfaflnhembceoaaMixE
import Derived.Test.YtfaflnhembceoaaSl
namespace Go.Proofs.Ytfaflnhembceoaa
open Go.RowKit Go.ChangeShapes Go.WideShapes Go.ChangeAt
set_option linter.unusedVariables false
set_option linter.unusedSimpArgs false
set_option maxRecDepth 8000
def fil {α : Type} (x : α) (ls : List α) (j : Nat) : List α := ls.take j ++ List.replicate (ls.length - j) x
theorem fil_len {α : Type} (x : α) (ls : List α) (j : Nat) (h : j ≤ ls.length) : (fil x ls j).length = ls.length := by simp [fil]; omega
theorem fil_full {α : Type} (x : α) (ls : List α) : fil x ls ls.length = ls := by simp [fil]
theorem fil_set {α : Type} (x : α) (ls : List α) (j : Nat) (h : j < ls.length) : (fil x ls j).set j ls[j] = fil x ls (j + 1) := by
  have e : List.replicate (ls.length - j) x = x :: List.replicate (ls.length - (j + 1)) x := by
    rw [show ls.length - j = (ls.length - (j + 1)) + 1 by omega, List.replicate_succ]
  have t : ls.take (j + 1) = ls.take j ++ [ls[j]] := by rw [List.take_succ_eq_append_getElem h]
  have hm : min j ls.length = j := by omega
  rw [fil, fil, e]
  simp [List.set_append, hm]
  rw [t, List.append_assoc]; rfl
theorem grown_set (w : World) (g k : Nat) (x : Value) : w.grownBy (w.setCell ⟨g, k, none⟩ x) (some g) :=
  ⟨rfl, rfl, rfl, by simp, fun i _ hi => heap_setCell_other w ⟨g, k, none⟩ i x (fun e => hi (by simp [e]))⟩
set_option maxHeartbeats 1600000 in
theorem Blk.grown {w w' : World} {g : Nat} {cs : Array Value} {t : TypeId} {row : Option Nat} (h : Blk w g cs t) (hg : w.grownBy w' row) (hne : row ≠ some g) : Blk w' g cs t := by
  rw [Blk, hg.block g h.lt (fun e => hne e.symm)]; exact h
abbrev H2 (s c : Int) : Array Value := #[.int .i64 s, .int .i64 c]
theorem size68 : (Try.prog.info? 37).map (·.size) = some 2 := by kernel_rfl
theorem toFeature_c (x y : Int) (w : World) : Calls Try.prog 97 #[.agg (H2 x y)] w fun e w' => e = .returned (.agg (H2 x y)) ∧ Below w.heap.size w w' := by
  go_enter Try.func97, Try.ntmps97
  go_wp2
  have h1 : ((((w.alloc (Obj.cells (H2 x y) 149)).alloc (Obj.cells (H2 x y) 37)).alloc (Obj.cells (H2 x y) 37))).heap[w.heap.size + 1]? = some (.cells (H2 x y) 37 (0, 0)) :=
    ((Blk.newAt _ (w.heap.size + 1) _ 37 (by simp)).alloc _ : Blk _ _ _ _)
  exact bodyPost_ret (v := .agg (H2 x y)) (results_cell_row rfl _ _ _ 37 _ (0, 0) _ rfl h1 Try.underlying37 rfl size68) rfl ⟨rfl, (((Below.refl _ _).alloc (Nat.le_refl _) _).alloc (by simp) _).alloc (by simp; omega) _⟩
end Go.Proofs.Ytfaflnhembceoaa

/- Coders copied and compared; no condition. -/
import Derived.Test.YtkjfcebdjnclaaaDoorExi
namespace Go.Proofs.YtkjfcebdjnclaaaDoor
open Go.RowKit Go.ChangeShapes Go.WideShapes Go.ChangeAt
set_option linter.unusedVariables false
set_option linter.unusedSimpArgs false
set_option maxRecDepth 8000

theorem sizeLc : (Tryd.prog.info? 52).map (·.size) = some 2 := by kernel_rfl
set_option maxHeartbeats 1600000 in
theorem toCd_c (c : Int × Int) (w : World) : Calls Tryd.prog 33 #[.agg (cdA c)] w fun e w' => e = .returned (.agg (cdA c)) ∧ Below w.heap.size w w' := by
  go_enter Tryd.func33, Tryd.ntmps33
  go_wp2
  have h1 : ((((w.alloc (Obj.cells (cdA c) 52)).alloc (Obj.cells (cdA c) 25)).alloc (Obj.cells (cdA c) 25))).heap[w.heap.size + 1]? = some (.cells (cdA c) 25 (0, 0)) :=
    ((Blk.newAt _ (w.heap.size + 1) _ 25 (by simp)).alloc _ : Blk _ _ _ _)
  exact bodyPost_ret (v := .agg (cdA c)) (results_cell_row rfl _ _ _ 25 _ (0, 0) _ rfl h1 Tryd.underlying25 rfl sizeCd) rfl ⟨rfl, (((Below.refl _ _).alloc (Nat.le_refl _) _).alloc (by simp) _).alloc (by simp; omega) _⟩
set_option maxHeartbeats 1600000 in
theorem eqCd_t (c : Int × Int) (w : World) : Calls Tryd.prog 36 #[.agg (cdA c), .agg (cdA c)] w fun e w' => e = .returned (.bool true) ∧ Below w.heap.size w w' := by
  have HB : Hid (Below w.heap.size w ((w.alloc (Obj.cells (cdA c) 25)).alloc (Obj.cells (cdA c) 25))) := ((Below.refl _ _).alloc (Nat.le_refl _) _).alloc (by simp) _
  have n0 : (c.1 != c.1) = false := by simp
  have n1 : (c.2 != c.2) = false := by simp
  go_enter Tryd.func36, Tryd.ntmps36
  go_wp2
  go_ret
  exact ⟨rfl, HB.out⟩
/-- a box is none of a row of whole numbers -/
theorem own_blk_ne {base : Nat} {W : World} {v : Value} {zs : List Int} {g : Nat} {cs : Array Value} {t : TypeId} (h : Ow .i64 3 base W v zs) (hb : Blk W g cs t) (ht : t ≠ 3) : v.ownBlock ≠ some g := by
  intro e
  rcases h.2 with ⟨rfl, hn⟩ | ⟨k, cap, cur, rfl, -, hh, -⟩
  · cases e
  · simp [Value.ownBlock] at e
    subst e
    rw [Blk, hh] at hb
    simp at hb
    exact ht hb.2.symm
theorem Blk.grownO {W W' : World} {row : Option Nat} {g : Nat} {cs : Array Value} {t : TypeId} (h : Blk W g cs t) (hg : W.grownBy W' row) (hne : row ≠ some g) : Blk W' g cs t := by
  rw [Blk, hg.block g h.lt (fun e => hne e.symm)]; exact h
theorem Ow.grownO {base : Nat} {W W' : World} {v : Value} {zs : List Int} {row : Option Nat} (h : Ow .i64 3 base W v zs) (hg : W.grownBy W' row) (hne : v.ownBlock = none ∨ v.ownBlock ≠ row) : Ow .i64 3 base W' v zs := World.ownsRow.kept (row := row) h hg hne

end Go.Proofs.YtkjfcebdjnclaaaDoor

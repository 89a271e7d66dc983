/- What Stir15 tells; no condition. -/
import Derived.Test.YtkgpnpgbadipjaaRgs
namespace Go.Proofs.Ytkgpnpgbadipjaa
open Go.RowKit Go.ChangeShapes Go.WideShapes Go.ChangeAt
set_option linter.unusedVariables false
set_option linter.unusedSimpArgs false
set_option maxRecDepth 8000

/-- the register's state behind k turns -/
def sr (key : Int) : Nat → Int
  | 0 => key
  | k + 1 => nxt (sr key k) 46080
theorem nxt_bd {s : Int} (h0 : 0 ≤ s) (h1 : s ≤ 65535) : 0 ≤ nxt s 46080 ∧ nxt s 46080 ≤ 65535 := by
  unfold nxt
  split
  · exact xo_bd (s / 2) 46080 (by omega) (by omega) (by omega) (by omega)
  · omega
theorem sr_bd {key : Int} (h0 : 0 ≤ key) (h1 : key ≤ 65535) : ∀ k, 0 ≤ sr key k ∧ sr key k ≤ 65535
  | 0 => ⟨h0, h1⟩
  | k + 1 => nxt_bd (sr_bd h0 h1 k).1 (sr_bd h0 h1 k).2
def stB (zs : List Int) (key : Int) : Bool := bbB zs && decide (1 ≤ key ∧ key ≤ 65535)
def stA (zs : List Int) (key : Int) (k : Nat) : Int := xo (zs.getD k 0) (sr key k % 2)
def stF (zs : List Int) (key : Int) : List Int := (List.range zs.length).map (stA zs key)
def stR (zs : List Int) (key : Int) : List Int := if stB zs key = true then stF zs key else []
theorem stF_len (zs : List Int) (key : Int) : (stF zs key).length = zs.length := by simp [stF]
theorem stF_at (zs : List Int) (key : Int) (k : Nat) (h : k < zs.length) : (stF zs key).getD k 0 = stA zs key k := by simp [stF, List.getElem?_map, List.getElem?_range h]
theorem stR_no {zs : List Int} {key : Int} (h : stB zs key = false) : stR zs key = [] := by unfold stR; rw [h]; rfl
theorem stR_yes {zs : List Int} {key : Int} (h : stB zs key = true) : stR zs key = stF zs key := by unfold stR; rw [if_pos h]
theorem bbB_len {zs : List Int} (h : bbB zs = true) : zs.length ≤ 320 := by unfold bbB at h; rw [Bool.and_eq_true, decide_eq_true_eq] at h; omega
def StR (zs : List Int) (key : Int) (w : World) (e : Ending) (w' : World) : Prop := ∃ v, e = .returned (.tuple #[v, .bool (stB zs key)]) ∧ Ow .i64 3 w.heap.size w' v (stR zs key) ∧ Below w.heap.size w w'

end Go.Proofs.Ytkgpnpgbadipjaa

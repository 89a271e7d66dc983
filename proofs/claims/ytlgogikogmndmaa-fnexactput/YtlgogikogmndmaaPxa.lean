/- Rows cut, boxes kept; no condition. -/
import Derived.Test.YtlgogikogmndmaaApk
import Derived.Test.YtlgogikogmndmaaPkm
namespace Go.Proofs.Ytlgogikogmndmaa
open Go.RowKit Go.ChangeShapes Go.WideShapes Go.ChangeAt
set_option linter.unusedVariables false
set_option linter.unusedSimpArgs false
set_option maxRecDepth 8000
theorem Rg.drop {w : World} {b off cap : Nat} {ls : List Pk} (h : ∀ i (h : i < ls.length), w.rangeAt b (off + i * 18) (pkC ls[i])) (hc : ls.length ≤ cap) (hm : cap ≤ maxLen) (j : Nat) (hj : j ≤ ls.length) : Rg 18 pkC w (.slice (some ⟨b, off + j * 18, none⟩) (ls.length - j) (cap - j)) (ls.drop j) := by
  have hl : (ls.drop j).length = ls.length - j := by simp
  refine ⟨_, cap - j, by rw [hl], by rw [hl]; omega, by unfold maxLen at *; omega, .inr ⟨b, off + j * 18, rfl, fun i hi => ?_⟩⟩
  have := h (j + i) (by omega)
  rw [List.getElem_drop, show off + j * 18 + i * 18 = off + (j + i) * 18 by omega]; exact this
theorem dgrown_set (w : World) (g k : Nat) (x : Value) : w.grownBy (w.setCell ⟨g, k, none⟩ x) (some g) :=
  ⟨rfl, rfl, rfl, by simp, fun i _ hi => heap_setCell_other w ⟨g, k, none⟩ i x (fun e => hi (by simp [e]))⟩
theorem Blk.grown {w w' : World} {g : Nat} {cs : Array Value} {t : TypeId} {row : Option Nat} (h : Blk w g cs t) (hg : w.grownBy w' row) (hne : some g ≠ row) : Blk w' g cs t := by
  rw [Blk, hg.block g h.lt hne]; exact h

end Go.Proofs.Ytlgogikogmndmaa

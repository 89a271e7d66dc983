/- Cells put one behind the other into a block; no condition. -/
import Derived.Test.YtejoopdpelcpeaaEn
namespace Go.Proofs.Ytejoopdpelcpeaa
open Go.RowKit Go.ChangeShapes Go.WideShapes Go.ChangeAt
set_option linter.unusedVariables false
set_option linter.unusedSimpArgs false
set_option maxRecDepth 8000
theorem Blk.setWo {w : World} {g : Nat} {cs : Array Value} {t : TypeId} (h : Blk w g cs t) (b o : Nat) (vs : List Value) (hne : g ≠ b) : Blk (setW w b o vs) g cs t :=
  h.fr (X := fun k => k = b) (Fr.ofGrown (grown_setW vs w b o) (fun k e => (Option.some.inj e).symm)) hne
theorem Blk.setWs : ∀ (vs : List Value) {w : World} {g : Nat} {cs : Array Value} {t : TypeId} (o : Nat), Blk w g cs t → Blk (setW w g o vs) g (setL cs.toList o vs).toArray t
  | [], w, g, cs, t, o, h => by simpa [setW, setL] using h
  | v :: r, w, g, cs, t, o, h => by
    have := Blk.setWs r (o + 1) (h.set o v)
    simpa [setW, setL] using this
theorem Blk.setAll {w : World} {g : Nat} {cs : Array Value} {t : TypeId} (h : Blk w g cs t) (vs : List Value) (hs : cs.size = vs.length) : Blk (setW w g 0 vs) g vs.toArray t := by
  have h1 := Blk.setWs vs 0 h
  have e : setL cs.toList 0 vs = vs := by
    apply List.ext_getElem?
    intro i
    rw [setL_get]
    by_cases hi : i < vs.length
    · rw [if_pos (by simp; omega)]; simp
    · rw [if_neg (by simp; omega), List.getElem?_eq_none (by simp; omega), List.getElem?_eq_none (by omega)]
  rw [e] at h1; exact h1
end Go.Proofs.Ytejoopdpelcpeaa

/- the small desk; a desk in its box; no condition. -/
import Derived.Test.YtpmmgbinogokfaaNiS
import Derived.Test.YtpmmgbinogokfaaRnM
import Derived.Test.YtpmmgbinogokfaaDrX8
namespace Go.Proofs.Ytpmmgbinogokfaa
open Go.RowKit Go.ChangeShapes Go.WideShapes Go.ChangeAt
set_option linter.unusedVariables false
set_option linter.unusedSimpArgs false
set_option maxRecDepth 8000
theorem rn_small : rnF (0, 0, [(1, -1, 0)], []) [(1, 0, 7, 1, 0)] = ((0, 1, [(1, 7, 0)], []), [7], [0]) := by kernel_rfl
structure Ns (C P : Nat) (w1 W : World) (n g : Int) (va vq : Value) (gs : List Ag) (qs : List Wt) : Prop where
  box : Blk W P (D4 n va vq g) 27
  own : OwD C W va vq gs qs
  bel : Below P w1 W
theorem Ns.below {C P : Nat} {w1 W W' : World} {n g : Int} {va vq : Value} {gs : List Ag} {qs : List Wt} (h : Ns C P w1 W n g va vq gs qs) (hb : Below W.heap.size W W') : Ns C P w1 W' n g va vq gs qs :=
  ⟨h.box.below hb h.box.lt, h.own.below hb, belowCall h.bel hb (Nat.le_of_lt h.box.lt)⟩
theorem Ns.put {C P : Nat} {w1 W : World} {n g : Int} {va vq : Value} {gs : List Ag} {qs : List Wt} (h : Ns C P w1 W n g va vq gs qs) {n' g' : Int} {va' vq' : Value} {gs' : List Ag} {qs' : List Wt} (ho : OwD C W va' vq' gs' qs') :
    Ns C P w1 ((((W.setCell ⟨P, 0, none⟩ (.int .i64 n')).setCell ⟨P, 1, none⟩ va').setCell ⟨P, 2, none⟩ vq').setCell ⟨P, 3, none⟩ (.int .i64 g')) n' g' va' vq' gs' qs' := by
  have gf := grow4 W P (.int .i64 n') va' vq' (.int .i64 g')
  exact ⟨(((h.box.set 0 _).set 1 _).set 2 _).set 3 _, ho.off h.box gf, h.bel.trans (grown_below gf (Nat.le_of_lt h.box.lt) (fun k e => by cases e; exact Nat.le_refl _))⟩
end Go.Proofs.Ytpmmgbinogokfaa

/- QuotWide of the program; no condition. -/
import Derived.Test.YtomgdlnpajfjhaaQu2
import Derived.Test.YtomgdlnpajfjhaaDet
namespace Go.Proofs.Ytomgdlnpajfjhaa
open Go.RowKit Go.ChangeShapes Go.WideShapes Go.ChangeAt
set_option linter.unusedVariables false
set_option linter.unusedSimpArgs false
set_option maxRecDepth 8000
structure Rqi (Wd : World) (a : Nat) (b : Nat) (c : Nat) (e : Nat) (d : Nat → Bool) (W : World) (v0 v1 v2 v3 v4 v5 v6 v7 v8 v9 : Value) (x : Nat) (y : Nat) (X : Nat) : Prop where
  bel : Below Wd.heap.size Wd W
  f0 : d 0 = true → v0 = .agg #[.float .f64 a, .float .f64 b]
  f1 : d 1 = true → v1 = .complex .f64 a b
  f2 : d 2 = true → v2 = .agg #[.float .f64 c, .float .f64 e]
  f3 : d 3 = true → v3 = .complex .f64 c e
  f4 : d 4 = true → v4 = .tuple #[.complex .f64 x y, .bool (qOk a b c e)]
  f5 : d 5 = true → v5 = .tuple #[.complex .f64 x y, .bool (qOk a b c e)]
  f6 : d 6 = true → v6 = .complex .f64 x y
  f7 : d 7 = true → v7 = .bool (qOk a b c e)
  f8 : d 8 = true → v8 = .complex .f64 x y
  f9 : d 9 = true → v9 = .bool (qOk a b c e)
  hx : d 4 = true → fc .f64 x = qR a b c e
  hy : d 4 = true → fc .f64 y = qI a b c e
  g5_4 : d 5 = true → d 4 = true
  g6_4 : d 6 = true → d 4 = true
  g8_4 : d 8 = true → d 4 = true
def RqiS (Wd : World) (a : Nat) (b : Nat) (c : Nat) (e : Nat) (d : Nat → Bool) (q : List Value) (W : World) : Prop := ∃ v0 v1 v2 v3 v4 v5 v6 v7 v8 v9 x y X, q = [v0, v1, v2, v3, v4, v5, v6, v7, v8, v9] ∧ Rqi Wd a b c e d W v0 v1 v2 v3 v4 v5 v6 v7 v8 v9 x y X
theorem Rqi.below {Wd : World} {a : Nat} {b : Nat} {c : Nat} {e : Nat} {d : Nat → Bool} {W W' : World} {v0 v1 v2 v3 v4 v5 v6 v7 v8 v9 : Value} {x : Nat} {y : Nat} {X : Nat} (h : Rqi Wd a b c e d W v0 v1 v2 v3 v4 v5 v6 v7 v8 v9 x y X) (hb : Below W.heap.size W W') : Rqi Wd a b c e d W' v0 v1 v2 v3 v4 v5 v6 v7 v8 v9 x y X :=
  { h with
    bel := belowCall h.bel hb h.bel.size
  }
end Go.Proofs.Ytomgdlnpajfjhaa

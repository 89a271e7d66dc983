/- Match14 of the model; no condition. -/
import Derived.Test.YtomgdlnpajfjhaaMai
namespace Go.Proofs.Ytomgdlnpajfjhaa
open Go.RowKit Go.ChangeShapes Go.WideShapes Go.ChangeAt
set_option linter.unusedVariables false
set_option linter.unusedSimpArgs false
set_option maxRecDepth 8000
structure Rmm (Wd : World) (sl : Value) (sk : Value) (jv : Value) (pl : Addr) (pk : Addr) (p : Nat) (r : Nat) (c : Nat) (e : Nat) (d : Nat → Bool) (W : World) (v0 v1 v2 v3 v4 v5 v6 v7 v8 v9 v10 v11 v12 v13 : Value) (A : Nat) (B : Nat) (C : Nat) (D : Nat) (M : Nat) (N : Nat) (X : Nat) : Prop where
  bel : Below Wd.heap.size Wd W
  f0 : d 0 = true → v0 = sl
  f1 : d 1 = true → v1 = jv
  f2 : d 2 = true → v2 = .pointer (some pl)
  f3 : d 3 = true → v3 = .agg #[.float .f32 p, .float .f32 r]
  f4 : d 4 = true → v4 = .agg #[.float .f64 A, .float .f64 B]
  f5 : d 5 = true → v5 = sk
  f6 : d 6 = true → v6 = jv
  f7 : d 7 = true → v7 = .pointer (some pk)
  f8 : d 8 = true → v8 = .agg #[.float .f32 c, .float .f32 e]
  f9 : d 9 = true → v9 = .agg #[.float .f32 c, .float .f32 (Op.negFloat .f32 e)]
  f10 : d 10 = true → v10 = .agg #[.float .f64 C, .float .f64 D]
  f11 : d 11 = true → v11 = .agg #[.float .f64 M, .float .f64 N]
  f12 : d 12 = true → v12 = .pointer (some ⟨X, 0, none⟩)
  ha : d 4 = true → fc .f64 A = (fc .f32 p).map wid ∧ fc .f64 B = (fc .f32 r).map wid
  hc : d 10 = true → fc .f64 C = (fc .f32 c).map wid ∧ fc .f64 D = (fc .f32 (Op.negFloat .f32 e)).map wid
  hm : d 11 = true → fc .f64 M = pXR p r c e ∧ fc .f64 N = pXI p r c e
  k12 : d 12 = true → d 13 = false → Blk W X #[.float .f64 0, .float .f64 0] 38
  x12 : d 12 = true → Wd.heap.size ≤ X
  k13 : d 13 = true → Blk W X #[.float .f64 M, .float .f64 N] 38
  g13_11 : d 13 = true → d 11 = true
  g13_12 : d 13 = true → d 12 = true
def RmmS (Wd : World) (sl : Value) (sk : Value) (jv : Value) (pl : Addr) (pk : Addr) (p : Nat) (r : Nat) (c : Nat) (e : Nat) (d : Nat → Bool) (q : List Value) (W : World) : Prop := ∃ v0 v1 v2 v3 v4 v5 v6 v7 v8 v9 v10 v11 v12 v13 A B C D M N X, q = [v0, v1, v2, v3, v4, v5, v6, v7, v8, v9, v10, v11, v12, v13] ∧ Rmm Wd sl sk jv pl pk p r c e d W v0 v1 v2 v3 v4 v5 v6 v7 v8 v9 v10 v11 v12 v13 A B C D M N X
theorem Rmm.below {Wd : World} {sl : Value} {sk : Value} {jv : Value} {pl : Addr} {pk : Addr} {p : Nat} {r : Nat} {c : Nat} {e : Nat} {d : Nat → Bool} {W W' : World} {v0 v1 v2 v3 v4 v5 v6 v7 v8 v9 v10 v11 v12 v13 : Value} {A : Nat} {B : Nat} {C : Nat} {D : Nat} {M : Nat} {N : Nat} {X : Nat} (h : Rmm Wd sl sk jv pl pk p r c e d W v0 v1 v2 v3 v4 v5 v6 v7 v8 v9 v10 v11 v12 v13 A B C D M N X) (hb : Below W.heap.size W W') : Rmm Wd sl sk jv pl pk p r c e d W' v0 v1 v2 v3 v4 v5 v6 v7 v8 v9 v10 v11 v12 v13 A B C D M N X :=
  { h with
    bel := belowCall h.bel hb h.bel.size
    k12 := fun e0 e1 => (h.k12 e0 e1).below hb (h.k12 e0 e1).lt
    k13 := fun e0 => (h.k13 e0).below hb (h.k13 e0).lt
  }
end Go.Proofs.Ytomgdlnpajfjhaa

/- Rows that grow by one; no condition. -/
import Derived.Test.YtmfmlbiplagmiaaDoorTks
import Derived.Test.YtmfmlbiplagmiaaDoorApp
import Derived.Test.YtmfmlbiplagmiaaDoorLwb
import Derived.Maps.AppendAt
namespace Go.Proofs.YtmfmlbiplagmiaaDoor
open Go.RowKit Go.ChangeShapes Go.WideShapes Go.ChangeAt
set_option linter.unusedVariables false
set_option linter.unusedSimpArgs false
set_option maxRecDepth 8000
/-- append of one value to a row of one's own: what is written, and where the answer lies -/
theorem appV {T E : TypeId} {z0 : Value} {by' : Nat} (hT : Tryd.prog.underlying T = some (.slice E)) (hI : (Tryd.prog.info? E).map (fun i => (i.zero, i.size, i.bytes)) = some (some z0, 1, by')) (hz1' : z0.cells.size = 1) (hby : by' ≤ 24)
    {ops : Array Oper} {rest : List Oper} {o : Oper} {a : Act} {w : World} {Q : Exit → Act → World → Prop} (hgd : o.guard = none) (s x : Operand)
    (ho : o.op = .call { callee := .builtin .append, args := #[s, x], argTypes := #[T, T] }) (base : Nat) (v : Value) (xs : List Value) (hs : a.eval s = v) (hown : w.ownsRow base E 1 v xs.length xs)
    (g : Nat) (z : Value) (hz1c : z.oneCell' = true) (hx : a.eval x = .slice (some ⟨g, 0, none⟩) 1 1) (hc : w.cell? ⟨g, 0, none⟩ = some z) (hl : xs.length ≤ 1000000) (hbase : base ≤ w.heap.size)
    (h : ∀ v' w', w'.ownsRow base E 1 v' (xs ++ [z]).length (xs ++ [z]) → w.grownBy w' v.ownBlock → (v'.ownBlock = v.ownBlock ∨ v'.ownBlock = some w.heap.size) → wpList Tryd.prog ops Q rest (a.put o.dst v') w') : wpList Tryd.prog ops Q (o :: rest) a w := by
  obtain ⟨i0, hi, hz0, hz1, hz2⟩ := info_parts hI
  refine wpList_append_own_at (w := w) hgd s x T ho base E i0 z0 1 by' hT hi hz0 hz1 hz2 hz1' (by decide) v xs.length xs hs hown ⟨g, 0, none⟩ 1 1 [z] hx rfl ?_ ?_ ?_ ?_ hbase ?_
  · intro j u hj
    match j, hj with
    | 0, hj => simp at hj; subst hj; simpa [Addr.add] using hc
  · intro u hu; simp at hu; subst hu; exact hz1c
  · unfold maxLen; omega
  · have : (xs.length + 1) * by' ≤ (xs.length + 1) * 24 := Nat.mul_le_mul_left _ hby
    omega
  · intro v' w' h1 h2 h3 h4
    exact h v' w' (by simpa using h1) h2 h4
theorem appN {ops : Array Oper} {rest : List Oper} {o : Oper} {a : Act} {w : World} {Q : Exit → Act → World → Prop} (hgd : o.guard = none) (s x : Operand)
    (ho : o.op = .call { callee := .builtin .append, args := #[s, x], argTypes := #[25, 25] }) (base : Nat) (v : Value) (zs : List Int) (hs : a.eval s = v) (hown : Ow .i64 3 base w v zs)
    (g : Nat) (z : Int) (hx : a.eval x = .slice (some ⟨g, 0, none⟩) 1 1) (hc : w.cell? ⟨g, 0, none⟩ = some (.int .i64 z)) (hl : zs.length ≤ 1000000) (hbase : base ≤ w.heap.size)
    (h : ∀ v' w', Ow .i64 3 base w' v' (zs ++ [z]) → w.grownBy w' v.ownBlock → (v'.ownBlock = v.ownBlock ∨ v'.ownBlock = some w.heap.size) → wpList Tryd.prog ops Q rest (a.put o.dst v') w') : wpList Tryd.prog ops Q (o :: rest) a w := by
  refine appV Tryd.underlying25 toIInfo rfl (by decide) hgd s x ho base v (zs.map (Value.int .i64)) hs (by rw [List.length_map]; exact hown) g (.int .i64 z) rfl hx hc (by simpa using hl) hbase fun v' w' h1 h2 h3 => h v' w' ?_ h2 h3
  rw [Ow, List.map_append]; simpa using h1

/-- a talk appended to a row of one's own: what is written, and where the answer lies -/
theorem appT {ops : Array Oper} {rest : List Oper} {o : Oper} {a : Act} {w : World} {Q : Exit → Act → World → Prop} (hgd : o.guard = none) (s x : Operand)
    (ho : o.op = .call { callee := .builtin .append, args := #[s, x], argTypes := #[24, 24] }) (base : Nat) (v : Value) (ts : List Tk) (hs : a.eval s = v) (hown : Og 3 tkC 38 base w v ts)
    (g : Nat) (t : Tk) (hx : a.eval x = .slice (some ⟨g, 0, none⟩) 1 1) (hc : Blk w g #[.int .i64 t.1, .int .i64 t.2.1, .int .i64 t.2.2] 38) (hl : ts.length ≤ 1000) (hbase : base ≤ w.heap.size)
    (h : ∀ v' w', Og 3 tkC 38 base w' v' (ts ++ [t]) → w.grownBy w' v.ownBlock → (v'.ownBlock = v.ownBlock ∨ v'.ownBlock = some w.heap.size) → wpList Tryd.prog ops Q rest (a.put o.dst v') w') : wpList Tryd.prog ops Q (o :: rest) a w := by
  obtain ⟨i0, hi, hz0, hz1, hz2⟩ := info_parts infoTk
  refine wpList_append_own_at (w := w) hgd s x 24 ho base 38 i0 (.agg #[.int .i64 0, .int .i64 0, .int .i64 0]) 3 24 Tryd.underlying24 hi hz0 hz1 hz2 rfl (by decide) v ts.length (ts.flatMap tkC) hs hown ⟨g, 0, none⟩ 1 1 [.int .i64 t.1, .int .i64 t.2.1, .int .i64 t.2.2] hx rfl ?_ ?_ ?_ ?_ hbase ?_
  · intro j u hj
    have c0 := hc.cell 0
    have c1 := hc.cell 1
    have c2 := hc.cell 2
    simp at c0 c1 c2
    match j, hj with
    | 0, hj => simp at hj; subst hj; simpa [Addr.add] using c0
    | 1, hj => simp at hj; subst hj; simpa [Addr.add] using c1
    | 2, hj => simp at hj; subst hj; simpa [Addr.add] using c2
  · intro u hu
    simp at hu
    rcases hu with rfl | rfl | rfl <;> rfl
  · unfold maxLen; omega
  · omega
  · intro v' w' h1 h2 h3 h4
    refine h v' w' ?_ h2 h4
    rw [Og, List.length_append, List.flatMap_append]
    simpa using h1
theorem own_tag {w : World} {b1 b2 e1 e2 s1 s2 n1 n2 : Nat} {v1 v2 : Value} {x1 x2 : List Value} (h1 : w.ownsRow b1 e1 s1 v1 n1 x1) (h2 : w.ownsRow b2 e2 s2 v2 n2 x2) (he : e1 ≠ e2) : v1.ownBlock = none ∨ v1.ownBlock ≠ v2.ownBlock := by
  rcases h1.2 with ⟨rfl, -⟩ | ⟨k, cap, cur, rfl, -, hk, -⟩
  · exact .inl rfl
  · refine .inr fun e => ?_
    rcases h2.2 with ⟨rfl, -⟩ | ⟨k', cap', cur', rfl, -, hk', -⟩
    · simp [Value.ownBlock] at e
    · have e' : k = k' := by simpa [Value.ownBlock] using e
      subst e'
      rw [hk] at hk'
      have := Option.some.inj hk'
      injection this with _ h2
      exact he h2
theorem row_blk {B : Nat} {W : World} {e t : TypeId} {s n P : Nat} {v : Value} {xs : List Value} {cs : Array Value} (h : W.ownsRow B e s v n xs) (h' : Blk W P cs t) (hne : e ≠ t) : v.ownBlock ≠ some P := by
  rcases h.2 with ⟨rfl, -⟩ | ⟨k, cap, cur, rfl, -, hk, -⟩
  · simp [Value.ownBlock]
  · intro e
    have e' : k = P := by simpa [Value.ownBlock] using e
    subst e'
    unfold Blk at h'
    rw [hk] at h'
    have := Option.some.inj h'
    injection this with _ h2
    exact hne h2
theorem apart_tag {w : World} {b1 b2 e1 e2 s1 s2 n1 n2 : Nat} {v1 v2 : Value} {x1 x2 : List Value} (h1 : w.ownsRow b1 e1 s1 v1 n1 x1) (h2 : w.ownsRow b2 e2 s2 v2 n2 x2) (he : e1 ≠ e2) : Apart v1 v2 := fun k e e' => by
  rcases own_tag h1 h2 he with h | h
  · rw [h] at e; cases e
  · exact h (e.trans e'.symm)
/-- a box stays as it is where a row grows -/
theorem Blk.grown {w w' : World} {g : Nat} {cs : Array Value} {t : TypeId} {row : Option Nat} (h : Blk w g cs t) (hg : w.grownBy w' row) (hne : row ≠ some g) : Blk w' g cs t := by
  unfold Blk at h ⊢
  rw [hg.block g (Blk.lt h) (fun e => hne e.symm)]; exact h

end Go.Proofs.YtmfmlbiplagmiaaDoor

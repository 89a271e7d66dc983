/- Rows that grow by turns; no condition. -/
import Derived.Test.YtikgempdohpdjaaDrc
import Derived.Maps.AppendAt
namespace Go.Proofs.Ytikgempdohpdjaa
open Go.RowKit Go.ChangeShapes Go.WideShapes Go.ChangeAt
set_option linter.unusedVariables false
set_option linter.unusedSimpArgs false
set_option maxRecDepth 8000

/-- append of one value to a row of one's own: what is written, and where the answer lies -/
theorem appV {T E : TypeId} {z0 : Value} {by' : Nat} (hT : Try.prog.underlying T = some (.slice E)) (hI : (Try.prog.info? E).map (fun i => (i.zero, i.size, i.bytes)) = some (some z0, 1, by')) (hz1' : z0.cells.size = 1) (hby : by' ≤ 24)
    {ops : Array Oper} {rest : List Oper} {o : Oper} {a : Act} {w : World} {Q : Exit → Act → World → Prop} (hgd : o.guard = none) (s x : Operand)
    (ho : o.op = .call { callee := .builtin .append, args := #[s, x], argTypes := #[T, T] }) (base : Nat) (v : Value) (xs : List Value) (hs : a.eval s = v) (hown : w.ownsRow base E 1 v xs.length xs)
    (g : Nat) (z : Value) (hz1c : z.oneCell' = true) (hx : a.eval x = .slice (some ⟨g, 0, none⟩) 1 1) (hc : w.cell? ⟨g, 0, none⟩ = some z) (hl : xs.length ≤ 1000000) (hbase : base ≤ w.heap.size)
    (h : ∀ v' w', w'.ownsRow base E 1 v' (xs ++ [z]).length (xs ++ [z]) → w.grownBy w' v.ownBlock → (v'.ownBlock = v.ownBlock ∨ v'.ownBlock = some w.heap.size) → wpList Try.prog ops Q rest (a.put o.dst v') w') : wpList Try.prog ops Q (o :: rest) a w := by
  obtain ⟨i0, hi, hz0, hz1, hz2⟩ := info_parts hI
  refine wpList_append_own_at (w := w) hgd s x T ho base E i0 z0 1 by' hT hi hz0 hz1 hz2 hz1' (by decide) v xs.length xs hs hown ⟨g, 0, none⟩ 1 1 [z] hx rfl ?_ ?_ ?_ ?_ hbase ?_
  · intro j u hj
    match j, hj with
    | 0, hj => simp at hj; subst hj; simpa [Addr.add] using hc
  · intro u hu; simp at hu; subst hu; exact hz1c
  · unfold maxLen; omega
  · have : (xs.length + 1) * by' ≤ (xs.length + 1) * 24 := Nat.mul_le_mul_left _ hby
    omega
  · intro v' w' h1 h2 h3 h4
    exact h v' w' (by simpa using h1) h2 h4
theorem appN {ops : Array Oper} {rest : List Oper} {o : Oper} {a : Act} {w : World} {Q : Exit → Act → World → Prop} (hgd : o.guard = none) (s x : Operand)
    (ho : o.op = .call { callee := .builtin .append, args := #[s, x], argTypes := #[27, 27] }) (base : Nat) (v : Value) (zs : List Int) (hs : a.eval s = v) (hown : Ow .i64 3 base w v zs)
    (g : Nat) (z : Int) (hx : a.eval x = .slice (some ⟨g, 0, none⟩) 1 1) (hc : w.cell? ⟨g, 0, none⟩ = some (.int .i64 z)) (hl : zs.length ≤ 1000000) (hbase : base ≤ w.heap.size)
    (h : ∀ v' w', Ow .i64 3 base w' v' (zs ++ [z]) → w.grownBy w' v.ownBlock → (v'.ownBlock = v.ownBlock ∨ v'.ownBlock = some w.heap.size) → wpList Try.prog ops Q rest (a.put o.dst v') w') : wpList Try.prog ops Q (o :: rest) a w := by
  refine appV Try.underlying27 toIInfo rfl (by decide) hgd s x ho base v (zs.map (Value.int .i64)) hs (by rw [List.length_map]; exact hown) g (.int .i64 z) rfl hx hc (by simpa using hl) hbase fun v' w' h1 h2 h3 => h v' w' ?_ h2 h3
  rw [Ow, List.map_append]; simpa using h1
/-- two rows that are drawn: each lies apart from the other -/
structure P2 (w1 W : World) (g : Nat) (cv : Value) (code : List Int) (a b : Value) (ys zs : List Int) : Prop where
  oa : Ow .i64 3 w1.heap.size W a ys
  ob : Ow .i64 3 w1.heap.size W b zs
  ne : ∀ k, a.ownBlock = some k → b.ownBlock ≠ some k
  dc : Dc w1 W g cv code
theorem P2.swap {w1 W : World} {g : Nat} {cv : Value} {code : List Int} {a b : Value} {ys zs : List Int} (h : P2 w1 W g cv code a b ys zs) : P2 w1 W g cv code b a zs ys := ⟨h.ob, h.oa, fun k e e' => h.ne k e' e, h.dc⟩
theorem P2.below {w1 W W' : World} {g : Nat} {cv : Value} {code : List Int} {a b : Value} {ys zs : List Int} (h : P2 w1 W g cv code a b ys zs) (hb : Below W.heap.size W W') : P2 w1 W' g cv code a b ys zs := ⟨h.oa.below hb, h.ob.below hb, h.ne, h.dc.below hb⟩
theorem P2.draw {w1 W W' : World} {g : Nat} {cv : Value} {code : List Int} {a b : Value} {ys zs : List Int} (h : P2 w1 W g cv code a b ys zs) (hd : Dr W' g cv code) (hg : W.grownBy W' (some g)) : P2 w1 W' g cv code a b ys zs :=
  ⟨h.oa.drawn hg h.dc.lt, h.ob.drawn hg h.dc.lt, h.ne, h.dc.draw hd hg⟩
theorem P2.lens {w1 W : World} {g : Nat} {cv : Value} {code : List Int} {a b : Value} {ys zs : List Int} (h : P2 w1 W g cv code a b ys zs) : w1.heap.size ≤ W.heap.size := h.dc.gr.size
/-- the first of them grew -/
theorem P2.grow {w1 W W' : World} {g : Nat} {cv : Value} {code : List Int} {a b a' : Value} {ys zs ys' : List Int} (h : P2 w1 W g cv code a b ys zs) (ho : Ow .i64 3 w1.heap.size W' a' ys') (hg : W.grownBy W' a.ownBlock) (hb : a'.ownBlock = a.ownBlock ∨ a'.ownBlock = some W.heap.size) : P2 w1 W' g cv code a' b ys' zs := by
  refine ⟨ho, World.ownsRow.kept h.ob hg ?_, fun k e e' => ?_, h.dc.app (fun k e => (World.ownsRow.lt h.oa k e).1) hg⟩
  · cases hv : b.ownBlock with
    | none => exact .inl rfl
    | some j => exact .inr fun e => h.ne j e.symm hv
  · rcases hb with hb | hb
    · exact h.ne k (hb.symm.trans e) e'
    · rw [hb] at e; cases e
      have := (World.ownsRow.lt h.ob _ e').2
      omega
theorem P2.start {w1 W1 : World} {g : Nat} {cv : Value} {code : List Int} (h : Dr w1 g cv code) (hW : (w1.alloc (.cells #[] 3)).alloc (.cells #[] 3) = W1) :
    P2 w1 W1 g cv code (.slice (some ⟨w1.heap.size, 0, none⟩) 0 0) (.slice (some ⟨w1.heap.size + 1, 0, none⟩) 0 0) [] [] := by
  subst hW
  refine ⟨(Ow.empty .i64 3 _ w1 (Nat.le_refl _)).alloc _, ?_, fun k e e' => ?_, (Dc.start h).below (((Below.refl _ _).alloc (Nat.le_refl _) _).alloc (by simp) _)⟩
  · have := Ow.empty .i64 3 w1.heap.size (w1.alloc (.cells #[] 3)) (by simp)
    simpa using this
  · simp [Value.ownBlock] at e e'; omega
theorem Dc.ahead {w w1 W : World} {g : Nat} {cv : Value} {zs : List Int} (h : Dc w1 W g cv zs) (hb : Below w.heap.size w w1) (hg : w.heap.size ≤ g) : Below w.heap.size w W :=
  hb.trans (grown_below h.gr hb.size (fun k e => by cases e; exact hg))
theorem Dc.then {w w1 W : World} {g : Nat} {cv : Value} {zs : List Int} (h : Dc w w1 g cv zs) (h' : Dc w1 W g cv zs) : Dc w W g cv zs := h.draw h'.dr h'.gr
set_option maxHeartbeats 800000 in
theorem size_c (v : Value) (zs : List Int) (n : Int) (w : World) (h : Rd .u8 w v zs) (hlen : zs.length ≤ 2097152) (hn : 2 ≤ n) (hn2 : n ≤ 1000) :
   Calls Try.prog 55 #[v, .int .i64 n] w fun e w' => ∃ x : Int, e = .returned (.int .i64 x) ∧ 2 ≤ x ∧ x ≤ n ∧ w' = w := by
  obtain ⟨a, cap, rfl, -, h2, -⟩ := h
  unfold maxLen at h2
  by_cases hc : n < 2 + (zs.length : Int) / 20
  · go_enter Try.func55, Try.ntmps55
    go_wp2
    go_ret
    exact ⟨_, rfl, by omega, by omega, rfl⟩
  · go_enter Try.func55, Try.ntmps55
    go_wp2
    go_ret
    exact ⟨_, rfl, by omega, by omega, rfl⟩

end Go.Proofs.Ytikgempdohpdjaa

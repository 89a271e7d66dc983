/- Slices of moves: two cells each; moves put behind; no condition. -/
import Derived.Test.YtikhfeafbckjlaaDoorFCp
import Derived.Test.YtikhfeafbckjlaaDoorFEq
import Derived.Laws.AppendOwnNone
namespace Go.Proofs.YtikhfeafbckjlaaDoor
open Go.RowKit Go.ChangeShapes Go.WideShapes Go.ChangeAt
set_option linter.unusedVariables false
set_option linter.unusedSimpArgs false
set_option maxRecDepth 8000
/-- the cells of elements that have two -/
def pr {α : Type} (f g : α → Value) : List α → List Value
  | [] => []
  | x :: r => f x :: g x :: pr f g r
theorem pr_len {α : Type} (f g : α → Value) : ∀ ls : List α, (pr f g ls).length = ls.length * 2
  | [] => rfl
  | x :: r => by simp [pr, pr_len f g r]; omega
theorem pr_append {α : Type} (f g : α → Value) : ∀ a b : List α, pr f g (a ++ b) = pr f g a ++ pr f g b
  | [], b => rfl
  | x :: r, b => by simp [pr, pr_append f g r b]
theorem pr_at {α : Type} (f g : α → Value) : ∀ (ls : List α) (i : Nat) (h : i < ls.length), (pr f g ls)[i * 2]? = some (f ls[i]) ∧ (pr f g ls)[i * 2 + 1]? = some (g ls[i])
  | x :: r, 0, _ => by simp [pr]
  | x :: r, i + 1, h => by
    have := pr_at f g r i (by simpa using h)
    rw [show (i + 1) * 2 = i * 2 + 2 by omega]
    simpa [pr] using this
theorem pr_set {α : Type} (f g : α → Value) : ∀ (ls : List α) (i : Nat) (x : α), i < ls.length → ((pr f g ls).set (i * 2) (f x)).set (i * 2 + 1) (g x) = pr f g (ls.set i x)
  | y :: r, 0, x, _ => by simp [pr]
  | y :: r, i + 1, x, h => by
    have := pr_set f g r i x (by simpa using h)
    rw [show (i + 1) * 2 = i * 2 + 2 by omega]
    simpa [pr] using this
theorem pr_replicate {α : Type} (f g : α → Value) (x : α) : ∀ n : Nat, (madeCells #[f x, g x] (n * 2)).toList = pr f g (List.replicate n x) := by
  intro n
  apply List.ext_getElem?
  intro i
  have hd : i = i / 2 * 2 ∨ i = i / 2 * 2 + 1 := by omega
  by_cases hi : i < n * 2
  · have hq : i / 2 < (List.replicate n x).length := by simp; omega
    have h1 := pr_at f g (List.replicate n x) (i / 2) hq
    rcases hd with hd | hd
    · have hm : i % 2 = 0 := by omega
      rw [← hd] at h1
      rw [h1.1]
      simp [madeCells, List.getElem?_range hi, hm]
    · have hm : i % 2 = 1 := by omega
      rw [← hd] at h1
      rw [h1.2]
      simp [madeCells, List.getElem?_range hi, hm]
  · rw [List.getElem?_eq_none (by simp [madeCells]; omega), List.getElem?_eq_none (by simp [pr_len]; omega)]
/-- the slice v reads as the elements ls, of two cells each -/
def Rp {α : Type} (f g : α → Value) (w : World) (v : Value) (ls : List α) : Prop :=
  ∃ a cap, v = .slice a ls.length cap ∧ ls.length ≤ cap ∧ cap ≤ maxLen ∧ (ls = [] ∨ ∃ b off, a = some ⟨b, off, none⟩ ∧ ∀ i (h : i < ls.length), w.cell? ⟨b, off + i * 2, none⟩ = some (f ls[i]) ∧ w.cell? ⟨b, off + i * 2 + 1, none⟩ = some (g ls[i]))
/-- the slice v, among the blocks from base on, owns the elements ls -/
def Op {α : Type} (f g : α → Value) (e : TypeId) (base : Nat) (w : World) (v : Value) (ls : List α) : Prop := w.ownsRow base e 2 v ls.length (pr f g ls)
section
variable {α : Type} {f g : α → Value}
theorem Rp.grown {w w' : World} {v : Value} {ls : List α} {row : Option Nat} (h : Rp f g w v ls) (hg : w.grownBy w' row) (hne : ls = [] ∨ v.ownBlock = none ∨ v.ownBlock ≠ row) : Rp f g w' v ls := by
  obtain ⟨a, cap, rfl, h1, h2, h3⟩ := h
  refine ⟨a, cap, rfl, h1, h2, ?_⟩
  rcases h3 with h3 | ⟨b, off, rfl, h4⟩
  · exact .inl h3
  · rcases hne with hne | hne
    · exact .inl hne
    refine .inr ⟨b, off, rfl, fun i hi => ?_⟩
    have hc := h4 i hi
    have hlt : b < w.heap.size := block_lt_of_cell hc.1
    have hbk := hg.block b hlt (by simpa [Value.ownBlock] using hne)
    exact ⟨(World.cell?_of_block (w := w) hbk).trans hc.1, (World.cell?_of_block (w := w) hbk).trans hc.2⟩
theorem Rp.below {w w' : World} {v : Value} {ls : List α} (h : Rp f g w v ls) (hb : Below w.heap.size w w') : Rp f g w' v ls :=
  h.grown (row := none) ⟨hb.os, hb.tape, hb.output, hb.size, fun j hj _ => hb.block j hj⟩ (by cases v.ownBlock <;> simp)
theorem Op.below {e : TypeId} {base : Nat} {w w' : World} {v : Value} {ls : List α} (h : Op f g e base w v ls) (hb : Below w.heap.size w w') : Op f g e base w' v ls :=
  World.ownsRow.kept (row := none) h ⟨hb.os, hb.tape, hb.output, hb.size, fun j hj _ => hb.block j hj⟩ (by cases v.ownBlock <;> simp)
theorem Op.rd {e : TypeId} {base : Nat} {w : World} {v : Value} {ls : List α} (h : Op f g e base w v ls) : Rp f g w v ls := by
  rcases h.2 with ⟨rfl, hn⟩ | ⟨b, cap, cur, rfl, hb, hg, hnc, hcm, hcs, ht⟩
  · exact ⟨none, 0, by rw [hn], by omega, by simp, .inl (List.eq_nil_of_length_eq_zero hn)⟩
  · refine ⟨_, cap, rfl, hnc, hcm, .inr ⟨b, 0, rfl, fun i hi => ?_⟩⟩
    have h0 := World.ownsRow.cellAt h (i * 2) (by omega)
    have h1 := World.ownsRow.cellAt h (i * 2 + 1) (by omega)
    have hp := pr_at f g ls i hi
    rw [Nat.zero_add, h0, h1]; exact hp
theorem Op.mono {e : TypeId} {base base' : Nat} {w : World} {v : Value} {ls : List α} (h : Op f g e base w v ls) (hb : base' ≤ base) : Op f g e base' w v ls := by
  refine ⟨h.1, ?_⟩
  rcases h.2 with h2 | ⟨b, cap, cur, hv, hg, r⟩
  · exact .inl h2
  · exact .inr ⟨b, cap, cur, hv, by omega, r⟩
end
abbrev Mvs := List (Int × Int)
abbrev mf : Int × Int → Value := fun x => .int .i64 x.1
abbrev mg : Int × Int → Value := fun x => .int .i64 x.2
theorem infoMv : (Tryd.prog.info? 74).map (fun i => (i.zero, i.size, i.bytes)) = some (some (.agg #[.int .i64 0, .int .i64 0]), 2, 16) := by kernel_rfl
theorem pr_news {α : Type} {f g : α → Value} {w : World} {b off : Nat} {ls : List α} (h4 : ∀ i (h : i < ls.length), w.cell? ⟨b, off + i * 2, none⟩ = some (f ls[i]) ∧ w.cell? ⟨b, off + i * 2 + 1, none⟩ = some (g ls[i])) :
    ∀ j u, (pr f g ls)[j]? = some u → w.cell? ((⟨b, off, none⟩ : Addr).add j) = some u := by
  intro j u hu
  have hj : j < ls.length * 2 := by have := (List.getElem?_eq_some_iff.1 hu).1; rw [pr_len] at this; exact this
  have hq : j / 2 < ls.length := by omega
  have hp := pr_at f g ls (j / 2) hq
  have hc := h4 (j / 2) hq
  rw [Addr.add_lit]
  rcases (show j = j / 2 * 2 ∨ j = j / 2 * 2 + 1 by omega) with e | e
  · rw [← e] at hp hc; rw [hc.1, ← hp.1]; exact hu
  · rw [← e] at hp; rw [Nat.add_assoc, ← e] at hc; rw [hc.2, ← hp.2]; exact hu
theorem pr_one {ls : List (Int × Int)} : ∀ u ∈ pr mf mg ls, u.oneCell' = true := by
  induction ls with
  | nil => intro u hu; simp [pr] at hu
  | cons x r ih =>
    intro u hu
    simp only [pr, List.mem_cons] at hu
    rcases hu with rfl | rfl | hu
    · rfl
    · rfl
    · exact ih u hu
/-- moves behind a row of the call's own -/
theorem appMv {ops : Array Oper} {rest : List Oper} {o : Oper} {a : Act} {w : World} {Q : Exit → Act → World → Prop} (hgd : o.guard = none) (s x : Operand)
    (ho : o.op = .call { callee := .builtin .append, args := #[s, x], argTypes := #[29, 29] }) (base : Nat) (v : Value) (l0 : Mvs) (hs : a.eval s = v) (hown : Op mf mg 74 base w v l0)
    (v2 : Value) (ls : Mvs) (hx : a.eval x = v2) (hr : Rp mf mg w v2 ls) (hl : l0.length + ls.length ≤ 1099511627776) (hbase : base ≤ w.heap.size)
    (h : ∀ v' w', Op mf mg 74 base w' v' (l0 ++ ls) → w.grownBy w' v.ownBlock → (v'.ownBlock = v.ownBlock ∨ v'.ownBlock = some w.heap.size) → wpList Tryd.prog ops Q rest (a.put o.dst v') w') : wpList Tryd.prog ops Q (o :: rest) a w := by
  obtain ⟨i0, hi, hz0, hz1, hz2⟩ := info_parts infoMv
  obtain ⟨av, cap, rfl, h1, h2, h3⟩ := hr
  by_cases hav : av = none
  · subst hav
    have hl0 : ls = [] := by
      rcases h3 with h3 | ⟨b, off, e, -⟩
      · exact h3
      · cases e
    subst hl0
    refine wpList_plain hgd fun K hK => ?_
    have hx' : a.eval x = .slice none 0 cap := hx
    obtain ⟨v', w', hr, q1, q2, q3⟩ : ∃ v' w', (Builtin.append_ #[29, 29] o.type #[v, .slice none 0 cap]).run Tryd.prog w = .ok v' w' ∧ Op mf mg 74 base w' v' (l0 ++ []) ∧ w.grownBy w' v.ownBlock ∧ (v'.ownBlock = v.ownBlock ∨ v'.ownBlock = some w.heap.size) := by
      refine ⟨v, w, ?_, by simpa using hown, grown_refl _ _, .inl rfl⟩
      rcases hown.2 with ⟨rfl, h0⟩ | ⟨g, cp, cur, rfl, _, _, hnc, _⟩
      · simp [Builtin.append_, run_underlying Tryd.underlying29, sizeOf, typeInfo, hi, Builtin.lenOf, Builtin.firstCells]
      · simp [Builtin.append_, run_underlying Tryd.underlying29, sizeOf, typeInfo, hi, Builtin.lenOf, Builtin.firstCells, hnc, storeCells]
    unfold Oper.wp execOp
    simp only [ho, resolve, invoke, builtin, Sem.run_bind, Sem.run_pure, Result.andThen_ok, List.map_toArray, List.map_cons, List.map_nil, hs, hx', hr]
    exact hK _ _ (h v' w' q1 q2 q3)
  · obtain ⟨ad, rfl⟩ : ∃ ad, av = some ad := by cases av with | none => exact absurd rfl hav | some ad => exact ⟨ad, rfl⟩
    refine wpList_append_own_at w hgd s x 29 ho base 74 i0 (.agg #[.int .i64 0, .int .i64 0]) 2 16 Tryd.underlying29 hi hz0 hz1 hz2 rfl (by decide) v l0.length (pr mf mg l0) hs hown ad ls.length cap (pr mf mg ls) hx (pr_len _ _ _) ?_ pr_one ?_ ?_ hbase ?_
    · rcases h3 with rfl | ⟨b, off, e, h4⟩
      · intro j u hu; simp [pr] at hu
      · cases e
        exact pr_news h4
    · unfold maxLen; omega
    · omega
    · intro v' w' g1 g2 g3 g4
      refine h v' w' ?_ g2 g4
      rw [Op, pr_append, List.length_append]; exact g1
end Go.Proofs.YtikhfeafbckjlaaDoor

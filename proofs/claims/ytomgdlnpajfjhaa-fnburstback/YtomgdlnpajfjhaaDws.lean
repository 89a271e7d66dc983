/- Whole samples, drawn; no condition. -/
import Derived.Test.YtomgdlnpajfjhaaSms
import Derived.Test.YtomgdlnpajfjhaaExa
import Derived.Test.YtomgdlnpajfjhaaDraw
namespace Go.Proofs.Ytomgdlnpajfjhaa
open Go.RowKit Go.ChangeShapes Go.WideShapes Go.ChangeAt
set_option linter.unusedVariables false
set_option linter.unusedSimpArgs false
set_option maxRecDepth 8000
theorem smC_one {ls : List (Nat × Nat)} : ∀ u ∈ ls.flatMap smC, u.oneCell' = true := by
  intro u hu
  obtain ⟨x, -, hx⟩ := List.mem_flatMap.1 hu
  simp only [smC, List.mem_cons, List.not_mem_nil, or_false] at hx
  rcases hx with rfl | rfl <;> rfl
theorem Og.draw {α : Type} {n : Nat} {c : α → List Value} {e : TypeId} {base g : Nat} {W W' : World} {v : Value} {ls : List α} (h : Og n c e base W v ls) (hg : W.grownBy W' (some g)) (hlt : g < base) : Og n c e base W' v ls :=
  World.ownsRow.kept h hg (by
    cases hv : v.ownBlock with
    | none => exact .inl rfl
    | some k => exact .inr (fun e => by have := (World.ownsRow.lt h k hv).1; have := Option.some.inj e; omega))
theorem appSm {ops : Array Oper} {rest : List Oper} {o : Oper} {a : Act} {w : World} {Q : Exit → Act → World → Prop} (hgd : o.guard = none) (s x : Operand)
    (ho : o.op = .call { callee := .builtin .append, args := #[s, x], argTypes := #[28, 28] }) (base : Nat) (v : Value) (l0 : List (Nat × Nat)) (hs : a.eval s = v) (hown : Og 2 smC 27 base w v l0)
    (g p r : Nat) (hx : a.eval x = .slice (some ⟨g, 0, none⟩) 1 1) (hk : Blk w g #[.float .f32 p, .float .f32 r] 27) (hl : l0.length ≤ 1000000) (hbase : base ≤ w.heap.size)
    (h : ∀ v' w', Og 2 smC 27 base w' v' (l0 ++ [(p, r)]) → w.grownBy w' v.ownBlock → wpList Try.prog ops Q rest (a.put o.dst v') w') : wpList Try.prog ops Q (o :: rest) a w := by
  obtain ⟨i0, hi, hz0, hz1, hz2⟩ := info_parts infoSm
  refine wpList_append_own w hgd s x 28 ho base 27 i0 (.agg #[.float .f32 0, .float .f32 0]) 2 8 Try.underlying28 hi hz0 hz1 hz2 rfl (by decide) v l0.length (l0.flatMap smC) hs hown ⟨g, 0, none⟩ 1 1 ([(p, r)].flatMap smC) hx rfl ?_ smC_one ?_ ?_ hbase ?_
  · intro j u hu
    rw [addr_add, hk.cell]
    simpa [smC] using hu
  · unfold maxLen; omega
  · omega
  · intro v' w' g1 g2 g3
    refine h v' w' ?_ g2
    rw [Og, List.flatMap_append, List.length_append]; exact g1
/-- whole samples: parts of at most 100 -/
def fl (ns : List (Int × Int)) : List (Nat × Nat) := ns.map fun p => (fi .f32 p.1, fi .f32 p.2)
def Wh (ns : List (Int × Int)) : Prop := ns.length ≤ 40 ∧ ∀ p ∈ ns, p.1.natAbs ≤ 100 ∧ p.2.natAbs ≤ 100
def WsR (w : World) (e : Ending) (w' : World) : Prop := ∃ v ns, e = .returned v ∧ Rg 2 smC w' v (fl ns) ∧ Wh ns ∧ Below w.heap.size w w'
end Go.Proofs.Ytomgdlnpajfjhaa

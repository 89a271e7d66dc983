/- Events put behind a row; no condition; no condition. -/
import Derived.Test.YtfaflnhembceoaaNtH
import Derived.Test.YtfaflnhembceoaaApp
import Derived.Laws.AppendOwnNone
namespace Go.Proofs.Ytfaflnhembceoaa
open Go.RowKit Go.ChangeShapes Go.WideShapes Go.ChangeAt
set_option linter.unusedVariables false
set_option linter.unusedSimpArgs false
set_option maxRecDepth 8000
/-- moves behind a row of the call's own -/
theorem appNt {ops : Array Oper} {rest : List Oper} {o : Oper} {a : Act} {w : World} {Q : Exit → Act → World → Prop} (hgd : o.guard = none) (s x : Operand)
    (ho : o.op = .call { callee := .builtin .append, args := #[s, x], argTypes := #[33, 33] }) (base : Nat) (v : Value) (l0 : Mvs) (hs : a.eval s = v) (hown : Op mf mg 37 base w v l0)
    (v2 : Value) (ls : Mvs) (hx : a.eval x = v2) (hr : Rp mf mg w v2 ls) (hl : l0.length + ls.length ≤ 1099511627776) (hbase : base ≤ w.heap.size)
    (h : ∀ v' w', Op mf mg 37 base w' v' (l0 ++ ls) → w.grownBy w' v.ownBlock → (v'.ownBlock = v.ownBlock ∨ v'.ownBlock = some w.heap.size) → wpList Try.prog ops Q rest (a.put o.dst v') w') : wpList Try.prog ops Q (o :: rest) a w := by
  obtain ⟨i0, hi, hz0, hz1, hz2⟩ := info_parts infoEv
  obtain ⟨av, cap, rfl, h1, h2, h3⟩ := hr
  by_cases hav : av = none
  · subst hav
    have hl0 : ls = [] := by
      rcases h3 with h3 | ⟨b, off, e, -⟩
      · exact h3
      · cases e
    subst hl0
    refine wpList_plain hgd fun K hK => ?_
    have hx' : a.eval x = .slice none 0 cap := hx
    obtain ⟨v', w', hr, q1, q2, q3⟩ : ∃ v' w', (Builtin.append_ #[33, 33] o.type #[v, .slice none 0 cap]).run Try.prog w = .ok v' w' ∧ Op mf mg 37 base w' v' (l0 ++ []) ∧ w.grownBy w' v.ownBlock ∧ (v'.ownBlock = v.ownBlock ∨ v'.ownBlock = some w.heap.size) := by
      refine ⟨v, w, ?_, by simpa using hown, grown_refl _ _, .inl rfl⟩
      rcases hown.2 with ⟨rfl, h0⟩ | ⟨g, cp, cur, rfl, _, _, hnc, _⟩
      · simp [Builtin.append_, run_underlying Try.underlying33, sizeOf, typeInfo, hi, Builtin.lenOf, Builtin.firstCells]
      · simp [Builtin.append_, run_underlying Try.underlying33, sizeOf, typeInfo, hi, Builtin.lenOf, Builtin.firstCells, hnc, storeCells]
    unfold Oper.wp execOp
    simp only [ho, resolve, invoke, builtin, Sem.run_bind, Sem.run_pure, Result.andThen_ok, List.map_toArray, List.map_cons, List.map_nil, hs, hx', hr]
    exact hK _ _ (h v' w' q1 q2 q3)
  · obtain ⟨ad, rfl⟩ : ∃ ad, av = some ad := by cases av with | none => exact absurd rfl hav | some ad => exact ⟨ad, rfl⟩
    refine wpList_append_own_at w hgd s x 33 ho base 37 i0 (.agg #[.int .i64 0, .int .i64 0]) 2 16 Try.underlying33 hi hz0 hz1 hz2 rfl (by decide) v l0.length (pr mf mg l0) hs hown ad ls.length cap (pr mf mg ls) hx (pr_len _ _ _) ?_ pr_one ?_ ?_ hbase ?_
    · rcases h3 with rfl | ⟨b, off, e, h4⟩
      · intro j u hu; simp [pr] at hu
      · cases e
        exact pr_news h4
    · unfold maxLen; omega
    · omega
    · intro v' w' g1 g2 g3 g4
      refine h v' w' ?_ g2 g4
      rw [Op, pr_append, List.length_append]; exact g1
end Go.Proofs.Ytfaflnhembceoaa

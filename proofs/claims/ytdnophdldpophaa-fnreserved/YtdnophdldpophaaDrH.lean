/- DrawRateParts; no condition. -/
import Derived.Test.YtdnophdldpophaaDrG
namespace Go.Proofs.Ytdnophdldpophaa
open Go.RowKit Go.ChangeShapes Go.WideShapes Go.ChangeAt
set_option linter.unusedVariables false
set_option linter.unusedSimpArgs false
set_option maxRecDepth 8000
theorem int_news {k : IntKind} {w : World} {b off : Nat} {zs : List Int} (h4 : ∀ i, i < zs.length → w.cell? ⟨b, off + i, none⟩ = some (.int k (zs.getD i 0))) :
    ∀ j u, (zs.map (Value.int k))[j]? = some u → w.cell? ((⟨b, off, none⟩ : Addr).add j) = some u := by
  intro j u hu
  have hj : j < zs.length := by have := (List.getElem?_eq_some_iff.1 hu).1; simpa using this
  rw [Addr.add_lit, h4 j hj]
  rw [List.getElem?_map, List.getElem?_eq_getElem hj] at hu
  simp [List.getElem?_eq_getElem hj] at hu ⊢
  exact hu
/-- numbers put behind a row of one's own -/
theorem appR {k : IntKind} {T E : TypeId} {by' : Nat} (hT : Try.prog.underlying T = some (.slice E)) (hI : (Try.prog.info? E).map (fun i => (i.zero, i.size, i.bytes)) = some (some (.int k 0), 1, by')) (hby : by' ≤ 8)
    {ops : Array Oper} {rest : List Oper} {o : Oper} {a : Act} {w : World} {Q : Exit → Act → World → Prop} (hgd : o.guard = none) (s x : Operand)
    (ho : o.op = .call { callee := .builtin .append, args := #[s, x], argTypes := #[T, T] }) (base : Nat) (v : Value) (l0 : List Int) (hs : a.eval s = v) (hown : Ow k E base w v l0)
    (v2 : Value) (ls : List Int) (hx : a.eval x = v2) (hr : Rd k w v2 ls) (hl : l0.length + ls.length ≤ 1099511627776) (hbase : base ≤ w.heap.size)
    (h : ∀ v' w', Ow k E base w' v' (l0 ++ ls) → w.grownBy w' v.ownBlock → (v'.ownBlock = v.ownBlock ∨ v'.ownBlock = some w.heap.size) → wpList Try.prog ops Q rest (a.put o.dst v') w') : wpList Try.prog ops Q (o :: rest) a w := by
  obtain ⟨i0, hi, hz0, hz1, hz2⟩ := info_parts hI
  obtain ⟨av, cap, rfl, h1, h2, h3⟩ := hr
  by_cases hav : av = none
  · subst hav
    have hl0 : ls = [] := by
      rcases h3 with h3 | ⟨b, off, e, -⟩
      · exact h3
      · cases e
    subst hl0
    refine wpList_plain hgd fun K hK => ?_
    have hx' : a.eval x = .slice none 0 cap := hx
    obtain ⟨v', w', hr, q1, q2, q3⟩ : ∃ v' w', (Builtin.append_ #[T, T] o.type #[v, .slice none 0 cap]).run Try.prog w = .ok v' w' ∧ Ow k E base w' v' (l0 ++ []) ∧ w.grownBy w' v.ownBlock ∧ (v'.ownBlock = v.ownBlock ∨ v'.ownBlock = some w.heap.size) := by
      refine ⟨v, w, ?_, by simpa using hown, grown_refl _ _, .inl rfl⟩
      rcases hown.2 with ⟨rfl, h0⟩ | ⟨g, cp, cur, rfl, _, _, hnc, _⟩
      · simp [Builtin.append_, run_underlying hT, sizeOf, typeInfo, hi, Builtin.lenOf, Builtin.firstCells]
      · simp [Builtin.append_, run_underlying hT, sizeOf, typeInfo, hi, Builtin.lenOf, Builtin.firstCells, hnc, storeCells]
    unfold Oper.wp execOp
    simp only [ho, resolve, invoke, builtin, Sem.run_bind, Sem.run_pure, Result.andThen_ok, List.map_toArray, List.map_cons, List.map_nil, hs, hx', hr]
    exact hK _ _ (h v' w' q1 q2 q3)
  · obtain ⟨ad, rfl⟩ : ∃ ad, av = some ad := by cases av with | none => exact absurd rfl hav | some ad => exact ⟨ad, rfl⟩
    refine wpList_append_own_at w hgd s x T ho base E i0 (.int k 0) 1 by' hT hi hz0 hz1 hz2 rfl (by decide) v l0.length (l0.map (Value.int k)) hs hown ad ls.length cap (ls.map (Value.int k)) hx (by simp) ?_ ?_ ?_ ?_ hbase ?_
    · rcases h3 with rfl | ⟨b, off, e, h4⟩
      · intro j u hu; simp at hu
      · cases e
        exact int_news h4
    · intro u hu; simp at hu; obtain ⟨q, -, rfl⟩ := hu; rfl
    · unfold maxLen; omega
    · have : (l0.length + ls.length) * by' ≤ (l0.length + ls.length) * 8 := Nat.mul_le_mul_left _ hby
      omega
    · intro v' w' g1 g2 g3 g4
      refine h v' w' ?_ g2 g4
      rw [Ow, List.map_append, List.length_append]; exact g1
theorem Rd.one {k : IntKind} {t : TypeId} {W : World} {X : Nat} {x : Int} (h : Blk W X #[.int k x] t) : Rd k W (.slice (some ⟨X, 0, none⟩) 1 1) [x] :=
  ⟨_, _, rfl, Nat.le_refl _, by simp [maxLen], .inr ⟨_, 0, rfl, fun i hi => (by have h0 : i = 0 := (by simpa using hi); subst h0; exact h.cell 0)⟩⟩
def RpR (w : World) (e : Ending) (w' : World) : Prop := ∃ v ls z b t vc cs, e = .returned (.tuple #[v, .int .i64 z, .int .i64 b, .int .i64 t, vc]) ∧ Rg 5 tfC w' v ls ∧ Rd .i64 w' vc cs ∧ Below w.heap.size w w'
end Go.Proofs.Ytdnophdldpophaa

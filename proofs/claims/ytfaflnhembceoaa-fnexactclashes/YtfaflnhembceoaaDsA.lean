/- Subs put behind one another; no condition. -/
import Derived.Test.YtfaflnhembceoaaSbA
import Derived.Test.YtfaflnhembceoaaNtP
import Derived.Test.YtfaflnhembceoaaDrw
namespace Go.Proofs.Ytfaflnhembceoaa
open Go.RowKit Go.ChangeShapes Go.WideShapes Go.ChangeAt
set_option linter.unusedVariables false
set_option linter.unusedSimpArgs false
set_option maxRecDepth 8000

theorem own_tag {w : World} {b1 b2 e1 e2 s1 s2 n1 n2 : Nat} {v1 v2 : Value} {x1 x2 : List Value} (h1 : w.ownsRow b1 e1 s1 v1 n1 x1) (h2 : w.ownsRow b2 e2 s2 v2 n2 x2) (he : e1 ≠ e2) : v1.ownBlock = none ∨ v1.ownBlock ≠ v2.ownBlock := by
  rcases h1.2 with ⟨rfl, -⟩ | ⟨k, cap, cur, rfl, -, hk, -⟩
  · exact .inl rfl
  · refine .inr fun e => ?_
    rcases h2.2 with ⟨rfl, -⟩ | ⟨k', cap', cur', rfl, -, hk', -⟩
    · simp [Value.ownBlock] at e
    · have e' : k = k' := by simpa [Value.ownBlock] using e
      subst e'
      rw [hk] at hk'
      have := Option.some.inj hk'
      injection this with _ h2
      exact he h2
/-- the same, the cells of the subs named -/
structure OwT (base : Nat) (w : World) (v : Value) (lv : List V3) (cs : Sbs) : Prop where
  len : lv.length = cs.length
  own : Oq 35 base w v lv
  all : OwL base w v.ownBlock lv cs
theorem OwT.s {base : Nat} {w : World} {v : Value} {lv : List V3} {cs : Sbs} (h : OwT base w v lv cs) : OwS base w v cs := ⟨lv, h.len, h.own, h.all⟩
theorem OwT.below {base : Nat} {w w' : World} {v : Value} {lv : List V3} {cs : Sbs} (h : OwT base w v lv cs) (hb : Below w.heap.size w w') : OwT base w' v lv cs := ⟨h.len, h.own.below hb, h.all.grown (below_grown hb) (.inl rfl)⟩
theorem OwT.draw {base g : Nat} {w w' : World} {v : Value} {lv : List V3} {cs : Sbs} (h : OwT base w v lv cs) (hg : w.grownBy w' (some g)) (hlt : g < base) : OwT base w' v lv cs := by
  obtain ⟨h1, h2, h3⟩ := h
  have kp : ∀ {e s n : Nat} {u : Value} {xs : List Value}, w.ownsRow base e s u n xs → w'.ownsRow base e s u n xs := fun ho => World.ownsRow.kept ho hg (by
    cases hv : Value.ownBlock _ with
    | none => exact .inl rfl
    | some k => exact .inr (fun e => by have := (World.ownsRow.lt ho k hv).1; have := Option.some.inj e; omega))
  refine ⟨h1, kp h2, fun i hi hi' => ?_⟩
  obtain ⟨a, b, c, d, e⟩ := h3 i hi hi'
  exact ⟨a, b, kp c, d, e⟩
theorem Op.draw {base g : Nat} {w w' : World} {v : Value} {fs : Fts} (h : Op mf mg 37 base w v fs) (hg : w.grownBy w' (some g)) (hlt : g < base) : Op mf mg 37 base w' v fs := World.ownsRow.kept h hg (by
    cases hv : v.ownBlock with
    | none => exact .inl rfl
    | some k => exact .inr (fun e => by have := (World.ownsRow.lt h k hv).1; have := Option.some.inj e; omega))
/-- one sub more -/
theorem appS {ops : Array Oper} {rest : List Oper} {o : Oper} {a : Act} {w : World} {Q : Exit → Act → World → Prop} (hgd : o.guard = none) (s x : Operand)
    (ho : o.op = .call { callee := .builtin .append, args := #[s, x], argTypes := #[24, 24] }) (base : Nat) (v : Value) (cs : Sbs) (lv : List V3) (hs : a.eval s = v) (hown : OwT base w v lv cs)
    (g : Nat) (p q : Bool) (fv : Value) (fs : Fts) (B : Nat) (hx : a.eval x = .slice (some ⟨g, 0, none⟩) 1 1) (hc : Blk w g (S3 p q fv) 35) (hf : Op mf mg 37 B w fv fs) (hB : base ≤ B) (hlt' : ∀ i (h : i < lv.length) k, lv[i].2.2.ownBlock = some k → k < B) (hl : cs.length ≤ 1000) (hbase : base ≤ w.heap.size)
    (h : ∀ v' w', OwT base w' v' (lv ++ [(.bool p, .bool q, fv)]) (cs ++ [(p, q, fs)]) → w.grownBy w' v.ownBlock → wpList Try.prog ops Q rest (a.put o.dst v') w') : wpList Try.prog ops Q (o :: rest) a w := by
  obtain ⟨i0, hi, hz0, hz1, hz2⟩ := info_parts infoSub
  obtain ⟨h1, h2, h3⟩ := hown
  refine wpList_append_own w hgd s x 24 ho base 35 i0 (.agg #[.bool false, .bool false, .slice none 0 0]) 3 32 Try.underlying24 hi hz0 hz1 hz2 rfl (by decide) v lv.length (tq lv) hs h2 ⟨g, 0, none⟩ 1 1 [.bool p, .bool q, fv] hx rfl ?_ ?_ ?_ ?_ hbase ?_
  · intro j u hj
    have c0 := hc.cell 0
    have c1 := hc.cell 1
    have c2 := hc.cell 2
    simp at c0 c1 c2
    match j, hj with
    | 0, hj => simp at hj; subst hj; simpa [Addr.add] using c0
    | 1, hj => simp at hj; subst hj; simpa [Addr.add] using c1
    | 2, hj => simp at hj; subst hj; simpa [Addr.add] using c2
  · intro u hu
    rcases hf.2 with ⟨rfl, -⟩ | ⟨k, cap, cur, rfl, -, hk, -⟩ <;> simp at hu <;> rcases hu with rfl | rfl | rfl <;> rfl
  · unfold maxLen; omega
  · omega
  · intro v' w' q1 q2 q3
    have e0 : tq lv ++ [.bool p, .bool q, fv] = tq (lv ++ [(.bool p, .bool q, fv)]) := by rw [tq_app]; rfl
    have o' : Oq 35 base w' v' (lv ++ [(.bool p, .bool q, fv)]) := by
      rw [e0] at q1; unfold Oq; simpa using q1
    have kf : ∀ {b : Nat} {u : Value} {ls : Fts}, Op mf mg 37 b w u ls → Op mf mg 37 b w' u ls := fun hu => World.ownsRow.kept hu q2 (own_tag hu h2 (by decide))
    refine h v' w' ⟨by simp [h1], o', fun i hi hi' => ?_⟩ q2
    by_cases e : i < lv.length
    · have e' : i < cs.length := by omega
      obtain ⟨a1, a2, a3, a4, a5⟩ := h3 i e e'
      simp only [List.getElem_append_left e, List.getElem_append_left e']
      refine ⟨a1, a2, kf a3, own_tag (kf a3) o' (by decide), fun j hj hji => ?_⟩
      rw [List.getElem_append_left (show j < lv.length by omega)]
      exact a5 j (by omega) hji
    · have ei : i = lv.length := by simp at hi; omega
      subst ei
      have e2 : (cs ++ [(p, q, fs)])[lv.length]'hi' = (p, q, fs) := by rw [List.getElem_append_right (by omega)]; simp [h1]
      rw [e2]
      simp only [List.getElem_append_right (Nat.le_refl _), Nat.sub_self, List.getElem_singleton]
      refine ⟨trivial, trivial, ?_, own_tag (kf hf) o' (by decide), fun j hj hji => ?_⟩
      · have := kf hf
        exact ⟨this.1, by rcases this.2 with r | ⟨b, c, d, r1, r2, r3⟩; exact .inl r; exact .inr ⟨b, c, d, r1, Nat.le_trans hB r2, r3⟩⟩
      · rw [List.getElem_append_left hji]
        cases hv : fv.ownBlock with
        | none => exact .inl rfl
        | some k =>
          refine .inr fun e => ?_
          have h5 := (World.ownsRow.lt hf k hv).1
          have h6 := hlt' j hji k e.symm
          omega
theorem OwT.lt {base : Nat} {w : World} {v : Value} {cs : Sbs} {lv : List V3} (h : OwT base w v lv cs) : ∀ i (h : i < lv.length) k, lv[i].2.2.ownBlock = some k → k < w.heap.size :=
  fun i hi k e => (World.ownsRow.lt (h.all i hi (by have := h.len; omega)).2.2.1 k e).2
end Go.Proofs.Ytfaflnhembceoaa

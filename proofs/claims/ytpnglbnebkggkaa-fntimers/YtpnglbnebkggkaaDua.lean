/- Rules put behind one another, while they are drawn; no condition. -/
import Derived.Test.YtpnglbnebkggkaaDpk
import Derived.Test.YtpnglbnebkggkaaRsM
import Derived.Test.YtpnglbnebkggkaaMixE
import Derived.Test.YtpnglbnebkggkaaMixT
import Derived.Laws.AppendOwnNone
namespace Go.Proofs.Ytpnglbnebkggkaa
open Go.RowKit Go.ChangeShapes Go.WideShapes Go.ChangeAt
set_option linter.unusedVariables false
set_option linter.unusedSimpArgs false
set_option maxRecDepth 8000
theorem rr_app : ∀ (a b : Rls), rr (a ++ b) = rr a ++ rr b
  | [], b => rfl
  | o :: r, b => by simp [rr, rr_app r b]
theorem rr_one : ∀ (ls : Rls), ∀ u ∈ rr ls, u.oneCell' = true
  | [], u, h => by simp [rr] at h
  | o :: r, u, h => by
    simp only [rr, List.mem_cons] at h
    rcases h with rfl | rfl | rfl | rfl | rfl | rfl | h
    all_goals first | rfl | exact rr_one r u h
theorem rr_news {w : World} {b off : Nat} {ls : Rls} (h4 : ∀ i (h : i < ls.length), w.cell? ⟨b, off + i * 6, none⟩ = some (.string ls[i].pre) ∧ w.cell? ⟨b, off + i * 6 + 1, none⟩ = some (.int .i64 ls[i].le) ∧ w.cell? ⟨b, off + i * 6 + 2, none⟩ = some (.int .i64 ls[i].mo) ∧ w.cell? ⟨b, off + i * 6 + 3, none⟩ = some (.int .i64 ls[i].ro) ∧ w.cell? ⟨b, off + i * 6 + 4, none⟩ = some (.int .i64 ls[i].st) ∧ w.cell? ⟨b, off + i * 6 + 5, none⟩ = some (.string ls[i].ad)) :
    ∀ j u, (rr ls)[j]? = some u → w.cell? ((⟨b, off, none⟩ : Addr).add j) = some u := by
  intro j u hu
  have hj : j < (rr ls).length := (List.getElem?_eq_some_iff.1 hu).1
  rw [rr_len] at hj
  have hq : j / 6 < ls.length := by omega
  have hadd : (⟨b, off, none⟩ : Addr).add j = ⟨b, off + j, none⟩ := by unfold Addr.add; split <;> simp_all
  rw [hadd]
  have ha := rr_at ls (j / 6) hq
  have hc := h4 (j / 6) hq
  have hd : j = j / 6 * 6 ∨ j = j / 6 * 6 + 1 ∨ j = j / 6 * 6 + 2 ∨ j = j / 6 * 6 + 3 ∨ j = j / 6 * 6 + 4 ∨ j = j / 6 * 6 + 5 := by omega
  rcases hd with hd | hd | hd | hd | hd | hd
  · rw [← hd] at ha; rw [hu] at ha; rw [show off + j = off + j / 6 * 6 by omega, ha.1]; exact hc.1
  · have h := ha.2.1; rw [← hd] at h; rw [hu] at h; rw [show off + j = off + j / 6 * 6 + 1 by omega, h]; exact hc.2.1
  · have h := ha.2.2.1; rw [← hd] at h; rw [hu] at h; rw [show off + j = off + j / 6 * 6 + 2 by omega, h]; exact hc.2.2.1
  · have h := ha.2.2.2.1; rw [← hd] at h; rw [hu] at h; rw [show off + j = off + j / 6 * 6 + 3 by omega, h]; exact hc.2.2.2.1
  · have h := ha.2.2.2.2.1; rw [← hd] at h; rw [hu] at h; rw [show off + j = off + j / 6 * 6 + 4 by omega, h]; exact hc.2.2.2.2.1
  · have h := ha.2.2.2.2.2; rw [← hd] at h; rw [hu] at h; rw [show off + j = off + j / 6 * 6 + 5 by omega, h]; exact hc.2.2.2.2.2
/-- rules behind a row of one's own -/
theorem appR {ops : Array Oper} {rest : List Oper} {o : Oper} {a : Act} {w : World} {Q : Exit → Act → World → Prop} (hgd : o.guard = none) (s x : Operand)
    (ho : o.op = .call { callee := .builtin .append, args := #[s, x], argTypes := #[24, 24] }) (base : Nat) (v : Value) (l0 : Rls) (hs : a.eval s = v) (hown : Orr 31 base w v l0)
    (v2 : Value) (ls : Rls) (hx : a.eval x = v2) (hr : Rr w v2 ls) (hl : l0.length + ls.length ≤ 1048576) (hbase : base ≤ w.heap.size)
    (h : ∀ v' w', Orr 31 base w' v' (l0 ++ ls) → w.grownBy w' v.ownBlock → wpList Try.prog ops Q rest (a.put o.dst v') w') : wpList Try.prog ops Q (o :: rest) a w := by
  obtain ⟨i0, hi, hz0, hz1, hz2⟩ := info_parts infoRule
  obtain ⟨av, cap, rfl, h1, h2, h3⟩ := hr
  by_cases hav : av = none
  · subst hav
    have hl0 : ls = [] := by
      rcases h3 with h3 | ⟨b, off, e, -⟩
      · exact h3
      · cases e
    subst hl0
    refine wpList_plain hgd fun K hK => ?_
    have hx' : a.eval x = .slice none 0 cap := hx
    obtain ⟨v', w', hr, q1, q2⟩ : ∃ v' w', (Builtin.append_ #[24, 24] o.type #[v, .slice none 0 cap]).run Try.prog w = .ok v' w' ∧ Orr 31 base w' v' (l0 ++ []) ∧ w.grownBy w' v.ownBlock := by
      refine ⟨v, w, ?_, by simpa using hown, grown_refl _ _⟩
      rcases hown.2 with ⟨rfl, h0⟩ | ⟨g, cp, cur, rfl, _, _, hnc, _⟩
      · simp [Builtin.append_, run_underlying Try.underlying24, sizeOf, typeInfo, hi, Builtin.lenOf, Builtin.firstCells]
      · simp [Builtin.append_, run_underlying Try.underlying24, sizeOf, typeInfo, hi, Builtin.lenOf, Builtin.firstCells, hnc, storeCells]
    unfold Oper.wp execOp
    simp only [ho, resolve, invoke, builtin, Sem.run_bind, Sem.run_pure, Result.andThen_ok, List.map_toArray, List.map_cons, List.map_nil, hs, hx', hr]
    exact hK _ _ (h v' w' q1 q2)
  · obtain ⟨ad, rfl⟩ : ∃ ad, av = some ad := by cases av with | none => exact absurd rfl hav | some ad => exact ⟨ad, rfl⟩
    refine wpList_append_own w hgd s x 24 ho base 31 i0 (.agg (R6 r0)) 6 64 Try.underlying24 hi hz0 hz1 hz2 rfl (by decide) v l0.length (rr l0) hs hown ad ls.length cap (rr ls) hx (rr_len _) ?_ (rr_one _) ?_ ?_ hbase ?_
    · rcases h3 with rfl | ⟨b, off, e, h4⟩
      · intro j u hu; simp [rr] at hu
      · cases e
        exact rr_news h4
    · unfold maxLen; omega
    · omega
    · intro v' w' g1 g2 g3
      refine h v' w' ?_ g2
      rw [Orr, rr_app, List.length_append]; exact g1
theorem Rr.one {W : World} {X : Nat} {r : Rl} (h : Blk W X (R6 r) 31) : Rr W (.slice (some ⟨X, 0, none⟩) 1 1) [r] := by
  refine ⟨_, _, rfl, Nat.le_refl _, by simp [maxLen], .inr ⟨X, 0, rfl, fun i hi => ?_⟩⟩
  have h0 : i = 0 := by simpa using hi
  subst h0
  exact ⟨h.cell 0, h.cell 1, h.cell 2, h.cell 3, h.cell 4, h.cell 5⟩
theorem Orr.lit0 (w : World) (base : Nat) (hb : base ≤ w.heap.size) : Orr 31 base (w.alloc (.cells #[] 31)) (.slice (some ⟨w.heap.size, 0, none⟩) 0 0) [] := World.ownsRow_lit w #[] 0 hb (by simp) (by simp)
theorem Orr.alloc {base : Nat} {w : World} {v : Value} {ls : Rls} (h : Orr 31 base w v ls) (o : Obj) : Orr 31 base (w.alloc o) v ls := World.ownsRow.alloc h o
theorem Orr.mono {base base' : Nat} {w : World} {v : Value} {ls : Rls} (h : Orr 31 base w v ls) (hb : base' ≤ base) : Orr 31 base' w v ls := by
  refine ⟨h.1, ?_⟩
  rcases h.2 with h2 | ⟨g, cap, cur, hv, hg, r⟩
  · exact .inl h2
  · exact .inr ⟨g, cap, cur, hv, by omega, r⟩
theorem Orr.draw {base g : Nat} {w w' : World} {v : Value} {ls : Rls} (h : Orr 31 base w v ls) (hg : w.grownBy w' (some g)) (hlt : g < base) : Orr 31 base w' v ls := World.ownsRow.kept h hg (by
    cases hv : v.ownBlock with
    | none => exact .inl rfl
    | some k => exact .inr (fun e => by have := (World.ownsRow.lt h k hv).1; have := Option.some.inj e; omega))
theorem grown_set (w : World) (g k : Nat) (x : Value) : w.grownBy (w.setCell ⟨g, k, none⟩ x) (some g) := dgrown_set w g k x
/-- what stands while a rule is put together -/
structure Du (w : World) (v : Value) (ls : Rls) (gs : Nat) (r : Rl) (g : Nat) (cv : Value) (zs : List Int) (K0 : Nat) (W : World) : Prop where
  ks : Blk W gs (R6 r) 31
  ow : Orr 31 w.heap.size W v ls
  dc : Dc w W g cv zs
  k0 : gs < K0 ∧ K0 ≤ W.heap.size ∧ w.heap.size ≤ gs
  kv : ∀ k, v.ownBlock = some k → k < K0
  ap : v.ownBlock = none ∨ v.ownBlock ≠ some gs
theorem Du.grown {w : World} {v : Value} {ls : Rls} {gs : Nat} {r : Rl} {g : Nat} {cv : Value} {zs : List Int} {K0 : Nat} {W W' : World} {row : Option Nat} (h : Du w v ls gs r g cv zs K0 W) (hg : W.grownBy W' row) (hr : ∀ k, row = some k → K0 ≤ k) : Du w v ls gs r g cv zs K0 W' := by
  have k0 := h.k0
  refine ⟨h.ks.grown hg (fun e => by have := hr gs e.symm; omega), World.ownsRow.kept h.ow hg ?_, h.dc.app (fun k e => by have := hr k e; omega) hg, ⟨k0.1, Nat.le_trans k0.2.1 hg.size, k0.2.2⟩, h.kv, h.ap⟩
  cases hv : v.ownBlock with
  | none => exact .inl rfl
  | some k => exact .inr (fun e => by have h1 := h.kv k hv; have h2 := hr k e.symm; omega)
theorem Du.alloc {w : World} {v : Value} {ls : Rls} {gs : Nat} {r : Rl} {g : Nat} {cv : Value} {zs : List Int} {K0 : Nat} {W : World} (h : Du w v ls gs r g cv zs K0 W) (o : Obj) : Du w v ls gs r g cv zs K0 (W.alloc o) := h.grown (row := none) (World.grownBy_alloc W o none) (fun k e => by cases e)
theorem Du.re {w : World} {v : Value} {ls : Rls} {gs : Nat} {r : Rl} {g : Nat} {cv : Value} {zs : List Int} {K0 : Nat} {W : World} (h : Du w v ls gs r g cv zs K0 W) : Du w v ls gs r g cv zs W.heap.size W :=
  ⟨h.ks, h.ow, h.dc, ⟨h.ks.lt, Nat.le_refl _, h.k0.2.2⟩, fun k e => (World.ownsRow.lt h.ow k e).2, h.ap⟩
theorem Du.draw {w : World} {v : Value} {ls : Rls} {gs : Nat} {r : Rl} {g : Nat} {cv : Value} {zs : List Int} {K0 : Nat} {W W' : World} (h : Du w v ls gs r g cv zs K0 W) (hd : Dr W' g cv zs) (hg : W.grownBy W' (some g)) : Du w v ls gs r g cv zs K0 W' := by
  have k0 := h.k0
  have hlt := h.dc.lt
  exact ⟨h.ks.grown hg (fun e => by have := Option.some.inj e; omega), h.ow.draw hg hlt, h.dc.draw hd hg, ⟨k0.1, Nat.le_trans k0.2.1 hg.size, k0.2.2⟩, h.kv, h.ap⟩
theorem Du.set {w : World} {v : Value} {ls : Rls} {gs : Nat} {r r' : Rl} {g : Nat} {cv : Value} {zs : List Int} {K0 : Nat} {W : World} (h : Du w v ls gs r g cv zs K0 W) (k : Nat) (x : Value) (hx : (R6 r).setIfInBounds k x = R6 r') : Du w v ls gs r' g cv zs K0 (W.setCell ⟨gs, k, none⟩ x) := by
  have k0 := h.k0
  have e := h.ks.set k x
  rw [hx] at e
  exact ⟨e, World.ownsRow.kept h.ow (grown_set _ _ _ _) h.ap, h.dc.app (fun k e => by have := Option.some.inj e; omega) (grown_set _ _ _ _), ⟨k0.1, Nat.le_trans k0.2.1 (by simp), k0.2.2⟩, h.kv, h.ap⟩
theorem Du.below {w : World} {v : Value} {ls : Rls} {gs : Nat} {r : Rl} {g : Nat} {cv : Value} {zs : List Int} {K0 : Nat} {W W' : World} (h : Du w v ls gs r g cv zs K0 W) (hb : Below W.heap.size W W') : Du w v ls gs r g cv zs K0 W' :=
  h.grown (row := none) ⟨hb.os, hb.tape, hb.output, hb.size, fun j hj _ => hb.block j hj⟩ (fun k e => by cases e)
end Go.Proofs.Ytpnglbnebkggkaa

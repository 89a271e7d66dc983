/- Packets appended to a row of one's own, and rows of packets cloned; no condition. -/
import Derived.Test.YtkjfcebdjnclaaaDoorPkb
import Derived.Laws.AppendOwnNone
namespace Go.Proofs.YtkjfcebdjnclaaaDoor
open Go.RowKit Go.ChangeShapes Go.WideShapes Go.ChangeAt
set_option linter.unusedVariables false
set_option linter.unusedSimpArgs false
set_option maxRecDepth 8000

theorem fm_one (ls : List Pk) : ∀ u ∈ ls.flatMap pkC, u.oneCell' = true := by
  intro u hu
  obtain ⟨k, -, hk⟩ := List.mem_flatMap.1 hu
  exact pkC_one' k u hk
/-- packets appended to a row of one's own -/
theorem appPk {T : TypeId} (hT : Tryd.prog.underlying T = some (.slice 40)) {ops : Array Oper} {rest : List Oper} {o : Oper} {a : Act} {w : World} {Q : Exit → Act → World → Prop} (hgd : o.guard = none) (s x : Operand)
    (ho : o.op = .call { callee := .builtin .append, args := #[s, x], argTypes := #[T, T] }) (base : Nat) (v : Value) (l0 : List Pk) (hs : a.eval s = v) (hown : Og 18 pkC 40 base w v l0)
    (v2 : Value) (ls : List Pk) (hx : a.eval x = v2) (hr : Rg 18 pkC w v2 ls) (hl : l0.length + ls.length ≤ 1099511627776) (hbase : base ≤ w.heap.size)
    (h : ∀ v' w', Og 18 pkC 40 base w' v' (l0 ++ ls) → w.grownBy w' v.ownBlock → wpList Tryd.prog ops Q rest (a.put o.dst v') w') : wpList Tryd.prog ops Q (o :: rest) a w := by
  obtain ⟨i0, hi, hz0, hz1, hz2⟩ := info_parts infoPk
  obtain ⟨av, cap, rfl, h1, h2, h3⟩ := hr
  by_cases hav : av = none
  · subst hav
    have hl0 : ls = [] := by
      rcases h3 with h3 | ⟨b, off, e, -⟩
      · exact h3
      · cases e
    subst hl0
    refine wpList_plain hgd fun K hK => ?_
    have hx' : a.eval x = .slice none 0 cap := hx
    obtain ⟨v', w', hr, q1, q2⟩ : ∃ v' w', (Builtin.append_ #[T, T] o.type #[v, .slice none 0 cap]).run Tryd.prog w = .ok v' w' ∧ Og 18 pkC 40 base w' v' (l0 ++ []) ∧ w.grownBy w' v.ownBlock := by
      refine ⟨v, w, ?_, by simpa using hown, ⟨rfl, rfl, rfl, Nat.le_refl _, fun _ _ _ => rfl⟩⟩
      rcases hown.2 with ⟨rfl, h0⟩ | ⟨g, cp, cur, rfl, _, _, hnc, _⟩
      · simp [Builtin.append_, run_underlying hT, sizeOf, typeInfo, hi, Builtin.lenOf, Builtin.firstCells]
      · simp [Builtin.append_, run_underlying hT, sizeOf, typeInfo, hi, Builtin.lenOf, Builtin.firstCells, hnc, storeCells]
    unfold Oper.wp execOp
    simp only [ho, resolve, invoke, builtin, Sem.run_bind, Sem.run_pure, Result.andThen_ok, List.map_toArray, List.map_cons, List.map_nil, hs, hx', hr]
    exact hK _ _ (h v' w' q1 q2)
  · obtain ⟨ad, rfl⟩ : ∃ ad, av = some ad := by cases av with | none => exact absurd rfl hav | some ad => exact ⟨ad, rfl⟩
    refine wpList_append_own w hgd s x T ho base 40 i0 (.agg (pkA zPk)) 18 32 hT hi hz0 hz1 hz2 (pkA_size _) (by decide) v l0.length (l0.flatMap pkC) hs hown ad ls.length cap (ls.flatMap pkC) hx (fm_len pkC_len ls) ?_ (fm_one ls) ?_ ?_ hbase ?_
    · rcases h3 with rfl | ⟨b, off, e, h4⟩
      · intro j u hu; simp at hu
      · cases e
        exact fm_news pkC_len h4
    · unfold maxLen; omega
    · omega
    · intro v' w' g1 g2 g3
      refine h v' w' ?_ g2
      rw [Og, List.length_append, List.flatMap_append]; exact g1
/-- a row of packets of one's own -/
def ClR (ls : List Pk) (w : World) (e : Ending) (w' : World) : Prop := ∃ v', e = .returned v' ∧ Og 18 pkC 40 w.heap.size w' v' ls ∧ Below w.heap.size w w'
set_option maxHeartbeats 3200000 in
theorem clonL_c (v : Value) (ls : List Pk) (w : World) (h : Rg 18 pkC w v ls) (hn : ls.length ≤ 2000000) : Calls Tryd.prog 107 #[v] w (ClR ls w) := by
  have HR0 : Hid (Rg 18 pkC w v ls) := h
  obtain ⟨a, cap, rfl, -, -, h3⟩ := h
  have HL : Hid (ls.length ≤ 2000000) := hn
  have q29 : ∀ (w : World) (a : Option Addr) (n c n' c' : Nat), (binOp .eql 92 (.slice a n c) (.slice none n' c')).run Tryd.prog w = .ok (.bool a.isNone) w := fun w a n c n' c' => Lib.run_eql_slice_nil w _ _ a n c n' c' Tryd.underlying92
  cases a with
  | none =>
    obtain rfl : ls = [] := by
      rcases h3 with h3 | ⟨b, off, h3, -⟩
      · exact h3
      · cases h3
    go_enter Tryd.func107, Tryd.ntmps107
    go_wp2
    go_ret
    exact ⟨_, rfl, Og.nil _ _ _ _ _, Below.refl _ _⟩
  | some p =>
    have HO : Hid (Og 18 pkC 40 w.heap.size (w.alloc (Obj.cells #[] 40)) (.slice (some ⟨w.heap.size, 0, none⟩) 0 0) []) := World.ownsRow_lit (e := 40) (size := 18) (base := w.heap.size) w #[] 0 (by omega) (by simp) (by simp)
    have HB3 : Hid (Below w.heap.size w (w.alloc (Obj.cells #[] 40))) := (Below.refl _ _).alloc (Nat.le_refl _) _
    have HR : Hid (Rg 18 pkC (w.alloc (Obj.cells #[] 40)) (.slice (some p) ls.length cap) ls) := HR0.out.below HB3.out
    obtain ⟨n, hn'⟩ : ∃ n, ls.length = n := ⟨_, rfl⟩
    have HN : Hid (ls.length = n) := hn'
    rw [hn'] at HR ⊢
    clear h3 hn HR0 hn'
    go_enter Tryd.func107, Tryd.ntmps107
    go_wp2_with (at_builtin; refine appPk Tryd.underlying92 rfl _ _ rfl w.heap.size _ [] rfl HO.out _ ls rfl HR.out (by have := HL.out; simp; omega) (by simp; try omega) ?_)
    intro v' w3 ho hg
    have HF : Hid (Og 18 pkC 40 w.heap.size w3 v' ls ∧ Below w.heap.size w w3) := ⟨by simpa using ho, HB3.out.trans (grown_below hg (by simp) (fun k e => by simp [Value.ownBlock] at e; omega))⟩
    clear ho hg HO HR HB3
    go_wp2
    go_ret
    exact ⟨_, rfl, HF.out.1, HF.out.2⟩
set_option maxHeartbeats 3200000 in
theorem clonP_c (v : Value) (ls : List Pk) (w : World) (h : Rg 18 pkC w v ls) (hn : ls.length ≤ 2000000) : Calls Tryd.prog 105 #[v] w (ClR ls w) := by
  have HR0 : Hid (Rg 18 pkC w v ls) := h
  obtain ⟨a, cap, rfl, -, -, h3⟩ := h
  have HL : Hid (ls.length ≤ 2000000) := hn
  have q29 : ∀ (w : World) (a : Option Addr) (n c n' c' : Nat), (binOp .eql 36 (.slice a n c) (.slice none n' c')).run Tryd.prog w = .ok (.bool a.isNone) w := fun w a n c n' c' => Lib.run_eql_slice_nil w _ _ a n c n' c' Tryd.underlying36
  cases a with
  | none =>
    obtain rfl : ls = [] := by
      rcases h3 with h3 | ⟨b, off, h3, -⟩
      · exact h3
      · cases h3
    go_enter Tryd.func105, Tryd.ntmps105
    go_wp2
    go_ret
    exact ⟨_, rfl, Og.nil _ _ _ _ _, Below.refl _ _⟩
  | some p =>
    have HO : Hid (Og 18 pkC 40 w.heap.size (w.alloc (Obj.cells #[] 40)) (.slice (some ⟨w.heap.size, 0, none⟩) 0 0) []) := World.ownsRow_lit (e := 40) (size := 18) (base := w.heap.size) w #[] 0 (by omega) (by simp) (by simp)
    have HB3 : Hid (Below w.heap.size w (w.alloc (Obj.cells #[] 40))) := (Below.refl _ _).alloc (Nat.le_refl _) _
    have HR : Hid (Rg 18 pkC (w.alloc (Obj.cells #[] 40)) (.slice (some p) ls.length cap) ls) := HR0.out.below HB3.out
    obtain ⟨n, hn'⟩ : ∃ n, ls.length = n := ⟨_, rfl⟩
    have HN : Hid (ls.length = n) := hn'
    rw [hn'] at HR ⊢
    clear h3 hn HR0 hn'
    go_enter Tryd.func105, Tryd.ntmps105
    go_wp2_with (at_builtin; refine appPk Tryd.underlying36 rfl _ _ rfl w.heap.size _ [] rfl HO.out _ ls rfl HR.out (by have := HL.out; simp; omega) (by simp; try omega) ?_)
    intro v' w3 ho hg
    have HF : Hid (Og 18 pkC 40 w.heap.size w3 v' ls ∧ Below w.heap.size w w3) := ⟨by simpa using ho, HB3.out.trans (grown_below hg (by simp) (fun k e => by simp [Value.ownBlock] at e; omega))⟩
    clear ho hg HO HR HB3
    go_wp2
    go_ret
    exact ⟨_, rfl, HF.out.1, HF.out.2⟩

end Go.Proofs.YtkjfcebdjnclaaaDoor

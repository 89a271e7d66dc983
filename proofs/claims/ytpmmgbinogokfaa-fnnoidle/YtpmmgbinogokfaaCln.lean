/- Rows put behind rows, and cloned; no condition. -/
import Derived.Test.YtpmmgbinogokfaaDk
import Derived.Laws.AppendOwnNone
import Derived.Laws.CopyOwn
namespace Go.Proofs.Ytpmmgbinogokfaa
open Go.RowKit Go.ChangeShapes Go.WideShapes Go.ChangeAt
set_option linter.unusedVariables false
set_option linter.unusedSimpArgs false
set_option maxRecDepth 8000
theorem appAg {ops : Array Oper} {rest : List Oper} {o : Oper} {a : Act} {w : World} {Q : Exit → Act → World → Prop} (hgd : o.guard = none) (s x : Operand)
    (ho : o.op = .call { callee := .builtin .append, args := #[s, x], argTypes := #[24, 24] }) (base : Nat) (v : Value) (l0 : List Ag) (hs : a.eval s = v) (hown : Og 3 agC 36 base w v l0)
    (v2 : Value) (ls : List Ag) (hx : a.eval x = v2) (hr : Rg 3 agC w v2 ls) (hl : l0.length + ls.length ≤ 1099511627776) (hbase : base ≤ w.heap.size)
    (h : ∀ v' w', Og 3 agC 36 base w' v' (l0 ++ ls) → w.grownBy w' v.ownBlock → (v'.ownBlock = v.ownBlock ∨ v'.ownBlock = some w.heap.size) → wpList Try.prog ops Q rest (a.put o.dst v') w') : wpList Try.prog ops Q (o :: rest) a w := by
  obtain ⟨i0, hi, hz0, hz1, hz2⟩ := info_parts infoAg
  obtain ⟨av, cap, rfl, h1, h2, h3⟩ := hr
  by_cases hav : av = none
  · subst hav
    have hl0 : ls = [] := by
      rcases h3 with h3 | ⟨b, off, e, -⟩
      · exact h3
      · cases e
    subst hl0
    refine wpList_plain hgd fun K hK => ?_
    have hx' : a.eval x = .slice none 0 cap := hx
    obtain ⟨v', w', hr, q1, q2, q3⟩ : ∃ v' w', (Builtin.append_ #[24, 24] o.type #[v, .slice none 0 cap]).run Try.prog w = .ok v' w' ∧ Og 3 agC 36 base w' v' (l0 ++ []) ∧ w.grownBy w' v.ownBlock ∧ (v'.ownBlock = v.ownBlock ∨ v'.ownBlock = some w.heap.size) := by
      refine ⟨v, w, ?_, by simpa using hown, grown_refl _ _, .inl rfl⟩
      rcases hown.2 with ⟨rfl, h0⟩ | ⟨g, cp, cur, rfl, _, _, hnc, _⟩
      · simp [Builtin.append_, run_underlying Try.underlying24, sizeOf, typeInfo, hi, Builtin.lenOf, Builtin.firstCells]
      · simp [Builtin.append_, run_underlying Try.underlying24, sizeOf, typeInfo, hi, Builtin.lenOf, Builtin.firstCells, hnc, storeCells]
    unfold Oper.wp execOp
    simp only [ho, resolve, invoke, builtin, Sem.run_bind, Sem.run_pure, Result.andThen_ok, List.map_toArray, List.map_cons, List.map_nil, hs, hx', hr]
    exact hK _ _ (h v' w' q1 q2 q3)
  · obtain ⟨ad, rfl⟩ : ∃ ad, av = some ad := by cases av with | none => exact absurd rfl hav | some ad => exact ⟨ad, rfl⟩
    refine wpList_append_own_at w hgd s x 24 ho base 36 i0 (.agg #[.int .i64 0, .int .i64 0, .int .i64 0]) 3 24 Try.underlying24 hi hz0 hz1 hz2 rfl (by decide) v l0.length (l0.flatMap agC) hs hown ad ls.length cap (ls.flatMap agC) hx (fm_len agC_len ls) ?_ agC_one ?_ ?_ hbase ?_
    · rcases h3 with rfl | ⟨b, off, e, h4⟩
      · intro j u hu; simp at hu
      · cases e
        exact fm_news agC_len h4
    · unfold maxLen; omega
    · omega
    · intro v' w' g1 g2 g3 g4
      refine h v' w' ?_ g2 g4
      rw [Og, List.flatMap_append, List.length_append]; exact g1
set_option maxHeartbeats 3200000 in
theorem cloneAg_c (v : Value) (ls : List Ag) (w : World) (h : Rg 3 agC w v ls) (hn : ls.length ≤ 1048576) : Calls Try.prog 75 #[v] w fun e w' => ∃ v', e = .returned v' ∧ Og 3 agC 36 w.heap.size w' v' ls ∧ Below w.heap.size w w' := by
  have HR0 : Hid (Rg 3 agC w v ls) := h
  obtain ⟨a, cap, rfl, -, -, h3⟩ := h
  have HL : Hid (ls.length ≤ 1048576) := hn
  have q29 : ∀ (w : World) (a : Option Addr) (n c n' c' : Nat), (binOp .eql 24 (.slice a n c) (.slice none n' c')).run Try.prog w = .ok (.bool a.isNone) w := fun w a n c n' c' => Lib.run_eql_slice_nil w _ _ a n c n' c' Try.underlying24
  cases a with
  | none =>
    obtain rfl : ls = [] := by
      rcases h3 with h3 | ⟨b, off, h3, -⟩
      · exact h3
      · cases h3
    go_enter Try.func75, Try.ntmps75
    go_wp2
    go_ret
    exact ⟨_, rfl, ⟨rfl, .inl ⟨rfl, rfl⟩⟩, Below.refl _ _⟩
  | some p =>
    have HO : Hid (Og 3 agC 36 w.heap.size (w.alloc (Obj.cells #[] 36)) (.slice (some ⟨w.heap.size, 0, none⟩) 0 0) []) := World.ownsRow_lit (e := 36) (size := 3) (base := w.heap.size) w #[] 0 (by omega) (by simp) (by simp)
    have HB3 : Hid (Below w.heap.size w (w.alloc (Obj.cells #[] 36))) := (Below.refl _ _).alloc (Nat.le_refl _) _
    have HR : Hid (Rg 3 agC (w.alloc (Obj.cells #[] 36)) (.slice (some p) ls.length cap) ls) := HR0.out.below HB3.out
    obtain ⟨n, hn'⟩ : ∃ n, ls.length = n := ⟨_, rfl⟩
    have HN : Hid (ls.length = n) := hn'
    rw [hn'] at HR ⊢
    clear h3 hn HR0 hn'
    go_enter Try.func75, Try.ntmps75
    go_wp2_with (at_builtin; refine appAg rfl _ _ rfl w.heap.size _ [] rfl HO.out _ ls rfl HR.out (by have := HL.out; simp; omega) (by simp; try omega) ?_)
    intro v' w3 ho hg hb
    have HF : Hid (Og 3 agC 36 w.heap.size w3 v' ls ∧ Below w.heap.size w w3) := ⟨by simpa using ho, HB3.out.trans (grown_below hg (by simp) (fun k e => by simp [Value.ownBlock] at e; omega))⟩
    clear ho hg hb HO HR HB3
    go_wp2
    go_ret
    exact ⟨_, rfl, HF.out.1, HF.out.2⟩
theorem appWt {ops : Array Oper} {rest : List Oper} {o : Oper} {a : Act} {w : World} {Q : Exit → Act → World → Prop} (hgd : o.guard = none) (s x : Operand)
    (ho : o.op = .call { callee := .builtin .append, args := #[s, x], argTypes := #[25, 25] }) (base : Nat) (v : Value) (l0 : List Wt) (hs : a.eval s = v) (hown : Og 4 wtC 74 base w v l0)
    (v2 : Value) (ls : List Wt) (hx : a.eval x = v2) (hr : Rg 4 wtC w v2 ls) (hl : l0.length + ls.length ≤ 1099511627776) (hbase : base ≤ w.heap.size)
    (h : ∀ v' w', Og 4 wtC 74 base w' v' (l0 ++ ls) → w.grownBy w' v.ownBlock → (v'.ownBlock = v.ownBlock ∨ v'.ownBlock = some w.heap.size) → wpList Try.prog ops Q rest (a.put o.dst v') w') : wpList Try.prog ops Q (o :: rest) a w := by
  obtain ⟨i0, hi, hz0, hz1, hz2⟩ := info_parts infoWt
  obtain ⟨av, cap, rfl, h1, h2, h3⟩ := hr
  by_cases hav : av = none
  · subst hav
    have hl0 : ls = [] := by
      rcases h3 with h3 | ⟨b, off, e, -⟩
      · exact h3
      · cases e
    subst hl0
    refine wpList_plain hgd fun K hK => ?_
    have hx' : a.eval x = .slice none 0 cap := hx
    obtain ⟨v', w', hr, q1, q2, q3⟩ : ∃ v' w', (Builtin.append_ #[25, 25] o.type #[v, .slice none 0 cap]).run Try.prog w = .ok v' w' ∧ Og 4 wtC 74 base w' v' (l0 ++ []) ∧ w.grownBy w' v.ownBlock ∧ (v'.ownBlock = v.ownBlock ∨ v'.ownBlock = some w.heap.size) := by
      refine ⟨v, w, ?_, by simpa using hown, grown_refl _ _, .inl rfl⟩
      rcases hown.2 with ⟨rfl, h0⟩ | ⟨g, cp, cur, rfl, _, _, hnc, _⟩
      · simp [Builtin.append_, run_underlying Try.underlying25, sizeOf, typeInfo, hi, Builtin.lenOf, Builtin.firstCells]
      · simp [Builtin.append_, run_underlying Try.underlying25, sizeOf, typeInfo, hi, Builtin.lenOf, Builtin.firstCells, hnc, storeCells]
    unfold Oper.wp execOp
    simp only [ho, resolve, invoke, builtin, Sem.run_bind, Sem.run_pure, Result.andThen_ok, List.map_toArray, List.map_cons, List.map_nil, hs, hx', hr]
    exact hK _ _ (h v' w' q1 q2 q3)
  · obtain ⟨ad, rfl⟩ : ∃ ad, av = some ad := by cases av with | none => exact absurd rfl hav | some ad => exact ⟨ad, rfl⟩
    refine wpList_append_own_at w hgd s x 25 ho base 74 i0 (.agg #[.int .i64 0, .int .i64 0, .int .i64 0, .int .i64 0]) 4 32 Try.underlying25 hi hz0 hz1 hz2 rfl (by decide) v l0.length (l0.flatMap wtC) hs hown ad ls.length cap (ls.flatMap wtC) hx (fm_len wtC_len ls) ?_ wtC_one ?_ ?_ hbase ?_
    · rcases h3 with rfl | ⟨b, off, e, h4⟩
      · intro j u hu; simp at hu
      · cases e
        exact fm_news wtC_len h4
    · unfold maxLen; omega
    · omega
    · intro v' w' g1 g2 g3 g4
      refine h v' w' ?_ g2 g4
      rw [Og, List.flatMap_append, List.length_append]; exact g1
set_option maxHeartbeats 3200000 in
theorem cloneWt_c (v : Value) (ls : List Wt) (w : World) (h : Rg 4 wtC w v ls) (hn : ls.length ≤ 1048576) : Calls Try.prog 76 #[v] w fun e w' => ∃ v', e = .returned v' ∧ Og 4 wtC 74 w.heap.size w' v' ls ∧ Below w.heap.size w w' := by
  have HR0 : Hid (Rg 4 wtC w v ls) := h
  obtain ⟨a, cap, rfl, -, -, h3⟩ := h
  have HL : Hid (ls.length ≤ 1048576) := hn
  have q29 : ∀ (w : World) (a : Option Addr) (n c n' c' : Nat), (binOp .eql 25 (.slice a n c) (.slice none n' c')).run Try.prog w = .ok (.bool a.isNone) w := fun w a n c n' c' => Lib.run_eql_slice_nil w _ _ a n c n' c' Try.underlying25
  cases a with
  | none =>
    obtain rfl : ls = [] := by
      rcases h3 with h3 | ⟨b, off, h3, -⟩
      · exact h3
      · cases h3
    go_enter Try.func76, Try.ntmps76
    go_wp2
    go_ret
    exact ⟨_, rfl, ⟨rfl, .inl ⟨rfl, rfl⟩⟩, Below.refl _ _⟩
  | some p =>
    have HO : Hid (Og 4 wtC 74 w.heap.size (w.alloc (Obj.cells #[] 74)) (.slice (some ⟨w.heap.size, 0, none⟩) 0 0) []) := World.ownsRow_lit (e := 74) (size := 4) (base := w.heap.size) w #[] 0 (by omega) (by simp) (by simp)
    have HB3 : Hid (Below w.heap.size w (w.alloc (Obj.cells #[] 74))) := (Below.refl _ _).alloc (Nat.le_refl _) _
    have HR : Hid (Rg 4 wtC (w.alloc (Obj.cells #[] 74)) (.slice (some p) ls.length cap) ls) := HR0.out.below HB3.out
    obtain ⟨n, hn'⟩ : ∃ n, ls.length = n := ⟨_, rfl⟩
    have HN : Hid (ls.length = n) := hn'
    rw [hn'] at HR ⊢
    clear h3 hn HR0 hn'
    go_enter Try.func76, Try.ntmps76
    go_wp2_with (at_builtin; refine appWt rfl _ _ rfl w.heap.size _ [] rfl HO.out _ ls rfl HR.out (by have := HL.out; simp; omega) (by simp; try omega) ?_)
    intro v' w3 ho hg hb
    have HF : Hid (Og 4 wtC 74 w.heap.size w3 v' ls ∧ Below w.heap.size w w3) := ⟨by simpa using ho, HB3.out.trans (grown_below hg (by simp) (fun k e => by simp [Value.ownBlock] at e; omega))⟩
    clear ho hg hb HO HR HB3
    go_wp2
    go_ret
    exact ⟨_, rfl, HF.out.1, HF.out.2⟩
end Go.Proofs.Ytpmmgbinogokfaa

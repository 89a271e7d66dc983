/- Slices of ints and notes cloned; no condition. -/
import Derived.Test.YtkehcalijamhjaaNtP
import Derived.Test.YtkehcalijamhjaaTrC
import Derived.Laws.CopyOwn
namespace Go.Proofs.Ytkehcalijamhjaa
open Go.RowKit Go.ChangeShapes Go.WideShapes Go.ChangeAt
set_option linter.unusedVariables false
set_option linter.unusedSimpArgs false
set_option maxRecDepth 8000
theorem int_news {w : World} {b off : Nat} {zs : List Int} (h4 : ∀ i, i < zs.length → w.cell? ⟨b, off + i, none⟩ = some (.int .i64 (zs.getD i 0))) :
    ∀ j u, (zs.map (Value.int .i64))[j]? = some u → w.cell? ((⟨b, off, none⟩ : Addr).add j) = some u := by
  intro j u hu
  have hj : j < zs.length := by have := (List.getElem?_eq_some_iff.1 hu).1; simpa using this
  rw [Addr.add_lit, h4 j hj]
  rw [List.getElem?_map, List.getElem?_eq_getElem hj] at hu
  simp [List.getElem?_eq_getElem hj] at hu ⊢
  exact hu
/-- ints put behind a row of one's own -/
theorem appIs {ops : Array Oper} {rest : List Oper} {o : Oper} {a : Act} {w : World} {Q : Exit → Act → World → Prop} (hgd : o.guard = none) (s x : Operand)
    (ho : o.op = .call { callee := .builtin .append, args := #[s, x], argTypes := #[27, 27] }) (base : Nat) (v : Value) (l0 : List Int) (hs : a.eval s = v) (hown : Ow .i64 3 base w v l0)
    (v2 : Value) (ls : List Int) (hx : a.eval x = v2) (hr : Rd .i64 w v2 ls) (hl : l0.length + ls.length ≤ 1099511627776) (hbase : base ≤ w.heap.size)
    (h : ∀ v' w', Ow .i64 3 base w' v' (l0 ++ ls) → w.grownBy w' v.ownBlock → (v'.ownBlock = v.ownBlock ∨ v'.ownBlock = some w.heap.size) → wpList Try.prog ops Q rest (a.put o.dst v') w') : wpList Try.prog ops Q (o :: rest) a w := by
  obtain ⟨i0, hi, hz0, hz1, hz2⟩ := info_parts toIInfo
  obtain ⟨av, cap, rfl, h1, h2, h3⟩ := hr
  by_cases hav : av = none
  · subst hav
    have hl0 : ls = [] := by
      rcases h3 with h3 | ⟨b, off, e, -⟩
      · exact h3
      · cases e
    subst hl0
    refine wpList_plain hgd fun K hK => ?_
    have hx' : a.eval x = .slice none 0 cap := hx
    obtain ⟨v', w', hr, q1, q2, q3⟩ : ∃ v' w', (Builtin.append_ #[27, 27] o.type #[v, .slice none 0 cap]).run Try.prog w = .ok v' w' ∧ Ow .i64 3 base w' v' (l0 ++ []) ∧ w.grownBy w' v.ownBlock ∧ (v'.ownBlock = v.ownBlock ∨ v'.ownBlock = some w.heap.size) := by
      refine ⟨v, w, ?_, by simpa using hown, grown_refl _ _, .inl rfl⟩
      rcases hown.2 with ⟨rfl, h0⟩ | ⟨g, cp, cur, rfl, _, _, hnc, _⟩
      · simp [Builtin.append_, run_underlying Try.underlying27, sizeOf, typeInfo, hi, Builtin.lenOf, Builtin.firstCells]
      · simp [Builtin.append_, run_underlying Try.underlying27, sizeOf, typeInfo, hi, Builtin.lenOf, Builtin.firstCells, hnc, storeCells]
    unfold Oper.wp execOp
    simp only [ho, resolve, invoke, builtin, Sem.run_bind, Sem.run_pure, Result.andThen_ok, List.map_toArray, List.map_cons, List.map_nil, hs, hx', hr]
    exact hK _ _ (h v' w' q1 q2 q3)
  · obtain ⟨ad, rfl⟩ : ∃ ad, av = some ad := by cases av with | none => exact absurd rfl hav | some ad => exact ⟨ad, rfl⟩
    refine wpList_append_own_at w hgd s x 27 ho base 3 i0 (.int .i64 0) 1 8 Try.underlying27 hi hz0 hz1 hz2 rfl (by decide) v l0.length (l0.map (Value.int .i64)) hs hown ad ls.length cap (ls.map (Value.int .i64)) hx (by simp) ?_ ?_ ?_ ?_ hbase ?_
    · rcases h3 with rfl | ⟨b, off, e, h4⟩
      · intro j u hu; simp at hu
      · cases e
        exact int_news h4
    · intro u hu; simp at hu; obtain ⟨q, -, rfl⟩ := hu; rfl
    · unfold maxLen; omega
    · omega
    · intro v' w' g1 g2 g3 g4
      refine h v' w' ?_ g2 g4
      rw [Ow, List.map_append, List.length_append]; exact g1
def CiR (ls : List Int) (w : World) (e : Ending) (w' : World) : Prop := ∃ v', e = .returned v' ∧ Ow .i64 3 w.heap.size w' v' ls ∧ Below w.heap.size w w'
def CnR (ls : Mvs) (w : World) (e : Ending) (w' : World) : Prop := ∃ v', e = .returned v' ∧ Op mf mg 68 w.heap.size w' v' ls ∧ Below w.heap.size w w'

set_option maxHeartbeats 3200000 in
theorem cloneI_c (v : Value) (ls : List Int) (w : World) (h : Rd .i64 w v ls) (hn : ls.length ≤ 1048576) : Calls Try.prog 67 #[v] w (CiR ls w) := by
  have HR0 : Hid (Rd .i64 w v ls) := h
  obtain ⟨a, cap, rfl, -, -, h3⟩ := h
  have HL : Hid (ls.length ≤ 1048576) := hn
  have q29 : ∀ (w : World) (a : Option Addr) (n c n' c' : Nat), (binOp .eql 27 (.slice a n c) (.slice none n' c')).run Try.prog w = .ok (.bool a.isNone) w := fun w a n c n' c' => Lib.run_eql_slice_nil w _ _ a n c n' c' Try.underlying27
  cases a with
  | none =>
    obtain rfl : ls = [] := by
      rcases h3 with h3 | ⟨b, off, h3, -⟩
      · exact h3
      · cases h3
    go_enter Try.func67, Try.ntmps67
    go_wp2
    go_ret
    exact ⟨_, rfl, ⟨rfl, .inl ⟨rfl, rfl⟩⟩, Below.refl _ _⟩
  | some p =>
    have HO : Hid (Ow .i64 3 w.heap.size (w.alloc (Obj.cells #[] 3)) (.slice (some ⟨w.heap.size, 0, none⟩) 0 0) []) := World.ownsRow_lit (e := 3) (size := 1) (base := w.heap.size) w #[] 0 (by omega) (by simp) (by simp)
    have HB3 : Hid (Below w.heap.size w (w.alloc (Obj.cells #[] 3))) := (Below.refl _ _).alloc (Nat.le_refl _) _
    have HR : Hid (Rd .i64 (w.alloc (Obj.cells #[] 3)) (.slice (some p) ls.length cap) ls) := HR0.out.below HB3.out
    obtain ⟨n, hn'⟩ : ∃ n, ls.length = n := ⟨_, rfl⟩
    have HN : Hid (ls.length = n) := hn'
    rw [hn'] at HR ⊢
    clear h3 hn HR0 hn'
    go_enter Try.func67, Try.ntmps67
    go_wp2_with (at_builtin; refine appIs rfl _ _ rfl w.heap.size _ [] rfl HO.out _ ls rfl HR.out (by have := HL.out; simp; omega) (by simp; try omega) ?_)
    intro v' w3 ho hg hb
    have HF : Hid (Ow .i64 3 w.heap.size w3 v' ls ∧ Below w.heap.size w w3) := ⟨by simpa using ho, HB3.out.trans (grown_below hg (by simp) (fun k e => by simp [Value.ownBlock] at e; omega))⟩
    clear ho hg hb HO HR HB3
    go_wp2
    go_ret
    exact ⟨_, rfl, HF.out.1, HF.out.2⟩

set_option maxHeartbeats 3200000 in
theorem cloneN_c (v : Value) (ls : Mvs) (w : World) (h : Rp mf mg w v ls) (hn : ls.length ≤ 1048576) : Calls Try.prog 68 #[v] w (CnR ls w) := by
  have HR0 : Hid (Rp mf mg w v ls) := h
  obtain ⟨a, cap, rfl, -, -, h3⟩ := h
  have HL : Hid (ls.length ≤ 1048576) := hn
  have q29 : ∀ (w : World) (a : Option Addr) (n c n' c' : Nat), (binOp .eql 30 (.slice a n c) (.slice none n' c')).run Try.prog w = .ok (.bool a.isNone) w := fun w a n c n' c' => Lib.run_eql_slice_nil w _ _ a n c n' c' Try.underlying30
  cases a with
  | none =>
    obtain rfl : ls = [] := by
      rcases h3 with h3 | ⟨b, off, h3, -⟩
      · exact h3
      · cases h3
    go_enter Try.func68, Try.ntmps68
    go_wp2
    go_ret
    exact ⟨_, rfl, ⟨rfl, .inl ⟨rfl, rfl⟩⟩, Below.refl _ _⟩
  | some p =>
    have HO : Hid (Op mf mg 68 w.heap.size (w.alloc (Obj.cells #[] 68)) (.slice (some ⟨w.heap.size, 0, none⟩) 0 0) []) := World.ownsRow_lit (e := 68) (size := 2) (base := w.heap.size) w #[] 0 (by omega) (by simp) (by simp)
    have HB3 : Hid (Below w.heap.size w (w.alloc (Obj.cells #[] 68))) := (Below.refl _ _).alloc (Nat.le_refl _) _
    have HR : Hid (Rp mf mg (w.alloc (Obj.cells #[] 68)) (.slice (some p) ls.length cap) ls) := HR0.out.below HB3.out
    obtain ⟨n, hn'⟩ : ∃ n, ls.length = n := ⟨_, rfl⟩
    have HN : Hid (ls.length = n) := hn'
    rw [hn'] at HR ⊢
    clear h3 hn HR0 hn'
    go_enter Try.func68, Try.ntmps68
    go_wp2_with (at_builtin; refine appNt rfl _ _ rfl w.heap.size _ [] rfl HO.out _ ls rfl HR.out (by have := HL.out; simp; omega) (by simp; try omega) ?_)
    intro v' w3 ho hg hb
    have HF : Hid (Op mf mg 68 w.heap.size w3 v' ls ∧ Below w.heap.size w w3) := ⟨by simpa using ho, HB3.out.trans (grown_below hg (by simp) (fun k e => by simp [Value.ownBlock] at e; omega))⟩
    clear ho hg hb HO HR HB3
    go_wp2
    go_ret
    exact ⟨_, rfl, HF.out.1, HF.out.2⟩
end Go.Proofs.Ytkehcalijamhjaa

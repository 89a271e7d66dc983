/- Grow and Concat of settings, by their contracts; no condition. -/
import Derived.Test.YtlknakijdpeaoaaCcs
import Derived.Lib.AppendZerosOnto
namespace Go.Proofs.Ytlknakijdpeaoaa
open Go.RowKit Go.ChangeShapes Go.WideShapes Go.ChangeAt
set_option linter.unusedVariables false
set_option linter.unusedSimpArgs false
set_option maxRecDepth 8000

theorem ot_empty (w : World) (cs : Array Value) (c : Nat) (hc : c ≤ maxLen) (hs : cs.size = c * 2) : Ot 55 w.heap.size (w.alloc (.cells cs 55)) (.slice (some ⟨w.heap.size, 0, none⟩) 0 c) [] :=
  ⟨rfl, .inr ⟨w.heap.size, c, cs, rfl, Nat.le_refl _, Blk.new _ _ _, by simp, hc, hs, by simp [st2]⟩⟩
theorem Ot.belowOf {e : TypeId} {base : Nat} {w w' : World} {v : Value} {zs : Ses} (h : Ot e base w v zs) (hg : w.grownBy w' v.ownBlock) (hb : base ≤ w.heap.size) : Below base w w' := grown_below hg hb fun j hj => (World.ownsRow.lt h j hj).1
set_option maxHeartbeats 3200000 in
theorem grow_c (n : Nat) (hn : n ≤ 80) (w : World) : Calls Try.prog 57 #[.slice none 0 0, .int .i64 (n : Int)] w fun e w' => ∃ v, e = .returned v ∧ Ot 55 w.heap.size w' v [] ∧ Below w.heap.size w w' := by
  by_cases h0 : n = 0
  · subst h0
    go_enter Try.func57, Try.ntmps57
    go_wp2
    go_ret
    exact ⟨_, rfl, World.ownsRow_nil _ _ _ _, Below.refl _ _⟩
  · obtain ⟨i0, hi, hz0, hz1, hz2⟩ := info_parts infoSetting
    have hr := Lib.run_append_nil_zeros (P := Try.prog) w 30 3 30 55 i0 (.agg (S2 s0)) .i64 .i64 Try.underlying30 Try.underlying3 hi hz0 n (by omega) (by omega) (by omega) (by rw [hz2]; omega)
    have hge := grownCap_ge w n 0 55
    obtain ⟨c, hc⟩ : ∃ c, grownCap w n 0 55 = c := ⟨_, rfl⟩
    obtain ⟨cs, hcs⟩ : ∃ cs, Builtin.zeroCells (Value.agg (S2 s0)).cells n ++ Builtin.zeroCells (Value.agg (S2 s0)).cells (grownCap w n 0 55 - n) = cs := ⟨_, rfl⟩
    rw [hcs, hc] at hr
    have HN : Hid (n ≤ 80 ∧ n ≤ c) := ⟨hn, by omega⟩
    have HR : Hid ((Builtin.append_ #[30, 3] 30 #[.slice none 0 0, .int .i64 (n : Int)]).run Try.prog w = .ok (.slice (some ⟨w.heap.size, 0, none⟩) n c) (w.drew.alloc (.cells cs 55))) := hr
    have hn1 : wrap64 (n : Int) = n := wrap64_in (by omega)
    have hpos : (0 : Int) < n := by omega
    have hzc : ∀ k : Nat, (Builtin.zeroCells (Value.agg (S2 s0)).cells k).size = k * 2 := fun k => by simp [Builtin.zeroCells, Value.cells]
    have HF : Hid (c ≤ maxLen ∧ cs.size = c * 2) := by
      refine ⟨by rw [← hc]; exact grownCap_le_maxLen w n 0 55 (by unfold maxLen; omega), ?_⟩
      rw [← hcs, Array.size_append, hzc, hzc, hc]; omega
    clear hr hc hcs hge hi hz0 hz1 hz2
    go_enter Try.func57, Try.ntmps57
    go_wp2_with (at_builtin; refine Lib.wpList_append_run _ rfl _ _ _ _ rfl _ _ rfl rfl _ _ HR.out ?_)
    go_ret
    exact ⟨_, rfl, ot_empty w cs c HF.out.1 HF.out.2, ((Below.refl _ _).alloc (Nat.le_refl _) _).drew⟩
set_option maxHeartbeats 3200000 in
theorem concat_c (g : Nat) (v1 v2 : Value) (xs ys : Ses) (w : World) (h1 : Rs w v1 xs) (h2 : Rs w v2 ys) (hx : xs.length ≤ 40) (hy : ys.length ≤ 40) (c1 : w.cell? ⟨g, 0, none⟩ = some v1) (c2 : w.cell? ⟨g, 1, none⟩ = some v2) :
    Calls Try.prog 49 #[.slice (some ⟨g, 0, none⟩) 2 2] w fun e w' => ∃ v, e = .returned v ∧ Ot 55 w.heap.size w' v (xs ++ ys) ∧ Below w.heap.size w w' := by
  have HR1 : Hid (Rs w v1 xs) := h1
  have HR2 : Hid (Rs w v2 ys) := h2
  have HC1 : Hid (w.cell? ⟨g, 0, none⟩ = some v1) := c1
  have HC2 : Hid (w.cell? ⟨g, 1, none⟩ = some v2) := c2
  have HL : Hid (xs.length ≤ 40 ∧ ys.length ≤ 40) := ⟨hx, hy⟩
  obtain ⟨a1, p1, rfl, -⟩ := h1
  obtain ⟨a2, p2, rfl, -⟩ := h2
  have e1 : wrap64 (xs.length : Int) = xs.length := wrap64_in (by omega)
  have e2 : wrap64 ((xs.length : Int) + ys.length) = xs.length + ys.length := wrap64_in (by omega)
  have n1 : ¬ ((xs.length : Int) < 0) := by omega
  have n2 : ¬ ((xs.length : Int) + ys.length < 0) := by omega
  clear hx hy
  go_enter Try.func49, Try.ntmps49
  go_wp2
  refine wp_loop_rounds 3 ?_
  rw [rounds_succ]
  go_wp2
  rw [rounds_succ]
  go_wp2
  rw [rounds_succ]
  go_wp2_with (fail)
  rw [e2]
  have hg := grow_c (xs.length + ys.length) (by have := HL.out; omega) w
  rw [Int.natCast_add] at hg
  refine hg.mono ?_
  rintro e w1 ⟨v, rfl, o1, b1⟩
  have HO : Hid (Ot 55 w.heap.size w1 v []) := o1
  have HB : Hid (Below w.heap.size w w1) := b1
  have HS1 : Hid (Rs w1 (.slice a1 xs.length p1) xs) := HR1.out.below b1
  have HS2 : Hid (Rs w1 (.slice a2 ys.length p2) ys) := HR2.out.below b1
  have d1 := (b1.cell (block_lt_of_cell c1)).trans c1
  have d2 := (b1.cell (block_lt_of_cell c2)).trans c2
  clear o1 b1 c1 c2 e1 e2 n1 n2
  go_wp2
  refine wp_loop_rounds 3 ?_
  rw [rounds_succ]
  go_wp2_with (at_builtin; refine appSe rfl _ _ rfl w.heap.size _ [] rfl HO.out _ xs rfl HS1.out (by have := HL.out; simp; omega) HB.out.size ?_)
  intro v' w2 ho hg hb
  have HO2 : Hid (Ot 55 w.heap.size w2 v' xs) := ho
  have HB1 : Hid (Below w.heap.size w1 w2) := HO.out.belowOf hg HB.out.size
  have HB2 : Hid (Below w.heap.size w w2) := HB.out.trans HB1.out
  have HS3 : Hid (Rs w2 (.slice a2 ys.length p2) ys) := HR2.out.below HB2.out
  have d3 := (HB2.out.cell (block_lt_of_cell HC2.out)).trans HC2.out
  clear ho hg hb d1 d2
  go_wp2
  rw [rounds_succ]
  go_wp2_with (at_builtin; refine appSe rfl _ _ rfl w.heap.size _ xs rfl HO2.out _ ys rfl HS3.out (by have := HL.out; omega) HB2.out.size ?_)
  intro v3 w3 ho hg hb
  have HO3 : Hid (Ot 55 w.heap.size w3 v3 (xs ++ ys)) := ho
  have HB3 : Hid (Below w.heap.size w w3) := HB2.out.trans (HO2.out.belowOf hg HB2.out.size)
  clear ho hg hb d3
  go_wp2
  rw [rounds_succ]
  go_wp2
  go_ret
  exact ⟨_, rfl, HO3.out, HB3.out⟩

end Go.Proofs.Ytlknakijdpeaoaa

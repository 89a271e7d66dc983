/- l8DrawOps; no condition. -/
import Derived.Test.YtpmmgbinogokfaaDrC
import Derived.Test.YtpmmgbinogokfaaCln
import Derived.Test.YtpmmgbinogokfaaDop
namespace Go.Proofs.Ytpmmgbinogokfaa
open Go.RowKit Go.ChangeShapes Go.WideShapes Go.ChangeAt
set_option linter.unusedVariables false
set_option linter.unusedSimpArgs false
set_option maxRecDepth 8000
theorem appDo {ops : Array Oper} {rest : List Oper} {o : Oper} {a : Act} {w : World} {Q : Exit → Act → World → Prop} (hgd : o.guard = none) (s x : Operand)
    (ho : o.op = .call { callee := .builtin .append, args := #[s, x], argTypes := #[28, 28] }) (base : Nat) (v : Value) (l0 : List Do) (hs : a.eval s = v) (hown : Og 5 doC 38 base w v l0)
    (v2 : Value) (ls : List Do) (hx : a.eval x = v2) (hr : Rg 5 doC w v2 ls) (hl : l0.length + ls.length ≤ 1099511627776) (hbase : base ≤ w.heap.size)
    (h : ∀ v' w', Og 5 doC 38 base w' v' (l0 ++ ls) → w.grownBy w' v.ownBlock → (v'.ownBlock = v.ownBlock ∨ v'.ownBlock = some w.heap.size) → wpList Try.prog ops Q rest (a.put o.dst v') w') : wpList Try.prog ops Q (o :: rest) a w := by
  obtain ⟨i0, hi, hz0, hz1, hz2⟩ := info_parts infoDo
  obtain ⟨av, cap, rfl, h1, h2, h3⟩ := hr
  by_cases hav : av = none
  · subst hav
    have hl0 : ls = [] := by
      rcases h3 with h3 | ⟨b, off, e, -⟩
      · exact h3
      · cases e
    subst hl0
    refine wpList_plain hgd fun K hK => ?_
    have hx' : a.eval x = .slice none 0 cap := hx
    obtain ⟨v', w', hr, q1, q2, q3⟩ : ∃ v' w', (Builtin.append_ #[28, 28] o.type #[v, .slice none 0 cap]).run Try.prog w = .ok v' w' ∧ Og 5 doC 38 base w' v' (l0 ++ []) ∧ w.grownBy w' v.ownBlock ∧ (v'.ownBlock = v.ownBlock ∨ v'.ownBlock = some w.heap.size) := by
      refine ⟨v, w, ?_, by simpa using hown, grown_refl _ _, .inl rfl⟩
      rcases hown.2 with ⟨rfl, h0⟩ | ⟨g, cp, cur, rfl, _, _, hnc, _⟩
      · simp [Builtin.append_, run_underlying Try.underlying28, sizeOf, typeInfo, hi, Builtin.lenOf, Builtin.firstCells]
      · simp [Builtin.append_, run_underlying Try.underlying28, sizeOf, typeInfo, hi, Builtin.lenOf, Builtin.firstCells, hnc, storeCells]
    unfold Oper.wp execOp
    simp only [ho, resolve, invoke, builtin, Sem.run_bind, Sem.run_pure, Result.andThen_ok, List.map_toArray, List.map_cons, List.map_nil, hs, hx', hr]
    exact hK _ _ (h v' w' q1 q2 q3)
  · obtain ⟨ad, rfl⟩ : ∃ ad, av = some ad := by cases av with | none => exact absurd rfl hav | some ad => exact ⟨ad, rfl⟩
    refine wpList_append_own_at w hgd s x 28 ho base 38 i0 (.agg #[.int .i64 0, .int .i64 0, .int .i64 0, .int .i64 0, .int .i64 0]) 5 40 Try.underlying28 hi hz0 hz1 hz2 rfl (by decide) v l0.length (l0.flatMap doC) hs hown ad ls.length cap (ls.flatMap doC) hx (fm_len doC_len ls) ?_ doC_one ?_ ?_ hbase ?_
    · rcases h3 with rfl | ⟨b, off, e, h4⟩
      · intro j u hu; simp at hu
      · cases e
        exact fm_news doC_len h4
    · unfold maxLen; omega
    · omega
    · intro v' w' g1 g2 g3 g4
      refine h v' w' ?_ g2 g4
      rw [Og, List.flatMap_append, List.length_append]; exact g1
theorem Rg.oneDo {W : World} {X : Nat} {x : Do} (h : Blk W X #[.int .i64 x.1, .int .i64 x.2.1, .int .i64 x.2.2.1, .int .i64 x.2.2.2.1, .int .i64 x.2.2.2.2] 38) : Rg 5 doC W (.slice (some ⟨X, 0, none⟩) 1 1) [x] := by
  refine ⟨_, _, rfl, Nat.le_refl _, by simp [maxLen], .inr ⟨X, 0, rfl, fun i hi => ?_⟩⟩
  have h0 : i = 0 := by simpa using hi
  subst h0
  intro j u hu
  have := h.cell j
  simp at hu ⊢
  rw [this]
  simpa using hu
def DoR (g : Nat) (cv : Value) (zs : List Int) (n : Int) (w : World) (e : Ending) (w' : World) : Prop := ∃ v os, e = .returned v ∧ Og 5 doC 38 w.heap.size w' v os ∧ (os.length : Int) ≤ max n 0 ∧ Dr w' g cv zs ∧ w.grownBy w' (some g)
set_option maxHeartbeats 25600000 in
theorem drawOps_c (g : Nat) (cv : Value) (zs : List Int) (now ag n : Int) (w : World) (h : Dr w g cv zs) (ha : ag ≤ 1099511627776) (hn : n ≤ 1000000) : Calls Try.prog 39 #[.pointer (some ⟨g, 0, none⟩), .int .i64 now, .int .i64 ag, .int .i64 n] w (DoR g cv zs n w) := by
  have ba : Below w.heap.size w (w.alloc (Obj.cells #[] 38)) := (Below.refl _ _).alloc (Nat.le_refl _) _
  have o0 : Og 5 doC 38 w.heap.size (w.alloc (Obj.cells #[] 38)) (.slice (some ⟨w.heap.size, 0, none⟩) 0 0) [] := World.ownsRow_lit w #[] 0 (Nat.le_refl _) (by simp) (by simp)
  have D0 := (Dc.start h).below ba
  obtain ⟨P, hP⟩ : ∃ P, w.heap.size = P := ⟨_, rfl⟩
  have HP : Hid (w.heap.size = P) := hP
  obtain ⟨W0, hW0⟩ : ∃ W, w.alloc (Obj.cells #[] 38) = W := ⟨_, rfl⟩
  rw [hW0] at D0 o0
  rw [hP] at o0
  have D_W0 : Hid (Dc w W0 g cv zs) := D0
  have O_W0 : Hid (Og 5 doC 38 P W0 (.slice (some ⟨P, 0, none⟩) 0 0) []) := o0
  clear ba o0 D0 h
  go_enter Try.func39, Try.ntmps39
  go_wp2
  go_loopw [1, 9, 10] (fun nw v i wr => ∃ (j : Nat) (t : Int) (os : List Do), i = .int .i64 j ∧ nw = .int .i64 t ∧ os.length = j ∧ ((j : Int) ≤ n ∨ j = 0) ∧ Hid (Og 5 doC 38 P wr v os ∧ Dc w wr g cv zs)) (fun _ _ i _ => (n - intOf i).toNat)
  case atStart => exact ⟨0, now, [], rfl, rfl, rfl, .inr rfl, O_W0.out, D_W0.out⟩
  case round =>
    obtain ⟨j, t, os, rfl, rfl, hlen, hj, hh⟩ := hrel
    clear D_W0 O_W0 hW0
    obtain ⟨oa, oc, rfl⟩ := hh.out.1.form
    rw [hlen] at hh ⊢
    have HLN : Hid (os.length = j) := hlen
    clear hlen
    have D_wr : Hid (Dc w wr g cv zs) := hh.out.2
    have O_wr : Hid (Og 5 doC 38 P wr (.slice oa j oc) os) := hh.out.1
    clear hh
    by_cases hlt : (j : Int) < n
    case neg =>
      have hltF : ((j : Int) < n) = False := eq_false hlt
      go_wp2
      go_ret
      exact ⟨_, os, rfl, by rw [HP.out]; exact O_wr.out, by rw [HLN.out]; omega, D_wr.out.dr, D_wr.out.gr⟩
    case pos =>
    have hjb : j ≤ 1000000 := by omega
    have HJB : Hid (j ≤ 1000000) := hjb
    go_wp2_with (fail)
    refine (below_c g cv zs 4 _ D_wr.out.dr (by omega)).mono ?_
    rintro e w1 ⟨y, rfl, hy0, hy1, hy2, d1, g1⟩
    have D_w1 : Hid (Dc w w1 g cv zs) := D_wr.out.draw d1 g1
    have O_w1 : Hid (Og 5 doC 38 P w1 (.slice oa j oc) os) := O_wr.out.draw g1 (by have := D_wr.out.lt; have := HP.out; omega)
    clear d1 g1 D_wr O_wr
    clear hy0 hy1 hy2
    have ba : Below w1.heap.size w1 (w1.alloc (Obj.cells #[.int .i64 1, .int .i64 1, .int .i64 1, .int .i64 1, .int .i64 2, .int .i64 3, .int .i64 3, .int .i64 4] 3)) := (Below.refl _ _).alloc (Nat.le_refl _) _
    have lr : Rd .i64 (w1.alloc (Obj.cells #[.int .i64 1, .int .i64 1, .int .i64 1, .int .i64 1, .int .i64 2, .int .i64 3, .int .i64 3, .int .i64 4] 3)) (.slice (some ⟨w1.heap.size, 0, none⟩) 8 8) [1, 1, 1, 1, 2, 3, 3, 4] := Rd.lit w1 [1, 1, 1, 1, 2, 3, 3, 4] (by decide)
    have hgl : g < w1.heap.size := D_w1.out.dr.lt
    obtain ⟨W2, hW2⟩ : ∃ W, w1.alloc (Obj.cells #[.int .i64 1, .int .i64 1, .int .i64 1, .int .i64 1, .int .i64 2, .int .i64 3, .int .i64 3, .int .i64 4] 3) = W := ⟨_, rfl⟩
    obtain ⟨qW2, hqW2⟩ : ∃ X, w1.heap.size = X := ⟨_, rfl⟩
    rw [hW2] at ba lr
    rw [hqW2] at lr hgl
    have LR : Hid (Rd .i64 W2 (.slice (some ⟨qW2, 0, none⟩) 8 8) [1, 1, 1, 1, 2, 3, 3, 4]) := lr
    have LN : Hid (g < qW2) := hgl
    have D_W2 : Hid (Dc w W2 g cv zs) := D_w1.out.below ba
    have O_W2 : Hid (Og 5 doC 38 P W2 (.slice oa j oc) os) := O_w1.out.below ba
    clear ba lr hgl D_w1 O_w1
    go_wp2_with (fail)
    refine (pickInt_c g cv zs (.slice (some ⟨qW2, 0, none⟩) 8 8) [1, 1, 1, 1, 2, 3, 3, 4] _ D_W2.out.dr LR.out (.inr (by have := LN.out; simp [Value.ownBlock]; omega)) (by decide) (by decide)).mono ?_
    rintro e w3 ⟨kd, rfl, d1, g1⟩
    have D_w3 : Hid (Dc w w3 g cv zs) := D_W2.out.draw d1 g1
    have O_w3 : Hid (Og 5 doC 38 P w3 (.slice oa j oc) os) := O_W2.out.draw g1 (by have := D_W2.out.lt; have := HP.out; omega)
    clear d1 g1 D_W2 O_W2 hW2 hqW2 LR LN
    have hgx : g < w3.heap.size := D_w3.out.dr.lt
    have hox : ∀ q, (Value.slice oa j oc).ownBlock = some q → q < w3.heap.size := fun q e => (Og.lt O_w3.out q e).2
    have hpx : w.heap.size ≤ w3.heap.size := D_w3.out.gr.size
    have ba : Below w3.heap.size w3 (w3.alloc (Obj.cells ((#[.int .i64 kd, .int .i64 (wrap64 (t + y)), .int .i64 0, .int .i64 0, .int .i64 0] : Array Value)) 38)) := (Below.refl _ _).alloc (Nat.le_refl _) _
    have kb : Blk (w3.alloc (Obj.cells ((#[.int .i64 kd, .int .i64 (wrap64 (t + y)), .int .i64 0, .int .i64 0, .int .i64 0] : Array Value)) 38)) w3.heap.size ((#[.int .i64 kd, .int .i64 (wrap64 (t + y)), .int .i64 0, .int .i64 0, .int .i64 0] : Array Value)) 38 := Blk.new _ _ _
    obtain ⟨X4, hX4⟩ : ∃ X, w3.heap.size = X := ⟨_, rfl⟩
    obtain ⟨W4, hW4⟩ : ∃ W, w3.alloc (Obj.cells ((#[.int .i64 kd, .int .i64 (wrap64 (t + y)), .int .i64 0, .int .i64 0, .int .i64 0] : Array Value)) 38) = W := ⟨_, rfl⟩
    rw [hW4] at ba kb
    rw [hX4] at kb
    have D_W4 : Hid (Dc w W4 g cv zs) := D_w3.out.below ba
    have O_W4 : Hid (Og 5 doC 38 P W4 (.slice oa j oc) os) := O_w3.out.below ba
    have T_W4 : Hid (Blk W4 X4 ((#[.int .i64 kd, .int .i64 (wrap64 (t + y)), .int .i64 0, .int .i64 0, .int .i64 0] : Array Value)) 38) := kb
    clear ba kb D_w3 O_w3
    have HWW4 : Hid (_ = W4) := hW4
    have HXX4 : Hid (_ = X4) := hX4
    clear hW4
    have NET : Hid (X4 ≠ g) := by show X4 ≠ g; omega
    have HXP : Hid (w.heap.size ≤ X4) := by show _ ≤ _; omega
    have HAX : Hid (∀ q, (Value.slice oa j oc).ownBlock = some q → q ≠ X4) := fun q e => by have := hox q e; omega
    clear hgx hox hpx hX4
    have c0 := T_W4.out.cell 0
    simp at c0
    by_cases hk1 : kd = 1
    · subst hk1
      go_wp2_with (fail)
      rw [HWW4.out, HXX4.out]
      refine (below_c g cv zs 30 _ D_W4.out.dr (by omega)).mono ?_
      rintro e w5 ⟨a1, rfl, ha10, ha11, ha12, d1, g1⟩
      have D_w5 : Hid (Dc w w5 g cv zs) := D_W4.out.draw d1 g1
      have O_w5 : Hid (Og 5 doC 38 P w5 (.slice oa j oc) os) := O_W4.out.draw g1 (by have := D_W4.out.lt; have := HP.out; omega)
      have T_w5 : Hid (Blk w5 X4 #[.int .i64 1, .int .i64 (wrap64 (t + y)), .int .i64 0, .int .i64 0, .int .i64 0] 38) := T_W4.out.grown g1 (by have := NET.out; simpa using this)
      clear d1 g1 D_W4 O_W4 T_W4 c0
      have tc := T_w5.out.cell 2
      have tfz := T_w5.out.frozen 2
      simp at tc
      have gs : w5.grownBy (w5.setCell ⟨X4, 2, none⟩ (.int .i64 (a1))) (some X4) := grown_set' _ _ _ _
      have dn : Dc w (w5.setCell ⟨X4, 2, none⟩ (.int .i64 (a1))) g cv zs := D_w5.out.app (fun k e => by cases e; exact HXP.out) gs
      have on : Og 5 doC 38 P (w5.setCell ⟨X4, 2, none⟩ (.int .i64 (a1))) (.slice oa j oc) os := World.ownsRow.kept O_w5.out gs (.inr (fun e => HAX.out X4 e rfl))
      have tn : Blk (w5.setCell ⟨X4, 2, none⟩ (.int .i64 (a1))) X4 #[.int .i64 1, .int .i64 (wrap64 (t + y)), .int .i64 (a1), .int .i64 0, .int .i64 0] 38 := T_w5.out.set 2 _
      obtain ⟨W6, hW6⟩ : ∃ W, w5.setCell ⟨X4, 2, none⟩ (.int .i64 (a1)) = W := ⟨_, rfl⟩
      rw [hW6] at dn on tn
      have D_W6 : Hid (Dc w W6 g cv zs) := dn
      have O_W6 : Hid (Og 5 doC 38 P W6 (.slice oa j oc) os) := on
      have T_W6 : Hid (Blk W6 X4 #[.int .i64 1, .int .i64 (wrap64 (t + y)), .int .i64 (a1), .int .i64 0, .int .i64 0] 38) := tn
      clear gs dn on tn D_w5 O_w5 T_w5
      have ba : Below W6.heap.size W6 (W6.alloc (Obj.cells #[.int .i64 1, .int .i64 2, .int .i64 4, .int .i64 1, .int .i64 2] 3)) := (Below.refl _ _).alloc (Nat.le_refl _) _
      have lr : Rd .i64 (W6.alloc (Obj.cells #[.int .i64 1, .int .i64 2, .int .i64 4, .int .i64 1, .int .i64 2] 3)) (.slice (some ⟨W6.heap.size, 0, none⟩) 5 5) [1, 2, 4, 1, 2] := Rd.lit W6 [1, 2, 4, 1, 2] (by decide)
      have hgl : g < W6.heap.size := D_W6.out.dr.lt
      obtain ⟨W7, hW7⟩ : ∃ W, W6.alloc (Obj.cells #[.int .i64 1, .int .i64 2, .int .i64 4, .int .i64 1, .int .i64 2] 3) = W := ⟨_, rfl⟩
      obtain ⟨qW7, hqW7⟩ : ∃ X, W6.heap.size = X := ⟨_, rfl⟩
      rw [hW7] at ba lr
      rw [hqW7] at lr hgl
      have LR : Hid (Rd .i64 W7 (.slice (some ⟨qW7, 0, none⟩) 5 5) [1, 2, 4, 1, 2]) := lr
      have LN : Hid (g < qW7) := hgl
      have D_W7 : Hid (Dc w W7 g cv zs) := D_W6.out.below ba
      have O_W7 : Hid (Og 5 doC 38 P W7 (.slice oa j oc) os) := O_W6.out.below ba
      have T_W7 : Hid (Blk W7 X4 #[.int .i64 1, .int .i64 (wrap64 (t + y)), .int .i64 (a1), .int .i64 0, .int .i64 0] 38) := T_W6.out.below ba T_W6.out.lt
      clear ba lr hgl D_W6 O_W6 T_W6
      go_wp2_with (fail)
      refine (pickInt_c g cv zs (.slice (some ⟨qW7, 0, none⟩) 5 5) [1, 2, 4, 1, 2] _ D_W7.out.dr LR.out (.inr (by have := LN.out; simp [Value.ownBlock]; omega)) (by decide) (by decide)).mono ?_
      rintro e w8 ⟨a2, rfl, d1, g1⟩
      have D_w8 : Hid (Dc w w8 g cv zs) := D_W7.out.draw d1 g1
      have O_w8 : Hid (Og 5 doC 38 P w8 (.slice oa j oc) os) := O_W7.out.draw g1 (by have := D_W7.out.lt; have := HP.out; omega)
      have T_w8 : Hid (Blk w8 X4 #[.int .i64 1, .int .i64 (wrap64 (t + y)), .int .i64 (a1), .int .i64 0, .int .i64 0] 38) := T_W7.out.grown g1 (by have := NET.out; simpa using this)
      clear d1 g1 D_W7 O_W7 T_W7 tc tfz hW6 hW7 hqW7 LR LN
      have tc := T_w8.out.cell 3
      have tfz := T_w8.out.frozen 3
      simp at tc
      have gs : w8.grownBy (w8.setCell ⟨X4, 3, none⟩ (.int .i64 (a2))) (some X4) := grown_set' _ _ _ _
      have dn : Dc w (w8.setCell ⟨X4, 3, none⟩ (.int .i64 (a2))) g cv zs := D_w8.out.app (fun k e => by cases e; exact HXP.out) gs
      have on : Og 5 doC 38 P (w8.setCell ⟨X4, 3, none⟩ (.int .i64 (a2))) (.slice oa j oc) os := World.ownsRow.kept O_w8.out gs (.inr (fun e => HAX.out X4 e rfl))
      have tn : Blk (w8.setCell ⟨X4, 3, none⟩ (.int .i64 (a2))) X4 #[.int .i64 1, .int .i64 (wrap64 (t + y)), .int .i64 (a1), .int .i64 (a2), .int .i64 0] 38 := T_w8.out.set 3 _
      obtain ⟨W9, hW9⟩ : ∃ W, w8.setCell ⟨X4, 3, none⟩ (.int .i64 (a2)) = W := ⟨_, rfl⟩
      rw [hW9] at dn on tn
      have D_W9 : Hid (Dc w W9 g cv zs) := dn
      have O_W9 : Hid (Og 5 doC 38 P W9 (.slice oa j oc) os) := on
      have T_W9 : Hid (Blk W9 X4 #[.int .i64 1, .int .i64 (wrap64 (t + y)), .int .i64 (a1), .int .i64 (a2), .int .i64 0] 38) := tn
      clear gs dn on tn D_w8 O_w8 T_w8
      go_wp2_with (fail)
      refine (below_c g cv zs 3 _ D_W9.out.dr (by omega)).mono ?_
      rintro e w10 ⟨a3, rfl, ha30, ha31, ha32, d1, g1⟩
      have D_w10 : Hid (Dc w w10 g cv zs) := D_W9.out.draw d1 g1
      have O_w10 : Hid (Og 5 doC 38 P w10 (.slice oa j oc) os) := O_W9.out.draw g1 (by have := D_W9.out.lt; have := HP.out; omega)
      have T_w10 : Hid (Blk w10 X4 #[.int .i64 1, .int .i64 (wrap64 (t + y)), .int .i64 (a1), .int .i64 (a2), .int .i64 0] 38) := T_W9.out.grown g1 (by have := NET.out; simpa using this)
      clear d1 g1 D_W9 O_W9 T_W9 tc tfz hW9
      have tc := T_w10.out.cell 4
      have tfz := T_w10.out.frozen 4
      simp at tc
      have gs : w10.grownBy (w10.setCell ⟨X4, 4, none⟩ (.int .i64 (a3))) (some X4) := grown_set' _ _ _ _
      have dn : Dc w (w10.setCell ⟨X4, 4, none⟩ (.int .i64 (a3))) g cv zs := D_w10.out.app (fun k e => by cases e; exact HXP.out) gs
      have on : Og 5 doC 38 P (w10.setCell ⟨X4, 4, none⟩ (.int .i64 (a3))) (.slice oa j oc) os := World.ownsRow.kept O_w10.out gs (.inr (fun e => HAX.out X4 e rfl))
      have tn : Blk (w10.setCell ⟨X4, 4, none⟩ (.int .i64 (a3))) X4 #[.int .i64 1, .int .i64 (wrap64 (t + y)), .int .i64 (a1), .int .i64 (a2), .int .i64 (a3)] 38 := T_w10.out.set 4 _
      obtain ⟨W11, hW11⟩ : ∃ W, w10.setCell ⟨X4, 4, none⟩ (.int .i64 (a3)) = W := ⟨_, rfl⟩
      rw [hW11] at dn on tn
      have D_W11 : Hid (Dc w W11 g cv zs) := dn
      have O_W11 : Hid (Og 5 doC 38 P W11 (.slice oa j oc) os) := on
      have T_W11 : Hid (Blk W11 X4 #[.int .i64 1, .int .i64 (wrap64 (t + y)), .int .i64 (a1), .int .i64 (a2), .int .i64 (a3)] 38) := tn
      clear gs dn on tn D_w10 O_w10 T_w10
      go_wp2_with (fail)
      refine (once_c g cv zs 40 _ D_W11.out.dr (by omega)).mono ?_
      rintro e w12 ⟨r, rfl, d1, g1⟩
      have D_w12 : Hid (Dc w w12 g cv zs) := D_W11.out.draw d1 g1
      have O_w12 : Hid (Og 5 doC 38 P w12 (.slice oa j oc) os) := O_W11.out.draw g1 (by have := D_W11.out.lt; have := HP.out; omega)
      have T_w12 : Hid (Blk w12 X4 #[.int .i64 1, .int .i64 (wrap64 (t + y)), .int .i64 (a1), .int .i64 (a2), .int .i64 (a3)] 38) := T_W11.out.grown g1 (by have := NET.out; simpa using this)
      clear d1 g1 D_W11 O_W11 T_W11 tc tfz hW11
      cases r with
      | false =>
        have c0 := T_w12.out.cell 0
        have c1 := T_w12.out.cell 1
        have c2 := T_w12.out.cell 2
        have c3 := T_w12.out.cell 3
        have c4 := T_w12.out.cell 4
        simp at c0 c1 c2 c3 c4
        have ba : Below w12.heap.size w12 (w12.alloc (Obj.cells #[.int .i64 1, .int .i64 (wrap64 (t + y)), .int .i64 (a1), .int .i64 (a2), .int .i64 (a3)] 38)) := (Below.refl _ _).alloc (Nat.le_refl _) _
        have HR7 : Hid (Rg 5 doC (w12.alloc (Obj.cells #[.int .i64 1, .int .i64 (wrap64 (t + y)), .int .i64 (a1), .int .i64 (a2), .int .i64 (a3)] 38)) (.slice (some ⟨w12.heap.size, 0, none⟩) 1 1) [(1, (wrap64 (t + y)), (a1), (a2), (a3))]) := Rg.oneDo (Blk.new _ _ _)
        have HO7 : Hid (Og 5 doC 38 P (w12.alloc (Obj.cells #[.int .i64 1, .int .i64 (wrap64 (t + y)), .int .i64 (a1), .int .i64 (a2), .int .i64 (a3)] 38)) (.slice oa j oc) os ∧ Dc w (w12.alloc (Obj.cells #[.int .i64 1, .int .i64 (wrap64 (t + y)), .int .i64 (a1), .int .i64 (a2), .int .i64 (a3)] 38)) g cv zs) := ⟨O_w12.out.below ba, D_w12.out.below ba⟩
        have HB7 : Hid (P ≤ (w12.alloc (Obj.cells #[.int .i64 1, .int .i64 (wrap64 (t + y)), .int .i64 (a1), .int .i64 (a2), .int .i64 (a3)] 38)).heap.size) := by rw [Hid, ← HP.out]; exact HO7.out.2.gr.size
        clear ba D_w12 O_w12 T_w12
        go_wp2_with (at_builtin; refine appDo rfl _ _ rfl P _ os rfl HO7.out.1 _ [(1, (wrap64 (t + y)), (a1), (a2), (a3))] rfl HR7.out (by have := HLN.out; have := HJB.out; simp; omega) HB7.out ?_)
        intro v' w8 ho hg hv
        have HF : Hid (Og 5 doC 38 P w8 v' (os ++ [(1, (wrap64 (t + y)), (a1), (a2), (a3))]) ∧ Dc w w8 g cv zs) := ⟨ho, HO7.out.2.app (fun k e => by rw [HP.out]; exact (Og.lt HO7.out.1 k e).1) hg⟩
        clear ho hg hv HO7 HR7 HB7 c0 c1 c2 c3 c4
        go_wp2
        go_roundw
        case rel => exact ⟨j + 1, _, os ++ [(1, (wrap64 (t + y)), (a1), (a2), (a3))], by go_num, rfl, by simp [HLN.out], .inl (by omega), HF.out⟩
        case measure => simp [intOf]; omega
      | true =>
        go_wp2_with (fail)
        refine (below_c g cv zs 7 _ D_w12.out.dr (by omega)).mono ?_
        rintro e w13 ⟨y1, rfl, hy10, hy11, hy12, d1, g1⟩
        have D_w13 : Hid (Dc w w13 g cv zs) := D_w12.out.draw d1 g1
        have O_w13 : Hid (Og 5 doC 38 P w13 (.slice oa j oc) os) := O_w12.out.draw g1 (by have := D_w12.out.lt; have := HP.out; omega)
        have T_w13 : Hid (Blk w13 X4 #[.int .i64 1, .int .i64 (wrap64 (t + y)), .int .i64 (a1), .int .i64 (a2), .int .i64 (a3)] 38) := T_w12.out.grown g1 (by have := NET.out; simpa using this)
        clear d1 g1 D_w12 O_w12 T_w12
        go_wp2_with (fail)
        refine (below_c g cv zs 3 _ D_w13.out.dr (by omega)).mono ?_
        rintro e w14 ⟨y2, rfl, hy20, hy21, hy22, d1, g1⟩
        have D_w14 : Hid (Dc w w14 g cv zs) := D_w13.out.draw d1 g1
        have O_w14 : Hid (Og 5 doC 38 P w14 (.slice oa j oc) os) := O_w13.out.draw g1 (by have := D_w13.out.lt; have := HP.out; omega)
        have T_w14 : Hid (Blk w14 X4 #[.int .i64 1, .int .i64 (wrap64 (t + y)), .int .i64 (a1), .int .i64 (a2), .int .i64 (a3)] 38) := T_w13.out.grown g1 (by have := NET.out; simpa using this)
        clear d1 g1 D_w13 O_w13 T_w13
        go_wp2_with (fail)
        refine (below_c g cv zs 9 _ D_w14.out.dr (by omega)).mono ?_
        rintro e w15 ⟨y3, rfl, hy30, hy31, hy32, d1, g1⟩
        have D_w15 : Hid (Dc w w15 g cv zs) := D_w14.out.draw d1 g1
        have O_w15 : Hid (Og 5 doC 38 P w15 (.slice oa j oc) os) := O_w14.out.draw g1 (by have := D_w14.out.lt; have := HP.out; omega)
        have T_w15 : Hid (Blk w15 X4 #[.int .i64 1, .int .i64 (wrap64 (t + y)), .int .i64 (a1), .int .i64 (a2), .int .i64 (a3)] 38) := T_w14.out.grown g1 (by have := NET.out; simpa using this)
        clear d1 g1 D_w14 O_w14 T_w14
        have hy1b := hy11 (by omega)
        have hy2b := hy21 (by omega)
        have hy3b := hy31 (by omega)
        clear hy12 hy22 hy32 hy11 hy21 hy31
        have ba : Below w15.heap.size w15 (w15.alloc (Obj.cells #[.int .i64 0, .int .i64 3, .int .i64 128, .int .i64 256, .int .i64 (-1)] 3)) := (Below.refl _ _).alloc (Nat.le_refl _) _
        have lr : Rd .i64 (w15.alloc (Obj.cells #[.int .i64 0, .int .i64 3, .int .i64 128, .int .i64 256, .int .i64 (-1)] 3)) (.slice (some ⟨w15.heap.size, 0, none⟩) 5 5) [0, 3, 128, 256, -1] := Rd.lit w15 [0, 3, 128, 256, -1] (by decide)
        have hgl : g < w15.heap.size := D_w15.out.dr.lt
        obtain ⟨W16, hW16⟩ : ∃ W, w15.alloc (Obj.cells #[.int .i64 0, .int .i64 3, .int .i64 128, .int .i64 256, .int .i64 (-1)] 3) = W := ⟨_, rfl⟩
        obtain ⟨qW16, hqW16⟩ : ∃ X, w15.heap.size = X := ⟨_, rfl⟩
        rw [hW16] at ba lr
        rw [hqW16] at lr hgl
        have LR : Hid (Rd .i64 W16 (.slice (some ⟨qW16, 0, none⟩) 5 5) [0, 3, 128, 256, -1]) := lr
        have LN : Hid (g < qW16) := hgl
        have D_W16 : Hid (Dc w W16 g cv zs) := D_w15.out.below ba
        have O_W16 : Hid (Og 5 doC 38 P W16 (.slice oa j oc) os) := O_w15.out.below ba
        have T_W16 : Hid (Blk W16 X4 #[.int .i64 1, .int .i64 (wrap64 (t + y)), .int .i64 (a1), .int .i64 (a2), .int .i64 (a3)] 38) := T_w15.out.below ba T_w15.out.lt
        clear ba lr hgl D_w15 O_w15 T_w15
        go_wp2_with (fail)
        refine (pickInt_c g cv zs (.slice (some ⟨qW16, 0, none⟩) 5 5) [0, 3, 128, 256, -1] _ D_W16.out.dr LR.out (.inr (by have := LN.out; simp [Value.ownBlock]; omega)) (by decide) (by decide)).mono ?_
        rintro e w17 ⟨y4, rfl, d1, g1⟩
        have D_w17 : Hid (Dc w w17 g cv zs) := D_W16.out.draw d1 g1
        have O_w17 : Hid (Og 5 doC 38 P w17 (.slice oa j oc) os) := O_W16.out.draw g1 (by have := D_W16.out.lt; have := HP.out; omega)
        have T_w17 : Hid (Blk w17 X4 #[.int .i64 1, .int .i64 (wrap64 (t + y)), .int .i64 (a1), .int .i64 (a2), .int .i64 (a3)] 38) := T_W16.out.grown g1 (by have := NET.out; simpa using this)
        clear d1 g1 D_W16 O_W16 T_W16 hW16 hqW16 LR LN
        have ba : Below w17.heap.size w17 (w17.alloc (Obj.cells #[.int .i64 0, .int .i64 9, .int .i64 10, .int .i64 (-1)] 3)) := (Below.refl _ _).alloc (Nat.le_refl _) _
        have lr : Rd .i64 (w17.alloc (Obj.cells #[.int .i64 0, .int .i64 9, .int .i64 10, .int .i64 (-1)] 3)) (.slice (some ⟨w17.heap.size, 0, none⟩) 4 4) [0, 9, 10, -1] := Rd.lit w17 [0, 9, 10, -1] (by decide)
        have hgl : g < w17.heap.size := D_w17.out.dr.lt
        obtain ⟨W18, hW18⟩ : ∃ W, w17.alloc (Obj.cells #[.int .i64 0, .int .i64 9, .int .i64 10, .int .i64 (-1)] 3) = W := ⟨_, rfl⟩
        obtain ⟨qW18, hqW18⟩ : ∃ X, w17.heap.size = X := ⟨_, rfl⟩
        rw [hW18] at ba lr
        rw [hqW18] at lr hgl
        have LR : Hid (Rd .i64 W18 (.slice (some ⟨qW18, 0, none⟩) 4 4) [0, 9, 10, -1]) := lr
        have LN : Hid (g < qW18) := hgl
        have D_W18 : Hid (Dc w W18 g cv zs) := D_w17.out.below ba
        have O_W18 : Hid (Og 5 doC 38 P W18 (.slice oa j oc) os) := O_w17.out.below ba
        have T_W18 : Hid (Blk W18 X4 #[.int .i64 1, .int .i64 (wrap64 (t + y)), .int .i64 (a1), .int .i64 (a2), .int .i64 (a3)] 38) := T_w17.out.below ba T_w17.out.lt
        clear ba lr hgl D_w17 O_w17 T_w17
        go_wp2_with (fail)
        refine (pickInt_c g cv zs (.slice (some ⟨qW18, 0, none⟩) 4 4) [0, 9, 10, -1] _ D_W18.out.dr LR.out (.inr (by have := LN.out; simp [Value.ownBlock]; omega)) (by decide) (by decide)).mono ?_
        rintro e w19 ⟨y5, rfl, d1, g1⟩
        have D_w19 : Hid (Dc w w19 g cv zs) := D_W18.out.draw d1 g1
        have O_w19 : Hid (Og 5 doC 38 P w19 (.slice oa j oc) os) := O_W18.out.draw g1 (by have := D_W18.out.lt; have := HP.out; omega)
        have T_w19 : Hid (Blk w19 X4 #[.int .i64 1, .int .i64 (wrap64 (t + y)), .int .i64 (a1), .int .i64 (a2), .int .i64 (a3)] 38) := T_W18.out.grown g1 (by have := NET.out; simpa using this)
        clear d1 g1 D_W18 O_W18 T_W18 hW18 hqW18 LR LN
        have s0 := T_w19.out.cell 0
        have sf0 := T_w19.out.frozen 0
        have s1 := T_w19.out.cell 1
        have sf1 := T_w19.out.frozen 1
        have s2 := T_w19.out.cell 2
        have sf2 := T_w19.out.frozen 2
        have s3 := T_w19.out.cell 3
        have sf3 := T_w19.out.frozen 3
        have s4 := T_w19.out.cell 4
        have sf4 := T_w19.out.frozen 4
        simp at s0 s1 s2 s3 s4
        have gs : w19.grownBy (((((w19.setCell ⟨X4, 0, none⟩ (.int .i64 (y1 - 1))).setCell ⟨X4, 1, none⟩ (.int .i64 (wrap64 (wrap64 (t + y) - y2)))).setCell ⟨X4, 2, none⟩ (.int .i64 (y3 - 1))).setCell ⟨X4, 3, none⟩ (.int .i64 (y4))).setCell ⟨X4, 4, none⟩ (.int .i64 (y5))) (some X4) := grown_trans (grown_trans (grown_trans (grown_trans (grown_set' _ _ _ _) (grown_set' _ _ _ _)) (grown_set' _ _ _ _)) (grown_set' _ _ _ _)) (grown_set' _ _ _ _)
        have dn : Dc w (((((w19.setCell ⟨X4, 0, none⟩ (.int .i64 (y1 - 1))).setCell ⟨X4, 1, none⟩ (.int .i64 (wrap64 (wrap64 (t + y) - y2)))).setCell ⟨X4, 2, none⟩ (.int .i64 (y3 - 1))).setCell ⟨X4, 3, none⟩ (.int .i64 (y4))).setCell ⟨X4, 4, none⟩ (.int .i64 (y5))) g cv zs := D_w19.out.app (fun k e => by cases e; exact HXP.out) gs
        have on : Og 5 doC 38 P (((((w19.setCell ⟨X4, 0, none⟩ (.int .i64 (y1 - 1))).setCell ⟨X4, 1, none⟩ (.int .i64 (wrap64 (wrap64 (t + y) - y2)))).setCell ⟨X4, 2, none⟩ (.int .i64 (y3 - 1))).setCell ⟨X4, 3, none⟩ (.int .i64 (y4))).setCell ⟨X4, 4, none⟩ (.int .i64 (y5))) (.slice oa j oc) os := World.ownsRow.kept O_w19.out gs (.inr (fun e => HAX.out X4 e rfl))
        have tn : Blk (((((w19.setCell ⟨X4, 0, none⟩ (.int .i64 (y1 - 1))).setCell ⟨X4, 1, none⟩ (.int .i64 (wrap64 (wrap64 (t + y) - y2)))).setCell ⟨X4, 2, none⟩ (.int .i64 (y3 - 1))).setCell ⟨X4, 3, none⟩ (.int .i64 (y4))).setCell ⟨X4, 4, none⟩ (.int .i64 (y5))) X4 #[.int .i64 (y1 - 1), .int .i64 (wrap64 (wrap64 (t + y) - y2)), .int .i64 (y3 - 1), .int .i64 (y4), .int .i64 (y5)] 38 := ((((T_w19.out.set 0 _).set 1 _).set 2 _).set 3 _).set 4 _
        obtain ⟨WS, hWS⟩ : ∃ W, (((((w19.setCell ⟨X4, 0, none⟩ (.int .i64 (y1 - 1))).setCell ⟨X4, 1, none⟩ (.int .i64 (wrap64 (wrap64 (t + y) - y2)))).setCell ⟨X4, 2, none⟩ (.int .i64 (y3 - 1))).setCell ⟨X4, 3, none⟩ (.int .i64 (y4))).setCell ⟨X4, 4, none⟩ (.int .i64 (y5))) = W := ⟨_, rfl⟩
        rw [hWS] at dn on tn
        have D_WS : Hid (Dc w WS g cv zs) := dn
        have O_WS : Hid (Og 5 doC 38 P WS (.slice oa j oc) os) := on
        have T_WS : Hid (Blk WS X4 #[.int .i64 (y1 - 1), .int .i64 (wrap64 (wrap64 (t + y) - y2)), .int .i64 (y3 - 1), .int .i64 (y4), .int .i64 (y5)] 38) := tn
        clear gs dn on tn D_w19 O_w19 T_w19
        have c0 := T_WS.out.cell 0
        have c1 := T_WS.out.cell 1
        have c2 := T_WS.out.cell 2
        have c3 := T_WS.out.cell 3
        have c4 := T_WS.out.cell 4
        simp at c0 c1 c2 c3 c4
        have ba : Below WS.heap.size WS (WS.alloc (Obj.cells #[.int .i64 (y1 - 1), .int .i64 (wrap64 (wrap64 (t + y) - y2)), .int .i64 (y3 - 1), .int .i64 (y4), .int .i64 (y5)] 38)) := (Below.refl _ _).alloc (Nat.le_refl _) _
        have HR7 : Hid (Rg 5 doC (WS.alloc (Obj.cells #[.int .i64 (y1 - 1), .int .i64 (wrap64 (wrap64 (t + y) - y2)), .int .i64 (y3 - 1), .int .i64 (y4), .int .i64 (y5)] 38)) (.slice (some ⟨WS.heap.size, 0, none⟩) 1 1) [((y1 - 1), (wrap64 (wrap64 (t + y) - y2)), (y3 - 1), (y4), (y5))]) := Rg.oneDo (Blk.new _ _ _)
        have HO7 : Hid (Og 5 doC 38 P (WS.alloc (Obj.cells #[.int .i64 (y1 - 1), .int .i64 (wrap64 (wrap64 (t + y) - y2)), .int .i64 (y3 - 1), .int .i64 (y4), .int .i64 (y5)] 38)) (.slice oa j oc) os ∧ Dc w (WS.alloc (Obj.cells #[.int .i64 (y1 - 1), .int .i64 (wrap64 (wrap64 (t + y) - y2)), .int .i64 (y3 - 1), .int .i64 (y4), .int .i64 (y5)] 38)) g cv zs) := ⟨O_WS.out.below ba, D_WS.out.below ba⟩
        have HB7 : Hid (P ≤ (WS.alloc (Obj.cells #[.int .i64 (y1 - 1), .int .i64 (wrap64 (wrap64 (t + y) - y2)), .int .i64 (y3 - 1), .int .i64 (y4), .int .i64 (y5)] 38)).heap.size) := by rw [Hid, ← HP.out]; exact HO7.out.2.gr.size
        clear ba D_WS O_WS T_WS
        go_wp2_with (at_builtin; refine appDo rfl _ _ rfl P _ os rfl HO7.out.1 _ [((y1 - 1), (wrap64 (wrap64 (t + y) - y2)), (y3 - 1), (y4), (y5))] rfl HR7.out (by have := HLN.out; have := HJB.out; simp; omega) HB7.out ?_)
        intro v' w8 ho hg hv
        have HF : Hid (Og 5 doC 38 P w8 v' (os ++ [((y1 - 1), (wrap64 (wrap64 (t + y) - y2)), (y3 - 1), (y4), (y5))]) ∧ Dc w w8 g cv zs) := ⟨ho, HO7.out.2.app (fun k e => by rw [HP.out]; exact (Og.lt HO7.out.1 k e).1) hg⟩
        clear ho hg hv HO7 HR7 HB7 s0 s1 s2 s3 s4 sf0 sf1 sf2 sf3 sf4 hWS c0 c1 c2 c3 c4
        go_wp2
        go_roundw
        case rel => exact ⟨j + 1, _, os ++ [((y1 - 1), (wrap64 (wrap64 (t + y) - y2)), (y3 - 1), (y4), (y5))], by go_num, rfl, by simp [HLN.out], .inl (by omega), HF.out⟩
        case measure => simp [intOf]; omega
    have hb1 : (kd == 1) = false := beq_eq_false_iff_ne.2 hk1
    by_cases hk2 : kd = 2
    · subst hk2
      go_wp2_with (fail)
      rw [HWW4.out, HXX4.out]
      refine (below_c g cv zs 30 _ D_W4.out.dr (by omega)).mono ?_
      rintro e w5 ⟨a1, rfl, ha10, ha11, ha12, d1, g1⟩
      have D_w5 : Hid (Dc w w5 g cv zs) := D_W4.out.draw d1 g1
      have O_w5 : Hid (Og 5 doC 38 P w5 (.slice oa j oc) os) := O_W4.out.draw g1 (by have := D_W4.out.lt; have := HP.out; omega)
      have T_w5 : Hid (Blk w5 X4 #[.int .i64 2, .int .i64 (wrap64 (t + y)), .int .i64 0, .int .i64 0, .int .i64 0] 38) := T_W4.out.grown g1 (by have := NET.out; simpa using this)
      clear d1 g1 D_W4 O_W4 T_W4 c0
      have tc := T_w5.out.cell 2
      have tfz := T_w5.out.frozen 2
      simp at tc
      have gs : w5.grownBy (w5.setCell ⟨X4, 2, none⟩ (.int .i64 (a1))) (some X4) := grown_set' _ _ _ _
      have dn : Dc w (w5.setCell ⟨X4, 2, none⟩ (.int .i64 (a1))) g cv zs := D_w5.out.app (fun k e => by cases e; exact HXP.out) gs
      have on : Og 5 doC 38 P (w5.setCell ⟨X4, 2, none⟩ (.int .i64 (a1))) (.slice oa j oc) os := World.ownsRow.kept O_w5.out gs (.inr (fun e => HAX.out X4 e rfl))
      have tn : Blk (w5.setCell ⟨X4, 2, none⟩ (.int .i64 (a1))) X4 #[.int .i64 2, .int .i64 (wrap64 (t + y)), .int .i64 (a1), .int .i64 0, .int .i64 0] 38 := T_w5.out.set 2 _
      obtain ⟨W6, hW6⟩ : ∃ W, w5.setCell ⟨X4, 2, none⟩ (.int .i64 (a1)) = W := ⟨_, rfl⟩
      rw [hW6] at dn on tn
      have D_W6 : Hid (Dc w W6 g cv zs) := dn
      have O_W6 : Hid (Og 5 doC 38 P W6 (.slice oa j oc) os) := on
      have T_W6 : Hid (Blk W6 X4 #[.int .i64 2, .int .i64 (wrap64 (t + y)), .int .i64 (a1), .int .i64 0, .int .i64 0] 38) := tn
      clear gs dn on tn D_w5 O_w5 T_w5
      go_wp2_with (fail)
      refine (once_c g cv zs 40 _ D_W6.out.dr (by omega)).mono ?_
      rintro e w7 ⟨r, rfl, d1, g1⟩
      have D_w7 : Hid (Dc w w7 g cv zs) := D_W6.out.draw d1 g1
      have O_w7 : Hid (Og 5 doC 38 P w7 (.slice oa j oc) os) := O_W6.out.draw g1 (by have := D_W6.out.lt; have := HP.out; omega)
      have T_w7 : Hid (Blk w7 X4 #[.int .i64 2, .int .i64 (wrap64 (t + y)), .int .i64 (a1), .int .i64 0, .int .i64 0] 38) := T_W6.out.grown g1 (by have := NET.out; simpa using this)
      clear d1 g1 D_W6 O_W6 T_W6 tc tfz hW6
      cases r with
      | false =>
        have c0 := T_w7.out.cell 0
        have c1 := T_w7.out.cell 1
        have c2 := T_w7.out.cell 2
        have c3 := T_w7.out.cell 3
        have c4 := T_w7.out.cell 4
        simp at c0 c1 c2 c3 c4
        have ba : Below w7.heap.size w7 (w7.alloc (Obj.cells #[.int .i64 2, .int .i64 (wrap64 (t + y)), .int .i64 (a1), .int .i64 0, .int .i64 0] 38)) := (Below.refl _ _).alloc (Nat.le_refl _) _
        have HR7 : Hid (Rg 5 doC (w7.alloc (Obj.cells #[.int .i64 2, .int .i64 (wrap64 (t + y)), .int .i64 (a1), .int .i64 0, .int .i64 0] 38)) (.slice (some ⟨w7.heap.size, 0, none⟩) 1 1) [(2, (wrap64 (t + y)), (a1), 0, 0)]) := Rg.oneDo (Blk.new _ _ _)
        have HO7 : Hid (Og 5 doC 38 P (w7.alloc (Obj.cells #[.int .i64 2, .int .i64 (wrap64 (t + y)), .int .i64 (a1), .int .i64 0, .int .i64 0] 38)) (.slice oa j oc) os ∧ Dc w (w7.alloc (Obj.cells #[.int .i64 2, .int .i64 (wrap64 (t + y)), .int .i64 (a1), .int .i64 0, .int .i64 0] 38)) g cv zs) := ⟨O_w7.out.below ba, D_w7.out.below ba⟩
        have HB7 : Hid (P ≤ (w7.alloc (Obj.cells #[.int .i64 2, .int .i64 (wrap64 (t + y)), .int .i64 (a1), .int .i64 0, .int .i64 0] 38)).heap.size) := by rw [Hid, ← HP.out]; exact HO7.out.2.gr.size
        clear ba D_w7 O_w7 T_w7
        go_wp2_with (at_builtin; refine appDo rfl _ _ rfl P _ os rfl HO7.out.1 _ [(2, (wrap64 (t + y)), (a1), 0, 0)] rfl HR7.out (by have := HLN.out; have := HJB.out; simp; omega) HB7.out ?_)
        intro v' w8 ho hg hv
        have HF : Hid (Og 5 doC 38 P w8 v' (os ++ [(2, (wrap64 (t + y)), (a1), 0, 0)]) ∧ Dc w w8 g cv zs) := ⟨ho, HO7.out.2.app (fun k e => by rw [HP.out]; exact (Og.lt HO7.out.1 k e).1) hg⟩
        clear ho hg hv HO7 HR7 HB7 c0 c1 c2 c3 c4
        go_wp2
        go_roundw
        case rel => exact ⟨j + 1, _, os ++ [(2, (wrap64 (t + y)), (a1), 0, 0)], by go_num, rfl, by simp [HLN.out], .inl (by omega), HF.out⟩
        case measure => simp [intOf]; omega
      | true =>
        go_wp2_with (fail)
        refine (below_c g cv zs 7 _ D_w7.out.dr (by omega)).mono ?_
        rintro e w8 ⟨y1, rfl, hy10, hy11, hy12, d1, g1⟩
        have D_w8 : Hid (Dc w w8 g cv zs) := D_w7.out.draw d1 g1
        have O_w8 : Hid (Og 5 doC 38 P w8 (.slice oa j oc) os) := O_w7.out.draw g1 (by have := D_w7.out.lt; have := HP.out; omega)
        have T_w8 : Hid (Blk w8 X4 #[.int .i64 2, .int .i64 (wrap64 (t + y)), .int .i64 (a1), .int .i64 0, .int .i64 0] 38) := T_w7.out.grown g1 (by have := NET.out; simpa using this)
        clear d1 g1 D_w7 O_w7 T_w7
        go_wp2_with (fail)
        refine (below_c g cv zs 3 _ D_w8.out.dr (by omega)).mono ?_
        rintro e w9 ⟨y2, rfl, hy20, hy21, hy22, d1, g1⟩
        have D_w9 : Hid (Dc w w9 g cv zs) := D_w8.out.draw d1 g1
        have O_w9 : Hid (Og 5 doC 38 P w9 (.slice oa j oc) os) := O_w8.out.draw g1 (by have := D_w8.out.lt; have := HP.out; omega)
        have T_w9 : Hid (Blk w9 X4 #[.int .i64 2, .int .i64 (wrap64 (t + y)), .int .i64 (a1), .int .i64 0, .int .i64 0] 38) := T_w8.out.grown g1 (by have := NET.out; simpa using this)
        clear d1 g1 D_w8 O_w8 T_w8
        go_wp2_with (fail)
        refine (below_c g cv zs 9 _ D_w9.out.dr (by omega)).mono ?_
        rintro e w10 ⟨y3, rfl, hy30, hy31, hy32, d1, g1⟩
        have D_w10 : Hid (Dc w w10 g cv zs) := D_w9.out.draw d1 g1
        have O_w10 : Hid (Og 5 doC 38 P w10 (.slice oa j oc) os) := O_w9.out.draw g1 (by have := D_w9.out.lt; have := HP.out; omega)
        have T_w10 : Hid (Blk w10 X4 #[.int .i64 2, .int .i64 (wrap64 (t + y)), .int .i64 (a1), .int .i64 0, .int .i64 0] 38) := T_w9.out.grown g1 (by have := NET.out; simpa using this)
        clear d1 g1 D_w9 O_w9 T_w9
        have hy1b := hy11 (by omega)
        have hy2b := hy21 (by omega)
        have hy3b := hy31 (by omega)
        clear hy12 hy22 hy32 hy11 hy21 hy31
        have ba : Below w10.heap.size w10 (w10.alloc (Obj.cells #[.int .i64 0, .int .i64 3, .int .i64 128, .int .i64 256, .int .i64 (-1)] 3)) := (Below.refl _ _).alloc (Nat.le_refl _) _
        have lr : Rd .i64 (w10.alloc (Obj.cells #[.int .i64 0, .int .i64 3, .int .i64 128, .int .i64 256, .int .i64 (-1)] 3)) (.slice (some ⟨w10.heap.size, 0, none⟩) 5 5) [0, 3, 128, 256, -1] := Rd.lit w10 [0, 3, 128, 256, -1] (by decide)
        have hgl : g < w10.heap.size := D_w10.out.dr.lt
        obtain ⟨W11, hW11⟩ : ∃ W, w10.alloc (Obj.cells #[.int .i64 0, .int .i64 3, .int .i64 128, .int .i64 256, .int .i64 (-1)] 3) = W := ⟨_, rfl⟩
        obtain ⟨qW11, hqW11⟩ : ∃ X, w10.heap.size = X := ⟨_, rfl⟩
        rw [hW11] at ba lr
        rw [hqW11] at lr hgl
        have LR : Hid (Rd .i64 W11 (.slice (some ⟨qW11, 0, none⟩) 5 5) [0, 3, 128, 256, -1]) := lr
        have LN : Hid (g < qW11) := hgl
        have D_W11 : Hid (Dc w W11 g cv zs) := D_w10.out.below ba
        have O_W11 : Hid (Og 5 doC 38 P W11 (.slice oa j oc) os) := O_w10.out.below ba
        have T_W11 : Hid (Blk W11 X4 #[.int .i64 2, .int .i64 (wrap64 (t + y)), .int .i64 (a1), .int .i64 0, .int .i64 0] 38) := T_w10.out.below ba T_w10.out.lt
        clear ba lr hgl D_w10 O_w10 T_w10
        go_wp2_with (fail)
        refine (pickInt_c g cv zs (.slice (some ⟨qW11, 0, none⟩) 5 5) [0, 3, 128, 256, -1] _ D_W11.out.dr LR.out (.inr (by have := LN.out; simp [Value.ownBlock]; omega)) (by decide) (by decide)).mono ?_
        rintro e w12 ⟨y4, rfl, d1, g1⟩
        have D_w12 : Hid (Dc w w12 g cv zs) := D_W11.out.draw d1 g1
        have O_w12 : Hid (Og 5 doC 38 P w12 (.slice oa j oc) os) := O_W11.out.draw g1 (by have := D_W11.out.lt; have := HP.out; omega)
        have T_w12 : Hid (Blk w12 X4 #[.int .i64 2, .int .i64 (wrap64 (t + y)), .int .i64 (a1), .int .i64 0, .int .i64 0] 38) := T_W11.out.grown g1 (by have := NET.out; simpa using this)
        clear d1 g1 D_W11 O_W11 T_W11 hW11 hqW11 LR LN
        have ba : Below w12.heap.size w12 (w12.alloc (Obj.cells #[.int .i64 0, .int .i64 9, .int .i64 10, .int .i64 (-1)] 3)) := (Below.refl _ _).alloc (Nat.le_refl _) _
        have lr : Rd .i64 (w12.alloc (Obj.cells #[.int .i64 0, .int .i64 9, .int .i64 10, .int .i64 (-1)] 3)) (.slice (some ⟨w12.heap.size, 0, none⟩) 4 4) [0, 9, 10, -1] := Rd.lit w12 [0, 9, 10, -1] (by decide)
        have hgl : g < w12.heap.size := D_w12.out.dr.lt
        obtain ⟨W13, hW13⟩ : ∃ W, w12.alloc (Obj.cells #[.int .i64 0, .int .i64 9, .int .i64 10, .int .i64 (-1)] 3) = W := ⟨_, rfl⟩
        obtain ⟨qW13, hqW13⟩ : ∃ X, w12.heap.size = X := ⟨_, rfl⟩
        rw [hW13] at ba lr
        rw [hqW13] at lr hgl
        have LR : Hid (Rd .i64 W13 (.slice (some ⟨qW13, 0, none⟩) 4 4) [0, 9, 10, -1]) := lr
        have LN : Hid (g < qW13) := hgl
        have D_W13 : Hid (Dc w W13 g cv zs) := D_w12.out.below ba
        have O_W13 : Hid (Og 5 doC 38 P W13 (.slice oa j oc) os) := O_w12.out.below ba
        have T_W13 : Hid (Blk W13 X4 #[.int .i64 2, .int .i64 (wrap64 (t + y)), .int .i64 (a1), .int .i64 0, .int .i64 0] 38) := T_w12.out.below ba T_w12.out.lt
        clear ba lr hgl D_w12 O_w12 T_w12
        go_wp2_with (fail)
        refine (pickInt_c g cv zs (.slice (some ⟨qW13, 0, none⟩) 4 4) [0, 9, 10, -1] _ D_W13.out.dr LR.out (.inr (by have := LN.out; simp [Value.ownBlock]; omega)) (by decide) (by decide)).mono ?_
        rintro e w14 ⟨y5, rfl, d1, g1⟩
        have D_w14 : Hid (Dc w w14 g cv zs) := D_W13.out.draw d1 g1
        have O_w14 : Hid (Og 5 doC 38 P w14 (.slice oa j oc) os) := O_W13.out.draw g1 (by have := D_W13.out.lt; have := HP.out; omega)
        have T_w14 : Hid (Blk w14 X4 #[.int .i64 2, .int .i64 (wrap64 (t + y)), .int .i64 (a1), .int .i64 0, .int .i64 0] 38) := T_W13.out.grown g1 (by have := NET.out; simpa using this)
        clear d1 g1 D_W13 O_W13 T_W13 hW13 hqW13 LR LN
        have s0 := T_w14.out.cell 0
        have sf0 := T_w14.out.frozen 0
        have s1 := T_w14.out.cell 1
        have sf1 := T_w14.out.frozen 1
        have s2 := T_w14.out.cell 2
        have sf2 := T_w14.out.frozen 2
        have s3 := T_w14.out.cell 3
        have sf3 := T_w14.out.frozen 3
        have s4 := T_w14.out.cell 4
        have sf4 := T_w14.out.frozen 4
        simp at s0 s1 s2 s3 s4
        have gs : w14.grownBy (((((w14.setCell ⟨X4, 0, none⟩ (.int .i64 (y1 - 1))).setCell ⟨X4, 1, none⟩ (.int .i64 (wrap64 (wrap64 (t + y) - y2)))).setCell ⟨X4, 2, none⟩ (.int .i64 (y3 - 1))).setCell ⟨X4, 3, none⟩ (.int .i64 (y4))).setCell ⟨X4, 4, none⟩ (.int .i64 (y5))) (some X4) := grown_trans (grown_trans (grown_trans (grown_trans (grown_set' _ _ _ _) (grown_set' _ _ _ _)) (grown_set' _ _ _ _)) (grown_set' _ _ _ _)) (grown_set' _ _ _ _)
        have dn : Dc w (((((w14.setCell ⟨X4, 0, none⟩ (.int .i64 (y1 - 1))).setCell ⟨X4, 1, none⟩ (.int .i64 (wrap64 (wrap64 (t + y) - y2)))).setCell ⟨X4, 2, none⟩ (.int .i64 (y3 - 1))).setCell ⟨X4, 3, none⟩ (.int .i64 (y4))).setCell ⟨X4, 4, none⟩ (.int .i64 (y5))) g cv zs := D_w14.out.app (fun k e => by cases e; exact HXP.out) gs
        have on : Og 5 doC 38 P (((((w14.setCell ⟨X4, 0, none⟩ (.int .i64 (y1 - 1))).setCell ⟨X4, 1, none⟩ (.int .i64 (wrap64 (wrap64 (t + y) - y2)))).setCell ⟨X4, 2, none⟩ (.int .i64 (y3 - 1))).setCell ⟨X4, 3, none⟩ (.int .i64 (y4))).setCell ⟨X4, 4, none⟩ (.int .i64 (y5))) (.slice oa j oc) os := World.ownsRow.kept O_w14.out gs (.inr (fun e => HAX.out X4 e rfl))
        have tn : Blk (((((w14.setCell ⟨X4, 0, none⟩ (.int .i64 (y1 - 1))).setCell ⟨X4, 1, none⟩ (.int .i64 (wrap64 (wrap64 (t + y) - y2)))).setCell ⟨X4, 2, none⟩ (.int .i64 (y3 - 1))).setCell ⟨X4, 3, none⟩ (.int .i64 (y4))).setCell ⟨X4, 4, none⟩ (.int .i64 (y5))) X4 #[.int .i64 (y1 - 1), .int .i64 (wrap64 (wrap64 (t + y) - y2)), .int .i64 (y3 - 1), .int .i64 (y4), .int .i64 (y5)] 38 := ((((T_w14.out.set 0 _).set 1 _).set 2 _).set 3 _).set 4 _
        obtain ⟨WS, hWS⟩ : ∃ W, (((((w14.setCell ⟨X4, 0, none⟩ (.int .i64 (y1 - 1))).setCell ⟨X4, 1, none⟩ (.int .i64 (wrap64 (wrap64 (t + y) - y2)))).setCell ⟨X4, 2, none⟩ (.int .i64 (y3 - 1))).setCell ⟨X4, 3, none⟩ (.int .i64 (y4))).setCell ⟨X4, 4, none⟩ (.int .i64 (y5))) = W := ⟨_, rfl⟩
        rw [hWS] at dn on tn
        have D_WS : Hid (Dc w WS g cv zs) := dn
        have O_WS : Hid (Og 5 doC 38 P WS (.slice oa j oc) os) := on
        have T_WS : Hid (Blk WS X4 #[.int .i64 (y1 - 1), .int .i64 (wrap64 (wrap64 (t + y) - y2)), .int .i64 (y3 - 1), .int .i64 (y4), .int .i64 (y5)] 38) := tn
        clear gs dn on tn D_w14 O_w14 T_w14
        have c0 := T_WS.out.cell 0
        have c1 := T_WS.out.cell 1
        have c2 := T_WS.out.cell 2
        have c3 := T_WS.out.cell 3
        have c4 := T_WS.out.cell 4
        simp at c0 c1 c2 c3 c4
        have ba : Below WS.heap.size WS (WS.alloc (Obj.cells #[.int .i64 (y1 - 1), .int .i64 (wrap64 (wrap64 (t + y) - y2)), .int .i64 (y3 - 1), .int .i64 (y4), .int .i64 (y5)] 38)) := (Below.refl _ _).alloc (Nat.le_refl _) _
        have HR7 : Hid (Rg 5 doC (WS.alloc (Obj.cells #[.int .i64 (y1 - 1), .int .i64 (wrap64 (wrap64 (t + y) - y2)), .int .i64 (y3 - 1), .int .i64 (y4), .int .i64 (y5)] 38)) (.slice (some ⟨WS.heap.size, 0, none⟩) 1 1) [((y1 - 1), (wrap64 (wrap64 (t + y) - y2)), (y3 - 1), (y4), (y5))]) := Rg.oneDo (Blk.new _ _ _)
        have HO7 : Hid (Og 5 doC 38 P (WS.alloc (Obj.cells #[.int .i64 (y1 - 1), .int .i64 (wrap64 (wrap64 (t + y) - y2)), .int .i64 (y3 - 1), .int .i64 (y4), .int .i64 (y5)] 38)) (.slice oa j oc) os ∧ Dc w (WS.alloc (Obj.cells #[.int .i64 (y1 - 1), .int .i64 (wrap64 (wrap64 (t + y) - y2)), .int .i64 (y3 - 1), .int .i64 (y4), .int .i64 (y5)] 38)) g cv zs) := ⟨O_WS.out.below ba, D_WS.out.below ba⟩
        have HB7 : Hid (P ≤ (WS.alloc (Obj.cells #[.int .i64 (y1 - 1), .int .i64 (wrap64 (wrap64 (t + y) - y2)), .int .i64 (y3 - 1), .int .i64 (y4), .int .i64 (y5)] 38)).heap.size) := by rw [Hid, ← HP.out]; exact HO7.out.2.gr.size
        clear ba D_WS O_WS T_WS
        go_wp2_with (at_builtin; refine appDo rfl _ _ rfl P _ os rfl HO7.out.1 _ [((y1 - 1), (wrap64 (wrap64 (t + y) - y2)), (y3 - 1), (y4), (y5))] rfl HR7.out (by have := HLN.out; have := HJB.out; simp; omega) HB7.out ?_)
        intro v' w8 ho hg hv
        have HF : Hid (Og 5 doC 38 P w8 v' (os ++ [((y1 - 1), (wrap64 (wrap64 (t + y) - y2)), (y3 - 1), (y4), (y5))]) ∧ Dc w w8 g cv zs) := ⟨ho, HO7.out.2.app (fun k e => by rw [HP.out]; exact (Og.lt HO7.out.1 k e).1) hg⟩
        clear ho hg hv HO7 HR7 HB7 s0 s1 s2 s3 s4 sf0 sf1 sf2 sf3 sf4 hWS c0 c1 c2 c3 c4
        go_wp2
        go_roundw
        case rel => exact ⟨j + 1, _, os ++ [((y1 - 1), (wrap64 (wrap64 (t + y) - y2)), (y3 - 1), (y4), (y5))], by go_num, rfl, by simp [HLN.out], .inl (by omega), HF.out⟩
        case measure => simp [intOf]; omega
    have hb2 : (kd == 2) = false := beq_eq_false_iff_ne.2 hk2
    by_cases hk3 : kd = 3
    · subst hk3
      go_wp2_with (fail)
      rw [HWW4.out, HXX4.out]
      refine (below_c g cv zs ag _ D_W4.out.dr (by omega)).mono ?_
      rintro e w5 ⟨a1, rfl, ha10, ha11, ha12, d1, g1⟩
      have D_w5 : Hid (Dc w w5 g cv zs) := D_W4.out.draw d1 g1
      have O_w5 : Hid (Og 5 doC 38 P w5 (.slice oa j oc) os) := O_W4.out.draw g1 (by have := D_W4.out.lt; have := HP.out; omega)
      have T_w5 : Hid (Blk w5 X4 #[.int .i64 3, .int .i64 (wrap64 (t + y)), .int .i64 0, .int .i64 0, .int .i64 0] 38) := T_W4.out.grown g1 (by have := NET.out; simpa using this)
      clear d1 g1 D_W4 O_W4 T_W4 c0
      have tc := T_w5.out.cell 2
      have tfz := T_w5.out.frozen 2
      simp at tc
      have gs : w5.grownBy (w5.setCell ⟨X4, 2, none⟩ (.int .i64 (a1))) (some X4) := grown_set' _ _ _ _
      have dn : Dc w (w5.setCell ⟨X4, 2, none⟩ (.int .i64 (a1))) g cv zs := D_w5.out.app (fun k e => by cases e; exact HXP.out) gs
      have on : Og 5 doC 38 P (w5.setCell ⟨X4, 2, none⟩ (.int .i64 (a1))) (.slice oa j oc) os := World.ownsRow.kept O_w5.out gs (.inr (fun e => HAX.out X4 e rfl))
      have tn : Blk (w5.setCell ⟨X4, 2, none⟩ (.int .i64 (a1))) X4 #[.int .i64 3, .int .i64 (wrap64 (t + y)), .int .i64 (a1), .int .i64 0, .int .i64 0] 38 := T_w5.out.set 2 _
      obtain ⟨W6, hW6⟩ : ∃ W, w5.setCell ⟨X4, 2, none⟩ (.int .i64 (a1)) = W := ⟨_, rfl⟩
      rw [hW6] at dn on tn
      have D_W6 : Hid (Dc w W6 g cv zs) := dn
      have O_W6 : Hid (Og 5 doC 38 P W6 (.slice oa j oc) os) := on
      have T_W6 : Hid (Blk W6 X4 #[.int .i64 3, .int .i64 (wrap64 (t + y)), .int .i64 (a1), .int .i64 0, .int .i64 0] 38) := tn
      clear gs dn on tn D_w5 O_w5 T_w5
      go_wp2_with (fail)
      refine (once_c g cv zs 40 _ D_W6.out.dr (by omega)).mono ?_
      rintro e w7 ⟨r, rfl, d1, g1⟩
      have D_w7 : Hid (Dc w w7 g cv zs) := D_W6.out.draw d1 g1
      have O_w7 : Hid (Og 5 doC 38 P w7 (.slice oa j oc) os) := O_W6.out.draw g1 (by have := D_W6.out.lt; have := HP.out; omega)
      have T_w7 : Hid (Blk w7 X4 #[.int .i64 3, .int .i64 (wrap64 (t + y)), .int .i64 (a1), .int .i64 0, .int .i64 0] 38) := T_W6.out.grown g1 (by have := NET.out; simpa using this)
      clear d1 g1 D_W6 O_W6 T_W6 tc tfz hW6
      cases r with
      | false =>
        have c0 := T_w7.out.cell 0
        have c1 := T_w7.out.cell 1
        have c2 := T_w7.out.cell 2
        have c3 := T_w7.out.cell 3
        have c4 := T_w7.out.cell 4
        simp at c0 c1 c2 c3 c4
        have ba : Below w7.heap.size w7 (w7.alloc (Obj.cells #[.int .i64 3, .int .i64 (wrap64 (t + y)), .int .i64 (a1), .int .i64 0, .int .i64 0] 38)) := (Below.refl _ _).alloc (Nat.le_refl _) _
        have HR7 : Hid (Rg 5 doC (w7.alloc (Obj.cells #[.int .i64 3, .int .i64 (wrap64 (t + y)), .int .i64 (a1), .int .i64 0, .int .i64 0] 38)) (.slice (some ⟨w7.heap.size, 0, none⟩) 1 1) [(3, (wrap64 (t + y)), (a1), 0, 0)]) := Rg.oneDo (Blk.new _ _ _)
        have HO7 : Hid (Og 5 doC 38 P (w7.alloc (Obj.cells #[.int .i64 3, .int .i64 (wrap64 (t + y)), .int .i64 (a1), .int .i64 0, .int .i64 0] 38)) (.slice oa j oc) os ∧ Dc w (w7.alloc (Obj.cells #[.int .i64 3, .int .i64 (wrap64 (t + y)), .int .i64 (a1), .int .i64 0, .int .i64 0] 38)) g cv zs) := ⟨O_w7.out.below ba, D_w7.out.below ba⟩
        have HB7 : Hid (P ≤ (w7.alloc (Obj.cells #[.int .i64 3, .int .i64 (wrap64 (t + y)), .int .i64 (a1), .int .i64 0, .int .i64 0] 38)).heap.size) := by rw [Hid, ← HP.out]; exact HO7.out.2.gr.size
        clear ba D_w7 O_w7 T_w7
        go_wp2_with (at_builtin; refine appDo rfl _ _ rfl P _ os rfl HO7.out.1 _ [(3, (wrap64 (t + y)), (a1), 0, 0)] rfl HR7.out (by have := HLN.out; have := HJB.out; simp; omega) HB7.out ?_)
        intro v' w8 ho hg hv
        have HF : Hid (Og 5 doC 38 P w8 v' (os ++ [(3, (wrap64 (t + y)), (a1), 0, 0)]) ∧ Dc w w8 g cv zs) := ⟨ho, HO7.out.2.app (fun k e => by rw [HP.out]; exact (Og.lt HO7.out.1 k e).1) hg⟩
        clear ho hg hv HO7 HR7 HB7 c0 c1 c2 c3 c4
        go_wp2
        go_roundw
        case rel => exact ⟨j + 1, _, os ++ [(3, (wrap64 (t + y)), (a1), 0, 0)], by go_num, rfl, by simp [HLN.out], .inl (by omega), HF.out⟩
        case measure => simp [intOf]; omega
      | true =>
        go_wp2_with (fail)
        refine (below_c g cv zs 7 _ D_w7.out.dr (by omega)).mono ?_
        rintro e w8 ⟨y1, rfl, hy10, hy11, hy12, d1, g1⟩
        have D_w8 : Hid (Dc w w8 g cv zs) := D_w7.out.draw d1 g1
        have O_w8 : Hid (Og 5 doC 38 P w8 (.slice oa j oc) os) := O_w7.out.draw g1 (by have := D_w7.out.lt; have := HP.out; omega)
        have T_w8 : Hid (Blk w8 X4 #[.int .i64 3, .int .i64 (wrap64 (t + y)), .int .i64 (a1), .int .i64 0, .int .i64 0] 38) := T_w7.out.grown g1 (by have := NET.out; simpa using this)
        clear d1 g1 D_w7 O_w7 T_w7
        go_wp2_with (fail)
        refine (below_c g cv zs 3 _ D_w8.out.dr (by omega)).mono ?_
        rintro e w9 ⟨y2, rfl, hy20, hy21, hy22, d1, g1⟩
        have D_w9 : Hid (Dc w w9 g cv zs) := D_w8.out.draw d1 g1
        have O_w9 : Hid (Og 5 doC 38 P w9 (.slice oa j oc) os) := O_w8.out.draw g1 (by have := D_w8.out.lt; have := HP.out; omega)
        have T_w9 : Hid (Blk w9 X4 #[.int .i64 3, .int .i64 (wrap64 (t + y)), .int .i64 (a1), .int .i64 0, .int .i64 0] 38) := T_w8.out.grown g1 (by have := NET.out; simpa using this)
        clear d1 g1 D_w8 O_w8 T_w8
        go_wp2_with (fail)
        refine (below_c g cv zs 9 _ D_w9.out.dr (by omega)).mono ?_
        rintro e w10 ⟨y3, rfl, hy30, hy31, hy32, d1, g1⟩
        have D_w10 : Hid (Dc w w10 g cv zs) := D_w9.out.draw d1 g1
        have O_w10 : Hid (Og 5 doC 38 P w10 (.slice oa j oc) os) := O_w9.out.draw g1 (by have := D_w9.out.lt; have := HP.out; omega)
        have T_w10 : Hid (Blk w10 X4 #[.int .i64 3, .int .i64 (wrap64 (t + y)), .int .i64 (a1), .int .i64 0, .int .i64 0] 38) := T_w9.out.grown g1 (by have := NET.out; simpa using this)
        clear d1 g1 D_w9 O_w9 T_w9
        have hy1b := hy11 (by omega)
        have hy2b := hy21 (by omega)
        have hy3b := hy31 (by omega)
        clear hy12 hy22 hy32 hy11 hy21 hy31
        have ba : Below w10.heap.size w10 (w10.alloc (Obj.cells #[.int .i64 0, .int .i64 3, .int .i64 128, .int .i64 256, .int .i64 (-1)] 3)) := (Below.refl _ _).alloc (Nat.le_refl _) _
        have lr : Rd .i64 (w10.alloc (Obj.cells #[.int .i64 0, .int .i64 3, .int .i64 128, .int .i64 256, .int .i64 (-1)] 3)) (.slice (some ⟨w10.heap.size, 0, none⟩) 5 5) [0, 3, 128, 256, -1] := Rd.lit w10 [0, 3, 128, 256, -1] (by decide)
        have hgl : g < w10.heap.size := D_w10.out.dr.lt
        obtain ⟨W11, hW11⟩ : ∃ W, w10.alloc (Obj.cells #[.int .i64 0, .int .i64 3, .int .i64 128, .int .i64 256, .int .i64 (-1)] 3) = W := ⟨_, rfl⟩
        obtain ⟨qW11, hqW11⟩ : ∃ X, w10.heap.size = X := ⟨_, rfl⟩
        rw [hW11] at ba lr
        rw [hqW11] at lr hgl
        have LR : Hid (Rd .i64 W11 (.slice (some ⟨qW11, 0, none⟩) 5 5) [0, 3, 128, 256, -1]) := lr
        have LN : Hid (g < qW11) := hgl
        have D_W11 : Hid (Dc w W11 g cv zs) := D_w10.out.below ba
        have O_W11 : Hid (Og 5 doC 38 P W11 (.slice oa j oc) os) := O_w10.out.below ba
        have T_W11 : Hid (Blk W11 X4 #[.int .i64 3, .int .i64 (wrap64 (t + y)), .int .i64 (a1), .int .i64 0, .int .i64 0] 38) := T_w10.out.below ba T_w10.out.lt
        clear ba lr hgl D_w10 O_w10 T_w10
        go_wp2_with (fail)
        refine (pickInt_c g cv zs (.slice (some ⟨qW11, 0, none⟩) 5 5) [0, 3, 128, 256, -1] _ D_W11.out.dr LR.out (.inr (by have := LN.out; simp [Value.ownBlock]; omega)) (by decide) (by decide)).mono ?_
        rintro e w12 ⟨y4, rfl, d1, g1⟩
        have D_w12 : Hid (Dc w w12 g cv zs) := D_W11.out.draw d1 g1
        have O_w12 : Hid (Og 5 doC 38 P w12 (.slice oa j oc) os) := O_W11.out.draw g1 (by have := D_W11.out.lt; have := HP.out; omega)
        have T_w12 : Hid (Blk w12 X4 #[.int .i64 3, .int .i64 (wrap64 (t + y)), .int .i64 (a1), .int .i64 0, .int .i64 0] 38) := T_W11.out.grown g1 (by have := NET.out; simpa using this)
        clear d1 g1 D_W11 O_W11 T_W11 hW11 hqW11 LR LN
        have ba : Below w12.heap.size w12 (w12.alloc (Obj.cells #[.int .i64 0, .int .i64 9, .int .i64 10, .int .i64 (-1)] 3)) := (Below.refl _ _).alloc (Nat.le_refl _) _
        have lr : Rd .i64 (w12.alloc (Obj.cells #[.int .i64 0, .int .i64 9, .int .i64 10, .int .i64 (-1)] 3)) (.slice (some ⟨w12.heap.size, 0, none⟩) 4 4) [0, 9, 10, -1] := Rd.lit w12 [0, 9, 10, -1] (by decide)
        have hgl : g < w12.heap.size := D_w12.out.dr.lt
        obtain ⟨W13, hW13⟩ : ∃ W, w12.alloc (Obj.cells #[.int .i64 0, .int .i64 9, .int .i64 10, .int .i64 (-1)] 3) = W := ⟨_, rfl⟩
        obtain ⟨qW13, hqW13⟩ : ∃ X, w12.heap.size = X := ⟨_, rfl⟩
        rw [hW13] at ba lr
        rw [hqW13] at lr hgl
        have LR : Hid (Rd .i64 W13 (.slice (some ⟨qW13, 0, none⟩) 4 4) [0, 9, 10, -1]) := lr
        have LN : Hid (g < qW13) := hgl
        have D_W13 : Hid (Dc w W13 g cv zs) := D_w12.out.below ba
        have O_W13 : Hid (Og 5 doC 38 P W13 (.slice oa j oc) os) := O_w12.out.below ba
        have T_W13 : Hid (Blk W13 X4 #[.int .i64 3, .int .i64 (wrap64 (t + y)), .int .i64 (a1), .int .i64 0, .int .i64 0] 38) := T_w12.out.below ba T_w12.out.lt
        clear ba lr hgl D_w12 O_w12 T_w12
        go_wp2_with (fail)
        refine (pickInt_c g cv zs (.slice (some ⟨qW13, 0, none⟩) 4 4) [0, 9, 10, -1] _ D_W13.out.dr LR.out (.inr (by have := LN.out; simp [Value.ownBlock]; omega)) (by decide) (by decide)).mono ?_
        rintro e w14 ⟨y5, rfl, d1, g1⟩
        have D_w14 : Hid (Dc w w14 g cv zs) := D_W13.out.draw d1 g1
        have O_w14 : Hid (Og 5 doC 38 P w14 (.slice oa j oc) os) := O_W13.out.draw g1 (by have := D_W13.out.lt; have := HP.out; omega)
        have T_w14 : Hid (Blk w14 X4 #[.int .i64 3, .int .i64 (wrap64 (t + y)), .int .i64 (a1), .int .i64 0, .int .i64 0] 38) := T_W13.out.grown g1 (by have := NET.out; simpa using this)
        clear d1 g1 D_W13 O_W13 T_W13 hW13 hqW13 LR LN
        have s0 := T_w14.out.cell 0
        have sf0 := T_w14.out.frozen 0
        have s1 := T_w14.out.cell 1
        have sf1 := T_w14.out.frozen 1
        have s2 := T_w14.out.cell 2
        have sf2 := T_w14.out.frozen 2
        have s3 := T_w14.out.cell 3
        have sf3 := T_w14.out.frozen 3
        have s4 := T_w14.out.cell 4
        have sf4 := T_w14.out.frozen 4
        simp at s0 s1 s2 s3 s4
        have gs : w14.grownBy (((((w14.setCell ⟨X4, 0, none⟩ (.int .i64 (y1 - 1))).setCell ⟨X4, 1, none⟩ (.int .i64 (wrap64 (wrap64 (t + y) - y2)))).setCell ⟨X4, 2, none⟩ (.int .i64 (y3 - 1))).setCell ⟨X4, 3, none⟩ (.int .i64 (y4))).setCell ⟨X4, 4, none⟩ (.int .i64 (y5))) (some X4) := grown_trans (grown_trans (grown_trans (grown_trans (grown_set' _ _ _ _) (grown_set' _ _ _ _)) (grown_set' _ _ _ _)) (grown_set' _ _ _ _)) (grown_set' _ _ _ _)
        have dn : Dc w (((((w14.setCell ⟨X4, 0, none⟩ (.int .i64 (y1 - 1))).setCell ⟨X4, 1, none⟩ (.int .i64 (wrap64 (wrap64 (t + y) - y2)))).setCell ⟨X4, 2, none⟩ (.int .i64 (y3 - 1))).setCell ⟨X4, 3, none⟩ (.int .i64 (y4))).setCell ⟨X4, 4, none⟩ (.int .i64 (y5))) g cv zs := D_w14.out.app (fun k e => by cases e; exact HXP.out) gs
        have on : Og 5 doC 38 P (((((w14.setCell ⟨X4, 0, none⟩ (.int .i64 (y1 - 1))).setCell ⟨X4, 1, none⟩ (.int .i64 (wrap64 (wrap64 (t + y) - y2)))).setCell ⟨X4, 2, none⟩ (.int .i64 (y3 - 1))).setCell ⟨X4, 3, none⟩ (.int .i64 (y4))).setCell ⟨X4, 4, none⟩ (.int .i64 (y5))) (.slice oa j oc) os := World.ownsRow.kept O_w14.out gs (.inr (fun e => HAX.out X4 e rfl))
        have tn : Blk (((((w14.setCell ⟨X4, 0, none⟩ (.int .i64 (y1 - 1))).setCell ⟨X4, 1, none⟩ (.int .i64 (wrap64 (wrap64 (t + y) - y2)))).setCell ⟨X4, 2, none⟩ (.int .i64 (y3 - 1))).setCell ⟨X4, 3, none⟩ (.int .i64 (y4))).setCell ⟨X4, 4, none⟩ (.int .i64 (y5))) X4 #[.int .i64 (y1 - 1), .int .i64 (wrap64 (wrap64 (t + y) - y2)), .int .i64 (y3 - 1), .int .i64 (y4), .int .i64 (y5)] 38 := ((((T_w14.out.set 0 _).set 1 _).set 2 _).set 3 _).set 4 _
        obtain ⟨WS, hWS⟩ : ∃ W, (((((w14.setCell ⟨X4, 0, none⟩ (.int .i64 (y1 - 1))).setCell ⟨X4, 1, none⟩ (.int .i64 (wrap64 (wrap64 (t + y) - y2)))).setCell ⟨X4, 2, none⟩ (.int .i64 (y3 - 1))).setCell ⟨X4, 3, none⟩ (.int .i64 (y4))).setCell ⟨X4, 4, none⟩ (.int .i64 (y5))) = W := ⟨_, rfl⟩
        rw [hWS] at dn on tn
        have D_WS : Hid (Dc w WS g cv zs) := dn
        have O_WS : Hid (Og 5 doC 38 P WS (.slice oa j oc) os) := on
        have T_WS : Hid (Blk WS X4 #[.int .i64 (y1 - 1), .int .i64 (wrap64 (wrap64 (t + y) - y2)), .int .i64 (y3 - 1), .int .i64 (y4), .int .i64 (y5)] 38) := tn
        clear gs dn on tn D_w14 O_w14 T_w14
        have c0 := T_WS.out.cell 0
        have c1 := T_WS.out.cell 1
        have c2 := T_WS.out.cell 2
        have c3 := T_WS.out.cell 3
        have c4 := T_WS.out.cell 4
        simp at c0 c1 c2 c3 c4
        have ba : Below WS.heap.size WS (WS.alloc (Obj.cells #[.int .i64 (y1 - 1), .int .i64 (wrap64 (wrap64 (t + y) - y2)), .int .i64 (y3 - 1), .int .i64 (y4), .int .i64 (y5)] 38)) := (Below.refl _ _).alloc (Nat.le_refl _) _
        have HR7 : Hid (Rg 5 doC (WS.alloc (Obj.cells #[.int .i64 (y1 - 1), .int .i64 (wrap64 (wrap64 (t + y) - y2)), .int .i64 (y3 - 1), .int .i64 (y4), .int .i64 (y5)] 38)) (.slice (some ⟨WS.heap.size, 0, none⟩) 1 1) [((y1 - 1), (wrap64 (wrap64 (t + y) - y2)), (y3 - 1), (y4), (y5))]) := Rg.oneDo (Blk.new _ _ _)
        have HO7 : Hid (Og 5 doC 38 P (WS.alloc (Obj.cells #[.int .i64 (y1 - 1), .int .i64 (wrap64 (wrap64 (t + y) - y2)), .int .i64 (y3 - 1), .int .i64 (y4), .int .i64 (y5)] 38)) (.slice oa j oc) os ∧ Dc w (WS.alloc (Obj.cells #[.int .i64 (y1 - 1), .int .i64 (wrap64 (wrap64 (t + y) - y2)), .int .i64 (y3 - 1), .int .i64 (y4), .int .i64 (y5)] 38)) g cv zs) := ⟨O_WS.out.below ba, D_WS.out.below ba⟩
        have HB7 : Hid (P ≤ (WS.alloc (Obj.cells #[.int .i64 (y1 - 1), .int .i64 (wrap64 (wrap64 (t + y) - y2)), .int .i64 (y3 - 1), .int .i64 (y4), .int .i64 (y5)] 38)).heap.size) := by rw [Hid, ← HP.out]; exact HO7.out.2.gr.size
        clear ba D_WS O_WS T_WS
        go_wp2_with (at_builtin; refine appDo rfl _ _ rfl P _ os rfl HO7.out.1 _ [((y1 - 1), (wrap64 (wrap64 (t + y) - y2)), (y3 - 1), (y4), (y5))] rfl HR7.out (by have := HLN.out; have := HJB.out; simp; omega) HB7.out ?_)
        intro v' w8 ho hg hv
        have HF : Hid (Og 5 doC 38 P w8 v' (os ++ [((y1 - 1), (wrap64 (wrap64 (t + y) - y2)), (y3 - 1), (y4), (y5))]) ∧ Dc w w8 g cv zs) := ⟨ho, HO7.out.2.app (fun k e => by rw [HP.out]; exact (Og.lt HO7.out.1 k e).1) hg⟩
        clear ho hg hv HO7 HR7 HB7 s0 s1 s2 s3 s4 sf0 sf1 sf2 sf3 sf4 hWS c0 c1 c2 c3 c4
        go_wp2
        go_roundw
        case rel => exact ⟨j + 1, _, os ++ [((y1 - 1), (wrap64 (wrap64 (t + y) - y2)), (y3 - 1), (y4), (y5))], by go_num, rfl, by simp [HLN.out], .inl (by omega), HF.out⟩
        case measure => simp [intOf]; omega
    have hb3 : (kd == 3) = false := beq_eq_false_iff_ne.2 hk3
    by_cases hk4 : kd = 4
    · subst hk4
      go_wp2_with (fail)
      rw [HWW4.out, HXX4.out]
      refine (below_c g cv zs ag _ D_W4.out.dr (by omega)).mono ?_
      rintro e w5 ⟨a1, rfl, ha10, ha11, ha12, d1, g1⟩
      have D_w5 : Hid (Dc w w5 g cv zs) := D_W4.out.draw d1 g1
      have O_w5 : Hid (Og 5 doC 38 P w5 (.slice oa j oc) os) := O_W4.out.draw g1 (by have := D_W4.out.lt; have := HP.out; omega)
      have T_w5 : Hid (Blk w5 X4 #[.int .i64 4, .int .i64 (wrap64 (t + y)), .int .i64 0, .int .i64 0, .int .i64 0] 38) := T_W4.out.grown g1 (by have := NET.out; simpa using this)
      clear d1 g1 D_W4 O_W4 T_W4 c0
      have tc := T_w5.out.cell 2
      have tfz := T_w5.out.frozen 2
      simp at tc
      have gs : w5.grownBy (w5.setCell ⟨X4, 2, none⟩ (.int .i64 (a1))) (some X4) := grown_set' _ _ _ _
      have dn : Dc w (w5.setCell ⟨X4, 2, none⟩ (.int .i64 (a1))) g cv zs := D_w5.out.app (fun k e => by cases e; exact HXP.out) gs
      have on : Og 5 doC 38 P (w5.setCell ⟨X4, 2, none⟩ (.int .i64 (a1))) (.slice oa j oc) os := World.ownsRow.kept O_w5.out gs (.inr (fun e => HAX.out X4 e rfl))
      have tn : Blk (w5.setCell ⟨X4, 2, none⟩ (.int .i64 (a1))) X4 #[.int .i64 4, .int .i64 (wrap64 (t + y)), .int .i64 (a1), .int .i64 0, .int .i64 0] 38 := T_w5.out.set 2 _
      obtain ⟨W6, hW6⟩ : ∃ W, w5.setCell ⟨X4, 2, none⟩ (.int .i64 (a1)) = W := ⟨_, rfl⟩
      rw [hW6] at dn on tn
      have D_W6 : Hid (Dc w W6 g cv zs) := dn
      have O_W6 : Hid (Og 5 doC 38 P W6 (.slice oa j oc) os) := on
      have T_W6 : Hid (Blk W6 X4 #[.int .i64 4, .int .i64 (wrap64 (t + y)), .int .i64 (a1), .int .i64 0, .int .i64 0] 38) := tn
      clear gs dn on tn D_w5 O_w5 T_w5
      go_wp2_with (fail)
      refine (below_c g cv zs 8 _ D_W6.out.dr (by omega)).mono ?_
      rintro e w7 ⟨a2, rfl, ha20, ha21, ha22, d1, g1⟩
      have D_w7 : Hid (Dc w w7 g cv zs) := D_W6.out.draw d1 g1
      have O_w7 : Hid (Og 5 doC 38 P w7 (.slice oa j oc) os) := O_W6.out.draw g1 (by have := D_W6.out.lt; have := HP.out; omega)
      have T_w7 : Hid (Blk w7 X4 #[.int .i64 4, .int .i64 (wrap64 (t + y)), .int .i64 (a1), .int .i64 0, .int .i64 0] 38) := T_W6.out.grown g1 (by have := NET.out; simpa using this)
      clear d1 g1 D_W6 O_W6 T_W6 tc tfz hW6
      have tc := T_w7.out.cell 3
      have tfz := T_w7.out.frozen 3
      simp at tc
      have gs : w7.grownBy (w7.setCell ⟨X4, 3, none⟩ (.int .i64 (a2))) (some X4) := grown_set' _ _ _ _
      have dn : Dc w (w7.setCell ⟨X4, 3, none⟩ (.int .i64 (a2))) g cv zs := D_w7.out.app (fun k e => by cases e; exact HXP.out) gs
      have on : Og 5 doC 38 P (w7.setCell ⟨X4, 3, none⟩ (.int .i64 (a2))) (.slice oa j oc) os := World.ownsRow.kept O_w7.out gs (.inr (fun e => HAX.out X4 e rfl))
      have tn : Blk (w7.setCell ⟨X4, 3, none⟩ (.int .i64 (a2))) X4 #[.int .i64 4, .int .i64 (wrap64 (t + y)), .int .i64 (a1), .int .i64 (a2), .int .i64 0] 38 := T_w7.out.set 3 _
      obtain ⟨W8, hW8⟩ : ∃ W, w7.setCell ⟨X4, 3, none⟩ (.int .i64 (a2)) = W := ⟨_, rfl⟩
      rw [hW8] at dn on tn
      have D_W8 : Hid (Dc w W8 g cv zs) := dn
      have O_W8 : Hid (Og 5 doC 38 P W8 (.slice oa j oc) os) := on
      have T_W8 : Hid (Blk W8 X4 #[.int .i64 4, .int .i64 (wrap64 (t + y)), .int .i64 (a1), .int .i64 (a2), .int .i64 0] 38) := tn
      clear gs dn on tn D_w7 O_w7 T_w7
      go_wp2_with (fail)
      refine (once_c g cv zs 40 _ D_W8.out.dr (by omega)).mono ?_
      rintro e w9 ⟨r, rfl, d1, g1⟩
      have D_w9 : Hid (Dc w w9 g cv zs) := D_W8.out.draw d1 g1
      have O_w9 : Hid (Og 5 doC 38 P w9 (.slice oa j oc) os) := O_W8.out.draw g1 (by have := D_W8.out.lt; have := HP.out; omega)
      have T_w9 : Hid (Blk w9 X4 #[.int .i64 4, .int .i64 (wrap64 (t + y)), .int .i64 (a1), .int .i64 (a2), .int .i64 0] 38) := T_W8.out.grown g1 (by have := NET.out; simpa using this)
      clear d1 g1 D_W8 O_W8 T_W8 tc tfz hW8
      cases r with
      | false =>
        have c0 := T_w9.out.cell 0
        have c1 := T_w9.out.cell 1
        have c2 := T_w9.out.cell 2
        have c3 := T_w9.out.cell 3
        have c4 := T_w9.out.cell 4
        simp at c0 c1 c2 c3 c4
        have ba : Below w9.heap.size w9 (w9.alloc (Obj.cells #[.int .i64 4, .int .i64 (wrap64 (t + y)), .int .i64 (a1), .int .i64 (a2), .int .i64 0] 38)) := (Below.refl _ _).alloc (Nat.le_refl _) _
        have HR7 : Hid (Rg 5 doC (w9.alloc (Obj.cells #[.int .i64 4, .int .i64 (wrap64 (t + y)), .int .i64 (a1), .int .i64 (a2), .int .i64 0] 38)) (.slice (some ⟨w9.heap.size, 0, none⟩) 1 1) [(4, (wrap64 (t + y)), (a1), (a2), 0)]) := Rg.oneDo (Blk.new _ _ _)
        have HO7 : Hid (Og 5 doC 38 P (w9.alloc (Obj.cells #[.int .i64 4, .int .i64 (wrap64 (t + y)), .int .i64 (a1), .int .i64 (a2), .int .i64 0] 38)) (.slice oa j oc) os ∧ Dc w (w9.alloc (Obj.cells #[.int .i64 4, .int .i64 (wrap64 (t + y)), .int .i64 (a1), .int .i64 (a2), .int .i64 0] 38)) g cv zs) := ⟨O_w9.out.below ba, D_w9.out.below ba⟩
        have HB7 : Hid (P ≤ (w9.alloc (Obj.cells #[.int .i64 4, .int .i64 (wrap64 (t + y)), .int .i64 (a1), .int .i64 (a2), .int .i64 0] 38)).heap.size) := by rw [Hid, ← HP.out]; exact HO7.out.2.gr.size
        clear ba D_w9 O_w9 T_w9
        go_wp2_with (at_builtin; refine appDo rfl _ _ rfl P _ os rfl HO7.out.1 _ [(4, (wrap64 (t + y)), (a1), (a2), 0)] rfl HR7.out (by have := HLN.out; have := HJB.out; simp; omega) HB7.out ?_)
        intro v' w8 ho hg hv
        have HF : Hid (Og 5 doC 38 P w8 v' (os ++ [(4, (wrap64 (t + y)), (a1), (a2), 0)]) ∧ Dc w w8 g cv zs) := ⟨ho, HO7.out.2.app (fun k e => by rw [HP.out]; exact (Og.lt HO7.out.1 k e).1) hg⟩
        clear ho hg hv HO7 HR7 HB7 c0 c1 c2 c3 c4
        go_wp2
        go_roundw
        case rel => exact ⟨j + 1, _, os ++ [(4, (wrap64 (t + y)), (a1), (a2), 0)], by go_num, rfl, by simp [HLN.out], .inl (by omega), HF.out⟩
        case measure => simp [intOf]; omega
      | true =>
        go_wp2_with (fail)
        refine (below_c g cv zs 7 _ D_w9.out.dr (by omega)).mono ?_
        rintro e w10 ⟨y1, rfl, hy10, hy11, hy12, d1, g1⟩
        have D_w10 : Hid (Dc w w10 g cv zs) := D_w9.out.draw d1 g1
        have O_w10 : Hid (Og 5 doC 38 P w10 (.slice oa j oc) os) := O_w9.out.draw g1 (by have := D_w9.out.lt; have := HP.out; omega)
        have T_w10 : Hid (Blk w10 X4 #[.int .i64 4, .int .i64 (wrap64 (t + y)), .int .i64 (a1), .int .i64 (a2), .int .i64 0] 38) := T_w9.out.grown g1 (by have := NET.out; simpa using this)
        clear d1 g1 D_w9 O_w9 T_w9
        go_wp2_with (fail)
        refine (below_c g cv zs 3 _ D_w10.out.dr (by omega)).mono ?_
        rintro e w11 ⟨y2, rfl, hy20, hy21, hy22, d1, g1⟩
        have D_w11 : Hid (Dc w w11 g cv zs) := D_w10.out.draw d1 g1
        have O_w11 : Hid (Og 5 doC 38 P w11 (.slice oa j oc) os) := O_w10.out.draw g1 (by have := D_w10.out.lt; have := HP.out; omega)
        have T_w11 : Hid (Blk w11 X4 #[.int .i64 4, .int .i64 (wrap64 (t + y)), .int .i64 (a1), .int .i64 (a2), .int .i64 0] 38) := T_w10.out.grown g1 (by have := NET.out; simpa using this)
        clear d1 g1 D_w10 O_w10 T_w10
        go_wp2_with (fail)
        refine (below_c g cv zs 9 _ D_w11.out.dr (by omega)).mono ?_
        rintro e w12 ⟨y3, rfl, hy30, hy31, hy32, d1, g1⟩
        have D_w12 : Hid (Dc w w12 g cv zs) := D_w11.out.draw d1 g1
        have O_w12 : Hid (Og 5 doC 38 P w12 (.slice oa j oc) os) := O_w11.out.draw g1 (by have := D_w11.out.lt; have := HP.out; omega)
        have T_w12 : Hid (Blk w12 X4 #[.int .i64 4, .int .i64 (wrap64 (t + y)), .int .i64 (a1), .int .i64 (a2), .int .i64 0] 38) := T_w11.out.grown g1 (by have := NET.out; simpa using this)
        clear d1 g1 D_w11 O_w11 T_w11
        have hy1b := hy11 (by omega)
        have hy2b := hy21 (by omega)
        have hy3b := hy31 (by omega)
        clear hy12 hy22 hy32 hy11 hy21 hy31
        have ba : Below w12.heap.size w12 (w12.alloc (Obj.cells #[.int .i64 0, .int .i64 3, .int .i64 128, .int .i64 256, .int .i64 (-1)] 3)) := (Below.refl _ _).alloc (Nat.le_refl _) _
        have lr : Rd .i64 (w12.alloc (Obj.cells #[.int .i64 0, .int .i64 3, .int .i64 128, .int .i64 256, .int .i64 (-1)] 3)) (.slice (some ⟨w12.heap.size, 0, none⟩) 5 5) [0, 3, 128, 256, -1] := Rd.lit w12 [0, 3, 128, 256, -1] (by decide)
        have hgl : g < w12.heap.size := D_w12.out.dr.lt
        obtain ⟨W13, hW13⟩ : ∃ W, w12.alloc (Obj.cells #[.int .i64 0, .int .i64 3, .int .i64 128, .int .i64 256, .int .i64 (-1)] 3) = W := ⟨_, rfl⟩
        obtain ⟨qW13, hqW13⟩ : ∃ X, w12.heap.size = X := ⟨_, rfl⟩
        rw [hW13] at ba lr
        rw [hqW13] at lr hgl
        have LR : Hid (Rd .i64 W13 (.slice (some ⟨qW13, 0, none⟩) 5 5) [0, 3, 128, 256, -1]) := lr
        have LN : Hid (g < qW13) := hgl
        have D_W13 : Hid (Dc w W13 g cv zs) := D_w12.out.below ba
        have O_W13 : Hid (Og 5 doC 38 P W13 (.slice oa j oc) os) := O_w12.out.below ba
        have T_W13 : Hid (Blk W13 X4 #[.int .i64 4, .int .i64 (wrap64 (t + y)), .int .i64 (a1), .int .i64 (a2), .int .i64 0] 38) := T_w12.out.below ba T_w12.out.lt
        clear ba lr hgl D_w12 O_w12 T_w12
        go_wp2_with (fail)
        refine (pickInt_c g cv zs (.slice (some ⟨qW13, 0, none⟩) 5 5) [0, 3, 128, 256, -1] _ D_W13.out.dr LR.out (.inr (by have := LN.out; simp [Value.ownBlock]; omega)) (by decide) (by decide)).mono ?_
        rintro e w14 ⟨y4, rfl, d1, g1⟩
        have D_w14 : Hid (Dc w w14 g cv zs) := D_W13.out.draw d1 g1
        have O_w14 : Hid (Og 5 doC 38 P w14 (.slice oa j oc) os) := O_W13.out.draw g1 (by have := D_W13.out.lt; have := HP.out; omega)
        have T_w14 : Hid (Blk w14 X4 #[.int .i64 4, .int .i64 (wrap64 (t + y)), .int .i64 (a1), .int .i64 (a2), .int .i64 0] 38) := T_W13.out.grown g1 (by have := NET.out; simpa using this)
        clear d1 g1 D_W13 O_W13 T_W13 hW13 hqW13 LR LN
        have ba : Below w14.heap.size w14 (w14.alloc (Obj.cells #[.int .i64 0, .int .i64 9, .int .i64 10, .int .i64 (-1)] 3)) := (Below.refl _ _).alloc (Nat.le_refl _) _
        have lr : Rd .i64 (w14.alloc (Obj.cells #[.int .i64 0, .int .i64 9, .int .i64 10, .int .i64 (-1)] 3)) (.slice (some ⟨w14.heap.size, 0, none⟩) 4 4) [0, 9, 10, -1] := Rd.lit w14 [0, 9, 10, -1] (by decide)
        have hgl : g < w14.heap.size := D_w14.out.dr.lt
        obtain ⟨W15, hW15⟩ : ∃ W, w14.alloc (Obj.cells #[.int .i64 0, .int .i64 9, .int .i64 10, .int .i64 (-1)] 3) = W := ⟨_, rfl⟩
        obtain ⟨qW15, hqW15⟩ : ∃ X, w14.heap.size = X := ⟨_, rfl⟩
        rw [hW15] at ba lr
        rw [hqW15] at lr hgl
        have LR : Hid (Rd .i64 W15 (.slice (some ⟨qW15, 0, none⟩) 4 4) [0, 9, 10, -1]) := lr
        have LN : Hid (g < qW15) := hgl
        have D_W15 : Hid (Dc w W15 g cv zs) := D_w14.out.below ba
        have O_W15 : Hid (Og 5 doC 38 P W15 (.slice oa j oc) os) := O_w14.out.below ba
        have T_W15 : Hid (Blk W15 X4 #[.int .i64 4, .int .i64 (wrap64 (t + y)), .int .i64 (a1), .int .i64 (a2), .int .i64 0] 38) := T_w14.out.below ba T_w14.out.lt
        clear ba lr hgl D_w14 O_w14 T_w14
        go_wp2_with (fail)
        refine (pickInt_c g cv zs (.slice (some ⟨qW15, 0, none⟩) 4 4) [0, 9, 10, -1] _ D_W15.out.dr LR.out (.inr (by have := LN.out; simp [Value.ownBlock]; omega)) (by decide) (by decide)).mono ?_
        rintro e w16 ⟨y5, rfl, d1, g1⟩
        have D_w16 : Hid (Dc w w16 g cv zs) := D_W15.out.draw d1 g1
        have O_w16 : Hid (Og 5 doC 38 P w16 (.slice oa j oc) os) := O_W15.out.draw g1 (by have := D_W15.out.lt; have := HP.out; omega)
        have T_w16 : Hid (Blk w16 X4 #[.int .i64 4, .int .i64 (wrap64 (t + y)), .int .i64 (a1), .int .i64 (a2), .int .i64 0] 38) := T_W15.out.grown g1 (by have := NET.out; simpa using this)
        clear d1 g1 D_W15 O_W15 T_W15 hW15 hqW15 LR LN
        have s0 := T_w16.out.cell 0
        have sf0 := T_w16.out.frozen 0
        have s1 := T_w16.out.cell 1
        have sf1 := T_w16.out.frozen 1
        have s2 := T_w16.out.cell 2
        have sf2 := T_w16.out.frozen 2
        have s3 := T_w16.out.cell 3
        have sf3 := T_w16.out.frozen 3
        have s4 := T_w16.out.cell 4
        have sf4 := T_w16.out.frozen 4
        simp at s0 s1 s2 s3 s4
        have gs : w16.grownBy (((((w16.setCell ⟨X4, 0, none⟩ (.int .i64 (y1 - 1))).setCell ⟨X4, 1, none⟩ (.int .i64 (wrap64 (wrap64 (t + y) - y2)))).setCell ⟨X4, 2, none⟩ (.int .i64 (y3 - 1))).setCell ⟨X4, 3, none⟩ (.int .i64 (y4))).setCell ⟨X4, 4, none⟩ (.int .i64 (y5))) (some X4) := grown_trans (grown_trans (grown_trans (grown_trans (grown_set' _ _ _ _) (grown_set' _ _ _ _)) (grown_set' _ _ _ _)) (grown_set' _ _ _ _)) (grown_set' _ _ _ _)
        have dn : Dc w (((((w16.setCell ⟨X4, 0, none⟩ (.int .i64 (y1 - 1))).setCell ⟨X4, 1, none⟩ (.int .i64 (wrap64 (wrap64 (t + y) - y2)))).setCell ⟨X4, 2, none⟩ (.int .i64 (y3 - 1))).setCell ⟨X4, 3, none⟩ (.int .i64 (y4))).setCell ⟨X4, 4, none⟩ (.int .i64 (y5))) g cv zs := D_w16.out.app (fun k e => by cases e; exact HXP.out) gs
        have on : Og 5 doC 38 P (((((w16.setCell ⟨X4, 0, none⟩ (.int .i64 (y1 - 1))).setCell ⟨X4, 1, none⟩ (.int .i64 (wrap64 (wrap64 (t + y) - y2)))).setCell ⟨X4, 2, none⟩ (.int .i64 (y3 - 1))).setCell ⟨X4, 3, none⟩ (.int .i64 (y4))).setCell ⟨X4, 4, none⟩ (.int .i64 (y5))) (.slice oa j oc) os := World.ownsRow.kept O_w16.out gs (.inr (fun e => HAX.out X4 e rfl))
        have tn : Blk (((((w16.setCell ⟨X4, 0, none⟩ (.int .i64 (y1 - 1))).setCell ⟨X4, 1, none⟩ (.int .i64 (wrap64 (wrap64 (t + y) - y2)))).setCell ⟨X4, 2, none⟩ (.int .i64 (y3 - 1))).setCell ⟨X4, 3, none⟩ (.int .i64 (y4))).setCell ⟨X4, 4, none⟩ (.int .i64 (y5))) X4 #[.int .i64 (y1 - 1), .int .i64 (wrap64 (wrap64 (t + y) - y2)), .int .i64 (y3 - 1), .int .i64 (y4), .int .i64 (y5)] 38 := ((((T_w16.out.set 0 _).set 1 _).set 2 _).set 3 _).set 4 _
        obtain ⟨WS, hWS⟩ : ∃ W, (((((w16.setCell ⟨X4, 0, none⟩ (.int .i64 (y1 - 1))).setCell ⟨X4, 1, none⟩ (.int .i64 (wrap64 (wrap64 (t + y) - y2)))).setCell ⟨X4, 2, none⟩ (.int .i64 (y3 - 1))).setCell ⟨X4, 3, none⟩ (.int .i64 (y4))).setCell ⟨X4, 4, none⟩ (.int .i64 (y5))) = W := ⟨_, rfl⟩
        rw [hWS] at dn on tn
        have D_WS : Hid (Dc w WS g cv zs) := dn
        have O_WS : Hid (Og 5 doC 38 P WS (.slice oa j oc) os) := on
        have T_WS : Hid (Blk WS X4 #[.int .i64 (y1 - 1), .int .i64 (wrap64 (wrap64 (t + y) - y2)), .int .i64 (y3 - 1), .int .i64 (y4), .int .i64 (y5)] 38) := tn
        clear gs dn on tn D_w16 O_w16 T_w16
        have c0 := T_WS.out.cell 0
        have c1 := T_WS.out.cell 1
        have c2 := T_WS.out.cell 2
        have c3 := T_WS.out.cell 3
        have c4 := T_WS.out.cell 4
        simp at c0 c1 c2 c3 c4
        have ba : Below WS.heap.size WS (WS.alloc (Obj.cells #[.int .i64 (y1 - 1), .int .i64 (wrap64 (wrap64 (t + y) - y2)), .int .i64 (y3 - 1), .int .i64 (y4), .int .i64 (y5)] 38)) := (Below.refl _ _).alloc (Nat.le_refl _) _
        have HR7 : Hid (Rg 5 doC (WS.alloc (Obj.cells #[.int .i64 (y1 - 1), .int .i64 (wrap64 (wrap64 (t + y) - y2)), .int .i64 (y3 - 1), .int .i64 (y4), .int .i64 (y5)] 38)) (.slice (some ⟨WS.heap.size, 0, none⟩) 1 1) [((y1 - 1), (wrap64 (wrap64 (t + y) - y2)), (y3 - 1), (y4), (y5))]) := Rg.oneDo (Blk.new _ _ _)
        have HO7 : Hid (Og 5 doC 38 P (WS.alloc (Obj.cells #[.int .i64 (y1 - 1), .int .i64 (wrap64 (wrap64 (t + y) - y2)), .int .i64 (y3 - 1), .int .i64 (y4), .int .i64 (y5)] 38)) (.slice oa j oc) os ∧ Dc w (WS.alloc (Obj.cells #[.int .i64 (y1 - 1), .int .i64 (wrap64 (wrap64 (t + y) - y2)), .int .i64 (y3 - 1), .int .i64 (y4), .int .i64 (y5)] 38)) g cv zs) := ⟨O_WS.out.below ba, D_WS.out.below ba⟩
        have HB7 : Hid (P ≤ (WS.alloc (Obj.cells #[.int .i64 (y1 - 1), .int .i64 (wrap64 (wrap64 (t + y) - y2)), .int .i64 (y3 - 1), .int .i64 (y4), .int .i64 (y5)] 38)).heap.size) := by rw [Hid, ← HP.out]; exact HO7.out.2.gr.size
        clear ba D_WS O_WS T_WS
        go_wp2_with (at_builtin; refine appDo rfl _ _ rfl P _ os rfl HO7.out.1 _ [((y1 - 1), (wrap64 (wrap64 (t + y) - y2)), (y3 - 1), (y4), (y5))] rfl HR7.out (by have := HLN.out; have := HJB.out; simp; omega) HB7.out ?_)
        intro v' w8 ho hg hv
        have HF : Hid (Og 5 doC 38 P w8 v' (os ++ [((y1 - 1), (wrap64 (wrap64 (t + y) - y2)), (y3 - 1), (y4), (y5))]) ∧ Dc w w8 g cv zs) := ⟨ho, HO7.out.2.app (fun k e => by rw [HP.out]; exact (Og.lt HO7.out.1 k e).1) hg⟩
        clear ho hg hv HO7 HR7 HB7 s0 s1 s2 s3 s4 sf0 sf1 sf2 sf3 sf4 hWS c0 c1 c2 c3 c4
        go_wp2
        go_roundw
        case rel => exact ⟨j + 1, _, os ++ [((y1 - 1), (wrap64 (wrap64 (t + y) - y2)), (y3 - 1), (y4), (y5))], by go_num, rfl, by simp [HLN.out], .inl (by omega), HF.out⟩
        case measure => simp [intOf]; omega
    have hb4 : (kd == 4) = false := beq_eq_false_iff_ne.2 hk4
    go_wp2_with (fail)
    rw [HWW4.out, HXX4.out]
    refine (once_c g cv zs 40 _ D_W4.out.dr (by omega)).mono ?_
    rintro e w5 ⟨r, rfl, d1, g1⟩
    have D_w5 : Hid (Dc w w5 g cv zs) := D_W4.out.draw d1 g1
    have O_w5 : Hid (Og 5 doC 38 P w5 (.slice oa j oc) os) := O_W4.out.draw g1 (by have := D_W4.out.lt; have := HP.out; omega)
    have T_w5 : Hid (Blk w5 X4 #[.int .i64 kd, .int .i64 (wrap64 (t + y)), .int .i64 0, .int .i64 0, .int .i64 0] 38) := T_W4.out.grown g1 (by have := NET.out; simpa using this)
    clear d1 g1 D_W4 O_W4 T_W4 c0
    cases r with
    | false =>
      have c0 := T_w5.out.cell 0
      have c1 := T_w5.out.cell 1
      have c2 := T_w5.out.cell 2
      have c3 := T_w5.out.cell 3
      have c4 := T_w5.out.cell 4
      simp at c0 c1 c2 c3 c4
      have ba : Below w5.heap.size w5 (w5.alloc (Obj.cells #[.int .i64 kd, .int .i64 (wrap64 (t + y)), .int .i64 0, .int .i64 0, .int .i64 0] 38)) := (Below.refl _ _).alloc (Nat.le_refl _) _
      have HR7 : Hid (Rg 5 doC (w5.alloc (Obj.cells #[.int .i64 kd, .int .i64 (wrap64 (t + y)), .int .i64 0, .int .i64 0, .int .i64 0] 38)) (.slice (some ⟨w5.heap.size, 0, none⟩) 1 1) [(kd, (wrap64 (t + y)), 0, 0, 0)]) := Rg.oneDo (Blk.new _ _ _)
      have HO7 : Hid (Og 5 doC 38 P (w5.alloc (Obj.cells #[.int .i64 kd, .int .i64 (wrap64 (t + y)), .int .i64 0, .int .i64 0, .int .i64 0] 38)) (.slice oa j oc) os ∧ Dc w (w5.alloc (Obj.cells #[.int .i64 kd, .int .i64 (wrap64 (t + y)), .int .i64 0, .int .i64 0, .int .i64 0] 38)) g cv zs) := ⟨O_w5.out.below ba, D_w5.out.below ba⟩
      have HB7 : Hid (P ≤ (w5.alloc (Obj.cells #[.int .i64 kd, .int .i64 (wrap64 (t + y)), .int .i64 0, .int .i64 0, .int .i64 0] 38)).heap.size) := by rw [Hid, ← HP.out]; exact HO7.out.2.gr.size
      clear ba D_w5 O_w5 T_w5
      go_wp2_with (at_builtin; refine appDo rfl _ _ rfl P _ os rfl HO7.out.1 _ [(kd, (wrap64 (t + y)), 0, 0, 0)] rfl HR7.out (by have := HLN.out; have := HJB.out; simp; omega) HB7.out ?_)
      intro v' w8 ho hg hv
      have HF : Hid (Og 5 doC 38 P w8 v' (os ++ [(kd, (wrap64 (t + y)), 0, 0, 0)]) ∧ Dc w w8 g cv zs) := ⟨ho, HO7.out.2.app (fun k e => by rw [HP.out]; exact (Og.lt HO7.out.1 k e).1) hg⟩
      clear ho hg hv HO7 HR7 HB7 c0 c1 c2 c3 c4
      go_wp2
      go_roundw
      case rel => exact ⟨j + 1, _, os ++ [(kd, (wrap64 (t + y)), 0, 0, 0)], by go_num, rfl, by simp [HLN.out], .inl (by omega), HF.out⟩
      case measure => simp [intOf]; omega
    | true =>
      go_wp2_with (fail)
      refine (below_c g cv zs 7 _ D_w5.out.dr (by omega)).mono ?_
      rintro e w6 ⟨y1, rfl, hy10, hy11, hy12, d1, g1⟩
      have D_w6 : Hid (Dc w w6 g cv zs) := D_w5.out.draw d1 g1
      have O_w6 : Hid (Og 5 doC 38 P w6 (.slice oa j oc) os) := O_w5.out.draw g1 (by have := D_w5.out.lt; have := HP.out; omega)
      have T_w6 : Hid (Blk w6 X4 #[.int .i64 kd, .int .i64 (wrap64 (t + y)), .int .i64 0, .int .i64 0, .int .i64 0] 38) := T_w5.out.grown g1 (by have := NET.out; simpa using this)
      clear d1 g1 D_w5 O_w5 T_w5
      go_wp2_with (fail)
      refine (below_c g cv zs 3 _ D_w6.out.dr (by omega)).mono ?_
      rintro e w7 ⟨y2, rfl, hy20, hy21, hy22, d1, g1⟩
      have D_w7 : Hid (Dc w w7 g cv zs) := D_w6.out.draw d1 g1
      have O_w7 : Hid (Og 5 doC 38 P w7 (.slice oa j oc) os) := O_w6.out.draw g1 (by have := D_w6.out.lt; have := HP.out; omega)
      have T_w7 : Hid (Blk w7 X4 #[.int .i64 kd, .int .i64 (wrap64 (t + y)), .int .i64 0, .int .i64 0, .int .i64 0] 38) := T_w6.out.grown g1 (by have := NET.out; simpa using this)
      clear d1 g1 D_w6 O_w6 T_w6
      go_wp2_with (fail)
      refine (below_c g cv zs 9 _ D_w7.out.dr (by omega)).mono ?_
      rintro e w8 ⟨y3, rfl, hy30, hy31, hy32, d1, g1⟩
      have D_w8 : Hid (Dc w w8 g cv zs) := D_w7.out.draw d1 g1
      have O_w8 : Hid (Og 5 doC 38 P w8 (.slice oa j oc) os) := O_w7.out.draw g1 (by have := D_w7.out.lt; have := HP.out; omega)
      have T_w8 : Hid (Blk w8 X4 #[.int .i64 kd, .int .i64 (wrap64 (t + y)), .int .i64 0, .int .i64 0, .int .i64 0] 38) := T_w7.out.grown g1 (by have := NET.out; simpa using this)
      clear d1 g1 D_w7 O_w7 T_w7
      have hy1b := hy11 (by omega)
      have hy2b := hy21 (by omega)
      have hy3b := hy31 (by omega)
      clear hy12 hy22 hy32 hy11 hy21 hy31
      have ba : Below w8.heap.size w8 (w8.alloc (Obj.cells #[.int .i64 0, .int .i64 3, .int .i64 128, .int .i64 256, .int .i64 (-1)] 3)) := (Below.refl _ _).alloc (Nat.le_refl _) _
      have lr : Rd .i64 (w8.alloc (Obj.cells #[.int .i64 0, .int .i64 3, .int .i64 128, .int .i64 256, .int .i64 (-1)] 3)) (.slice (some ⟨w8.heap.size, 0, none⟩) 5 5) [0, 3, 128, 256, -1] := Rd.lit w8 [0, 3, 128, 256, -1] (by decide)
      have hgl : g < w8.heap.size := D_w8.out.dr.lt
      obtain ⟨W9, hW9⟩ : ∃ W, w8.alloc (Obj.cells #[.int .i64 0, .int .i64 3, .int .i64 128, .int .i64 256, .int .i64 (-1)] 3) = W := ⟨_, rfl⟩
      obtain ⟨qW9, hqW9⟩ : ∃ X, w8.heap.size = X := ⟨_, rfl⟩
      rw [hW9] at ba lr
      rw [hqW9] at lr hgl
      have LR : Hid (Rd .i64 W9 (.slice (some ⟨qW9, 0, none⟩) 5 5) [0, 3, 128, 256, -1]) := lr
      have LN : Hid (g < qW9) := hgl
      have D_W9 : Hid (Dc w W9 g cv zs) := D_w8.out.below ba
      have O_W9 : Hid (Og 5 doC 38 P W9 (.slice oa j oc) os) := O_w8.out.below ba
      have T_W9 : Hid (Blk W9 X4 #[.int .i64 kd, .int .i64 (wrap64 (t + y)), .int .i64 0, .int .i64 0, .int .i64 0] 38) := T_w8.out.below ba T_w8.out.lt
      clear ba lr hgl D_w8 O_w8 T_w8
      go_wp2_with (fail)
      refine (pickInt_c g cv zs (.slice (some ⟨qW9, 0, none⟩) 5 5) [0, 3, 128, 256, -1] _ D_W9.out.dr LR.out (.inr (by have := LN.out; simp [Value.ownBlock]; omega)) (by decide) (by decide)).mono ?_
      rintro e w10 ⟨y4, rfl, d1, g1⟩
      have D_w10 : Hid (Dc w w10 g cv zs) := D_W9.out.draw d1 g1
      have O_w10 : Hid (Og 5 doC 38 P w10 (.slice oa j oc) os) := O_W9.out.draw g1 (by have := D_W9.out.lt; have := HP.out; omega)
      have T_w10 : Hid (Blk w10 X4 #[.int .i64 kd, .int .i64 (wrap64 (t + y)), .int .i64 0, .int .i64 0, .int .i64 0] 38) := T_W9.out.grown g1 (by have := NET.out; simpa using this)
      clear d1 g1 D_W9 O_W9 T_W9 hW9 hqW9 LR LN
      have ba : Below w10.heap.size w10 (w10.alloc (Obj.cells #[.int .i64 0, .int .i64 9, .int .i64 10, .int .i64 (-1)] 3)) := (Below.refl _ _).alloc (Nat.le_refl _) _
      have lr : Rd .i64 (w10.alloc (Obj.cells #[.int .i64 0, .int .i64 9, .int .i64 10, .int .i64 (-1)] 3)) (.slice (some ⟨w10.heap.size, 0, none⟩) 4 4) [0, 9, 10, -1] := Rd.lit w10 [0, 9, 10, -1] (by decide)
      have hgl : g < w10.heap.size := D_w10.out.dr.lt
      obtain ⟨W11, hW11⟩ : ∃ W, w10.alloc (Obj.cells #[.int .i64 0, .int .i64 9, .int .i64 10, .int .i64 (-1)] 3) = W := ⟨_, rfl⟩
      obtain ⟨qW11, hqW11⟩ : ∃ X, w10.heap.size = X := ⟨_, rfl⟩
      rw [hW11] at ba lr
      rw [hqW11] at lr hgl
      have LR : Hid (Rd .i64 W11 (.slice (some ⟨qW11, 0, none⟩) 4 4) [0, 9, 10, -1]) := lr
      have LN : Hid (g < qW11) := hgl
      have D_W11 : Hid (Dc w W11 g cv zs) := D_w10.out.below ba
      have O_W11 : Hid (Og 5 doC 38 P W11 (.slice oa j oc) os) := O_w10.out.below ba
      have T_W11 : Hid (Blk W11 X4 #[.int .i64 kd, .int .i64 (wrap64 (t + y)), .int .i64 0, .int .i64 0, .int .i64 0] 38) := T_w10.out.below ba T_w10.out.lt
      clear ba lr hgl D_w10 O_w10 T_w10
      go_wp2_with (fail)
      refine (pickInt_c g cv zs (.slice (some ⟨qW11, 0, none⟩) 4 4) [0, 9, 10, -1] _ D_W11.out.dr LR.out (.inr (by have := LN.out; simp [Value.ownBlock]; omega)) (by decide) (by decide)).mono ?_
      rintro e w12 ⟨y5, rfl, d1, g1⟩
      have D_w12 : Hid (Dc w w12 g cv zs) := D_W11.out.draw d1 g1
      have O_w12 : Hid (Og 5 doC 38 P w12 (.slice oa j oc) os) := O_W11.out.draw g1 (by have := D_W11.out.lt; have := HP.out; omega)
      have T_w12 : Hid (Blk w12 X4 #[.int .i64 kd, .int .i64 (wrap64 (t + y)), .int .i64 0, .int .i64 0, .int .i64 0] 38) := T_W11.out.grown g1 (by have := NET.out; simpa using this)
      clear d1 g1 D_W11 O_W11 T_W11 hW11 hqW11 LR LN
      have s0 := T_w12.out.cell 0
      have sf0 := T_w12.out.frozen 0
      have s1 := T_w12.out.cell 1
      have sf1 := T_w12.out.frozen 1
      have s2 := T_w12.out.cell 2
      have sf2 := T_w12.out.frozen 2
      have s3 := T_w12.out.cell 3
      have sf3 := T_w12.out.frozen 3
      have s4 := T_w12.out.cell 4
      have sf4 := T_w12.out.frozen 4
      simp at s0 s1 s2 s3 s4
      have gs : w12.grownBy (((((w12.setCell ⟨X4, 0, none⟩ (.int .i64 (y1 - 1))).setCell ⟨X4, 1, none⟩ (.int .i64 (wrap64 (wrap64 (t + y) - y2)))).setCell ⟨X4, 2, none⟩ (.int .i64 (y3 - 1))).setCell ⟨X4, 3, none⟩ (.int .i64 (y4))).setCell ⟨X4, 4, none⟩ (.int .i64 (y5))) (some X4) := grown_trans (grown_trans (grown_trans (grown_trans (grown_set' _ _ _ _) (grown_set' _ _ _ _)) (grown_set' _ _ _ _)) (grown_set' _ _ _ _)) (grown_set' _ _ _ _)
      have dn : Dc w (((((w12.setCell ⟨X4, 0, none⟩ (.int .i64 (y1 - 1))).setCell ⟨X4, 1, none⟩ (.int .i64 (wrap64 (wrap64 (t + y) - y2)))).setCell ⟨X4, 2, none⟩ (.int .i64 (y3 - 1))).setCell ⟨X4, 3, none⟩ (.int .i64 (y4))).setCell ⟨X4, 4, none⟩ (.int .i64 (y5))) g cv zs := D_w12.out.app (fun k e => by cases e; exact HXP.out) gs
      have on : Og 5 doC 38 P (((((w12.setCell ⟨X4, 0, none⟩ (.int .i64 (y1 - 1))).setCell ⟨X4, 1, none⟩ (.int .i64 (wrap64 (wrap64 (t + y) - y2)))).setCell ⟨X4, 2, none⟩ (.int .i64 (y3 - 1))).setCell ⟨X4, 3, none⟩ (.int .i64 (y4))).setCell ⟨X4, 4, none⟩ (.int .i64 (y5))) (.slice oa j oc) os := World.ownsRow.kept O_w12.out gs (.inr (fun e => HAX.out X4 e rfl))
      have tn : Blk (((((w12.setCell ⟨X4, 0, none⟩ (.int .i64 (y1 - 1))).setCell ⟨X4, 1, none⟩ (.int .i64 (wrap64 (wrap64 (t + y) - y2)))).setCell ⟨X4, 2, none⟩ (.int .i64 (y3 - 1))).setCell ⟨X4, 3, none⟩ (.int .i64 (y4))).setCell ⟨X4, 4, none⟩ (.int .i64 (y5))) X4 #[.int .i64 (y1 - 1), .int .i64 (wrap64 (wrap64 (t + y) - y2)), .int .i64 (y3 - 1), .int .i64 (y4), .int .i64 (y5)] 38 := ((((T_w12.out.set 0 _).set 1 _).set 2 _).set 3 _).set 4 _
      obtain ⟨WS, hWS⟩ : ∃ W, (((((w12.setCell ⟨X4, 0, none⟩ (.int .i64 (y1 - 1))).setCell ⟨X4, 1, none⟩ (.int .i64 (wrap64 (wrap64 (t + y) - y2)))).setCell ⟨X4, 2, none⟩ (.int .i64 (y3 - 1))).setCell ⟨X4, 3, none⟩ (.int .i64 (y4))).setCell ⟨X4, 4, none⟩ (.int .i64 (y5))) = W := ⟨_, rfl⟩
      rw [hWS] at dn on tn
      have D_WS : Hid (Dc w WS g cv zs) := dn
      have O_WS : Hid (Og 5 doC 38 P WS (.slice oa j oc) os) := on
      have T_WS : Hid (Blk WS X4 #[.int .i64 (y1 - 1), .int .i64 (wrap64 (wrap64 (t + y) - y2)), .int .i64 (y3 - 1), .int .i64 (y4), .int .i64 (y5)] 38) := tn
      clear gs dn on tn D_w12 O_w12 T_w12
      have c0 := T_WS.out.cell 0
      have c1 := T_WS.out.cell 1
      have c2 := T_WS.out.cell 2
      have c3 := T_WS.out.cell 3
      have c4 := T_WS.out.cell 4
      simp at c0 c1 c2 c3 c4
      have ba : Below WS.heap.size WS (WS.alloc (Obj.cells #[.int .i64 (y1 - 1), .int .i64 (wrap64 (wrap64 (t + y) - y2)), .int .i64 (y3 - 1), .int .i64 (y4), .int .i64 (y5)] 38)) := (Below.refl _ _).alloc (Nat.le_refl _) _
      have HR7 : Hid (Rg 5 doC (WS.alloc (Obj.cells #[.int .i64 (y1 - 1), .int .i64 (wrap64 (wrap64 (t + y) - y2)), .int .i64 (y3 - 1), .int .i64 (y4), .int .i64 (y5)] 38)) (.slice (some ⟨WS.heap.size, 0, none⟩) 1 1) [((y1 - 1), (wrap64 (wrap64 (t + y) - y2)), (y3 - 1), (y4), (y5))]) := Rg.oneDo (Blk.new _ _ _)
      have HO7 : Hid (Og 5 doC 38 P (WS.alloc (Obj.cells #[.int .i64 (y1 - 1), .int .i64 (wrap64 (wrap64 (t + y) - y2)), .int .i64 (y3 - 1), .int .i64 (y4), .int .i64 (y5)] 38)) (.slice oa j oc) os ∧ Dc w (WS.alloc (Obj.cells #[.int .i64 (y1 - 1), .int .i64 (wrap64 (wrap64 (t + y) - y2)), .int .i64 (y3 - 1), .int .i64 (y4), .int .i64 (y5)] 38)) g cv zs) := ⟨O_WS.out.below ba, D_WS.out.below ba⟩
      have HB7 : Hid (P ≤ (WS.alloc (Obj.cells #[.int .i64 (y1 - 1), .int .i64 (wrap64 (wrap64 (t + y) - y2)), .int .i64 (y3 - 1), .int .i64 (y4), .int .i64 (y5)] 38)).heap.size) := by rw [Hid, ← HP.out]; exact HO7.out.2.gr.size
      clear ba D_WS O_WS T_WS
      go_wp2_with (at_builtin; refine appDo rfl _ _ rfl P _ os rfl HO7.out.1 _ [((y1 - 1), (wrap64 (wrap64 (t + y) - y2)), (y3 - 1), (y4), (y5))] rfl HR7.out (by have := HLN.out; have := HJB.out; simp; omega) HB7.out ?_)
      intro v' w8 ho hg hv
      have HF : Hid (Og 5 doC 38 P w8 v' (os ++ [((y1 - 1), (wrap64 (wrap64 (t + y) - y2)), (y3 - 1), (y4), (y5))]) ∧ Dc w w8 g cv zs) := ⟨ho, HO7.out.2.app (fun k e => by rw [HP.out]; exact (Og.lt HO7.out.1 k e).1) hg⟩
      clear ho hg hv HO7 HR7 HB7 s0 s1 s2 s3 s4 sf0 sf1 sf2 sf3 sf4 hWS c0 c1 c2 c3 c4
      go_wp2
      go_roundw
      case rel => exact ⟨j + 1, _, os ++ [((y1 - 1), (wrap64 (wrap64 (t + y) - y2)), (y3 - 1), (y4), (y5))], by go_num, rfl, by simp [HLN.out], .inl (by omega), HF.out⟩
      case measure => simp [intOf]; omega
end Go.Proofs.Ytpmmgbinogokfaa

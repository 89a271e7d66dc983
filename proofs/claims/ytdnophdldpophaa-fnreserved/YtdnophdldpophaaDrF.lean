/- l9Draw; no condition. -/
import Derived.Test.YtdnophdldpophaaDrD
import Derived.Test.YtdnophdldpophaaTM
import Derived.Test.YtdnophdldpophaaInv
import Derived.Laws.AppendOwnNone
import Derived.Deep.DeepCutAuto
namespace Go.Proofs.Ytdnophdldpophaa
open Go.RowKit Go.ChangeShapes Go.WideShapes Go.ChangeAt
set_option linter.unusedVariables false
set_option linter.unusedSimpArgs false
set_option maxRecDepth 8000
theorem appTf {ops : Array Oper} {rest : List Oper} {o : Oper} {a : Act} {w : World} {Q : Exit → Act → World → Prop} (hgd : o.guard = none) (s x : Operand)
    (ho : o.op = .call { callee := .builtin .append, args := #[s, x], argTypes := #[26, 26] }) (base : Nat) (v : Value) (l0 : List Tf) (hs : a.eval s = v) (hown : Og 5 tfC 32 base w v l0)
    (v2 : Value) (ls : List Tf) (hx : a.eval x = v2) (hr : Rg 5 tfC w v2 ls) (hl : l0.length + ls.length ≤ 1099511627776) (hbase : base ≤ w.heap.size)
    (h : ∀ v' w', Og 5 tfC 32 base w' v' (l0 ++ ls) → w.grownBy w' v.ownBlock → (v'.ownBlock = v.ownBlock ∨ v'.ownBlock = some w.heap.size) → wpList Try.prog ops Q rest (a.put o.dst v') w') : wpList Try.prog ops Q (o :: rest) a w := by
  obtain ⟨i0, hi, hz0, hz1, hz2⟩ := info_parts infoTf
  obtain ⟨av, cap, rfl, h1, h2, h3⟩ := hr
  by_cases hav : av = none
  · subst hav
    have hl0 : ls = [] := by
      rcases h3 with h3 | ⟨b, off, e, -⟩
      · exact h3
      · cases e
    subst hl0
    refine wpList_plain hgd fun K hK => ?_
    have hx' : a.eval x = .slice none 0 cap := hx
    obtain ⟨v', w', hr, q1, q2, q3⟩ : ∃ v' w', (Builtin.append_ #[26, 26] o.type #[v, .slice none 0 cap]).run Try.prog w = .ok v' w' ∧ Og 5 tfC 32 base w' v' (l0 ++ []) ∧ w.grownBy w' v.ownBlock ∧ (v'.ownBlock = v.ownBlock ∨ v'.ownBlock = some w.heap.size) := by
      refine ⟨v, w, ?_, by simpa using hown, grown_refl _ _, .inl rfl⟩
      rcases hown.2 with ⟨rfl, h0⟩ | ⟨g, cp, cur, rfl, _, _, hnc, _⟩
      · simp [Builtin.append_, run_underlying Try.underlying26, sizeOf, typeInfo, hi, Builtin.lenOf, Builtin.firstCells]
      · simp [Builtin.append_, run_underlying Try.underlying26, sizeOf, typeInfo, hi, Builtin.lenOf, Builtin.firstCells, hnc, storeCells]
    unfold Oper.wp execOp
    simp only [ho, resolve, invoke, builtin, Sem.run_bind, Sem.run_pure, Result.andThen_ok, List.map_toArray, List.map_cons, List.map_nil, hs, hx', hr]
    exact hK _ _ (h v' w' q1 q2 q3)
  · obtain ⟨ad, rfl⟩ : ∃ ad, av = some ad := by cases av with | none => exact absurd rfl hav | some ad => exact ⟨ad, rfl⟩
    refine wpList_append_own_at w hgd s x 26 ho base 32 i0 (.agg #[.int .i64 0, .int .i64 0, .int .i64 0, .int .i64 0, .int .i64 0]) 5 40 Try.underlying26 hi hz0 hz1 hz2 rfl (by decide) v l0.length (l0.flatMap tfC) hs hown ad ls.length cap (ls.flatMap tfC) hx (fm_len tfC_len ls) ?_ tfC_one ?_ ?_ hbase ?_
    · rcases h3 with rfl | ⟨b, off, e, h4⟩
      · intro j u hu; simp at hu
      · cases e
        exact fm_news tfC_len h4
    · unfold maxLen; omega
    · omega
    · intro v' w' g1 g2 g3 g4
      refine h v' w' ?_ g2 g4
      rw [Og, List.flatMap_append, List.length_append]; exact g1
structure Sd (C : Nat) (B : World) (vo : Value) (ls : List Tf) (x : Tf) (X : Nat) (d : Nat → Bool) (W : World) (v0 v1 v2 v3 v4 v5 v6 : Value) (X0 X4 : Nat) : Prop where
  bel : Below C B W
  f0 : d 0 = true → v0 = .slice (some ⟨X0, 0, none⟩) 0 0 ∧ X0 < W.heap.size
  o0 : d 0 = true → d 2 = false → Og 5 tfC 32 C W v0 []
  f1 : d 1 = true → v1 = vo
  o2 : d 2 = true → d 5 = false → Og 5 tfC 32 C W v2 ls
  f3 : d 3 = true → v3 = .agg #[.int .i64 x.1, .int .i64 x.2.1, .int .i64 x.2.2.1, .int .i64 x.2.2.2.1, .int .i64 x.2.2.2.2]
  f4 : d 4 = true → v4 = .slice (some ⟨X4, 0, none⟩) 1 1 ∧ X4 < W.heap.size
  o4 : d 4 = true → d 5 = false → Blk W X4 #[.int .i64 x.1, .int .i64 x.2.1, .int .i64 x.2.2.1, .int .i64 x.2.2.2.1, .int .i64 x.2.2.2.2] 32
  ap : d 4 = true → d 0 = true → d 2 = false → X4 ≠ X0
  aq : d 4 = true → d 2 = true → d 5 = false → v2.ownBlock ≠ some X4
  o5 : d 5 = true → d 6 = false → Rg 5 tfC W v5 (ls ++ [x])
  f6 : d 6 = true → ∃ r : Bool, v6 = .bool r
  g5 : d 5 = true → d 2 = true ∧ d 4 = true
  g2 : d 2 = true → d 0 = true
  g6 : d 6 = true → d 5 = true
def SdS (C : Nat) (B : World) (vo : Value) (ls : List Tf) (x : Tf) (X : Nat) (d : Nat → Bool) (l : List Value) (W : World) : Prop := ∃ v0 v1 v2 v3 v4 v5 v6 X0 X4, l = [v0, v1, v2, v3, v4, v5, v6] ∧ Sd C B vo ls x X d W v0 v1 v2 v3 v4 v5 v6 X0 X4
theorem Sd.below {C : Nat} {B : World} {vo : Value} {ls : List Tf} {x : Tf} {X : Nat} {d : Nat → Bool} {W W' : World} {v0 v1 v2 v3 v4 v5 v6 : Value} {X0 X4 : Nat} (h : Sd C B vo ls x X d W v0 v1 v2 v3 v4 v5 v6 X0 X4) (hC : C ≤ B.heap.size) (hb : Below W.heap.size W W') : Sd C B vo ls x X d W' v0 v1 v2 v3 v4 v5 v6 X0 X4 :=
  { h with
    bel := belowCall h.bel hb (Nat.le_trans hC h.bel.size)
    f0 := fun e => ⟨(h.f0 e).1, Nat.lt_of_lt_of_le (h.f0 e).2 hb.size⟩
    o0 := fun e e2 => (h.o0 e e2).below hb
    o2 := fun e e2 => (h.o2 e e2).below hb
    f4 := fun e => ⟨(h.f4 e).1, Nat.lt_of_lt_of_le (h.f4 e).2 hb.size⟩
    o4 := fun e e2 => (h.o4 e e2).below hb (h.o4 e e2).lt
    o5 := fun e e2 => (h.o5 e e2).below hb }
theorem Rg.one {W : World} {X : Nat} {x : Tf} (h : Blk W X #[.int .i64 x.1, .int .i64 x.2.1, .int .i64 x.2.2.1, .int .i64 x.2.2.2.1, .int .i64 x.2.2.2.2] 32) : Rg 5 tfC W (.slice (some ⟨X, 0, none⟩) 1 1) [x] := by
  refine ⟨_, _, rfl, Nat.le_refl _, by simp [maxLen], .inr ⟨X, 0, rfl, fun i hi => ?_⟩⟩
  have h0 : i = 0 := by simpa using hi
  subst h0
  intro j u hu
  have := h.cell j
  simp at hu ⊢
  rw [this]
  simpa using hu
def DlR (g : Nat) (cv : Value) (zs : List Int) (w : World) (e : Ending) (w' : World) : Prop := ∃ v ls, e = .returned v ∧ Og 5 tfC 32 w.heap.size w' v ls ∧ ls.length ≤ 100 ∧ Dr w' g cv zs ∧ w.grownBy w' (some g)
set_option maxHeartbeats 12800000 in
theorem l9Draw_c (g : Nat) (cv : Value) (zs : List Int) (w : World) (h : Dr w g cv zs) : Calls Try.prog 49 #[.pointer (some ⟨g, 0, none⟩)] w (DlR g cv zs w) := by
  have ba : Below w.heap.size w (w.alloc (Obj.cells #[] 32)) := (Below.refl _ _).alloc (Nat.le_refl _) _
  have o0 : Og 5 tfC 32 w.heap.size (w.alloc (Obj.cells #[] 32)) (.slice (some ⟨w.heap.size, 0, none⟩) 0 0) [] := World.ownsRow_lit w #[] 0 (Nat.le_refl _) (by simp) (by simp)
  have D0 := (Dc.start h).below ba
  obtain ⟨P, hP⟩ : ∃ P, w.heap.size = P := ⟨_, rfl⟩
  have HP : Hid (w.heap.size = P) := hP
  obtain ⟨W0, hW0⟩ : ∃ W, w.alloc (Obj.cells #[] 32) = W := ⟨_, rfl⟩
  rw [hW0] at D0 o0
  rw [hP] at o0
  have D_W0 : Hid (Dc w W0 g cv zs) := D0
  have O_W0 : Hid (Og 5 tfC 32 P W0 (.slice (some ⟨P, 0, none⟩) 0 0) []) := o0
  clear ba o0 D0 h
  go_enter Try.func49, Try.ntmps49
  go_wp2_with (fail)
  refine (below_c g cv zs 7 _ D_W0.out.dr (by omega)).mono ?_
  rintro e w1 ⟨i, rfl, hi0, hi1, hi2, d1, g1⟩
  have D_w1 : Hid (Dc w w1 g cv zs) := D_W0.out.draw d1 g1
  have O_w1 : Hid (Og 5 tfC 32 P w1 (.slice (some ⟨P, 0, none⟩) 0 0) []) := O_W0.out.draw g1 (by have := D_W0.out.lt; omega)
  clear d1 g1 D_W0 O_W0 hW0
  have hi1 := hi1 (by omega)
  clear hi2
  go_wp2
  go_loopw [3, 4] (fun v i wr => ∃ (n : Nat) (ls : List Tf), i = .int .i64 n ∧ n ≤ 7 ∧ ls.length + n ≤ 7 ∧ Hid (Og 5 tfC 32 P wr v ls ∧ Dc w wr g cv zs)) (fun _ i _ => (intOf i).toNat)
  case atStart => exact ⟨i.toNat, [], by rw [Int.toNat_of_nonneg hi0], by omega, by simp; omega, O_w1.out, D_w1.out⟩
  case round =>
    obtain ⟨n, ls, rfl, hn7, hln, hh⟩ := hrel
    clear D_w1 O_w1
    have HLN : Hid (ls.length ≤ 7) := by show _ ≤ _; omega
    obtain ⟨oa, oc, rfl⟩ := hh.out.1.form
    have D_wr : Hid (Dc w wr g cv zs) := hh.out.2
    have O_wr : Hid (Og 5 tfC 32 P wr (.slice oa ls.length oc) ls) := hh.out.1
    clear hh
    by_cases hpos : n = 0
    · subst hpos
      go_wp2
      go_ret
      exact ⟨_, ls, rfl, by rw [HP.out]; exact O_wr.out, by have := HLN.out; omega, D_wr.out.dr, D_wr.out.gr⟩
    have hposI : (0 : Int) < (n : Int) := by omega
    clear hpos hi0 hi1
    go_wp2_with (fail)
    refine (below_c g cv zs 2 _ D_wr.out.dr (by omega)).mono ?_
    rintro e w2 ⟨t0, rfl, ht00, ht01, ht02, d1, g1⟩
    have D_w2 : Hid (Dc w w2 g cv zs) := D_wr.out.draw d1 g1
    have O_w2 : Hid (Og 5 tfC 32 P w2 (.slice oa ls.length oc) ls) := O_wr.out.draw g1 (by have := D_wr.out.lt; omega)
    clear d1 g1 D_wr O_wr
    have ba : Below w2.heap.size w2 (w2.alloc (Obj.cells #[.int .i64 0, .int .i64 100, .int .i64 28800, .int .i64 64800, .int .i64 86399, .int .i64 50] 3)) := (Below.refl _ _).alloc (Nat.le_refl _) _
    have lr : Rd .i64 (w2.alloc (Obj.cells #[.int .i64 0, .int .i64 100, .int .i64 28800, .int .i64 64800, .int .i64 86399, .int .i64 50] 3)) (.slice (some ⟨w2.heap.size, 0, none⟩) 6 6) [0, 100, 28800, 64800, 86399, 50] := Rd.lit w2 [0, 100, 28800, 64800, 86399, 50] (by decide)
    have hgl : g < w2.heap.size := D_w2.out.dr.lt
    obtain ⟨W3, hW3⟩ : ∃ W, w2.alloc (Obj.cells #[.int .i64 0, .int .i64 100, .int .i64 28800, .int .i64 64800, .int .i64 86399, .int .i64 50] 3) = W := ⟨_, rfl⟩
    obtain ⟨qW3, hqW3⟩ : ∃ X, w2.heap.size = X := ⟨_, rfl⟩
    rw [hW3] at ba lr
    rw [hqW3] at lr hgl
    have LR : Hid (Rd .i64 W3 (.slice (some ⟨qW3, 0, none⟩) 6 6) [0, 100, 28800, 64800, 86399, 50]) := lr
    have LN : Hid (g < qW3) := hgl
    have D_W3 : Hid (Dc w W3 g cv zs) := D_w2.out.below ba
    have O_W3 : Hid (Og 5 tfC 32 P W3 (.slice oa ls.length oc) ls) := O_w2.out.below ba
    clear ba lr hgl D_w2 O_w2
    go_wp2_with (fail)
    refine (pickInt_c g cv zs (.slice (some ⟨qW3, 0, none⟩) 6 6) [0, 100, 28800, 64800, 86399, 50] _ D_W3.out.dr LR.out (.inr (by have := LN.out; simp [Value.ownBlock]; omega)) (by decide) (by decide)).mono ?_
    rintro e w4 ⟨t1, rfl, d1, g1⟩
    have D_w4 : Hid (Dc w w4 g cv zs) := D_W3.out.draw d1 g1
    have O_w4 : Hid (Og 5 tfC 32 P w4 (.slice oa ls.length oc) ls) := O_W3.out.draw g1 (by have := D_W3.out.lt; omega)
    clear d1 g1 D_W3 O_W3 hW3 hqW3 LR LN
    have ba : Below w4.heap.size w4 (w4.alloc (Obj.cells #[.int .i64 60, .int .i64 30, .int .i64 7, .int .i64 180, .int .i64 1000, .int .i64 45] 3)) := (Below.refl _ _).alloc (Nat.le_refl _) _
    have lr : Rd .i64 (w4.alloc (Obj.cells #[.int .i64 60, .int .i64 30, .int .i64 7, .int .i64 180, .int .i64 1000, .int .i64 45] 3)) (.slice (some ⟨w4.heap.size, 0, none⟩) 6 6) [60, 30, 7, 180, 1000, 45] := Rd.lit w4 [60, 30, 7, 180, 1000, 45] (by decide)
    have hgl : g < w4.heap.size := D_w4.out.dr.lt
    obtain ⟨W5, hW5⟩ : ∃ W, w4.alloc (Obj.cells #[.int .i64 60, .int .i64 30, .int .i64 7, .int .i64 180, .int .i64 1000, .int .i64 45] 3) = W := ⟨_, rfl⟩
    obtain ⟨qW5, hqW5⟩ : ∃ X, w4.heap.size = X := ⟨_, rfl⟩
    rw [hW5] at ba lr
    rw [hqW5] at lr hgl
    have LR : Hid (Rd .i64 W5 (.slice (some ⟨qW5, 0, none⟩) 6 6) [60, 30, 7, 180, 1000, 45]) := lr
    have LN : Hid (g < qW5) := hgl
    have D_W5 : Hid (Dc w W5 g cv zs) := D_w4.out.below ba
    have O_W5 : Hid (Og 5 tfC 32 P W5 (.slice oa ls.length oc) ls) := O_w4.out.below ba
    clear ba lr hgl D_w4 O_w4
    go_wp2_with (fail)
    refine (pickInt_c g cv zs (.slice (some ⟨qW5, 0, none⟩) 6 6) [60, 30, 7, 180, 1000, 45] _ D_W5.out.dr LR.out (.inr (by have := LN.out; simp [Value.ownBlock]; omega)) (by decide) (by decide)).mono ?_
    rintro e w6 ⟨t2, rfl, d1, g1⟩
    have D_w6 : Hid (Dc w w6 g cv zs) := D_W5.out.draw d1 g1
    have O_w6 : Hid (Og 5 tfC 32 P w6 (.slice oa ls.length oc) ls) := O_W5.out.draw g1 (by have := D_W5.out.lt; omega)
    clear d1 g1 D_W5 O_W5 hW5 hqW5 LR LN
    go_wp2_with (fail)
    refine (below_c g cv zs 30 _ D_w6.out.dr (by omega)).mono ?_
    rintro e w7 ⟨t3, rfl, ht30, ht31, ht32, d1, g1⟩
    have D_w7 : Hid (Dc w w7 g cv zs) := D_w6.out.draw d1 g1
    have O_w7 : Hid (Og 5 tfC 32 P w7 (.slice oa ls.length oc) ls) := O_w6.out.draw g1 (by have := D_w6.out.lt; omega)
    clear d1 g1 D_w6 O_w6
    go_wp2_with (fail)
    refine (below_c g cv zs 20 _ D_w7.out.dr (by omega)).mono ?_
    rintro e w8 ⟨t4, rfl, ht40, ht41, ht42, d1, g1⟩
    have D_w8 : Hid (Dc w w8 g cv zs) := D_w7.out.draw d1 g1
    have O_w8 : Hid (Og 5 tfC 32 P w8 (.slice oa ls.length oc) ls) := O_w7.out.draw g1 (by have := D_w7.out.lt; omega)
    clear d1 g1 D_w7 O_w7
    clear ht02 ht32 ht42
    have ba : Below w8.heap.size w8 (w8.alloc (Obj.cells ((#[.int .i64 t0, .int .i64 t1, .int .i64 t2, .int .i64 t3, .int .i64 t4] : Array Value)) 32)) := (Below.refl _ _).alloc (Nat.le_refl _) _
    have kb : Blk (w8.alloc (Obj.cells ((#[.int .i64 t0, .int .i64 t1, .int .i64 t2, .int .i64 t3, .int .i64 t4] : Array Value)) 32)) w8.heap.size ((#[.int .i64 t0, .int .i64 t1, .int .i64 t2, .int .i64 t3, .int .i64 t4] : Array Value)) 32 := Blk.new _ _ _
    obtain ⟨X9, hX9⟩ : ∃ X, w8.heap.size = X := ⟨_, rfl⟩
    obtain ⟨W9, hW9⟩ : ∃ W, w8.alloc (Obj.cells ((#[.int .i64 t0, .int .i64 t1, .int .i64 t2, .int .i64 t3, .int .i64 t4] : Array Value)) 32) = W := ⟨_, rfl⟩
    rw [hW9] at ba kb
    rw [hX9] at kb
    have D_W9 : Hid (Dc w W9 g cv zs) := D_w8.out.below ba
    have O_W9 : Hid (Og 5 tfC 32 P W9 (.slice oa ls.length oc) ls) := O_w8.out.below ba
    have T_W9 : Hid (Blk W9 X9 ((#[.int .i64 t0, .int .i64 t1, .int .i64 t2, .int .i64 t3, .int .i64 t4] : Array Value)) 32) := kb
    clear ba kb D_w8 O_w8
    obtain ⟨x, hx⟩ : ∃ x : Tf, x = (t0, t1, t2, t3, t4) := ⟨_, rfl⟩
    have HBX : Hid (Blk W9 X9 #[.int .i64 x.1, .int .i64 x.2.1, .int .i64 x.2.2.1, .int .i64 x.2.2.2.1, .int .i64 x.2.2.2.2] 32) := by rw [hx]; exact T_W9.out
    have HX : Hid (x = (t0, t1, t2, t3, t4)) := hx
    have HRO : Hid (∀ W, Below W9.heap.size W9 W → Rg 5 tfC W (.slice oa ls.length oc) ls) := fun W hb => (O_W9.out.rd tfC_len).below hb
    clear hx
    go_upto_region 6 with (fail)
    clear hW9 hX9
    refine region_vals [undef, undef, undef, undef, undef, undef, undef] (SdS W9.heap.size W9 (.slice oa ls.length oc) ls x X9) (by kernel_rfl) (by kernel_rfl) ?_ ⟨?_, ?_, ?_, ?_, ?_, ?_, ?_, trivial⟩ ?_
    · refine ⟨_, _, _, _, _, _, _, 0, 0, rfl, ⟨(Below.refl _ _).drew, ?_, ?_, ?_, ?_, ?_, ?_, ?_, ?_, ?_, ?_, ?_, ?_, ?_, ?_⟩⟩ <;> simp
    · rintro d vs W ⟨v0, v1, v2, v3, v4, v5, v6, X0, X4, rfl, H⟩ hn hd
      simp only [putAll, Act.put, List.setIfInBounds_toArray, List.set_cons_succ, List.set_cons_zero]
      have HH1 : Hid (Sd W9.heap.size W9 (.slice oa ls.length oc) ls x X9 d W v0 v1 v2 v3 v4 v5 v6 X0 X4) := H
      clear H
      have HHN : Hid (d 0 = false) := hn
      clear hd hn
      go_wp2
      have hn := HHN.out
      have H0 := HH1.out
      have H := HH1.out.below (Nat.le_refl _) ((Below.refl _ W).alloc (Nat.le_refl _) (.cells #[] 32))
      refine ⟨rfl, [.slice (some ⟨W.heap.size, 0, none⟩) 0 0, v1, v2, v3, v4, v5, v6], ?_, .slice (some ⟨W.heap.size, 0, none⟩) 0 0, v1, v2, v3, v4, v5, v6, W.heap.size, X4, rfl, ⟨H.bel, (fun _ => ⟨rfl, by simp⟩), (fun _ _ => World.ownsRow_lit W #[] 0 H0.bel.size (by simp) (by simp)), (by have h := H.f1; simpa [doneSet] using h), (fun e _ => absurd (H0.g2 (by simpa [doneSet] using e)) (by rw [hn]; simp)), (by have h := H.f3; simpa [doneSet] using h), (by have h := H.f4; simpa [doneSet] using h), (by have h := H.o4; simpa [doneSet] using h), (fun e4 _ e2 => have h4 : d 4 = true := (by simpa [doneSet] using e4); have h5 := (H0.f4 h4).2; (by omega)), (by have h := H.aq; simpa [doneSet] using h), (by have h := H.o5; simpa [doneSet] using h), (by have h := H.f6; simpa [doneSet] using h), (by have h := H.g5; simpa [doneSet] using h), (fun _ => by simp [doneSet]), (by have h := H.g6; simpa [doneSet] using h)⟩⟩
      simp only [putAll, Act.put, List.setIfInBounds_toArray, List.set_cons_succ, List.set_cons_zero]
    · rintro d vs W ⟨v0, v1, v2, v3, v4, v5, v6, X0, X4, rfl, H⟩ hn hd
      simp only [putAll, Act.put, List.setIfInBounds_toArray, List.set_cons_succ, List.set_cons_zero]
      have HH1 : Hid (Sd W9.heap.size W9 (.slice oa ls.length oc) ls x X9 d W v0 v1 v2 v3 v4 v5 v6 X0 X4) := H
      clear H
      clear hd
      go_wp2
      have H := HH1.out
      refine ⟨rfl, [v0, (.slice oa ls.length oc), v2, v3, v4, v5, v6], ?_, v0, (.slice oa ls.length oc), v2, v3, v4, v5, v6, X0, X4, rfl, ⟨H.bel, (by have h := H.f0; simpa [doneSet] using h), (by have h := H.o0; simpa [doneSet] using h), (fun _ => rfl), (by have h := H.o2; simpa [doneSet] using h), (by have h := H.f3; simpa [doneSet] using h), (by have h := H.f4; simpa [doneSet] using h), (by have h := H.o4; simpa [doneSet] using h), (by have h := H.ap; simpa [doneSet] using h), (by have h := H.aq; simpa [doneSet] using h), (by have h := H.o5; simpa [doneSet] using h), (by have h := H.f6; simpa [doneSet] using h), (by have h := H.g5; simpa [doneSet] using h), (by have h := H.g2; simpa [doneSet] using h), (by have h := H.g6; simpa [doneSet] using h)⟩⟩
      simp only [putAll, Act.put, List.setIfInBounds_toArray, List.set_cons_succ, List.set_cons_zero]
    · rintro d vs W ⟨v0, v1, v2, v3, v4, v5, v6, X0, X4, rfl, H⟩ hn hd
      simp only [putAll, Act.put, List.setIfInBounds_toArray, List.set_cons_succ, List.set_cons_zero]
      have h0 : d 0 = true := hd { on := 0, ground := .data } (by simp) rfl
      have h1 : d 1 = true := hd { on := 1, ground := .data } (by simp) rfl
      obtain ⟨hv0, hx0⟩ := H.f0 h0
      obtain rfl := H.f1 h1
      have HO : Hid (Og 5 tfC 32 W9.heap.size W v0 [] ∧ Rg 5 tfC W (.slice oa ls.length oc) ls) := ⟨H.o0 h0 hn, HRO.out W H.bel⟩
      have HSZ : Hid (W9.heap.size ≤ W.heap.size) := H.bel.size
      have HV0 : Hid (v0 = .slice (some ⟨X0, 0, none⟩) 0 0) := hv0
      have HH1 : Hid (Sd W9.heap.size W9 (.slice oa ls.length oc) ls x X9 d W v0 ((.slice oa ls.length oc)) v2 v3 v4 v5 v6 X0 X4) := H
      clear H hv0 hx0
      have HE : Hid (d 0 = true ∧ d 1 = true) := ⟨h0, h1⟩
      clear h0 h1
      have HHN : Hid (d 2 = false) := hn
      clear hd hn
      go_wp2_with (at_builtin; refine appTf rfl _ _ rfl (W9.heap.size) _ [] rfl HO.out.1 _ ls rfl HO.out.2 (by have := HLN.out; simp; omega) HSZ.out ?_)
      intro v' w' ho hg hv
      have hn := HHN.out
      have h0 := HE.out.1
      have h1 := HE.out.2
      have H := HH1.out
      have HG : Hid ((Og 5 tfC 32 W9.heap.size w' v' ls) ∧ W.grownBy w' v0.ownBlock ∧ (v'.ownBlock = v0.ownBlock ∨ v'.ownBlock = some W.heap.size)) := ⟨by simpa using ho, hg, hv⟩
      clear ho hg hv H
      go_wp2
      have H := HH1.out
      obtain ⟨ho, hg, hv⟩ := HG.out
      have hb0 : v0.ownBlock = some X0 := by rw [HV0.out]; rfl
      rw [hb0] at hg hv
      have hX0 : W9.heap.size ≤ X0 := (Og.lt (H.o0 h0 hn) X0 hb0).1
      refine ⟨rfl, [v0, (.slice oa ls.length oc), v', v3, v4, v5, v6], ?_, v0, (.slice oa ls.length oc), v', v3, v4, v5, v6, X0, X4, rfl, ⟨(H.bel.trans (grown_below hg H.bel.size (fun k e => by cases e; exact hX0))), (fun e => ⟨HV0.out, Nat.lt_of_lt_of_le (H.f0 h0).2 hg.size⟩), (fun _ e => by simp [doneSet] at e), (fun _ => rfl), (fun _ _ => ho), (by have h := H.f3; simpa [doneSet] using h), (fun e => have e4 : d 4 = true := (by simpa [doneSet] using e); ⟨(H.f4 e4).1, Nat.lt_of_lt_of_le (H.f4 e4).2 hg.size⟩), (fun e e5 => have e4 : d 4 = true := (by simpa [doneSet] using e); (H.o4 e4 (by simpa [doneSet] using e5)).grown hg (by have := H.ap e4 h0 hn; simpa using this)), (fun _ _ e => by simp [doneSet] at e), (fun e _ _ => have e4 : d 4 = true := (by simpa [doneSet] using e); have hx4 := (H.f4 e4).2; have hne := H.ap e4 h0 hn; fun e => (by rcases hv with hv | hv <;> rw [hv] at e <;> simp at e <;> omega)), (fun e _ => absurd (H.g5 (by simpa [doneSet] using e)).1 (by rw [hn]; simp)), (by have h := H.f6; simpa [doneSet] using h), (fun e => absurd (H.g5 (by simpa [doneSet] using e)).1 (by rw [hn]; simp)), (fun _ => by simpa [doneSet] using h0), (by have h := H.g6; simpa [doneSet] using h)⟩⟩
      simp only [putAll, Act.put, List.setIfInBounds_toArray, List.set_cons_succ, List.set_cons_zero]
    · rintro d vs W ⟨v0, v1, v2, v3, v4, v5, v6, X0, X4, rfl, H⟩ hn hd
      simp only [putAll, Act.put, List.setIfInBounds_toArray, List.set_cons_succ, List.set_cons_zero]
      have kk := HBX.out.below H.bel HBX.out.lt
      have y0 := kk.cell 0
      have y1 := kk.cell 1
      have y2 := kk.cell 2
      have y3 := kk.cell 3
      have y4 := kk.cell 4
      simp at y0 y1 y2 y3 y4
      have HH1 : Hid (Sd W9.heap.size W9 (.slice oa ls.length oc) ls x X9 d W v0 v1 v2 v3 v4 v5 v6 X0 X4) := H
      clear H
      clear hd kk
      go_wp2
      have H := HH1.out
      refine ⟨rfl, [v0, v1, v2, .agg #[.int .i64 x.1, .int .i64 x.2.1, .int .i64 x.2.2.1, .int .i64 x.2.2.2.1, .int .i64 x.2.2.2.2], v4, v5, v6], ?_, v0, v1, v2, .agg #[.int .i64 x.1, .int .i64 x.2.1, .int .i64 x.2.2.1, .int .i64 x.2.2.2.1, .int .i64 x.2.2.2.2], v4, v5, v6, X0, X4, rfl, ⟨H.bel, (by have h := H.f0; simpa [doneSet] using h), (by have h := H.o0; simpa [doneSet] using h), (by have h := H.f1; simpa [doneSet] using h), (by have h := H.o2; simpa [doneSet] using h), (fun _ => rfl), (by have h := H.f4; simpa [doneSet] using h), (by have h := H.o4; simpa [doneSet] using h), (by have h := H.ap; simpa [doneSet] using h), (by have h := H.aq; simpa [doneSet] using h), (by have h := H.o5; simpa [doneSet] using h), (by have h := H.f6; simpa [doneSet] using h), (by have h := H.g5; simpa [doneSet] using h), (by have h := H.g2; simpa [doneSet] using h), (by have h := H.g6; simpa [doneSet] using h)⟩⟩
      simp only [putAll, Act.put, List.setIfInBounds_toArray, List.set_cons_succ, List.set_cons_zero]
    · rintro d vs W ⟨v0, v1, v2, v3, v4, v5, v6, X0, X4, rfl, H⟩ hn hd
      simp only [putAll, Act.put, List.setIfInBounds_toArray, List.set_cons_succ, List.set_cons_zero]
      have h3 : d 3 = true := hd { on := 3, ground := .data } (by simp) rfl
      obtain rfl := H.f3 h3
      have HH1 : Hid (Sd W9.heap.size W9 (.slice oa ls.length oc) ls x X9 d W v0 v1 v2 (.agg #[.int .i64 x.1, .int .i64 x.2.1, .int .i64 x.2.2.1, .int .i64 x.2.2.2.1, .int .i64 x.2.2.2.2]) v4 v5 v6 X0 X4) := H
      clear H h3
      have HHN : Hid (d 4 = false) := hn
      clear hd hn
      go_wp2
      have hn := HHN.out
      have H0 := HH1.out
      have H := HH1.out.below (Nat.le_refl _) ((Below.refl _ W).alloc (Nat.le_refl _) (.cells #[.int .i64 x.1, .int .i64 x.2.1, .int .i64 x.2.2.1, .int .i64 x.2.2.2.1, .int .i64 x.2.2.2.2] 32))
      refine ⟨rfl, [v0, v1, v2, .agg #[.int .i64 x.1, .int .i64 x.2.1, .int .i64 x.2.2.1, .int .i64 x.2.2.2.1, .int .i64 x.2.2.2.2], .slice (some ⟨W.heap.size, 0, none⟩) 1 1, v5, v6], ?_, v0, v1, v2, .agg #[.int .i64 x.1, .int .i64 x.2.1, .int .i64 x.2.2.1, .int .i64 x.2.2.2.1, .int .i64 x.2.2.2.2], .slice (some ⟨W.heap.size, 0, none⟩) 1 1, v5, v6, X0, W.heap.size, rfl, ⟨H.bel, (by have h := H.f0; simpa [doneSet] using h), (by have h := H.o0; simpa [doneSet] using h), (by have h := H.f1; simpa [doneSet] using h), (by have h := H.o2; simpa [doneSet] using h), (fun _ => rfl), (fun _ => ⟨rfl, by simp⟩), (fun _ _ => Blk.new _ _ _), (fun _ e0 _ => have h0 : d 0 = true := (by simpa [doneSet] using e0); have h5 := (H0.f0 h0).2; (by omega)), (fun _ e2 e5 e => have h2 : d 2 = true := (by simpa [doneSet] using e2); have h6 := (Og.lt (H0.o2 h2 (by simpa [doneSet] using e5)) _ e).2; (by omega)), (fun e _ => absurd (H0.g5 (by simpa [doneSet] using e)).2 (by rw [hn]; simp)), (by have h := H.f6; simpa [doneSet] using h), (fun e => absurd (H0.g5 (by simpa [doneSet] using e)).2 (by rw [hn]; simp)), (by have h := H.g2; simpa [doneSet] using h), (by have h := H.g6; simpa [doneSet] using h)⟩⟩
      simp only [putAll, Act.put, List.setIfInBounds_toArray, List.set_cons_succ, List.set_cons_zero]
    · rintro d vs W ⟨v0, v1, v2, v3, v4, v5, v6, X0, X4, rfl, H⟩ hn hd
      simp only [putAll, Act.put, List.setIfInBounds_toArray, List.set_cons_succ, List.set_cons_zero]
      have h2 : d 2 = true := hd { on := 2, ground := .data } (by simp) rfl
      have h4 : d 4 = true := hd { on := 4, ground := .data } (by simp) rfl
      obtain ⟨hv4, hx4⟩ := H.f4 h4
      have HO : Hid (Og 5 tfC 32 W9.heap.size W v2 ls ∧ Rg 5 tfC W v4 [x]) := ⟨H.o2 h2 hn, by rw [hv4]; exact Rg.one (H.o4 h4 hn)⟩
      have HSZ : Hid (W9.heap.size ≤ W.heap.size) := H.bel.size
      clear hv4 hx4
      have HH1 : Hid (Sd W9.heap.size W9 (.slice oa ls.length oc) ls x X9 d W v0 v1 v2 v3 v4 v5 v6 X0 X4) := H
      clear H
      have HE : Hid (d 2 = true ∧ d 4 = true) := ⟨h2, h4⟩
      clear h2 h4
      have HHN : Hid (d 5 = false) := hn
      clear hd hn
      go_wp2_with (at_builtin; refine appTf rfl _ _ rfl (W9.heap.size) _ ls rfl HO.out.1 _ [x] rfl HO.out.2 (by have := HLN.out; simp; omega) HSZ.out ?_)
      intro v' w' ho hg hv
      have HG : Hid (Og 5 tfC 32 W9.heap.size w' v' (ls ++ [x]) ∧ W.grownBy w' v2.ownBlock) := ⟨ho, hg⟩
      clear ho hg hv
      go_wp2
      have hn := HHN.out
      have h2 := HE.out.1
      have h4 := HE.out.2
      have H := HH1.out
      obtain ⟨ho, hg⟩ := HG.out
      refine ⟨rfl, [v0, v1, v2, v3, v4, v', v6], ?_, v0, v1, v2, v3, v4, v', v6, X0, X4, rfl, ⟨(H.bel.trans (grown_below hg H.bel.size (fun k e => (Og.lt HO.out.1 k e).1))), (fun e => have e0 : d 0 = true := (by simpa [doneSet] using e); ⟨(H.f0 e0).1, Nat.lt_of_lt_of_le (H.f0 e0).2 hg.size⟩), (fun _ e => by simp [doneSet] at e; rw [h2] at e; cases e), (by have h := H.f1; simpa [doneSet] using h), (fun _ e => by simp [doneSet] at e), (by have h := H.f3; simpa [doneSet] using h), (fun _ => ⟨(H.f4 h4).1, Nat.lt_of_lt_of_le (H.f4 h4).2 hg.size⟩), (fun _ e => by simp [doneSet] at e), (by have h := H.ap; simpa [doneSet] using h), (fun _ _ e => by simp [doneSet] at e), (fun _ _ => ho.rd tfC_len), (by have h := H.f6; simpa [doneSet] using h), (fun _ => ⟨by simpa [doneSet] using h2, by simpa [doneSet] using h4⟩), (by have h := H.g2; simpa [doneSet] using h), (fun e => by simp [doneSet])⟩⟩
      simp only [putAll, Act.put, List.setIfInBounds_toArray, List.set_cons_succ, List.set_cons_zero]
    · rintro d vs W ⟨v0, v1, v2, v3, v4, v5, v6, X0, X4, rfl, H⟩ hn hd
      simp only [putAll, Act.put, List.setIfInBounds_toArray, List.set_cons_succ, List.set_cons_zero]
      have h5 : d 5 = true := hd { on := 5, ground := .data } (by simp) rfl
      have HO : Hid (Rg 5 tfC W v5 (ls ++ [x])) := H.o5 h5 hn
      have HH1 : Hid (Sd W9.heap.size W9 (.slice oa ls.length oc) ls x X9 d W v0 v1 v2 v3 v4 v5 v6 X0 X4) := H
      clear H
      have HE : Hid (d 5 = true) := h5
      clear h5
      have HHN : Hid (d 6 = false) := hn
      clear hd hn
      go_wp2_with (fail)
      refine (tariffsM_c v5 (ls ++ [x]) W HO.out).mono ?_
      rintro e W3 ⟨r, rfl, -, hb⟩
      have HH2 : Hid (Sd W9.heap.size W9 (.slice oa ls.length oc) ls x X9 d W3 v0 v1 v2 v3 v4 v5 v6 X0 X4) := HH1.out.below (Nat.le_refl _) hb
      clear hb HH1 HO
      go_wp2
      have H := HH2.out
      have h5 := HE.out
      refine ⟨rfl, [v0, v1, v2, v3, v4, v5, .bool r], ?_, v0, v1, v2, v3, v4, v5, .bool r, X0, X4, rfl, ⟨H.bel, (by have h := H.f0; simpa [doneSet] using h), (by have h := H.o0; simpa [doneSet] using h), (by have h := H.f1; simpa [doneSet] using h), (by have h := H.o2; simpa [doneSet] using h), (by have h := H.f3; simpa [doneSet] using h), (by have h := H.f4; simpa [doneSet] using h), (by have h := H.o4; simpa [doneSet] using h), (by have h := H.ap; simpa [doneSet] using h), (by have h := H.aq; simpa [doneSet] using h), (fun _ e => by simp [doneSet] at e), (fun _ => ⟨r, rfl⟩), (by have h := H.g5; simpa [doneSet] using h), (by have h := H.g2; simpa [doneSet] using h), (fun _ => by simpa [doneSet] using h5)⟩⟩
      simp only [putAll, Act.put, List.setIfInBounds_toArray, List.set_cons_succ, List.set_cons_zero]
    rintro d vs W6 ⟨v0, v1, v2, v3, v4, v5, v6, X0, X4, rfl, H⟩ hn
    obtain ⟨r, rfl⟩ := H.f6 (hn 6 (by decide))
    have B6 := H.bel
    simp only [putAll, Act.put, List.setIfInBounds_toArray, List.set_cons_succ, List.set_cons_zero]
    clear H hn HRO HBX
    have D_W6 : Hid (Dc w W6 g cv zs) := D_W9.out.below B6
    have O_W6 : Hid (Og 5 tfC 32 P W6 (.slice oa ls.length oc) ls) := O_W9.out.below B6
    have T_W6 : Hid (Blk W6 X9 ((#[.int .i64 t0, .int .i64 t1, .int .i64 t2, .int .i64 t3, .int .i64 t4] : Array Value)) 32) := T_W9.out.below B6 T_W9.out.lt
    clear B6 D_W9 O_W9 T_W9
    cases r with
    | false =>
      go_wp2
      go_roundw
      case rel => exact ⟨n - 1, ls, by congr 1; omega, by omega, by omega, O_W6.out, D_W6.out⟩
      case measure => simp [intOf]; omega
    | true =>
    have y0 := T_W6.out.cell 0
    have y1 := T_W6.out.cell 1
    have y2 := T_W6.out.cell 2
    have y3 := T_W6.out.cell 3
    have y4 := T_W6.out.cell 4
    simp at y0 y1 y2 y3 y4
    have ba : Below W6.heap.size W6 (W6.alloc (Obj.cells #[.int .i64 t0, .int .i64 t1, .int .i64 t2, .int .i64 t3, .int .i64 t4] 32)) := (Below.refl _ _).alloc (Nat.le_refl _) _
    have HR7 : Hid (Rg 5 tfC (W6.alloc (Obj.cells #[.int .i64 t0, .int .i64 t1, .int .i64 t2, .int .i64 t3, .int .i64 t4] 32)) (.slice (some ⟨W6.heap.size, 0, none⟩) 1 1) [(t0, t1, t2, t3, t4)]) := Rg.one (Blk.new _ _ _)
    have HO7 : Hid (Og 5 tfC 32 P (W6.alloc (Obj.cells #[.int .i64 t0, .int .i64 t1, .int .i64 t2, .int .i64 t3, .int .i64 t4] 32)) (.slice oa ls.length oc) ls ∧ Dc w (W6.alloc (Obj.cells #[.int .i64 t0, .int .i64 t1, .int .i64 t2, .int .i64 t3, .int .i64 t4] 32)) g cv zs) := ⟨O_W6.out.below ba, D_W6.out.below ba⟩
    have HB7 : Hid (P ≤ (W6.alloc (Obj.cells #[.int .i64 t0, .int .i64 t1, .int .i64 t2, .int .i64 t3, .int .i64 t4] 32)).heap.size) := by rw [Hid, ← HP.out]; exact HO7.out.2.gr.size
    clear ba D_W6 O_W6 T_W6
    go_wp2_with (at_builtin; refine appTf rfl _ _ rfl P _ ls rfl HO7.out.1 _ [(t0, t1, t2, t3, t4)] rfl HR7.out (by have := HLN.out; simp; omega) HB7.out ?_)
    intro v' w8 ho hg hv
    have HF : Hid (Og 5 tfC 32 P w8 v' (ls ++ [(t0, t1, t2, t3, t4)]) ∧ Dc w w8 g cv zs) := ⟨ho, HO7.out.2.app (fun k e => by rw [HP.out]; exact (Og.lt HO7.out.1 k e).1) hg⟩
    clear ho hg hv HO7 HR7 HB7 y0 y1 y2 y3 y4
    go_wp2
    go_roundw
    case rel => exact ⟨n - 1, ls ++ [(t0, t1, t2, t3, t4)], by congr 1; omega, by omega, by simp; omega, HF.out⟩
    case measure => simp [intOf]; omega
end Go.Proofs.Ytdnophdldpophaa

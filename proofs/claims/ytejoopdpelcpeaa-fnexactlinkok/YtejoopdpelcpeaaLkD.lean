/- Links: what they read, what is owned; links measured and compared; no condition. -/
import Derived.Test.YtejoopdpelcpeaaArE
import Derived.Test.YtejoopdpelcpeaaArP
namespace Go.Proofs.Ytejoopdpelcpeaa
open Go.RowKit Go.ChangeShapes Go.WideShapes Go.ChangeAt
set_option linter.unusedVariables false
set_option linter.unusedSimpArgs false
set_option maxRecDepth 8000
/-- a link's cells -/
abbrev L15 (vo0 vi0 vo1 vi1 v00 v01 v10 v11 : Value) (s0 a0 t0 s1 a1 t1 u : Int) : Array Value := #[vo0, .int .i64 s0, .int .i64 a0, .int .i64 t0, vi0, vo1, .int .i64 s1, .int .i64 a1, .int .i64 t1, vi1, v00, v01, v10, v11, .int .i64 u]
/-- what the eight rows of a link read -/
structure Rl (w : World) (vo0 vi0 vo1 vi1 v00 v01 v10 v11 : Value) (zo0 zi0 zo1 zi1 : Txs) (l00 l01 l10 l11 : Uns) : Prop where
  rvo0 : Rx w vo0 zo0
  rvi0 : Rx w vi0 zi0
  rvo1 : Rx w vo1 zo1
  rvi1 : Rx w vi1 zi1
  rv00 : Ru w v00 l00
  rv01 : Ru w v01 l01
  rv10 : Ru w v10 l10
  rv11 : Ru w v11 l11
theorem Rl.below {w w' : World} {vo0 vi0 vo1 vi1 v00 v01 v10 v11 : Value} {zo0 zi0 zo1 zi1 : Txs} {l00 l01 l10 l11 : Uns} (h : Rl w vo0 vi0 vo1 vi1 v00 v01 v10 v11 zo0 zi0 zo1 zi1 l00 l01 l10 l11) (hb : Below w.heap.size w w') : Rl w' vo0 vi0 vo1 vi1 v00 v01 v10 v11 zo0 zi0 zo1 zi1 l00 l01 l10 l11 := ⟨h.rvo0.below hb, h.rvi0.below hb, h.rvo1.below hb, h.rvi1.below hb, h.rv00.below hb, h.rv01.below hb, h.rv10.below hb, h.rv11.below hb⟩
/-- the eight rows of a link are owned, in blocks from b on, below h, one behind the other -/
structure Ol (b h : Nat) (w : World) (vo0 vi0 vo1 vi1 v00 v01 v10 v11 : Value) (zo0 zi0 zo1 zi1 : Txs) (l00 l01 l10 l11 : Uns) (m : Nat → Nat) : Prop where
  ovo0 : OX b (m 1) w vo0 zo0
  ovi0 : OX (m 1) (m 2) w vi0 zi0
  ovo1 : OX (m 2) (m 3) w vo1 zo1
  ovi1 : OX (m 3) (m 4) w vi1 zi1
  ov00 : OS (m 4) (m 5) w v00 l00
  ov01 : OS (m 5) (m 6) w v01 l01
  ov10 : OS (m 6) (m 7) w v10 l10
  ov11 : OS (m 7) h w v11 l11
theorem Ol.rd {b h : Nat} {w : World} {vo0 vi0 vo1 vi1 v00 v01 v10 v11 : Value} {zo0 zi0 zo1 zi1 : Txs} {l00 l01 l10 l11 : Uns} {m : Nat → Nat} (x : Ol b h w vo0 vi0 vo1 vi1 v00 v01 v10 v11 zo0 zi0 zo1 zi1 l00 l01 l10 l11 m) : Rl w vo0 vi0 vo1 vi1 v00 v01 v10 v11 zo0 zi0 zo1 zi1 l00 l01 l10 l11 := ⟨x.ovo0.o.rd, x.ovi0.o.rd, x.ovo1.o.rd, x.ovi1.o.rd, Ou.rd x.ov00.o, Ou.rd x.ov01.o, Ou.rd x.ov10.o, Ou.rd x.ov11.o⟩
/-- nothing of it is too great -/
structure Sl15 (zo0 zi0 zo1 zi1 : Txs) (l00 l01 l10 l11 : Uns) (M : Nat) : Prop where
  mvo0 : ∀ r ∈ zo0, r.size ≤ M
  mvi0 : ∀ r ∈ zi0, r.size ≤ M
  mvo1 : ∀ r ∈ zo1, r.size ≤ M
  mvi1 : ∀ r ∈ zi1, r.size ≤ M
  mv00 : ∀ r ∈ l00, r.dat.size ≤ M
  mv01 : ∀ r ∈ l01, r.dat.size ≤ M
  mv10 : ∀ r ∈ l10, r.dat.size ≤ M
  mv11 : ∀ r ∈ l11, r.dat.size ≤ M
structure Sn15 (zo0 zi0 zo1 zi1 : Txs) (l00 l01 l10 l11 : Uns) : Prop where
  nvo0 : zo0.length ≤ 1048576
  nvi0 : zi0.length ≤ 1048576
  nvo1 : zo1.length ≤ 1048576
  nvi1 : zi1.length ≤ 1048576
  nv00 : l00.length ≤ 1048576
  nv01 : l01.length ≤ 1048576
  nv10 : l10.length ≤ 1048576
  nv11 : l11.length ≤ 1048576
theorem infoLink : (Try.prog.info? 32).map (·.size) = some 15 := by kernel_rfl
set_option maxHeartbeats 3200000 in
theorem szLink_c (vo0 vi0 vo1 vi1 v00 v01 v10 v11 : Value) (s0 a0 t0 s1 a1 t1 u : Int) (zo0 zi0 zo1 zi1 : Txs) (l00 l01 l10 l11 : Uns) (L : Int) (w : World) (hL0 : 0 ≤ L) (hL : L ≤ 1048576) (h : Rl w vo0 vi0 vo1 vi1 v00 v01 v10 v11 zo0 zi0 zo1 zi1 l00 l01 l10 l11) (hm : Sl15 zo0 zi0 zo1 zi1 l00 l01 l10 l11 maxLen) :
    Calls Try.prog 14 #[.agg (L15 vo0 vi0 vo1 vi1 v00 v01 v10 v11 s0 a0 t0 s1 a1 t1 u), .int .i64 L] w fun e w' => ∃ z : Int, e = .returned (.int .i64 z) ∧ -1 ≤ z ∧ z ≤ L ∧ (0 ≤ z → Sn15 zo0 zi0 zo1 zi1 l00 l01 l10 l11 ∧ Sl15 zo0 zi0 zo1 zi1 l00 l01 l10 l11 1048576) ∧ Below w.heap.size w w' := by
  obtain ⟨W0, hW0⟩ : ∃ W0, w.alloc (Obj.cells (L15 vo0 vi0 vo1 vi1 v00 v01 v10 v11 s0 a0 t0 s1 a1 t1 u) 47) = W0 := ⟨_, rfl⟩
  have HB : Hid (Below w.heap.size w W0) := by rw [← hW0]; exact (Below.refl _ _).alloc (Nat.le_refl _) _
  have K0 : Hid (Blk W0 w.heap.size (L15 vo0 vi0 vo1 vi1 v00 v01 v10 v11 s0 a0 t0 s1 a1 t1 u) 47) := by rw [← hW0]; exact Blk.new _ _ _
  have HR : Hid (Rl w vo0 vi0 vo1 vi1 v00 v01 v10 v11 zo0 zi0 zo1 zi1 l00 l01 l10 l11) := h
  have HM : Hid (Sl15 zo0 zi0 zo1 zi1 l00 l01 l10 l11 maxLen) := hm
  obtain ⟨a_vo0, p_vo0, e_vo0, -⟩ := h.rvo0
  obtain ⟨a_vi0, p_vi0, e_vi0, -⟩ := h.rvi0
  obtain ⟨a_vo1, p_vo1, e_vo1, -⟩ := h.rvo1
  obtain ⟨a_vi1, p_vi1, e_vi1, -⟩ := h.rvi1
  obtain ⟨a_v00, p_v00, e_v00, -⟩ := h.rv00
  obtain ⟨a_v01, p_v01, e_v01, -⟩ := h.rv01
  obtain ⟨a_v10, p_v10, e_v10, -⟩ := h.rv10
  obtain ⟨a_v11, p_v11, e_v11, -⟩ := h.rv11
  subst e_vo0 e_vi0 e_vo1 e_vi1 e_v00 e_v01 e_v10 e_v11
  have x0 := K0.out.cell 0
  have x1 := K0.out.cell 1
  have x2 := K0.out.cell 2
  have x3 := K0.out.cell 3
  have x4 := K0.out.cell 4
  have x5 := K0.out.cell 5
  have x6 := K0.out.cell 6
  have x7 := K0.out.cell 7
  have x8 := K0.out.cell 8
  have x9 := K0.out.cell 9
  simp at x0 x1 x2 x3 x4 x5 x6 x7 x8 x9
  clear h hm
  go_enter Try.func14, Try.ntmps14
  go_wp2_with (fail)
  clear hW0
  refine (szEndA2_c _ _ _ _ s0 a0 t0 s1 a1 t1 zo0 zi0 zo1 zi1 L W0 hL0 hL (HR.out.rvo0.below HB.out) (HR.out.rvi0.below HB.out) (HR.out.rvo1.below HB.out) (HR.out.rvi1.below HB.out) HM.out.mvo0 HM.out.mvi0 HM.out.mvo1 HM.out.mvi1).mono ?_
  rintro e w1 ⟨z, rfl, hz0, hz1, hz2, b1⟩
  have HB1 : Hid (Below w.heap.size w w1) := belowCall HB.out b1 HB.out.size
  have k := K0.out.below b1 K0.out.lt
  have x10 := k.cell 10
  have x11 := k.cell 11
  have x12 := k.cell 12
  have x13 := k.cell 13
  simp at x10 x11 x12 x13
  have HZ : Hid (0 ≤ z → (zo0.length ≤ 1048576 ∧ ∀ r ∈ zo0, r.size ≤ 1048576) ∧ (zi0.length ≤ 1048576 ∧ ∀ r ∈ zi0, r.size ≤ 1048576) ∧ (zo1.length ≤ 1048576 ∧ ∀ r ∈ zo1, r.size ≤ 1048576) ∧ (zi1.length ≤ 1048576 ∧ ∀ r ∈ zi1, r.size ≤ 1048576)) := hz2
  clear k b1 hz2 HB K0 x0 x1 x2 x3 x4 x5 x6 x7 x8 x9
  by_cases hneg : z < 0
  · go_wp2
    go_ret
    exact ⟨-1, rfl, by omega, by omega, fun h => absurd h (by omega), HB1.out⟩
  have HP : Hid ((zo0.length ≤ 1048576 ∧ ∀ r ∈ zo0, r.size ≤ 1048576) ∧ (zi0.length ≤ 1048576 ∧ ∀ r ∈ zi0, r.size ≤ 1048576) ∧ (zo1.length ≤ 1048576 ∧ ∀ r ∈ zo1, r.size ≤ 1048576) ∧ (zi1.length ≤ 1048576 ∧ ∀ r ∈ zi1, r.size ≤ 1048576)) := HZ.out (by omega)
  clear HZ
  go_wp2_with (fail)
  refine (szUnitSA2A2_c _ _ _ _ l00 l01 l10 l11 z w1 (by omega) (by omega) (HR.out.rv00.below HB1.out) (HR.out.rv01.below HB1.out) (HR.out.rv10.below HB1.out) (HR.out.rv11.below HB1.out) HM.out.mv00 HM.out.mv01 HM.out.mv10 HM.out.mv11).mono ?_
  rintro e w2 ⟨y, rfl, hy0, hy1, hy2, b2⟩
  have HB2 : Hid (Below w.heap.size w w2) := belowCall HB1.out b2 HB1.out.size
  have HZ : Hid (0 ≤ y → (l00.length ≤ 1048576 ∧ ∀ r ∈ l00, r.dat.size ≤ 1048576) ∧ (l01.length ≤ 1048576 ∧ ∀ r ∈ l01, r.dat.size ≤ 1048576) ∧ (l10.length ≤ 1048576 ∧ ∀ r ∈ l10, r.dat.size ≤ 1048576) ∧ (l11.length ≤ 1048576 ∧ ∀ r ∈ l11, r.dat.size ≤ 1048576)) := hy2
  clear b2 hy2 HB1 x10 x11 x12 x13
  by_cases hn2 : y < 0
  · go_wp2
    go_ret
    exact ⟨-1, rfl, by omega, by omega, fun h => absurd h (by omega), HB2.out⟩
  go_wp2
  go_ret
  refine ⟨_, rfl, by omega, by omega, fun h => ?_, HB2.out⟩
  obtain ⟨p0, p1, p2, p3⟩ := HP.out
  obtain ⟨p4, p5, p6, p7⟩ := HZ.out h
  exact ⟨⟨p0.1, p1.1, p2.1, p3.1, p4.1, p5.1, p6.1, p7.1⟩, ⟨p0.2, p1.2, p2.2, p3.2, p4.2, p5.2, p6.2, p7.2⟩⟩
set_option maxHeartbeats 3200000 in
theorem eqLink_t (vo0 vi0 vo1 vi1 v00 v01 v10 v11 vo0' vi0' vo1' vi1' v00' v01' v10' v11' : Value) (s0 a0 t0 s1 a1 t1 u : Int) (zo0 zi0 zo1 zi1 : Txs) (l00 l01 l10 l11 : Uns) (w : World) (h : Rl w vo0 vi0 vo1 vi1 v00 v01 v10 v11 zo0 zi0 zo1 zi1 l00 l01 l10 l11) (h' : Rl w vo0' vi0' vo1' vi1' v00' v01' v10' v11' zo0 zi0 zo1 zi1 l00 l01 l10 l11) :
    Calls Try.prog 16 #[.agg (L15 vo0 vi0 vo1 vi1 v00 v01 v10 v11 s0 a0 t0 s1 a1 t1 u), .agg (L15 vo0' vi0' vo1' vi1' v00' v01' v10' v11' s0 a0 t0 s1 a1 t1 u)] w fun e w' => e = .returned (.bool true) ∧ Below w.heap.size w w' := by
  obtain ⟨W0, hW0⟩ : ∃ W0, (w.alloc (Obj.cells (L15 vo0 vi0 vo1 vi1 v00 v01 v10 v11 s0 a0 t0 s1 a1 t1 u) 32)).alloc (Obj.cells (L15 vo0' vi0' vo1' vi1' v00' v01' v10' v11' s0 a0 t0 s1 a1 t1 u) 32) = W0 := ⟨_, rfl⟩
  have HB : Hid (Below w.heap.size w W0) := by rw [← hW0]; exact ((Below.refl _ _).alloc (Nat.le_refl _) _).alloc (by simp) _
  have K0 : Hid (Blk W0 w.heap.size (L15 vo0 vi0 vo1 vi1 v00 v01 v10 v11 s0 a0 t0 s1 a1 t1 u) 32) := by rw [← hW0]; exact (Blk.new _ _ _).alloc _
  have K1 : Hid (Blk W0 (w.heap.size + 1) (L15 vo0' vi0' vo1' vi1' v00' v01' v10' v11' s0 a0 t0 s1 a1 t1 u) 32) := by rw [← hW0]; exact Blk.newAt _ (w.heap.size + 1) _ 32 (by simp)
  have HR : Hid (Rl w vo0 vi0 vo1 vi1 v00 v01 v10 v11 zo0 zi0 zo1 zi1 l00 l01 l10 l11) := h
  have HR' : Hid (Rl w vo0' vi0' vo1' vi1' v00' v01' v10' v11' zo0 zi0 zo1 zi1 l00 l01 l10 l11) := h'
  obtain ⟨a_vo0, p_vo0, e_vo0, -⟩ := h.rvo0
  obtain ⟨c_vo0, d_vo0, f_vo0, -⟩ := h'.rvo0
  obtain ⟨a_vi0, p_vi0, e_vi0, -⟩ := h.rvi0
  obtain ⟨c_vi0, d_vi0, f_vi0, -⟩ := h'.rvi0
  obtain ⟨a_vo1, p_vo1, e_vo1, -⟩ := h.rvo1
  obtain ⟨c_vo1, d_vo1, f_vo1, -⟩ := h'.rvo1
  obtain ⟨a_vi1, p_vi1, e_vi1, -⟩ := h.rvi1
  obtain ⟨c_vi1, d_vi1, f_vi1, -⟩ := h'.rvi1
  obtain ⟨a_v00, p_v00, e_v00, -⟩ := h.rv00
  obtain ⟨c_v00, d_v00, f_v00, -⟩ := h'.rv00
  obtain ⟨a_v01, p_v01, e_v01, -⟩ := h.rv01
  obtain ⟨c_v01, d_v01, f_v01, -⟩ := h'.rv01
  obtain ⟨a_v10, p_v10, e_v10, -⟩ := h.rv10
  obtain ⟨c_v10, d_v10, f_v10, -⟩ := h'.rv10
  obtain ⟨a_v11, p_v11, e_v11, -⟩ := h.rv11
  obtain ⟨c_v11, d_v11, f_v11, -⟩ := h'.rv11
  subst e_vo0 f_vo0 e_vi0 f_vi0 e_vo1 f_vo1 e_vi1 f_vi1 e_v00 f_v00 e_v01 f_v01 e_v10 f_v10 e_v11 f_v11
  have x0 := K0.out.cell 0
  have y0 := K1.out.cell 0
  have x1 := K0.out.cell 1
  have y1 := K1.out.cell 1
  have x2 := K0.out.cell 2
  have y2 := K1.out.cell 2
  have x3 := K0.out.cell 3
  have y3 := K1.out.cell 3
  have x4 := K0.out.cell 4
  have y4 := K1.out.cell 4
  have x5 := K0.out.cell 5
  have y5 := K1.out.cell 5
  have x6 := K0.out.cell 6
  have y6 := K1.out.cell 6
  have x7 := K0.out.cell 7
  have y7 := K1.out.cell 7
  have x8 := K0.out.cell 8
  have y8 := K1.out.cell 8
  have x9 := K0.out.cell 9
  have y9 := K1.out.cell 9
  simp at x0 y0 x1 y1 x2 y2 x3 y3 x4 y4 x5 y5 x6 y6 x7 y7 x8 y8 x9 y9
  clear h h'
  have gu : (u != u) = false := by simp
  go_enter Try.func16, Try.ntmps16
  go_wp2_with (fail)
  clear hW0
  refine (eqEndA2_t _ _ _ _ _ _ _ _ s0 a0 t0 s1 a1 t1 zo0 zi0 zo1 zi1 W0 (HR.out.rvo0.below HB.out) (HR.out.rvi0.below HB.out) (HR.out.rvo1.below HB.out) (HR.out.rvi1.below HB.out) (HR'.out.rvo0.below HB.out) (HR'.out.rvi0.below HB.out) (HR'.out.rvo1.below HB.out) (HR'.out.rvi1.below HB.out)).mono ?_
  rintro e w1 ⟨rfl, b1⟩
  have HB1 : Hid (Below w.heap.size w w1) := belowCall HB.out b1 HB.out.size
  have k := K0.out.below b1 K0.out.lt
  have l := K1.out.below b1 K1.out.lt
  have x10 := k.cell 10
  have y10 := l.cell 10
  have x11 := k.cell 11
  have y11 := l.cell 11
  have x12 := k.cell 12
  have y12 := l.cell 12
  have x13 := k.cell 13
  have y13 := l.cell 13
  simp at x10 y10 x11 y11 x12 y12 x13 y13
  have KK : Hid (Blk w1 w.heap.size (L15 (.slice a_vo0 zo0.length p_vo0) (.slice a_vi0 zi0.length p_vi0) (.slice a_vo1 zo1.length p_vo1) (.slice a_vi1 zi1.length p_vi1) (.slice a_v00 l00.length p_v00) (.slice a_v01 l01.length p_v01) (.slice a_v10 l10.length p_v10) (.slice a_v11 l11.length p_v11) s0 a0 t0 s1 a1 t1 u) 32) := k
  have LL : Hid (Blk w1 (w.heap.size + 1) (L15 (.slice c_vo0 zo0.length d_vo0) (.slice c_vi0 zi0.length d_vi0) (.slice c_vo1 zo1.length d_vo1) (.slice c_vi1 zi1.length d_vi1) (.slice c_v00 l00.length d_v00) (.slice c_v01 l01.length d_v01) (.slice c_v10 l10.length d_v10) (.slice c_v11 l11.length d_v11) s0 a0 t0 s1 a1 t1 u) 32) := l
  clear k l b1 HB K0 K1 x0 y0 x1 y1 x2 y2 x3 y3 x4 y4 x5 y5 x6 y6 x7 y7 x8 y8 x9 y9
  go_wp2_with (fail)
  refine (eqUnitSA2A2_t _ _ _ _ _ _ _ _ l00 l01 l10 l11 w1 (HR.out.rv00.below HB1.out) (HR.out.rv01.below HB1.out) (HR.out.rv10.below HB1.out) (HR.out.rv11.below HB1.out) (HR'.out.rv00.below HB1.out) (HR'.out.rv01.below HB1.out) (HR'.out.rv10.below HB1.out) (HR'.out.rv11.below HB1.out)).mono ?_
  rintro e w2 ⟨rfl, b2⟩
  have HB2 : Hid (Below w.heap.size w w2) := belowCall HB1.out b2 HB1.out.size
  have x14 := (KK.out.below b2 KK.out.lt).cell 14
  have y14 := (LL.out.below b2 LL.out.lt).cell 14
  simp at x14 y14
  clear b2 HB1 KK LL x10 y10 x11 y11 x12 y12 x13 y13
  go_wp2
  go_ret
  exact ⟨rfl, HB2.out⟩
end Go.Proofs.Ytejoopdpelcpeaa

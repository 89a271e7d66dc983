/- FnExactLinkOk; no condition. -/
import Derived.Test.YtejoopdpelcpeaaLkT
import Derived.Test.YtejoopdpelcpeaaMkL
import Derived.Test.YtejoopdpelcpeaaIoL
namespace Go.Proofs.Ytejoopdpelcpeaa
open Go.RowKit Go.ChangeShapes Go.WideShapes Go.ChangeAt
set_option linter.unusedVariables false
set_option linter.unusedSimpArgs false
set_option maxRecDepth 8000
set_option maxHeartbeats 12800000 in
theorem linkOkLaw (vo0 vi0 vo1 vi1 v00 v01 v10 v11 : Value) (s0 a0 t0 s1 a1 t1 u : Int) (zo0 zi0 zo1 zi1 : Txs) (l00 l01 l10 l11 : Uns) (w : World) (h : Rl w vo0 vi0 vo1 vi1 v00 v01 v10 v11 zo0 zi0 zo1 zi1 l00 l01 l10 l11) (hm : Sl15 zo0 zi0 zo1 zi1 l00 l01 l10 l11 maxLen) :
    Calls Try.prog 4 #[.agg (L15 vo0 vi0 vo1 vi1 v00 v01 v10 v11 s0 a0 t0 s1 a1 t1 u)] w fun e w' => e = .returned (.bool true) ∧ Below w.heap.size w w' := by
  obtain ⟨W0, hW0⟩ : ∃ W0, w.alloc (Obj.cells (L15 vo0 vi0 vo1 vi1 v00 v01 v10 v11 s0 a0 t0 s1 a1 t1 u) 47) = W0 := ⟨_, rfl⟩
  have hb0 : Below w.heap.size w W0 := by rw [← hW0]; exact (Below.refl _ _).alloc (Nat.le_refl _) _
  have HB0 : Hid (Below w.heap.size w W0) := hb0
  have HK0 : Hid (Blk W0 w.heap.size (L15 vo0 vi0 vo1 vi1 v00 v01 v10 v11 s0 a0 t0 s1 a1 t1 u) 47) := by rw [← hW0]; exact Blk.new _ _ _
  have HH : Hid (Rl w vo0 vi0 vo1 vi1 v00 v01 v10 v11 zo0 zi0 zo1 zi1 l00 l01 l10 l11) := h
  have HM : Hid (Sl15 zo0 zi0 zo1 zi1 l00 l01 l10 l11 maxLen) := hm
  obtain ⟨a_vo0, p_vo0, e_vo0, -⟩ := h.rvo0
  obtain ⟨a_vi0, p_vi0, e_vi0, -⟩ := h.rvi0
  obtain ⟨a_vo1, p_vo1, e_vo1, -⟩ := h.rvo1
  obtain ⟨a_vi1, p_vi1, e_vi1, -⟩ := h.rvi1
  obtain ⟨a_v00, p_v00, e_v00, -⟩ := h.rv00
  obtain ⟨a_v01, p_v01, e_v01, -⟩ := h.rv01
  obtain ⟨a_v10, p_v10, e_v10, -⟩ := h.rv10
  obtain ⟨a_v11, p_v11, e_v11, -⟩ := h.rv11
  subst e_vo0 e_vi0 e_vo1 e_vi1 e_v00 e_v01 e_v10 e_v11
  have x0 := HK0.out.cell 0
  have x1 := HK0.out.cell 1
  have x2 := HK0.out.cell 2
  have x3 := HK0.out.cell 3
  have x4 := HK0.out.cell 4
  have x5 := HK0.out.cell 5
  have x6 := HK0.out.cell 6
  have x7 := HK0.out.cell 7
  have x8 := HK0.out.cell 8
  have x9 := HK0.out.cell 9
  have x10 := HK0.out.cell 10
  have x11 := HK0.out.cell 11
  have x12 := HK0.out.cell 12
  have x13 := HK0.out.cell 13
  have x14 := HK0.out.cell 14
  simp at x0 x1 x2 x3 x4 x5 x6 x7 x8 x9 x10 x11 x12 x13 x14
  clear h hb0 hm
  go_enter Try.func4, Try.ntmps4
  go_wp2_with (fail)
  clear hW0
  refine (szLink_c _ _ _ _ _ _ _ _ s0 a0 t0 s1 a1 t1 u zo0 zi0 zo1 zi1 l00 l01 l10 l11 1048576 W0 (by decide) (by decide) (HH.out.below HB0.out) HM.out).mono ?_
  rintro e w1 ⟨z, rfl, -, -, hz, b1⟩
  have HB1 : Hid (Below w.heap.size w w1) := belowCall HB0.out b1 HB0.out.size
  have HK1 : Hid (Blk w1 w.heap.size (L15 (.slice a_vo0 zo0.length p_vo0) (.slice a_vi0 zi0.length p_vi0) (.slice a_vo1 zo1.length p_vo1) (.slice a_vi1 zi1.length p_vi1) (.slice a_v00 l00.length p_v00) (.slice a_v01 l01.length p_v01) (.slice a_v10 l10.length p_v10) (.slice a_v11 l11.length p_v11) s0 a0 t0 s1 a1 t1 u) 47) := HK0.out.below b1 HK0.out.lt
  have HZ : Hid (0 ≤ z → Sn15 zo0 zi0 zo1 zi1 l00 l01 l10 l11 ∧ Sl15 zo0 zi0 zo1 zi1 l00 l01 l10 l11 1048576) := hz
  clear b1 hz HK0 HB0 x0 x1 x2 x3 x4 x5 x6 x7 x8 x9 x10 x11 x12 x13 x14
  by_cases hneg : z < 0
  · go_wp2
    go_ret
    exact ⟨rfl, HB1.out⟩
  have HL : Hid (Sn15 zo0 zi0 zo1 zi1 l00 l01 l10 l11 ∧ Sl15 zo0 zi0 zo1 zi1 l00 l01 l10 l11 1048576) := HZ.out (by omega)
  clear HZ
  have x0 := HK1.out.cell 0
  have x1 := HK1.out.cell 1
  have x2 := HK1.out.cell 2
  have x3 := HK1.out.cell 3
  have x4 := HK1.out.cell 4
  have x5 := HK1.out.cell 5
  have x6 := HK1.out.cell 6
  have x7 := HK1.out.cell 7
  have x8 := HK1.out.cell 8
  have x9 := HK1.out.cell 9
  have x10 := HK1.out.cell 10
  have x11 := HK1.out.cell 11
  have x12 := HK1.out.cell 12
  have x13 := HK1.out.cell 13
  have x14 := HK1.out.cell 14
  simp at x0 x1 x2 x3 x4 x5 x6 x7 x8 x9 x10 x11 x12 x13 x14
  go_wp2_with (fail)
  refine (toLink_c _ _ _ _ _ _ _ _ s0 a0 t0 s1 a1 t1 u zo0 zi0 zo1 zi1 l00 l01 l10 l11 w1 (HH.out.below HB1.out) HL.out.1).mono ?_
  rintro e w2 ⟨yvo0, yvi0, yvo1, yvi1, yv00, yv01, yv10, yv11, m, rfl, o2, b2⟩
  have HB2 : Hid (Below w.heap.size w w2) := belowCall HB1.out b2 HB1.out.size
  have HK2 : Hid (Blk w2 w.heap.size (L15 (.slice a_vo0 zo0.length p_vo0) (.slice a_vi0 zi0.length p_vi0) (.slice a_vo1 zo1.length p_vo1) (.slice a_vi1 zi1.length p_vi1) (.slice a_v00 l00.length p_v00) (.slice a_v01 l01.length p_v01) (.slice a_v10 l10.length p_v10) (.slice a_v11 l11.length p_v11) s0 a0 t0 s1 a1 t1 u) 47) := HK1.out.below b2 HK1.out.lt
  have HO2 : Hid (Rl w2 yvo0 yvi0 yvo1 yvi1 yv00 yv01 yv10 yv11 zo0 zi0 zo1 zi1 l00 l01 l10 l11) := o2.rd
  clear o2 b2 HK1 HB1 x0 x1 x2 x3 x4 x5 x6 x7 x8 x9 x10 x11 x12 x13 x14
  go_wp2_with (fail)
  refine (okM_c _ _ _ _ _ _ _ _ s0 a0 t0 s1 a1 t1 u zo0 zi0 zo1 zi1 l00 l01 l10 l11 w2 HO2.out HL.out.2).mono ?_
  rintro e w3 ⟨r, rfl, hr, b3⟩
  have HR : Hid (r = true ↔ LkP s0 a0 t0 s1 a1 t1 u zo0 zi0 zo1 zi1 l00 l01 l10 l11) := hr
  have HB3 : Hid (Below w.heap.size w w3) := belowCall HB2.out b3 HB2.out.size
  have HK3 : Hid (Blk w3 w.heap.size (L15 (.slice a_vo0 zo0.length p_vo0) (.slice a_vi0 zi0.length p_vi0) (.slice a_vo1 zo1.length p_vo1) (.slice a_vi1 zi1.length p_vi1) (.slice a_v00 l00.length p_v00) (.slice a_v01 l01.length p_v01) (.slice a_v10 l10.length p_v10) (.slice a_v11 l11.length p_v11) s0 a0 t0 s1 a1 t1 u) 47) := HK2.out.below b3 HK2.out.lt
  clear hr b3 HO2 HK2 HB2
  have x0 := HK3.out.cell 0
  have x1 := HK3.out.cell 1
  have x2 := HK3.out.cell 2
  have x3 := HK3.out.cell 3
  have x4 := HK3.out.cell 4
  have x5 := HK3.out.cell 5
  have x6 := HK3.out.cell 6
  have x7 := HK3.out.cell 7
  have x8 := HK3.out.cell 8
  have x9 := HK3.out.cell 9
  have x10 := HK3.out.cell 10
  have x11 := HK3.out.cell 11
  have x12 := HK3.out.cell 12
  have x13 := HK3.out.cell 13
  have x14 := HK3.out.cell 14
  simp at x0 x1 x2 x3 x4 x5 x6 x7 x8 x9 x10 x11 x12 x13 x14
  go_wp2_with (fail)
  refine (toLink_c _ _ _ _ _ _ _ _ s0 a0 t0 s1 a1 t1 u zo0 zi0 zo1 zi1 l00 l01 l10 l11 w3 (HH.out.below HB3.out) HL.out.1).mono ?_
  rintro e w4 ⟨uvo0, uvi0, uvo1, uvi1, uv00, uv01, uv10, uv11, m, rfl, o4, b4⟩
  obtain ⟨c_vo0, d_vo0, e_vo0⟩ := o4.ovo0.form
  obtain ⟨c_vi0, d_vi0, e_vi0⟩ := o4.ovi0.form
  obtain ⟨c_vo1, d_vo1, e_vo1⟩ := o4.ovo1.form
  obtain ⟨c_vi1, d_vi1, e_vi1⟩ := o4.ovi1.form
  obtain ⟨c_v00, d_v00, e_v00⟩ := o4.ov00.form
  obtain ⟨c_v01, d_v01, e_v01⟩ := o4.ov01.form
  obtain ⟨c_v10, d_v10, e_v10⟩ := o4.ov10.form
  obtain ⟨c_v11, d_v11, e_v11⟩ := o4.ov11.form
  subst e_vo0 e_vi0 e_vo1 e_vi1 e_v00 e_v01 e_v10 e_v11
  have ba : Below w4.heap.size w4 (w4.alloc (Obj.cells (L15 (.slice c_vo0 zo0.length d_vo0) (.slice c_vi0 zi0.length d_vi0) (.slice c_vo1 zo1.length d_vo1) (.slice c_vi1 zi1.length d_vi1) (.slice c_v00 l00.length d_v00) (.slice c_v01 l01.length d_v01) (.slice c_v10 l10.length d_v10) (.slice c_v11 l11.length d_v11) s0 a0 t0 s1 a1 t1 u) 32)) := (Below.refl _ _).alloc (Nat.le_refl _) _
  have b5 := belowCall HB3.out b4 HB3.out.size
  obtain ⟨gx, hgx⟩ : ∃ k, w4.heap.size = k := ⟨_, rfl⟩
  obtain ⟨w5, hw5⟩ : ∃ W, w4.alloc (Obj.cells (L15 (.slice c_vo0 zo0.length d_vo0) (.slice c_vi0 zi0.length d_vi0) (.slice c_vo1 zo1.length d_vo1) (.slice c_vi1 zi1.length d_vi1) (.slice c_v00 l00.length d_v00) (.slice c_v01 l01.length d_v01) (.slice c_v10 l10.length d_v10) (.slice c_v11 l11.length d_v11) s0 a0 t0 s1 a1 t1 u) 32) = W := ⟨_, rfl⟩
  have k4 := HK3.out.below b4 HK3.out.lt
  have HB5 : Hid (Below w.heap.size w w5) := by rw [← hw5]; exact belowCall b5 ba b5.size
  have HK5 : Hid (Blk w5 w.heap.size (L15 (.slice a_vo0 zo0.length p_vo0) (.slice a_vi0 zi0.length p_vi0) (.slice a_vo1 zo1.length p_vo1) (.slice a_vi1 zi1.length p_vi1) (.slice a_v00 l00.length p_v00) (.slice a_v01 l01.length p_v01) (.slice a_v10 l10.length p_v10) (.slice a_v11 l11.length p_v11) s0 a0 t0 s1 a1 t1 u) 47) := by rw [← hw5]; exact k4.below ba k4.lt
  have HX5 : Hid (Blk w5 gx (L15 (.slice c_vo0 zo0.length d_vo0) (.slice c_vi0 zi0.length d_vi0) (.slice c_vo1 zo1.length d_vo1) (.slice c_vi1 zi1.length d_vi1) (.slice c_v00 l00.length d_v00) (.slice c_v01 l01.length d_v01) (.slice c_v10 l10.length d_v10) (.slice c_v11 l11.length d_v11) s0 a0 t0 s1 a1 t1 u) 32) := by rw [← hw5, ← hgx]; exact Blk.new _ _ _
  have HO5 : Hid (Rl w5 (.slice c_vo0 zo0.length d_vo0) (.slice c_vi0 zi0.length d_vi0) (.slice c_vo1 zo1.length d_vo1) (.slice c_vi1 zi1.length d_vi1) (.slice c_v00 l00.length d_v00) (.slice c_v01 l01.length d_v01) (.slice c_v10 l10.length d_v10) (.slice c_v11 l11.length d_v11) zo0 zi0 zo1 zi1 l00 l01 l10 l11) := by rw [← hw5]; exact o4.rd.below ba
  have HGX : Hid (w4.heap.size = gx) := hgx
  clear o4 b4 ba b5 k4 HK3 HB3 x0 x1 x2 x3 x4 x5 x6 x7 x8 x9 x10 x11 x12 x13 x14
  have s_0 := HX5.out.cell 0
  have s_1 := HX5.out.cell 1
  have s_2 := HX5.out.cell 2
  have s_3 := HX5.out.cell 3
  have s_4 := HX5.out.cell 4
  have s_5 := HX5.out.cell 5
  have s_6 := HX5.out.cell 6
  have s_7 := HX5.out.cell 7
  have s_8 := HX5.out.cell 8
  have s_9 := HX5.out.cell 9
  have s_10 := HX5.out.cell 10
  have s_11 := HX5.out.cell 11
  have s_12 := HX5.out.cell 12
  have s_13 := HX5.out.cell 13
  have s_14 := HX5.out.cell 14
  simp at s_0 s_1 s_2 s_3 s_4 s_5 s_6 s_7 s_8 s_9 s_10 s_11 s_12 s_13 s_14
  go_wp2_with (fail)
  clear hw5 hgx
  refine (okI_c _ _ _ _ _ _ _ _ s0 a0 t0 s1 a1 t1 u zo0 zi0 zo1 zi1 l00 l01 l10 l11 w5 HO5.out HL.out.2).mono ?_
  rintro e w6 ⟨r', rfl, hr', b6⟩
  have hrr : r' = r := by rw [Bool.eq_iff_iff, hr', HR.out]
  subst hrr
  have HB6 : Hid (Below w.heap.size w w6) := belowCall HB5.out b6 HB5.out.size
  have HK6 : Hid (Blk w6 w.heap.size (L15 (.slice a_vo0 zo0.length p_vo0) (.slice a_vi0 zi0.length p_vi0) (.slice a_vo1 zo1.length p_vo1) (.slice a_vi1 zi1.length p_vi1) (.slice a_v00 l00.length p_v00) (.slice a_v01 l01.length p_v01) (.slice a_v10 l10.length p_v10) (.slice a_v11 l11.length p_v11) s0 a0 t0 s1 a1 t1 u) 47) := HK5.out.below b6 HK5.out.lt
  have HX6 : Hid (Blk w6 gx (L15 (.slice c_vo0 zo0.length d_vo0) (.slice c_vi0 zi0.length d_vi0) (.slice c_vo1 zo1.length d_vo1) (.slice c_vi1 zi1.length d_vi1) (.slice c_v00 l00.length d_v00) (.slice c_v01 l01.length d_v01) (.slice c_v10 l10.length d_v10) (.slice c_v11 l11.length d_v11) s0 a0 t0 s1 a1 t1 u) 32) := HX5.out.below b6 HX5.out.lt
  have HO6 : Hid (Rl w6 (.slice c_vo0 zo0.length d_vo0) (.slice c_vi0 zi0.length d_vi0) (.slice c_vo1 zo1.length d_vo1) (.slice c_vi1 zi1.length d_vi1) (.slice c_v00 l00.length d_v00) (.slice c_v01 l01.length d_v01) (.slice c_v10 l10.length d_v10) (.slice c_v11 l11.length d_v11) zo0 zi0 zo1 zi1 l00 l01 l10 l11) := HO5.out.below b6
  clear b6 hr' HR HK5 HX5 HO5 HB5 s_0 s_1 s_2 s_3 s_4 s_5 s_6 s_7 s_8 s_9 s_10 s_11 s_12 s_13 s_14
  obtain ⟨S, hS⟩ : ∃ S : World → Prop, ∀ W, S W ↔ Below w6.heap.size w6 W := ⟨_, fun _ => Iff.rfl⟩
  have zc0 : ∀ W : At S, W.wd.cell? ⟨w.heap.size, 0, none⟩ = some ((.slice a_vo0 zo0.length p_vo0)) := fun W => by rw [(HK6.out.below ((hS _).1 W.ok) HK6.out.lt).cell 0]; rfl
  have zx0 : ∀ W : At S, W.wd.cell? ⟨gx, 0, none⟩ = some ((.slice c_vo0 zo0.length d_vo0)) := fun W => by rw [(HX6.out.below ((hS _).1 W.ok) HX6.out.lt).cell 0]; rfl
  have zc1 : ∀ W : At S, W.wd.cell? ⟨w.heap.size, 1, none⟩ = some (.int .i64 s0) := fun W => by rw [(HK6.out.below ((hS _).1 W.ok) HK6.out.lt).cell 1]; rfl
  have zx1 : ∀ W : At S, W.wd.cell? ⟨gx, 1, none⟩ = some (.int .i64 s0) := fun W => by rw [(HX6.out.below ((hS _).1 W.ok) HX6.out.lt).cell 1]; rfl
  have zc2 : ∀ W : At S, W.wd.cell? ⟨w.heap.size, 2, none⟩ = some (.int .i64 a0) := fun W => by rw [(HK6.out.below ((hS _).1 W.ok) HK6.out.lt).cell 2]; rfl
  have zx2 : ∀ W : At S, W.wd.cell? ⟨gx, 2, none⟩ = some (.int .i64 a0) := fun W => by rw [(HX6.out.below ((hS _).1 W.ok) HX6.out.lt).cell 2]; rfl
  have zc3 : ∀ W : At S, W.wd.cell? ⟨w.heap.size, 3, none⟩ = some (.int .i64 t0) := fun W => by rw [(HK6.out.below ((hS _).1 W.ok) HK6.out.lt).cell 3]; rfl
  have zx3 : ∀ W : At S, W.wd.cell? ⟨gx, 3, none⟩ = some (.int .i64 t0) := fun W => by rw [(HX6.out.below ((hS _).1 W.ok) HX6.out.lt).cell 3]; rfl
  have zc4 : ∀ W : At S, W.wd.cell? ⟨w.heap.size, 4, none⟩ = some ((.slice a_vi0 zi0.length p_vi0)) := fun W => by rw [(HK6.out.below ((hS _).1 W.ok) HK6.out.lt).cell 4]; rfl
  have zx4 : ∀ W : At S, W.wd.cell? ⟨gx, 4, none⟩ = some ((.slice c_vi0 zi0.length d_vi0)) := fun W => by rw [(HX6.out.below ((hS _).1 W.ok) HX6.out.lt).cell 4]; rfl
  have zc5 : ∀ W : At S, W.wd.cell? ⟨w.heap.size, 5, none⟩ = some ((.slice a_vo1 zo1.length p_vo1)) := fun W => by rw [(HK6.out.below ((hS _).1 W.ok) HK6.out.lt).cell 5]; rfl
  have zx5 : ∀ W : At S, W.wd.cell? ⟨gx, 5, none⟩ = some ((.slice c_vo1 zo1.length d_vo1)) := fun W => by rw [(HX6.out.below ((hS _).1 W.ok) HX6.out.lt).cell 5]; rfl
  have zc6 : ∀ W : At S, W.wd.cell? ⟨w.heap.size, 6, none⟩ = some (.int .i64 s1) := fun W => by rw [(HK6.out.below ((hS _).1 W.ok) HK6.out.lt).cell 6]; rfl
  have zx6 : ∀ W : At S, W.wd.cell? ⟨gx, 6, none⟩ = some (.int .i64 s1) := fun W => by rw [(HX6.out.below ((hS _).1 W.ok) HX6.out.lt).cell 6]; rfl
  have zc7 : ∀ W : At S, W.wd.cell? ⟨w.heap.size, 7, none⟩ = some (.int .i64 a1) := fun W => by rw [(HK6.out.below ((hS _).1 W.ok) HK6.out.lt).cell 7]; rfl
  have zx7 : ∀ W : At S, W.wd.cell? ⟨gx, 7, none⟩ = some (.int .i64 a1) := fun W => by rw [(HX6.out.below ((hS _).1 W.ok) HX6.out.lt).cell 7]; rfl
  have zc8 : ∀ W : At S, W.wd.cell? ⟨w.heap.size, 8, none⟩ = some (.int .i64 t1) := fun W => by rw [(HK6.out.below ((hS _).1 W.ok) HK6.out.lt).cell 8]; rfl
  have zx8 : ∀ W : At S, W.wd.cell? ⟨gx, 8, none⟩ = some (.int .i64 t1) := fun W => by rw [(HX6.out.below ((hS _).1 W.ok) HX6.out.lt).cell 8]; rfl
  have zc9 : ∀ W : At S, W.wd.cell? ⟨w.heap.size, 9, none⟩ = some ((.slice a_vi1 zi1.length p_vi1)) := fun W => by rw [(HK6.out.below ((hS _).1 W.ok) HK6.out.lt).cell 9]; rfl
  have zx9 : ∀ W : At S, W.wd.cell? ⟨gx, 9, none⟩ = some ((.slice c_vi1 zi1.length d_vi1)) := fun W => by rw [(HX6.out.below ((hS _).1 W.ok) HX6.out.lt).cell 9]; rfl
  have zc10 : ∀ W : At S, W.wd.cell? ⟨w.heap.size, 10, none⟩ = some ((.slice a_v00 l00.length p_v00)) := fun W => by rw [(HK6.out.below ((hS _).1 W.ok) HK6.out.lt).cell 10]; rfl
  have zx10 : ∀ W : At S, W.wd.cell? ⟨gx, 10, none⟩ = some ((.slice c_v00 l00.length d_v00)) := fun W => by rw [(HX6.out.below ((hS _).1 W.ok) HX6.out.lt).cell 10]; rfl
  have zc11 : ∀ W : At S, W.wd.cell? ⟨w.heap.size, 11, none⟩ = some ((.slice a_v01 l01.length p_v01)) := fun W => by rw [(HK6.out.below ((hS _).1 W.ok) HK6.out.lt).cell 11]; rfl
  have zx11 : ∀ W : At S, W.wd.cell? ⟨gx, 11, none⟩ = some ((.slice c_v01 l01.length d_v01)) := fun W => by rw [(HX6.out.below ((hS _).1 W.ok) HX6.out.lt).cell 11]; rfl
  have zc12 : ∀ W : At S, W.wd.cell? ⟨w.heap.size, 12, none⟩ = some ((.slice a_v10 l10.length p_v10)) := fun W => by rw [(HK6.out.below ((hS _).1 W.ok) HK6.out.lt).cell 12]; rfl
  have zx12 : ∀ W : At S, W.wd.cell? ⟨gx, 12, none⟩ = some ((.slice c_v10 l10.length d_v10)) := fun W => by rw [(HX6.out.below ((hS _).1 W.ok) HX6.out.lt).cell 12]; rfl
  have zc13 : ∀ W : At S, W.wd.cell? ⟨w.heap.size, 13, none⟩ = some ((.slice a_v11 l11.length p_v11)) := fun W => by rw [(HK6.out.below ((hS _).1 W.ok) HK6.out.lt).cell 13]; rfl
  have zx13 : ∀ W : At S, W.wd.cell? ⟨gx, 13, none⟩ = some ((.slice c_v11 l11.length d_v11)) := fun W => by rw [(HX6.out.below ((hS _).1 W.ok) HX6.out.lt).cell 13]; rfl
  have zc14 : ∀ W : At S, W.wd.cell? ⟨w.heap.size, 14, none⟩ = some (.int .i64 u) := fun W => by rw [(HK6.out.below ((hS _).1 W.ok) HK6.out.lt).cell 14]; rfl
  have zx14 : ∀ W : At S, W.wd.cell? ⟨gx, 14, none⟩ = some (.int .i64 u) := fun W => by rw [(HX6.out.below ((hS _).1 W.ok) HX6.out.lt).cell 14]; rfl
  have HS : Hid (∀ W, S W ↔ Below w6.heap.size w6 W) := hS
  have ne : Nonempty (At S) := ⟨⟨w6, (hS _).2 (Below.refl _ _)⟩⟩
  clear hS
  have hbb : (r' != r') = false := by simp
  go_wp2
  refine region_mixA [true, true, false, false, false] 5 3 S (by kernel_rfl) rfl (by kernel_rfl) (fun _ _ _ _ _ h => h) ((HS.out _).2 (Below.refl _ _).drew) ?_
  simp only [selT, selF]
  repeat (go_big_quiet_step (fail))
  refine wpQuiet_nil ?_
  refine tail_step ?_
  go_wp2_with (fail)
  refine (toLink_c _ _ _ _ _ _ _ _ s0 a0 t0 s1 a1 t1 u zo0 zi0 zo1 zi1 l00 l01 l10 l11 w6.drew (HH.out.below HB6.out.drew) HL.out.1).mono ?_
  rintro e w7 ⟨yvo0, yvi0, yvo1, yvi1, yv00, yv01, yv10, yv11, m, rfl, o7, b7⟩
  have B7 : Below w6.heap.size w6 w7 := (Below.refl _ _).drew.trans b7
  have HB7 : Hid (Below w6.heap.size w6 w7) := B7
  have HO7 : Hid (Rl w7 yvo0 yvi0 yvo1 yvi1 yv00 yv01 yv10 yv11 zo0 zi0 zo1 zi1 l00 l01 l10 l11 ∧ Rl w7 (.slice c_vo0 zo0.length d_vo0) (.slice c_vi0 zi0.length d_vi0) (.slice c_vo1 zo1.length d_vo1) (.slice c_vi1 zi1.length d_vi1) (.slice c_v00 l00.length d_v00) (.slice c_v01 l01.length d_v01) (.slice c_v10 l10.length d_v10) (.slice c_v11 l11.length d_v11) zo0 zi0 zo1 zi1 l00 l01 l10 l11) := ⟨o7.rd, HO6.out.below B7⟩
  clear o7 b7 B7
  go_wp2
  refine ⟨(HS.out _).2 HB7.out, tail_step ?_⟩
  go_wp2_with (fail)
  refine (eqLink_t _ _ _ _ _ _ _ _ _ _ _ _ _ _ _ _ s0 a0 t0 s1 a1 t1 u zo0 zi0 zo1 zi1 l00 l01 l10 l11 w7 HO7.out.2 HO7.out.1).mono ?_
  rintro e w8 ⟨rfl, b8⟩
  have HB8 : Hid (Below w6.heap.size w6 w8) := belowCall HB7.out b8 HB7.out.size
  clear b8
  go_wp2
  refine ⟨(HS.out _).2 HB8.out, tail_step ?_⟩
  go_wp2
  refine ⟨(HS.out _).2 HB8.out, tail_end ?_⟩
  have HB9 : Hid (Below w.heap.size w w8) := belowCall HB6.out HB8.out HB6.out.size
  go_wp2
  go_ret
  exact ⟨rfl, HB9.out⟩
end Go.Proofs.Ytejoopdpelcpeaa

/- The model's Leave; no condition. -/
import Derived.Test.YtkehcalijamhjaaPut
import Derived.Test.YtkehcalijamhjaaTkM
namespace Go.Proofs.Ytkehcalijamhjaa
open Go.RowKit Go.ChangeShapes Go.WideShapes Go.ChangeAt
set_option linter.unusedVariables false
set_option linter.unusedSimpArgs false
set_option maxRecDepth 8000

theorem Ow.setAt {base b cap n : Nat} {w : World} {zs : List Int} (hn : zs.length = n) (h : Ow .i64 3 base w (.slice (some ⟨b, 0, none⟩) n cap) zs) (i : Nat) (x : Int) : Ow .i64 3 base (w.setCell ⟨b, i, none⟩ (.int .i64 x)) (.slice (some ⟨b, 0, none⟩) n cap) (zs.set i x) := by
  subst hn
  have h1 := (World.ownsRow.stored h i (.int .i64 x)).1
  rw [Ow, List.length_set, List.map_set]
  exact h1
theorem Ow.cellFz {base b cap n : Nat} {w : World} {zs : List Int} (hn : zs.length = n) (h : Ow .i64 3 base w (.slice (some ⟨b, 0, none⟩) n cap) zs) (i : Nat) (hi : i < n) : w.cell? ⟨b, i, none⟩ = some (.int .i64 (zs.getD i 0)) ∧ w.frozen? ⟨b, i, none⟩ = false := by
  subst hn
  refine ⟨?_, World.ownsRow.frozenAt h i⟩
  have := World.ownsRow.cellAt h i (by omega)
  rw [this, List.getElem?_map, List.getElem?_eq_getElem hi]
  simp [List.getElem?_eq_getElem hi]
theorem Ow.row {base : Nat} {w : World} {v : Value} {zs : List Int} (h : Ow .i64 3 base w v zs) (hp : 0 < zs.length) : ∃ b cap, v = .slice (some ⟨b, 0, none⟩) zs.length cap ∧ base ≤ b ∧ b < w.heap.size := by
  rcases h.2 with ⟨-, h0⟩ | ⟨g, cap, cur, hv, hb, hg, -⟩
  · omega
  · exact ⟨g, cap, hv, hb, Blk.lt hg⟩
def TwS (l0 l1 : Int) (z0 z1 : List Int) (n0 n1 : Mvs) (x : Value) (w : World) (e : Ending) (w' : World) : Prop := TwR w.heap.size l0 l1 z0 z1 n0 n1 x w e w'

def LvOk0 (c : Int) (z0 z1 : List Int) (l0 l1 : Int) (n0 n1 : Mvs) : Prop := TOk z0 z1 l0 l1 n0 n1 ∧ (0 ≤ c ∧ c < z0.length) ∧ z0.getD c.toNat 0 = 2 ∧ n1.length < 60
def LvR0 (c : Int) (z0 z1 : List Int) (l0 l1 : Int) (n0 n1 : Mvs) (w : World) (e : Ending) (w' : World) : Prop :=
  (LvOk0 c z0 z1 l0 l1 n0 n1 → TwS l0 l1 (z0.set c.toNat 4) z1 n0 (n1 ++ [(4, c)]) (.bool true) w e w') ∧ (¬ LvOk0 c z0 z1 l0 l1 n0 n1 → TwS l0 l1 z0 z1 n0 n1 (.bool false) w e w')

set_option maxHeartbeats 12800000 in
theorem leaveM0_c (c0 c1 w0 w1 : Value) (l0 l1 : Int) (z0 z1 : List Int) (n0 n1 : Mvs) (c : Int) (w : World) (h : Rk w c0 c1 w0 w1 z0 z1 n0 n1) (hl : (z0.length : Int) + z1.length + (n0.length + n1.length) ≤ 1048576) :
    Calls Try.prog 17 #[.agg (T6 c0 c1 l0 l1 w0 w1), .int .i64 0, .int .i64 c] w (LvR0 c z0 z1 l0 l1 n0 n1 w) := by
  obtain ⟨W0, hW0⟩ : ∃ W0, (w.alloc (Obj.cells (T6 c0 c1 l0 l1 w0 w1) 33)).alloc (Obj.cells (T6 (.slice none 0 0) (.slice none 0 0) 0 0 (.slice none 0 0) (.slice none 0 0)) 33) = W0 := ⟨_, rfl⟩
  have HS : Hid (W0.heap.size = w.heap.size + 2) := by rw [← hW0]; simp [Hid]
  have HB0 : Hid (Below w.heap.size w W0) := by rw [← hW0]; exact ((Below.refl _ _).alloc (Nat.le_refl _) _).alloc (by simp) _
  have KP0 : Hid (Blk W0 w.heap.size (T6 c0 c1 l0 l1 w0 w1) 33) := by rw [← hW0]; exact (Blk.new _ _ _).alloc _
  have KR0 : Hid (Blk W0 (w.heap.size + 1) (T6 (.slice none 0 0) (.slice none 0 0) 0 0 (.slice none 0 0) (.slice none 0 0)) 33) := by rw [← hW0]; exact Blk.newAt _ (w.heap.size + 1) _ 33 (by simp)
  have HR : Hid (Rk w c0 c1 w0 w1 z0 z1 n0 n1) := h
  have HL : Hid ((z0.length : Int) + z1.length + (n0.length + n1.length) ≤ 1048576) := hl
  obtain ⟨a0, p0, hv0, -⟩ := h.r0
  obtain ⟨a1, p1, hv1, -⟩ := h.r1
  obtain ⟨a2, p2, hv2, -⟩ := h.r2
  obtain ⟨a3, p3, hv3, -⟩ := h.r3
  obtain ⟨m0, hm0⟩ : ∃ m, z0.length = m := ⟨_, rfl⟩
  obtain ⟨m1, hm1⟩ : ∃ m, z1.length = m := ⟨_, rfl⟩
  obtain ⟨m2, hm2⟩ : ∃ m, n0.length = m := ⟨_, rfl⟩
  obtain ⟨m3, hm3⟩ : ∃ m, n1.length = m := ⟨_, rfl⟩
  have HM : Hid (z0.length = m0 ∧ z1.length = m1 ∧ n0.length = m2 ∧ n1.length = m3) := ⟨hm0, hm1, hm2, hm3⟩
  rw [hm0] at hv0
  rw [hm1] at hv1
  rw [hm2] at hv2
  rw [hm3] at hv3
  subst hv0 hv1 hv2 hv3
  clear h hm0 hm1 hm2 hm3 hl
  have x0 := KP0.out.cell 0
  have xf0 := KP0.out.frozen 0
  have x1 := KP0.out.cell 1
  have xf1 := KP0.out.frozen 1
  have x2 := KP0.out.cell 2
  have xf2 := KP0.out.frozen 2
  have x3 := KP0.out.cell 3
  have xf3 := KP0.out.frozen 3
  have x4 := KP0.out.cell 4
  have xf4 := KP0.out.frozen 4
  have x5 := KP0.out.cell 5
  have xf5 := KP0.out.frozen 5
  have xl := KP0.out.lt
  simp at x0 x1 x2 x3 x4 x5
  go_enter Try.func17, Try.ntmps17
  go_wp2_with (fail)
  clear hW0
  refine (copyM_c _ _ _ _ l0 l1 z0 z1 n0 n1 W0 (HR.out.below HB0.out) HL.out).mono ?_
  rintro e u0 ⟨v0, v1, v2, v3, rfl, oo, bb⟩
  obtain ⟨e0, f0, hf0, -⟩ := own_form oo.o0
  obtain ⟨e1, f1, hf1, -⟩ := own_form oo.o1
  obtain ⟨e2, f2, hf2, -⟩ := own_form oo.o2
  obtain ⟨e3, f3, hf3, -⟩ := own_form oo.o3
  rw [HM.out.1] at hf0
  rw [HM.out.2.1] at hf1
  rw [HM.out.2.2.1] at hf2
  rw [HM.out.2.2.2] at hf3
  subst hf0 hf1 hf2 hf3
  have hs0 := HS.out
  have kp := KP0.out.below bb KP0.out.lt
  have kr := KR0.out.below bb KR0.out.lt
  have hfr := fr_put6 u0 w.heap.size (.slice e0 m0 f0) (.slice e1 m1 f1) l0 l1 (.slice e2 m2 f2) (.slice e3 m3 f3)
  have szb : W0.heap.size ≤ u0.heap.size := bb.size
  have KP : Hid (Blk (st6 u0 w.heap.size (.slice e0 m0 f0) (.slice e1 m1 f1) l0 l1 (.slice e2 m2 f2) (.slice e3 m3 f3)) w.heap.size (T6 (.slice e0 m0 f0) (.slice e1 m1 f1) l0 l1 (.slice e2 m2 f2) (.slice e3 m3 f3)) 33) := put6 kp _ _ _ _ _ _
  have KR : Hid (Blk (st6 u0 w.heap.size (.slice e0 m0 f0) (.slice e1 m1 f1) l0 l1 (.slice e2 m2 f2) (.slice e3 m3 f3)) (w.heap.size + 1) (T6 (.slice none 0 0) (.slice none 0 0) 0 0 (.slice none 0 0) (.slice none 0 0)) 33) := kr.fr hfr (fun e => by omega)
  have HO : Hid (Ok6 W0.heap.size u0.heap.size (st6 u0 w.heap.size (.slice e0 m0 f0) (.slice e1 m1 f1) l0 l1 (.slice e2 m2 f2) (.slice e3 m3 f3)) (.slice e0 m0 f0) (.slice e1 m1 f1) (.slice e2 m2 f2) (.slice e3 m3 f3) z0 z1 n0 n1) := oo.fr hfr (fun k hk e => by have := oo.ge k hk; omega)
  have bw := belowCall HB0.out bb HB0.out.size
  have HB1 : Hid (Below w.heap.size w (st6 u0 w.heap.size (.slice e0 m0 f0) (.slice e1 m1 f1) l0 l1 (.slice e2 m2 f2) (.slice e3 m3 f3))) := bw.trans (hfr.below (by omega) (fun j e => by omega))
  have HU : Hid (u0.heap.size ≤ (st6 u0 w.heap.size (.slice e0 m0 f0) (.slice e1 m1 f1) l0 l1 (.slice e2 m2 f2) (.slice e3 m3 f3)).heap.size ∧ w.heap.size + 2 ≤ u0.heap.size) := ⟨hfr.size, by omega⟩
  clear x0 xf0 x1 xf1 x2 xf2 x3 xf3 x4 xf4 x5 xf5 xl
  have x0 := kp.cell 0
  have xf0 := kp.frozen 0
  have x1 := kp.cell 1
  have xf1 := kp.frozen 1
  have x2 := kp.cell 2
  have xf2 := kp.frozen 2
  have x3 := kp.cell 3
  have xf3 := kp.frozen 3
  have x4 := kp.cell 4
  have xf4 := kp.frozen 4
  have x5 := kp.cell 5
  have xf5 := kp.frozen 5
  have xl := kp.lt
  simp at x0 x1 x2 x3 x4 x5
  obtain ⟨W1, hW1⟩ : ∃ W, st6 u0 w.heap.size (.slice e0 m0 f0) (.slice e1 m1 f1) l0 l1 (.slice e2 m2 f2) (.slice e3 m3 f3) = W := ⟨_, rfl⟩
  rw [hW1] at KP KR HO HB1 HU
  unfold st6 at hW1
  clear oo bb kp kr hfr szb bw KP0 KR0 HB0 hs0
  have y0 := KP.out.cell 0
  have yf0 := KP.out.frozen 0
  have y1 := KP.out.cell 1
  have yf1 := KP.out.frozen 1
  have y2 := KP.out.cell 2
  have yf2 := KP.out.frozen 2
  have y3 := KP.out.cell 3
  have yf3 := KP.out.frozen 3
  have y4 := KP.out.cell 4
  have yf4 := KP.out.frozen 4
  have y5 := KP.out.cell 5
  have yf5 := KP.out.frozen 5
  have yl := KP.out.lt
  simp at y0 y1 y2 y3 y4 y5
  go_wp2_with (fail)
  clear hW1 x0 xf0 x1 xf1 x2 xf2 x3 xf3 x4 xf4 x5 xf5 xl
  refine (okM_c _ _ _ _ l0 l1 z0 z1 n0 n1 W1 HO.out.rd).mono ?_
  rintro e u1 ⟨r, rfl, hr, b1⟩
  have KP1 : Hid (Blk u1 w.heap.size (T6 (.slice e0 m0 f0) (.slice e1 m1 f1) l0 l1 (.slice e2 m2 f2) (.slice e3 m3 f3)) 33) := KP.out.below b1 KP.out.lt
  have KR1 : Hid (Blk u1 (w.heap.size + 1) (T6 (.slice none 0 0) (.slice none 0 0) 0 0 (.slice none 0 0) (.slice none 0 0)) 33) := KR.out.below b1 KR.out.lt
  have HO1 : Hid (Ok6 W0.heap.size u0.heap.size u1 (.slice e0 m0 f0) (.slice e1 m1 f1) (.slice e2 m2 f2) (.slice e3 m3 f3) z0 z1 n0 n1) := HO.out.below b1
  have HB2 : Hid (Below w.heap.size w u1) := belowCall HB1.out b1 HB1.out.size
  have HU1 : Hid (u0.heap.size ≤ u1.heap.size ∧ w.heap.size + 2 ≤ u0.heap.size) := ⟨Nat.le_trans HU.out.1 b1.size, HU.out.2⟩
  have HF : Hid (∀ W, (((((u1.setCell ⟨w.heap.size + 1, 0, none⟩ (.slice e0 m0 f0)).setCell ⟨w.heap.size + 1, 1, none⟩ (.slice e1 m1 f1)).setCell ⟨w.heap.size + 1, 2, none⟩ (.int .i64 l0)).setCell ⟨w.heap.size + 1, 3, none⟩ (.int .i64 l1)).setCell ⟨w.heap.size + 1, 4, none⟩ (.slice e2 m2 f2)).setCell ⟨w.heap.size + 1, 5, none⟩ (.slice e3 m3 f3) = W → Blk W (w.heap.size + 1) (T6 (.slice e0 m0 f0) (.slice e1 m1 f1) l0 l1 (.slice e2 m2 f2) (.slice e3 m3 f3)) 33 ∧ TwS l0 l1 z0 z1 n0 n1 (.bool false) w (.returned (.tuple #[.agg (T6 (.slice e0 m0 f0) (.slice e1 m1 f1) l0 l1 (.slice e2 m2 f2) (.slice e3 m3 f3)), .bool false])) W) := by
    rintro _ rfl
    have hfr := fr_put6 u1 (w.heap.size + 1) (.slice e0 m0 f0) (.slice e1 m1 f1) l0 l1 (.slice e2 m2 f2) (.slice e3 m3 f3)
    have hs0 := HS.out
    have hu := HU1.out
    have hz := hfr.size
    exact ⟨put6 KR1.out _ _ _ _ _ _, _, _, _, _, rfl, (HO1.out.fr hfr (fun k hk e => by have := HO1.out.ge k hk; omega)).mono (by omega) (Nat.le_trans hu.1 hfr.size), HB2.out.trans (hfr.below (by omega) (fun j e => by omega))⟩
  clear y0 yf0 y1 yf1 y2 yf2 y3 yf3 y4 yf4 y5 yf5 yl b1 KP KR HO HB1 HU
  have x0 := KP1.out.cell 0
  have xf0 := KP1.out.frozen 0
  have x1 := KP1.out.cell 1
  have xf1 := KP1.out.frozen 1
  have x2 := KP1.out.cell 2
  have xf2 := KP1.out.frozen 2
  have x3 := KP1.out.cell 3
  have xf3 := KP1.out.frozen 3
  have x4 := KP1.out.cell 4
  have xf4 := KP1.out.frozen 4
  have x5 := KP1.out.cell 5
  have xf5 := KP1.out.frozen 5
  have xl := KP1.out.lt
  simp at x0 x1 x2 x3 x4 x5
  have y0 := KR1.out.cell 0
  have yf0 := KR1.out.frozen 0
  have y1 := KR1.out.cell 1
  have yf1 := KR1.out.frozen 1
  have y2 := KR1.out.cell 2
  have yf2 := KR1.out.frozen 2
  have y3 := KR1.out.cell 3
  have yf3 := KR1.out.frozen 3
  have y4 := KR1.out.cell 4
  have yf4 := KR1.out.frozen 4
  have y5 := KR1.out.cell 5
  have yf5 := KR1.out.frozen 5
  have yl := KR1.out.lt
  simp at y0 y1 y2 y3 y4 y5
  by_cases g : TOk z0 z1 l0 l1 n0 n1
  case neg =>
    obtain rfl : r = false := by cases r; rfl; exact absurd (hr.1 rfl) g
    have HNO : Hid (¬ LvOk0 c z0 z1 l0 l1 n0 n1) := fun h => g h.1
    clear hr g
    go_wp2
    exact bodyPost_ret (v := .tuple #[.agg (T6 (.slice e0 m0 f0) (.slice e1 m1 f1) l0 l1 (.slice e2 m2 f2) (.slice e3 m3 f3)), .bool false]) (results_T rfl _ _ _ _ _ _ _ _ _ _ rfl rfl (HF.out _ rfl).1) rfl ⟨fun h => absurd h HNO.out, fun _ => (HF.out _ rfl).2⟩
  obtain rfl : r = true := hr.2 g
  have G : Hid (TOk z0 z1 l0 l1 n0 n1) := g
  have hm24 : 1 ≤ m0 ∧ m0 ≤ 24 := by have := g.1; have := HM.out; omega
  obtain ⟨hm1', hm24⟩ := hm24
  have HE : Hid (m1 = m0) := by have := g.2.1; have := HM.out; show _ = _; omega
  have hk60 : m2 ≤ 60 := by have := g.2.2.1.2.2.1; have := HM.out; omega
  have hk61 : m3 ≤ 60 := by have := g.2.2.2.2.2.1; have := HM.out; omega
  clear hr g
  go_wp2_with (fail)
  refine (in_c 0 0 1 u1).mono ?_
  rintro e wq ⟨rfl, hwq⟩
  rw [hwq, show decide ((0 : Int) ≤ 0 ∧ (0 : Int) ≤ 1) = true from by decide]
  clear hwq wq
  go_wp2_with (fail)
  refine (in_c c 0 ((m0 : Int) - 1) u1).mono ?_
  rintro e wq ⟨rfl, hwq⟩
  rw [hwq]
  clear hwq wq
  by_cases gc : 0 ≤ c ∧ c ≤ (m0 : Int) - 1
  case neg =>
    rw [decide_eq_false gc]
    have HNO : Hid (¬ LvOk0 c z0 z1 l0 l1 n0 n1) := fun h => gc (by have := h.2.1; have := HM.out.1; omega)
    clear gc
    go_wp2
    exact bodyPost_ret (v := .tuple #[.agg (T6 (.slice e0 m0 f0) (.slice e1 m1 f1) l0 l1 (.slice e2 m2 f2) (.slice e3 m3 f3)), .bool false]) (results_T rfl _ _ _ _ _ _ _ _ _ _ rfl rfl (HF.out _ rfl).1) rfl ⟨fun h => absurd h HNO.out, fun _ => (HF.out _ rfl).2⟩
  rw [decide_eq_true gc]
  obtain ⟨ci, rfl⟩ : ∃ ci : Nat, c = (ci : Int) := ⟨c.toNat, by omega⟩
  have hci : ci < m0 := by omega
  have hciI : (ci : Int) < (m0 : Int) := by omega
  have hciJ : (ci : Int) < (m1 : Int) := by have := HE.out; omega
  clear gc
  obtain ⟨rb, rcap, hrv, hrb1, hrb2⟩ := HO1.out.o0.row (by have := HM.out; have := HE.out; omega)
  rw [HM.out.1] at hrv
  simp only [Value.slice.injEq] at hrv
  obtain ⟨hre, -, hrf⟩ := hrv
  subst hre hrf
  obtain ⟨xz, hxz⟩ : ∃ q, z0.getD ci 0 = q := ⟨_, rfl⟩
  have hcell : u1.cell? ⟨rb, ci, none⟩ = some (.int .i64 xz) := by
    obtain ⟨a', cap', hv', -, -, d⟩ := HO1.out.o0.rd
    simp only [Value.slice.injEq] at hv'
    rcases d with d | ⟨b', off', ha, h4⟩
    · have := HM.out.1; rw [d] at this; simp at this; have := HE.out; omega
    · rw [← hv'.1] at ha
      cases ha
      have := h4 ci (by have := HM.out; have := HE.out; omega)
      rw [Nat.zero_add, hxz] at this; exact this
  have HXZ : Hid (z0.getD ci 0 = xz) := hxz
  clear hxz
  by_cases gx : xz = 2
  case neg =>
    have gxb : (xz != 2) = true := by simpa using gx
    have HNO : Hid (¬ LvOk0 (ci : Int) z0 z1 l0 l1 n0 n1) := fun h => gx (by have := h.2.2.1; rw [Int.toNat_natCast, HXZ.out] at this; exact this)
    clear gx
    go_wp2
    exact bodyPost_ret (v := .tuple #[.agg (T6 (.slice (some ⟨rb, 0, none⟩) m0 f0) (.slice e1 m1 f1) l0 l1 (.slice e2 m2 f2) (.slice e3 m3 f3)), .bool false]) (results_T rfl _ _ _ _ _ _ _ _ _ _ rfl rfl (HF.out _ rfl).1) rfl ⟨fun h => absurd h HNO.out, fun _ => (HF.out _ rfl).2⟩
  subst gx
  go_wp2_with (fail)
  refine (copyM_c _ _ _ _ l0 l1 z0 z1 n0 n1 u1 HO1.out.rd HL.out).mono ?_
  rintro e u2 ⟨v0, v1, v2, v3, rfl, oo, bb⟩
  obtain ⟨g0, h0, hf0, -⟩ := own_form oo.o0
  obtain ⟨g1, h1, hf1, -⟩ := own_form oo.o1
  obtain ⟨g2, h2, hf2, -⟩ := own_form oo.o2
  obtain ⟨g3, h3, hf3, -⟩ := own_form oo.o3
  rw [HM.out.1] at hf0
  rw [HM.out.2.1] at hf1
  rw [HM.out.2.2.1] at hf2
  rw [HM.out.2.2.2] at hf3
  subst hf0 hf1 hf2 hf3
  have KP2 : Hid (Blk u2 w.heap.size (T6 (.slice (some ⟨rb, 0, none⟩) m0 f0) (.slice e1 m1 f1) l0 l1 (.slice e2 m2 f2) (.slice e3 m3 f3)) 33) := KP1.out.below bb KP1.out.lt
  have KR2 : Hid (Blk u2 (w.heap.size + 1) (T6 (.slice none 0 0) (.slice none 0 0) 0 0 (.slice none 0 0) (.slice none 0 0)) 33) := KR1.out.below bb KR1.out.lt
  have HO2 : Hid (Ok6 W0.heap.size u0.heap.size u2 (.slice (some ⟨rb, 0, none⟩) m0 f0) (.slice e1 m1 f1) (.slice e2 m2 f2) (.slice e3 m3 f3) z0 z1 n0 n1) := HO1.out.below bb
  have HB3 : Hid (Below w.heap.size w u2) := belowCall HB2.out bb HB2.out.size
  have HQ : Hid (Ok6 u1.heap.size u2.heap.size u2 (.slice g0 m0 h0) (.slice g1 m1 h1) (.slice g2 m2 h2) (.slice g3 m3 h3) z0 z1 n0 n1) := oo
  have HZ2 : Hid (u1.heap.size ≤ u2.heap.size) := bb.size
  clear oo bb x0 xf0 x1 xf1 x2 xf2 x3 xf3 x4 xf4 x5 xf5 xl y0 yf0 y1 yf1 y2 yf2 y3 yf3 y4 yf4 y5 yf5 yl hcell HF
  go_wp2_with (fail)
  refine (put1_c u1.heap.size _ _ _ _ l0 l1 z0 z1 n0 n1 4 (ci : Int) u2 HQ.out HZ2.out (by have := HM.out; omega)).mono ?_
  rintro e u3 ⟨hfull, hroom⟩
  by_cases h60 : n1.length < 60
  case neg =>
    obtain ⟨q0, q1, q2, q3, rfl, oq, bq⟩ := hfull (by have := HM.out; omega)
    obtain ⟨r0, t0, hf0, -⟩ := own_form oq.o0
    obtain ⟨r1, t1, hf1, -⟩ := own_form oq.o1
    obtain ⟨r2, t2, hf2, -⟩ := own_form oq.o2
    obtain ⟨r3, t3, hf3, -⟩ := own_form oq.o3
    rw [HM.out.1] at hf0
    rw [HM.out.2.1] at hf1
    rw [HM.out.2.2.1] at hf2
    rw [HM.out.2.2.2] at hf3
    subst hf0 hf1 hf2 hf3
    have HZ3 : Hid (u2.heap.size ≤ u3.heap.size) := bq.size
    have hfq : Fr (fun k => u1.heap.size ≤ k ∧ k < u2.heap.size) u2 u3 := ⟨bq.os, bq.tape, bq.output, bq.size, fun k hk hn => bq.block k (by omega)⟩
    have KP3 : Hid (Blk u3 w.heap.size (T6 (.slice (some ⟨rb, 0, none⟩) m0 f0) (.slice e1 m1 f1) l0 l1 (.slice e2 m2 f2) (.slice e3 m3 f3)) 33) := KP2.out.fr hfq (fun e => by have := KP1.out.lt; omega)
    have KR3 : Hid (Blk u3 (w.heap.size + 1) (T6 (.slice none 0 0) (.slice none 0 0) 0 0 (.slice none 0 0) (.slice none 0 0)) 33) := KR2.out.fr hfq (fun e => by have := KR1.out.lt; omega)
    have HO3 : Hid (Ok6 W0.heap.size u0.heap.size u3 (.slice (some ⟨rb, 0, none⟩) m0 f0) (.slice e1 m1 f1) (.slice e2 m2 f2) (.slice e3 m3 f3) z0 z1 n0 n1) := HO2.out.fr hfq (fun k hk e => by have := HO2.out.ge k hk; have := HU1.out; omega)
    have HB4 : Hid (Below w.heap.size w u3) := HB3.out.trans (bq.mono (by have := HB2.out.size; omega))
    have HNO : Hid (¬ LvOk0 (ci : Int) z0 z1 l0 l1 n0 n1) := fun h => h60 h.2.2.2
    have x0 := KP3.out.cell 0
    have xf0 := KP3.out.frozen 0
    have x1 := KP3.out.cell 1
    have xf1 := KP3.out.frozen 1
    have x2 := KP3.out.cell 2
    have xf2 := KP3.out.frozen 2
    have x3 := KP3.out.cell 3
    have xf3 := KP3.out.frozen 3
    have x4 := KP3.out.cell 4
    have xf4 := KP3.out.frozen 4
    have x5 := KP3.out.cell 5
    have xf5 := KP3.out.frozen 5
    have xl := KP3.out.lt
    simp at x0 x1 x2 x3 x4 x5
    have y0 := KR3.out.cell 0
    have yf0 := KR3.out.frozen 0
    have y1 := KR3.out.cell 1
    have yf1 := KR3.out.frozen 1
    have y2 := KR3.out.cell 2
    have yf2 := KR3.out.frozen 2
    have y3 := KR3.out.cell 3
    have yf3 := KR3.out.frozen 3
    have y4 := KR3.out.cell 4
    have yf4 := KR3.out.frozen 4
    have y5 := KR3.out.cell 5
    have yf5 := KR3.out.frozen 5
    have yl := KR3.out.lt
    simp at y0 y1 y2 y3 y4 y5
    clear hfull hroom oq bq hfq
    have HF : Hid (∀ W, ((((((u3.setCell ⟨w.heap.size + 1, 0, none⟩ (.slice (some ⟨rb, 0, none⟩) m0 f0)).setCell ⟨w.heap.size + 1, 1, none⟩ (.slice e1 m1 f1)).setCell ⟨w.heap.size + 1, 2, none⟩ (.int .i64 l0)).setCell ⟨w.heap.size + 1, 3, none⟩ (.int .i64 l1)).setCell ⟨w.heap.size + 1, 4, none⟩ (.slice e2 m2 f2)).setCell ⟨w.heap.size + 1, 5, none⟩ (.slice e3 m3 f3)).alloc (Obj.cells (T6 (.slice r0 m0 t0) (.slice r1 m1 t1) l0 l1 (.slice r2 m2 t2) (.slice r3 m3 t3)) 33) = W → Blk W (w.heap.size + 1) (T6 (.slice (some ⟨rb, 0, none⟩) m0 f0) (.slice e1 m1 f1) l0 l1 (.slice e2 m2 f2) (.slice e3 m3 f3)) 33 ∧ TwS l0 l1 z0 z1 n0 n1 (.bool false) w (.returned (.tuple #[.agg (T6 (.slice (some ⟨rb, 0, none⟩) m0 f0) (.slice e1 m1 f1) l0 l1 (.slice e2 m2 f2) (.slice e3 m3 f3)), .bool false])) W) := by
      rintro _ rfl
      have hfr := fr_put6 u3 (w.heap.size + 1) (.slice (some ⟨rb, 0, none⟩) m0 f0) (.slice e1 m1 f1) l0 l1 (.slice e2 m2 f2) (.slice e3 m3 f3)
      have ha : Below (st6 u3 (w.heap.size + 1) (.slice (some ⟨rb, 0, none⟩) m0 f0) (.slice e1 m1 f1) l0 l1 (.slice e2 m2 f2) (.slice e3 m3 f3)).heap.size (st6 u3 (w.heap.size + 1) (.slice (some ⟨rb, 0, none⟩) m0 f0) (.slice e1 m1 f1) l0 l1 (.slice e2 m2 f2) (.slice e3 m3 f3)) ((st6 u3 (w.heap.size + 1) (.slice (some ⟨rb, 0, none⟩) m0 f0) (.slice e1 m1 f1) l0 l1 (.slice e2 m2 f2) (.slice e3 m3 f3)).alloc (Obj.cells (T6 (.slice r0 m0 t0) (.slice r1 m1 t1) l0 l1 (.slice r2 m2 t2) (.slice r3 m3 t3)) 33)) := (Below.refl _ _).alloc (Nat.le_refl _) _
      have hs0 := HS.out
      have hu := HU1.out
      have kk := put6 KR3.out (.slice (some ⟨rb, 0, none⟩) m0 f0) (.slice e1 m1 f1) l0 l1 (.slice e2 m2 f2) (.slice e3 m3 f3)
      have o4 := (HO3.out.fr hfr (fun k hk e => by have := HO3.out.ge k hk; omega)).below ha
      have bz := HB4.out.trans (hfr.below (by have := HB4.out.size; omega) (fun j e => by omega))
      exact ⟨kk.below ha kk.lt, _, _, _, _, rfl, o4.mono (by omega) (Nat.le_trans (Nat.le_trans (Nat.le_trans hu.1 (Nat.le_trans HZ2.out HZ3.out)) hfr.size) ha.size), belowCall bz ha bz.size⟩
    go_wp2
    exact bodyPost_ret (v := .tuple #[.agg (T6 (.slice (some ⟨rb, 0, none⟩) m0 f0) (.slice e1 m1 f1) l0 l1 (.slice e2 m2 f2) (.slice e3 m3 f3)), .bool false]) (results_T rfl _ _ _ _ _ _ _ _ _ _ rfl rfl (HF.out _ rfl).1) rfl ⟨fun h => absurd h HNO.out, fun _ => (HF.out _ rfl).2⟩
  obtain ⟨q0, q1, q2, q3, rfl, oq, bq⟩ := hroom h60
  obtain ⟨r0, t0, hf0, -⟩ := own_form oq.o0
  obtain ⟨r1, t1, hf1, -⟩ := own_form oq.o1
  obtain ⟨r2, t2, hf2, -⟩ := own_form oq.o2
  obtain ⟨r3, t3, hf3, -⟩ := own_form oq.o3
  obtain ⟨N9, hN9⟩ : ∃ n, (n1 ++ [((4 : Int), (ci : Int))]).length = n := ⟨_, rfl⟩
  rw [HM.out.1] at hf0
  rw [HM.out.2.1] at hf1
  rw [HM.out.2.2.1] at hf2
  rw [hN9] at hf3
  subst hf0 hf1 hf2 hf3
  obtain ⟨sb, scap, hsv, hsb1, hsb2⟩ := oq.o0.row (by have := HM.out; have := HE.out; omega)
  rw [HM.out.1] at hsv
  simp only [Value.slice.injEq] at hsv
  obtain ⟨hse, -, hsf⟩ := hsv
  subst hse hsf
  have hfq : Fr (fun k => u1.heap.size ≤ k ∧ k < u2.heap.size) u2 u3 := ⟨bq.os, bq.tape, bq.output, bq.size, fun k hk hn => bq.block k (by omega)⟩
  have KR3 : Hid (Blk u3 (w.heap.size + 1) (T6 (.slice none 0 0) (.slice none 0 0) 0 0 (.slice none 0 0) (.slice none 0 0)) 33) := KR2.out.fr hfq (fun e => by have := KR1.out.lt; omega)
  have HB4 : Hid (Below w.heap.size w u3) := HB3.out.trans (bq.mono (by have := HB2.out.size; omega))
  have HOK : Hid (LvOk0 (ci : Int) z0 z1 l0 l1 n0 n1) := ⟨G.out, ⟨by omega, by have := HM.out.1; omega⟩, by rw [Int.toNat_natCast]; exact HXZ.out, h60⟩
  have hold := (Ow.cellFz HM.out.1 oq.o0 ci (by have := HE.out; omega)).1
  have holdf := (Ow.cellFz HM.out.1 oq.o0 ci (by have := HE.out; omega)).2
  have HQ3 : Hid (Ok6 u1.heap.size u3.heap.size u3 (.slice (some ⟨sb, 0, none⟩) m0 t0) (.slice r1 m1 t1) (.slice r2 m2 t2) (.slice r3 N9 t3) z0 z1 n0 (n1 ++ [((4 : Int), (ci : Int))])) := oq
  have HLL : Hid (w.heap.size + 2 ≤ u1.heap.size ∧ u1.heap.size ≤ u3.heap.size) := ⟨by have := HU1.out; omega, Nat.le_trans HZ2.out bq.size⟩
  have HSB : Hid (u1.heap.size ≤ sb ∧ sb < u3.heap.size) := ⟨hsb1, hsb2⟩
  have HNN : Hid (z0.length = m0) := HM.out.1
  have HF : Hid (∀ W, (((((((u3.setCell ⟨sb, ci, none⟩ (.int .i64 4)).setCell ⟨w.heap.size + 1, 0, none⟩ (.slice (some ⟨sb, 0, none⟩) m0 t0)).setCell ⟨w.heap.size + 1, 1, none⟩ (.slice r1 m1 t1)).setCell ⟨w.heap.size + 1, 2, none⟩ (.int .i64 l0)).setCell ⟨w.heap.size + 1, 3, none⟩ (.int .i64 l1)).setCell ⟨w.heap.size + 1, 4, none⟩ (.slice r2 m2 t2)).setCell ⟨w.heap.size + 1, 5, none⟩ (.slice r3 N9 t3)).alloc (Obj.cells (T6 (.slice (some ⟨sb, 0, none⟩) m0 t0) (.slice r1 m1 t1) l0 l1 (.slice r2 m2 t2) (.slice r3 N9 t3)) 33) = W → Blk W (w.heap.size + 1) (T6 (.slice (some ⟨sb, 0, none⟩) m0 t0) (.slice r1 m1 t1) l0 l1 (.slice r2 m2 t2) (.slice r3 N9 t3)) 33 ∧ TwS l0 l1 (z0.set (ci : Int).toNat 4) z1 n0 (n1 ++ [((4 : Int), (ci : Int))]) (.bool true) w (.returned (.tuple #[.agg (T6 (.slice (some ⟨sb, 0, none⟩) m0 t0) (.slice r1 m1 t1) l0 l1 (.slice r2 m2 t2) (.slice r3 N9 t3)), .bool true])) W) := by
    rintro _ rfl
    have hll := HLL.out
    have hsb := HSB.out
    have fr1 : Fr (fun j => j = sb) u3 (u3.setCell ⟨sb, ci, none⟩ (.int .i64 4)) := by
      refine (Fr.refl _ _).set ?_ _ _
      rfl
    have fr2 := fr_put6 (u3.setCell ⟨sb, ci, none⟩ (.int .i64 4)) (w.heap.size + 1) (.slice (some ⟨sb, 0, none⟩) m0 t0) (.slice r1 m1 t1) l0 l1 (.slice r2 m2 t2) (.slice r3 N9 t3)
    have ha : Below (st6 (u3.setCell ⟨sb, ci, none⟩ (.int .i64 4)) (w.heap.size + 1) (.slice (some ⟨sb, 0, none⟩) m0 t0) (.slice r1 m1 t1) l0 l1 (.slice r2 m2 t2) (.slice r3 N9 t3)).heap.size (st6 (u3.setCell ⟨sb, ci, none⟩ (.int .i64 4)) (w.heap.size + 1) (.slice (some ⟨sb, 0, none⟩) m0 t0) (.slice r1 m1 t1) l0 l1 (.slice r2 m2 t2) (.slice r3 N9 t3)) ((st6 (u3.setCell ⟨sb, ci, none⟩ (.int .i64 4)) (w.heap.size + 1) (.slice (some ⟨sb, 0, none⟩) m0 t0) (.slice r1 m1 t1) l0 l1 (.slice r2 m2 t2) (.slice r3 N9 t3)).alloc (Obj.cells (T6 (.slice (some ⟨sb, 0, none⟩) m0 t0) (.slice r1 m1 t1) l0 l1 (.slice r2 m2 t2) (.slice r3 N9 t3)) 33)) := (Below.refl _ _).alloc (Nat.le_refl _) _
    have inb : ∀ k, InT (.slice (some ⟨sb, 0, none⟩) m0 t0) (.slice r1 m1 t1) (.slice r2 m2 t2) (.slice r3 N9 t3) k → u1.heap.size ≤ k ∧ k < u3.heap.size := fun k hk => HQ3.out.ge k hk
    have ok1 : Ok6 u1.heap.size u3.heap.size (u3.setCell ⟨sb, ci, none⟩ (.int .i64 4)) (.slice (some ⟨sb, 0, none⟩) m0 t0) (.slice r1 m1 t1) (.slice r2 m2 t2) (.slice r3 N9 t3) (z0.set (ci : Int).toNat 4) z1 n0 (n1 ++ [((4 : Int), (ci : Int))]) := by
      rw [Int.toNat_natCast]
      refine ⟨Ow.setAt HNN.out HQ3.out.o0 ci 4, ownsRow_fr HQ3.out.o1 fr1 (fun k e h => HQ3.out.a01 sb rfl (h ▸ e)), ownsRow_fr HQ3.out.o2 fr1 (fun k e h => HQ3.out.ax sb (.inl rfl) (.inl (h ▸ e))), ownsRow_fr HQ3.out.o3 fr1 (fun k e h => HQ3.out.ax sb (.inl rfl) (.inr (h ▸ e))), HQ3.out.lt, HQ3.out.a01, HQ3.out.a23, HQ3.out.ax⟩
    have ok2 := (ok1.fr fr2 (fun k hk e => by have := inb k hk; omega)).below ha
    have kk := put6 ((KR3.out.fr fr1 (fun e => by omega))) (.slice (some ⟨sb, 0, none⟩) m0 t0) (.slice r1 m1 t1) l0 l1 (.slice r2 m2 t2) (.slice r3 N9 t3)
    have b1 := HB4.out.trans (fr1.below (by omega) (fun j e => by omega))
    have b2 := b1.trans (fr2.below (by have := fr1.size; omega) (fun j e => by omega))
    exact ⟨kk.below ha kk.lt, _, _, _, _, rfl, ok2.mono (by omega) (Nat.le_trans (Nat.le_trans fr1.size fr2.size) ha.size), belowCall b2 ha b2.size⟩
  have y0 := KR3.out.cell 0
  have yf0 := KR3.out.frozen 0
  have y1 := KR3.out.cell 1
  have yf1 := KR3.out.frozen 1
  have y2 := KR3.out.cell 2
  have yf2 := KR3.out.frozen 2
  have y3 := KR3.out.cell 3
  have yf3 := KR3.out.frozen 3
  have y4 := KR3.out.cell 4
  have yf4 := KR3.out.frozen 4
  have y5 := KR3.out.cell 5
  have yf5 := KR3.out.frozen 5
  have yl := KR3.out.lt
  simp at y0 y1 y2 y3 y4 y5
  have hne1 : sb ≠ w.heap.size + 1 := by have := HLL.out; omega
  have hne2 : w.heap.size + 1 ≠ sb := by have := HLL.out; omega
  clear hfull hroom oq bq hfq
  go_wp2
  exact bodyPost_ret (v := .tuple #[.agg (T6 (.slice (some ⟨sb, 0, none⟩) m0 t0) (.slice r1 m1 t1) l0 l1 (.slice r2 m2 t2) (.slice r3 N9 t3)), .bool true]) (results_T rfl _ _ _ _ _ _ _ _ _ _ rfl rfl (HF.out _ rfl).1) rfl ⟨fun _ => (HF.out _ rfl).2, fun h => absurd HOK.out h⟩

def LvOk1 (c : Int) (z0 z1 : List Int) (l0 l1 : Int) (n0 n1 : Mvs) : Prop := TOk z0 z1 l0 l1 n0 n1 ∧ (0 ≤ c ∧ c < z0.length) ∧ z1.getD c.toNat 0 = 2 ∧ n0.length < 60
def LvR1 (c : Int) (z0 z1 : List Int) (l0 l1 : Int) (n0 n1 : Mvs) (w : World) (e : Ending) (w' : World) : Prop :=
  (LvOk1 c z0 z1 l0 l1 n0 n1 → TwS l0 l1 z0 (z1.set c.toNat 4) (n0 ++ [(4, c)]) n1 (.bool true) w e w') ∧ (¬ LvOk1 c z0 z1 l0 l1 n0 n1 → TwS l0 l1 z0 z1 n0 n1 (.bool false) w e w')

set_option maxHeartbeats 12800000 in
theorem leaveM1_c (c0 c1 w0 w1 : Value) (l0 l1 : Int) (z0 z1 : List Int) (n0 n1 : Mvs) (c : Int) (w : World) (h : Rk w c0 c1 w0 w1 z0 z1 n0 n1) (hl : (z0.length : Int) + z1.length + (n0.length + n1.length) ≤ 1048576) :
    Calls Try.prog 17 #[.agg (T6 c0 c1 l0 l1 w0 w1), .int .i64 1, .int .i64 c] w (LvR1 c z0 z1 l0 l1 n0 n1 w) := by
  obtain ⟨W0, hW0⟩ : ∃ W0, (w.alloc (Obj.cells (T6 c0 c1 l0 l1 w0 w1) 33)).alloc (Obj.cells (T6 (.slice none 0 0) (.slice none 0 0) 0 0 (.slice none 0 0) (.slice none 0 0)) 33) = W0 := ⟨_, rfl⟩
  have HS : Hid (W0.heap.size = w.heap.size + 2) := by rw [← hW0]; simp [Hid]
  have HB0 : Hid (Below w.heap.size w W0) := by rw [← hW0]; exact ((Below.refl _ _).alloc (Nat.le_refl _) _).alloc (by simp) _
  have KP0 : Hid (Blk W0 w.heap.size (T6 c0 c1 l0 l1 w0 w1) 33) := by rw [← hW0]; exact (Blk.new _ _ _).alloc _
  have KR0 : Hid (Blk W0 (w.heap.size + 1) (T6 (.slice none 0 0) (.slice none 0 0) 0 0 (.slice none 0 0) (.slice none 0 0)) 33) := by rw [← hW0]; exact Blk.newAt _ (w.heap.size + 1) _ 33 (by simp)
  have HR : Hid (Rk w c0 c1 w0 w1 z0 z1 n0 n1) := h
  have HL : Hid ((z0.length : Int) + z1.length + (n0.length + n1.length) ≤ 1048576) := hl
  obtain ⟨a0, p0, hv0, -⟩ := h.r0
  obtain ⟨a1, p1, hv1, -⟩ := h.r1
  obtain ⟨a2, p2, hv2, -⟩ := h.r2
  obtain ⟨a3, p3, hv3, -⟩ := h.r3
  obtain ⟨m0, hm0⟩ : ∃ m, z0.length = m := ⟨_, rfl⟩
  obtain ⟨m1, hm1⟩ : ∃ m, z1.length = m := ⟨_, rfl⟩
  obtain ⟨m2, hm2⟩ : ∃ m, n0.length = m := ⟨_, rfl⟩
  obtain ⟨m3, hm3⟩ : ∃ m, n1.length = m := ⟨_, rfl⟩
  have HM : Hid (z0.length = m0 ∧ z1.length = m1 ∧ n0.length = m2 ∧ n1.length = m3) := ⟨hm0, hm1, hm2, hm3⟩
  rw [hm0] at hv0
  rw [hm1] at hv1
  rw [hm2] at hv2
  rw [hm3] at hv3
  subst hv0 hv1 hv2 hv3
  clear h hm0 hm1 hm2 hm3 hl
  have x0 := KP0.out.cell 0
  have xf0 := KP0.out.frozen 0
  have x1 := KP0.out.cell 1
  have xf1 := KP0.out.frozen 1
  have x2 := KP0.out.cell 2
  have xf2 := KP0.out.frozen 2
  have x3 := KP0.out.cell 3
  have xf3 := KP0.out.frozen 3
  have x4 := KP0.out.cell 4
  have xf4 := KP0.out.frozen 4
  have x5 := KP0.out.cell 5
  have xf5 := KP0.out.frozen 5
  have xl := KP0.out.lt
  simp at x0 x1 x2 x3 x4 x5
  go_enter Try.func17, Try.ntmps17
  go_wp2_with (fail)
  clear hW0
  refine (copyM_c _ _ _ _ l0 l1 z0 z1 n0 n1 W0 (HR.out.below HB0.out) HL.out).mono ?_
  rintro e u0 ⟨v0, v1, v2, v3, rfl, oo, bb⟩
  obtain ⟨e0, f0, hf0, -⟩ := own_form oo.o0
  obtain ⟨e1, f1, hf1, -⟩ := own_form oo.o1
  obtain ⟨e2, f2, hf2, -⟩ := own_form oo.o2
  obtain ⟨e3, f3, hf3, -⟩ := own_form oo.o3
  rw [HM.out.1] at hf0
  rw [HM.out.2.1] at hf1
  rw [HM.out.2.2.1] at hf2
  rw [HM.out.2.2.2] at hf3
  subst hf0 hf1 hf2 hf3
  have hs0 := HS.out
  have kp := KP0.out.below bb KP0.out.lt
  have kr := KR0.out.below bb KR0.out.lt
  have hfr := fr_put6 u0 w.heap.size (.slice e0 m0 f0) (.slice e1 m1 f1) l0 l1 (.slice e2 m2 f2) (.slice e3 m3 f3)
  have szb : W0.heap.size ≤ u0.heap.size := bb.size
  have KP : Hid (Blk (st6 u0 w.heap.size (.slice e0 m0 f0) (.slice e1 m1 f1) l0 l1 (.slice e2 m2 f2) (.slice e3 m3 f3)) w.heap.size (T6 (.slice e0 m0 f0) (.slice e1 m1 f1) l0 l1 (.slice e2 m2 f2) (.slice e3 m3 f3)) 33) := put6 kp _ _ _ _ _ _
  have KR : Hid (Blk (st6 u0 w.heap.size (.slice e0 m0 f0) (.slice e1 m1 f1) l0 l1 (.slice e2 m2 f2) (.slice e3 m3 f3)) (w.heap.size + 1) (T6 (.slice none 0 0) (.slice none 0 0) 0 0 (.slice none 0 0) (.slice none 0 0)) 33) := kr.fr hfr (fun e => by omega)
  have HO : Hid (Ok6 W0.heap.size u0.heap.size (st6 u0 w.heap.size (.slice e0 m0 f0) (.slice e1 m1 f1) l0 l1 (.slice e2 m2 f2) (.slice e3 m3 f3)) (.slice e0 m0 f0) (.slice e1 m1 f1) (.slice e2 m2 f2) (.slice e3 m3 f3) z0 z1 n0 n1) := oo.fr hfr (fun k hk e => by have := oo.ge k hk; omega)
  have bw := belowCall HB0.out bb HB0.out.size
  have HB1 : Hid (Below w.heap.size w (st6 u0 w.heap.size (.slice e0 m0 f0) (.slice e1 m1 f1) l0 l1 (.slice e2 m2 f2) (.slice e3 m3 f3))) := bw.trans (hfr.below (by omega) (fun j e => by omega))
  have HU : Hid (u0.heap.size ≤ (st6 u0 w.heap.size (.slice e0 m0 f0) (.slice e1 m1 f1) l0 l1 (.slice e2 m2 f2) (.slice e3 m3 f3)).heap.size ∧ w.heap.size + 2 ≤ u0.heap.size) := ⟨hfr.size, by omega⟩
  clear x0 xf0 x1 xf1 x2 xf2 x3 xf3 x4 xf4 x5 xf5 xl
  have x0 := kp.cell 0
  have xf0 := kp.frozen 0
  have x1 := kp.cell 1
  have xf1 := kp.frozen 1
  have x2 := kp.cell 2
  have xf2 := kp.frozen 2
  have x3 := kp.cell 3
  have xf3 := kp.frozen 3
  have x4 := kp.cell 4
  have xf4 := kp.frozen 4
  have x5 := kp.cell 5
  have xf5 := kp.frozen 5
  have xl := kp.lt
  simp at x0 x1 x2 x3 x4 x5
  obtain ⟨W1, hW1⟩ : ∃ W, st6 u0 w.heap.size (.slice e0 m0 f0) (.slice e1 m1 f1) l0 l1 (.slice e2 m2 f2) (.slice e3 m3 f3) = W := ⟨_, rfl⟩
  rw [hW1] at KP KR HO HB1 HU
  unfold st6 at hW1
  clear oo bb kp kr hfr szb bw KP0 KR0 HB0 hs0
  have y0 := KP.out.cell 0
  have yf0 := KP.out.frozen 0
  have y1 := KP.out.cell 1
  have yf1 := KP.out.frozen 1
  have y2 := KP.out.cell 2
  have yf2 := KP.out.frozen 2
  have y3 := KP.out.cell 3
  have yf3 := KP.out.frozen 3
  have y4 := KP.out.cell 4
  have yf4 := KP.out.frozen 4
  have y5 := KP.out.cell 5
  have yf5 := KP.out.frozen 5
  have yl := KP.out.lt
  simp at y0 y1 y2 y3 y4 y5
  go_wp2_with (fail)
  clear hW1 x0 xf0 x1 xf1 x2 xf2 x3 xf3 x4 xf4 x5 xf5 xl
  refine (okM_c _ _ _ _ l0 l1 z0 z1 n0 n1 W1 HO.out.rd).mono ?_
  rintro e u1 ⟨r, rfl, hr, b1⟩
  have KP1 : Hid (Blk u1 w.heap.size (T6 (.slice e0 m0 f0) (.slice e1 m1 f1) l0 l1 (.slice e2 m2 f2) (.slice e3 m3 f3)) 33) := KP.out.below b1 KP.out.lt
  have KR1 : Hid (Blk u1 (w.heap.size + 1) (T6 (.slice none 0 0) (.slice none 0 0) 0 0 (.slice none 0 0) (.slice none 0 0)) 33) := KR.out.below b1 KR.out.lt
  have HO1 : Hid (Ok6 W0.heap.size u0.heap.size u1 (.slice e0 m0 f0) (.slice e1 m1 f1) (.slice e2 m2 f2) (.slice e3 m3 f3) z0 z1 n0 n1) := HO.out.below b1
  have HB2 : Hid (Below w.heap.size w u1) := belowCall HB1.out b1 HB1.out.size
  have HU1 : Hid (u0.heap.size ≤ u1.heap.size ∧ w.heap.size + 2 ≤ u0.heap.size) := ⟨Nat.le_trans HU.out.1 b1.size, HU.out.2⟩
  have HF : Hid (∀ W, (((((u1.setCell ⟨w.heap.size + 1, 0, none⟩ (.slice e0 m0 f0)).setCell ⟨w.heap.size + 1, 1, none⟩ (.slice e1 m1 f1)).setCell ⟨w.heap.size + 1, 2, none⟩ (.int .i64 l0)).setCell ⟨w.heap.size + 1, 3, none⟩ (.int .i64 l1)).setCell ⟨w.heap.size + 1, 4, none⟩ (.slice e2 m2 f2)).setCell ⟨w.heap.size + 1, 5, none⟩ (.slice e3 m3 f3) = W → Blk W (w.heap.size + 1) (T6 (.slice e0 m0 f0) (.slice e1 m1 f1) l0 l1 (.slice e2 m2 f2) (.slice e3 m3 f3)) 33 ∧ TwS l0 l1 z0 z1 n0 n1 (.bool false) w (.returned (.tuple #[.agg (T6 (.slice e0 m0 f0) (.slice e1 m1 f1) l0 l1 (.slice e2 m2 f2) (.slice e3 m3 f3)), .bool false])) W) := by
    rintro _ rfl
    have hfr := fr_put6 u1 (w.heap.size + 1) (.slice e0 m0 f0) (.slice e1 m1 f1) l0 l1 (.slice e2 m2 f2) (.slice e3 m3 f3)
    have hs0 := HS.out
    have hu := HU1.out
    have hz := hfr.size
    exact ⟨put6 KR1.out _ _ _ _ _ _, _, _, _, _, rfl, (HO1.out.fr hfr (fun k hk e => by have := HO1.out.ge k hk; omega)).mono (by omega) (Nat.le_trans hu.1 hfr.size), HB2.out.trans (hfr.below (by omega) (fun j e => by omega))⟩
  clear y0 yf0 y1 yf1 y2 yf2 y3 yf3 y4 yf4 y5 yf5 yl b1 KP KR HO HB1 HU
  have x0 := KP1.out.cell 0
  have xf0 := KP1.out.frozen 0
  have x1 := KP1.out.cell 1
  have xf1 := KP1.out.frozen 1
  have x2 := KP1.out.cell 2
  have xf2 := KP1.out.frozen 2
  have x3 := KP1.out.cell 3
  have xf3 := KP1.out.frozen 3
  have x4 := KP1.out.cell 4
  have xf4 := KP1.out.frozen 4
  have x5 := KP1.out.cell 5
  have xf5 := KP1.out.frozen 5
  have xl := KP1.out.lt
  simp at x0 x1 x2 x3 x4 x5
  have y0 := KR1.out.cell 0
  have yf0 := KR1.out.frozen 0
  have y1 := KR1.out.cell 1
  have yf1 := KR1.out.frozen 1
  have y2 := KR1.out.cell 2
  have yf2 := KR1.out.frozen 2
  have y3 := KR1.out.cell 3
  have yf3 := KR1.out.frozen 3
  have y4 := KR1.out.cell 4
  have yf4 := KR1.out.frozen 4
  have y5 := KR1.out.cell 5
  have yf5 := KR1.out.frozen 5
  have yl := KR1.out.lt
  simp at y0 y1 y2 y3 y4 y5
  by_cases g : TOk z0 z1 l0 l1 n0 n1
  case neg =>
    obtain rfl : r = false := by cases r; rfl; exact absurd (hr.1 rfl) g
    have HNO : Hid (¬ LvOk1 c z0 z1 l0 l1 n0 n1) := fun h => g h.1
    clear hr g
    go_wp2
    exact bodyPost_ret (v := .tuple #[.agg (T6 (.slice e0 m0 f0) (.slice e1 m1 f1) l0 l1 (.slice e2 m2 f2) (.slice e3 m3 f3)), .bool false]) (results_T rfl _ _ _ _ _ _ _ _ _ _ rfl rfl (HF.out _ rfl).1) rfl ⟨fun h => absurd h HNO.out, fun _ => (HF.out _ rfl).2⟩
  obtain rfl : r = true := hr.2 g
  have G : Hid (TOk z0 z1 l0 l1 n0 n1) := g
  have hm24 : 1 ≤ m0 ∧ m0 ≤ 24 := by have := g.1; have := HM.out; omega
  obtain ⟨hm1', hm24⟩ := hm24
  have HE : Hid (m1 = m0) := by have := g.2.1; have := HM.out; show _ = _; omega
  have hk60 : m2 ≤ 60 := by have := g.2.2.1.2.2.1; have := HM.out; omega
  have hk61 : m3 ≤ 60 := by have := g.2.2.2.2.2.1; have := HM.out; omega
  clear hr g
  go_wp2_with (fail)
  refine (in_c 1 0 1 u1).mono ?_
  rintro e wq ⟨rfl, hwq⟩
  rw [hwq, show decide ((0 : Int) ≤ 1 ∧ (1 : Int) ≤ 1) = true from by decide]
  clear hwq wq
  go_wp2_with (fail)
  refine (in_c c 0 ((m0 : Int) - 1) u1).mono ?_
  rintro e wq ⟨rfl, hwq⟩
  rw [hwq]
  clear hwq wq
  by_cases gc : 0 ≤ c ∧ c ≤ (m0 : Int) - 1
  case neg =>
    rw [decide_eq_false gc]
    have HNO : Hid (¬ LvOk1 c z0 z1 l0 l1 n0 n1) := fun h => gc (by have := h.2.1; have := HM.out.1; omega)
    clear gc
    go_wp2
    exact bodyPost_ret (v := .tuple #[.agg (T6 (.slice e0 m0 f0) (.slice e1 m1 f1) l0 l1 (.slice e2 m2 f2) (.slice e3 m3 f3)), .bool false]) (results_T rfl _ _ _ _ _ _ _ _ _ _ rfl rfl (HF.out _ rfl).1) rfl ⟨fun h => absurd h HNO.out, fun _ => (HF.out _ rfl).2⟩
  rw [decide_eq_true gc]
  obtain ⟨ci, rfl⟩ : ∃ ci : Nat, c = (ci : Int) := ⟨c.toNat, by omega⟩
  have hci : ci < m0 := by omega
  have hciI : (ci : Int) < (m0 : Int) := by omega
  have hciJ : (ci : Int) < (m1 : Int) := by have := HE.out; omega
  clear gc
  obtain ⟨rb, rcap, hrv, hrb1, hrb2⟩ := HO1.out.o1.row (by have := HM.out; have := HE.out; omega)
  rw [HM.out.2.1] at hrv
  simp only [Value.slice.injEq] at hrv
  obtain ⟨hre, -, hrf⟩ := hrv
  subst hre hrf
  obtain ⟨xz, hxz⟩ : ∃ q, z1.getD ci 0 = q := ⟨_, rfl⟩
  have hcell : u1.cell? ⟨rb, ci, none⟩ = some (.int .i64 xz) := by
    obtain ⟨a', cap', hv', -, -, d⟩ := HO1.out.o1.rd
    simp only [Value.slice.injEq] at hv'
    rcases d with d | ⟨b', off', ha, h4⟩
    · have := HM.out.2.1; rw [d] at this; simp at this; have := HE.out; omega
    · rw [← hv'.1] at ha
      cases ha
      have := h4 ci (by have := HM.out; have := HE.out; omega)
      rw [Nat.zero_add, hxz] at this; exact this
  have HXZ : Hid (z1.getD ci 0 = xz) := hxz
  clear hxz
  by_cases gx : xz = 2
  case neg =>
    have gxb : (xz != 2) = true := by simpa using gx
    have HNO : Hid (¬ LvOk1 (ci : Int) z0 z1 l0 l1 n0 n1) := fun h => gx (by have := h.2.2.1; rw [Int.toNat_natCast, HXZ.out] at this; exact this)
    clear gx
    go_wp2
    exact bodyPost_ret (v := .tuple #[.agg (T6 (.slice e0 m0 f0) (.slice (some ⟨rb, 0, none⟩) m1 f1) l0 l1 (.slice e2 m2 f2) (.slice e3 m3 f3)), .bool false]) (results_T rfl _ _ _ _ _ _ _ _ _ _ rfl rfl (HF.out _ rfl).1) rfl ⟨fun h => absurd h HNO.out, fun _ => (HF.out _ rfl).2⟩
  subst gx
  go_wp2_with (fail)
  refine (copyM_c _ _ _ _ l0 l1 z0 z1 n0 n1 u1 HO1.out.rd HL.out).mono ?_
  rintro e u2 ⟨v0, v1, v2, v3, rfl, oo, bb⟩
  obtain ⟨g0, h0, hf0, -⟩ := own_form oo.o0
  obtain ⟨g1, h1, hf1, -⟩ := own_form oo.o1
  obtain ⟨g2, h2, hf2, -⟩ := own_form oo.o2
  obtain ⟨g3, h3, hf3, -⟩ := own_form oo.o3
  rw [HM.out.1] at hf0
  rw [HM.out.2.1] at hf1
  rw [HM.out.2.2.1] at hf2
  rw [HM.out.2.2.2] at hf3
  subst hf0 hf1 hf2 hf3
  have KP2 : Hid (Blk u2 w.heap.size (T6 (.slice e0 m0 f0) (.slice (some ⟨rb, 0, none⟩) m1 f1) l0 l1 (.slice e2 m2 f2) (.slice e3 m3 f3)) 33) := KP1.out.below bb KP1.out.lt
  have KR2 : Hid (Blk u2 (w.heap.size + 1) (T6 (.slice none 0 0) (.slice none 0 0) 0 0 (.slice none 0 0) (.slice none 0 0)) 33) := KR1.out.below bb KR1.out.lt
  have HO2 : Hid (Ok6 W0.heap.size u0.heap.size u2 (.slice e0 m0 f0) (.slice (some ⟨rb, 0, none⟩) m1 f1) (.slice e2 m2 f2) (.slice e3 m3 f3) z0 z1 n0 n1) := HO1.out.below bb
  have HB3 : Hid (Below w.heap.size w u2) := belowCall HB2.out bb HB2.out.size
  have HQ : Hid (Ok6 u1.heap.size u2.heap.size u2 (.slice g0 m0 h0) (.slice g1 m1 h1) (.slice g2 m2 h2) (.slice g3 m3 h3) z0 z1 n0 n1) := oo
  have HZ2 : Hid (u1.heap.size ≤ u2.heap.size) := bb.size
  clear oo bb x0 xf0 x1 xf1 x2 xf2 x3 xf3 x4 xf4 x5 xf5 xl y0 yf0 y1 yf1 y2 yf2 y3 yf3 y4 yf4 y5 yf5 yl hcell HF
  go_wp2_with (fail)
  refine (put0_c u1.heap.size _ _ _ _ l0 l1 z0 z1 n0 n1 4 (ci : Int) u2 HQ.out HZ2.out (by have := HM.out; omega)).mono ?_
  rintro e u3 ⟨hfull, hroom⟩
  by_cases h60 : n0.length < 60
  case neg =>
    obtain ⟨q0, q1, q2, q3, rfl, oq, bq⟩ := hfull (by have := HM.out; omega)
    obtain ⟨r0, t0, hf0, -⟩ := own_form oq.o0
    obtain ⟨r1, t1, hf1, -⟩ := own_form oq.o1
    obtain ⟨r2, t2, hf2, -⟩ := own_form oq.o2
    obtain ⟨r3, t3, hf3, -⟩ := own_form oq.o3
    rw [HM.out.1] at hf0
    rw [HM.out.2.1] at hf1
    rw [HM.out.2.2.1] at hf2
    rw [HM.out.2.2.2] at hf3
    subst hf0 hf1 hf2 hf3
    have HZ3 : Hid (u2.heap.size ≤ u3.heap.size) := bq.size
    have hfq : Fr (fun k => u1.heap.size ≤ k ∧ k < u2.heap.size) u2 u3 := ⟨bq.os, bq.tape, bq.output, bq.size, fun k hk hn => bq.block k (by omega)⟩
    have KP3 : Hid (Blk u3 w.heap.size (T6 (.slice e0 m0 f0) (.slice (some ⟨rb, 0, none⟩) m1 f1) l0 l1 (.slice e2 m2 f2) (.slice e3 m3 f3)) 33) := KP2.out.fr hfq (fun e => by have := KP1.out.lt; omega)
    have KR3 : Hid (Blk u3 (w.heap.size + 1) (T6 (.slice none 0 0) (.slice none 0 0) 0 0 (.slice none 0 0) (.slice none 0 0)) 33) := KR2.out.fr hfq (fun e => by have := KR1.out.lt; omega)
    have HO3 : Hid (Ok6 W0.heap.size u0.heap.size u3 (.slice e0 m0 f0) (.slice (some ⟨rb, 0, none⟩) m1 f1) (.slice e2 m2 f2) (.slice e3 m3 f3) z0 z1 n0 n1) := HO2.out.fr hfq (fun k hk e => by have := HO2.out.ge k hk; have := HU1.out; omega)
    have HB4 : Hid (Below w.heap.size w u3) := HB3.out.trans (bq.mono (by have := HB2.out.size; omega))
    have HNO : Hid (¬ LvOk1 (ci : Int) z0 z1 l0 l1 n0 n1) := fun h => h60 h.2.2.2
    have x0 := KP3.out.cell 0
    have xf0 := KP3.out.frozen 0
    have x1 := KP3.out.cell 1
    have xf1 := KP3.out.frozen 1
    have x2 := KP3.out.cell 2
    have xf2 := KP3.out.frozen 2
    have x3 := KP3.out.cell 3
    have xf3 := KP3.out.frozen 3
    have x4 := KP3.out.cell 4
    have xf4 := KP3.out.frozen 4
    have x5 := KP3.out.cell 5
    have xf5 := KP3.out.frozen 5
    have xl := KP3.out.lt
    simp at x0 x1 x2 x3 x4 x5
    have y0 := KR3.out.cell 0
    have yf0 := KR3.out.frozen 0
    have y1 := KR3.out.cell 1
    have yf1 := KR3.out.frozen 1
    have y2 := KR3.out.cell 2
    have yf2 := KR3.out.frozen 2
    have y3 := KR3.out.cell 3
    have yf3 := KR3.out.frozen 3
    have y4 := KR3.out.cell 4
    have yf4 := KR3.out.frozen 4
    have y5 := KR3.out.cell 5
    have yf5 := KR3.out.frozen 5
    have yl := KR3.out.lt
    simp at y0 y1 y2 y3 y4 y5
    clear hfull hroom oq bq hfq
    have HF : Hid (∀ W, ((((((u3.setCell ⟨w.heap.size + 1, 0, none⟩ (.slice e0 m0 f0)).setCell ⟨w.heap.size + 1, 1, none⟩ (.slice (some ⟨rb, 0, none⟩) m1 f1)).setCell ⟨w.heap.size + 1, 2, none⟩ (.int .i64 l0)).setCell ⟨w.heap.size + 1, 3, none⟩ (.int .i64 l1)).setCell ⟨w.heap.size + 1, 4, none⟩ (.slice e2 m2 f2)).setCell ⟨w.heap.size + 1, 5, none⟩ (.slice e3 m3 f3)).alloc (Obj.cells (T6 (.slice r0 m0 t0) (.slice r1 m1 t1) l0 l1 (.slice r2 m2 t2) (.slice r3 m3 t3)) 33) = W → Blk W (w.heap.size + 1) (T6 (.slice e0 m0 f0) (.slice (some ⟨rb, 0, none⟩) m1 f1) l0 l1 (.slice e2 m2 f2) (.slice e3 m3 f3)) 33 ∧ TwS l0 l1 z0 z1 n0 n1 (.bool false) w (.returned (.tuple #[.agg (T6 (.slice e0 m0 f0) (.slice (some ⟨rb, 0, none⟩) m1 f1) l0 l1 (.slice e2 m2 f2) (.slice e3 m3 f3)), .bool false])) W) := by
      rintro _ rfl
      have hfr := fr_put6 u3 (w.heap.size + 1) (.slice e0 m0 f0) (.slice (some ⟨rb, 0, none⟩) m1 f1) l0 l1 (.slice e2 m2 f2) (.slice e3 m3 f3)
      have ha : Below (st6 u3 (w.heap.size + 1) (.slice e0 m0 f0) (.slice (some ⟨rb, 0, none⟩) m1 f1) l0 l1 (.slice e2 m2 f2) (.slice e3 m3 f3)).heap.size (st6 u3 (w.heap.size + 1) (.slice e0 m0 f0) (.slice (some ⟨rb, 0, none⟩) m1 f1) l0 l1 (.slice e2 m2 f2) (.slice e3 m3 f3)) ((st6 u3 (w.heap.size + 1) (.slice e0 m0 f0) (.slice (some ⟨rb, 0, none⟩) m1 f1) l0 l1 (.slice e2 m2 f2) (.slice e3 m3 f3)).alloc (Obj.cells (T6 (.slice r0 m0 t0) (.slice r1 m1 t1) l0 l1 (.slice r2 m2 t2) (.slice r3 m3 t3)) 33)) := (Below.refl _ _).alloc (Nat.le_refl _) _
      have hs0 := HS.out
      have hu := HU1.out
      have kk := put6 KR3.out (.slice e0 m0 f0) (.slice (some ⟨rb, 0, none⟩) m1 f1) l0 l1 (.slice e2 m2 f2) (.slice e3 m3 f3)
      have o4 := (HO3.out.fr hfr (fun k hk e => by have := HO3.out.ge k hk; omega)).below ha
      have bz := HB4.out.trans (hfr.below (by have := HB4.out.size; omega) (fun j e => by omega))
      exact ⟨kk.below ha kk.lt, _, _, _, _, rfl, o4.mono (by omega) (Nat.le_trans (Nat.le_trans (Nat.le_trans hu.1 (Nat.le_trans HZ2.out HZ3.out)) hfr.size) ha.size), belowCall bz ha bz.size⟩
    go_wp2
    exact bodyPost_ret (v := .tuple #[.agg (T6 (.slice e0 m0 f0) (.slice (some ⟨rb, 0, none⟩) m1 f1) l0 l1 (.slice e2 m2 f2) (.slice e3 m3 f3)), .bool false]) (results_T rfl _ _ _ _ _ _ _ _ _ _ rfl rfl (HF.out _ rfl).1) rfl ⟨fun h => absurd h HNO.out, fun _ => (HF.out _ rfl).2⟩
  obtain ⟨q0, q1, q2, q3, rfl, oq, bq⟩ := hroom h60
  obtain ⟨r0, t0, hf0, -⟩ := own_form oq.o0
  obtain ⟨r1, t1, hf1, -⟩ := own_form oq.o1
  obtain ⟨r2, t2, hf2, -⟩ := own_form oq.o2
  obtain ⟨r3, t3, hf3, -⟩ := own_form oq.o3
  obtain ⟨N9, hN9⟩ : ∃ n, (n0 ++ [((4 : Int), (ci : Int))]).length = n := ⟨_, rfl⟩
  rw [HM.out.1] at hf0
  rw [HM.out.2.1] at hf1
  rw [hN9] at hf2
  rw [HM.out.2.2.2] at hf3
  subst hf0 hf1 hf2 hf3
  obtain ⟨sb, scap, hsv, hsb1, hsb2⟩ := oq.o1.row (by have := HM.out; have := HE.out; omega)
  rw [HM.out.2.1] at hsv
  simp only [Value.slice.injEq] at hsv
  obtain ⟨hse, -, hsf⟩ := hsv
  subst hse hsf
  have hfq : Fr (fun k => u1.heap.size ≤ k ∧ k < u2.heap.size) u2 u3 := ⟨bq.os, bq.tape, bq.output, bq.size, fun k hk hn => bq.block k (by omega)⟩
  have KR3 : Hid (Blk u3 (w.heap.size + 1) (T6 (.slice none 0 0) (.slice none 0 0) 0 0 (.slice none 0 0) (.slice none 0 0)) 33) := KR2.out.fr hfq (fun e => by have := KR1.out.lt; omega)
  have HB4 : Hid (Below w.heap.size w u3) := HB3.out.trans (bq.mono (by have := HB2.out.size; omega))
  have HOK : Hid (LvOk1 (ci : Int) z0 z1 l0 l1 n0 n1) := ⟨G.out, ⟨by omega, by have := HM.out.1; omega⟩, by rw [Int.toNat_natCast]; exact HXZ.out, h60⟩
  have hold := (Ow.cellFz HM.out.2.1 oq.o1 ci (by have := HE.out; omega)).1
  have holdf := (Ow.cellFz HM.out.2.1 oq.o1 ci (by have := HE.out; omega)).2
  have HQ3 : Hid (Ok6 u1.heap.size u3.heap.size u3 (.slice r0 m0 t0) (.slice (some ⟨sb, 0, none⟩) m1 t1) (.slice r2 N9 t2) (.slice r3 m3 t3) z0 z1 (n0 ++ [((4 : Int), (ci : Int))]) n1) := oq
  have HLL : Hid (w.heap.size + 2 ≤ u1.heap.size ∧ u1.heap.size ≤ u3.heap.size) := ⟨by have := HU1.out; omega, Nat.le_trans HZ2.out bq.size⟩
  have HSB : Hid (u1.heap.size ≤ sb ∧ sb < u3.heap.size) := ⟨hsb1, hsb2⟩
  have HNN : Hid (z1.length = m1) := HM.out.2.1
  have HF : Hid (∀ W, (((((((u3.setCell ⟨sb, ci, none⟩ (.int .i64 4)).setCell ⟨w.heap.size + 1, 0, none⟩ (.slice r0 m0 t0)).setCell ⟨w.heap.size + 1, 1, none⟩ (.slice (some ⟨sb, 0, none⟩) m1 t1)).setCell ⟨w.heap.size + 1, 2, none⟩ (.int .i64 l0)).setCell ⟨w.heap.size + 1, 3, none⟩ (.int .i64 l1)).setCell ⟨w.heap.size + 1, 4, none⟩ (.slice r2 N9 t2)).setCell ⟨w.heap.size + 1, 5, none⟩ (.slice r3 m3 t3)).alloc (Obj.cells (T6 (.slice r0 m0 t0) (.slice (some ⟨sb, 0, none⟩) m1 t1) l0 l1 (.slice r2 N9 t2) (.slice r3 m3 t3)) 33) = W → Blk W (w.heap.size + 1) (T6 (.slice r0 m0 t0) (.slice (some ⟨sb, 0, none⟩) m1 t1) l0 l1 (.slice r2 N9 t2) (.slice r3 m3 t3)) 33 ∧ TwS l0 l1 z0 (z1.set (ci : Int).toNat 4) (n0 ++ [((4 : Int), (ci : Int))]) n1 (.bool true) w (.returned (.tuple #[.agg (T6 (.slice r0 m0 t0) (.slice (some ⟨sb, 0, none⟩) m1 t1) l0 l1 (.slice r2 N9 t2) (.slice r3 m3 t3)), .bool true])) W) := by
    rintro _ rfl
    have hll := HLL.out
    have hsb := HSB.out
    have fr1 : Fr (fun j => j = sb) u3 (u3.setCell ⟨sb, ci, none⟩ (.int .i64 4)) := by
      refine (Fr.refl _ _).set ?_ _ _
      rfl
    have fr2 := fr_put6 (u3.setCell ⟨sb, ci, none⟩ (.int .i64 4)) (w.heap.size + 1) (.slice r0 m0 t0) (.slice (some ⟨sb, 0, none⟩) m1 t1) l0 l1 (.slice r2 N9 t2) (.slice r3 m3 t3)
    have ha : Below (st6 (u3.setCell ⟨sb, ci, none⟩ (.int .i64 4)) (w.heap.size + 1) (.slice r0 m0 t0) (.slice (some ⟨sb, 0, none⟩) m1 t1) l0 l1 (.slice r2 N9 t2) (.slice r3 m3 t3)).heap.size (st6 (u3.setCell ⟨sb, ci, none⟩ (.int .i64 4)) (w.heap.size + 1) (.slice r0 m0 t0) (.slice (some ⟨sb, 0, none⟩) m1 t1) l0 l1 (.slice r2 N9 t2) (.slice r3 m3 t3)) ((st6 (u3.setCell ⟨sb, ci, none⟩ (.int .i64 4)) (w.heap.size + 1) (.slice r0 m0 t0) (.slice (some ⟨sb, 0, none⟩) m1 t1) l0 l1 (.slice r2 N9 t2) (.slice r3 m3 t3)).alloc (Obj.cells (T6 (.slice r0 m0 t0) (.slice (some ⟨sb, 0, none⟩) m1 t1) l0 l1 (.slice r2 N9 t2) (.slice r3 m3 t3)) 33)) := (Below.refl _ _).alloc (Nat.le_refl _) _
    have inb : ∀ k, InT (.slice r0 m0 t0) (.slice (some ⟨sb, 0, none⟩) m1 t1) (.slice r2 N9 t2) (.slice r3 m3 t3) k → u1.heap.size ≤ k ∧ k < u3.heap.size := fun k hk => HQ3.out.ge k hk
    have ok1 : Ok6 u1.heap.size u3.heap.size (u3.setCell ⟨sb, ci, none⟩ (.int .i64 4)) (.slice r0 m0 t0) (.slice (some ⟨sb, 0, none⟩) m1 t1) (.slice r2 N9 t2) (.slice r3 m3 t3) z0 (z1.set (ci : Int).toNat 4) (n0 ++ [((4 : Int), (ci : Int))]) n1 := by
      rw [Int.toNat_natCast]
      refine ⟨ownsRow_fr HQ3.out.o0 fr1 (fun k e h => HQ3.out.a01 sb (h ▸ e) rfl), Ow.setAt HNN.out HQ3.out.o1 ci 4, ownsRow_fr HQ3.out.o2 fr1 (fun k e h => HQ3.out.ax sb (.inr rfl) (.inl (h ▸ e))), ownsRow_fr HQ3.out.o3 fr1 (fun k e h => HQ3.out.ax sb (.inr rfl) (.inr (h ▸ e))), HQ3.out.lt, HQ3.out.a01, HQ3.out.a23, HQ3.out.ax⟩
    have ok2 := (ok1.fr fr2 (fun k hk e => by have := inb k hk; omega)).below ha
    have kk := put6 ((KR3.out.fr fr1 (fun e => by omega))) (.slice r0 m0 t0) (.slice (some ⟨sb, 0, none⟩) m1 t1) l0 l1 (.slice r2 N9 t2) (.slice r3 m3 t3)
    have b1 := HB4.out.trans (fr1.below (by omega) (fun j e => by omega))
    have b2 := b1.trans (fr2.below (by have := fr1.size; omega) (fun j e => by omega))
    exact ⟨kk.below ha kk.lt, _, _, _, _, rfl, ok2.mono (by omega) (Nat.le_trans (Nat.le_trans fr1.size fr2.size) ha.size), belowCall b2 ha b2.size⟩
  have y0 := KR3.out.cell 0
  have yf0 := KR3.out.frozen 0
  have y1 := KR3.out.cell 1
  have yf1 := KR3.out.frozen 1
  have y2 := KR3.out.cell 2
  have yf2 := KR3.out.frozen 2
  have y3 := KR3.out.cell 3
  have yf3 := KR3.out.frozen 3
  have y4 := KR3.out.cell 4
  have yf4 := KR3.out.frozen 4
  have y5 := KR3.out.cell 5
  have yf5 := KR3.out.frozen 5
  have yl := KR3.out.lt
  simp at y0 y1 y2 y3 y4 y5
  have hne1 : sb ≠ w.heap.size + 1 := by have := HLL.out; omega
  have hne2 : w.heap.size + 1 ≠ sb := by have := HLL.out; omega
  clear hfull hroom oq bq hfq
  go_wp2
  exact bodyPost_ret (v := .tuple #[.agg (T6 (.slice r0 m0 t0) (.slice (some ⟨sb, 0, none⟩) m1 t1) l0 l1 (.slice r2 N9 t2) (.slice r3 m3 t3)), .bool true]) (results_T rfl _ _ _ _ _ _ _ _ _ _ rfl rfl (HF.out _ rfl).1) rfl ⟨fun _ => (HF.out _ rfl).2, fun h => absurd HOK.out h⟩
end Go.Proofs.Ytkehcalijamhjaa

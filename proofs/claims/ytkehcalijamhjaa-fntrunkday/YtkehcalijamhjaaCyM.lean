/- The model's Carry; no condition. -/
import Derived.Test.YtkehcalijamhjaaCyI
import Derived.Test.YtkehcalijamhjaaCyP
import Derived.Test.YtkehcalijamhjaaPtR
import Derived.Test.YtkehcalijamhjaaLvM
import Derived.Test.YtkehcalijamhjaaHea
namespace Go.Proofs.Ytkehcalijamhjaa
open Go.RowKit Go.ChangeShapes Go.WideShapes Go.ChangeAt
set_option linter.unusedVariables false
set_option linter.unusedSimpArgs false
set_option maxRecDepth 8000
theorem hearF_back (kd y : Int) (ow : Bool) : 0 ≤ (hearF kd y ow).2.1 := by
  unfold hearF
  repeat' split
  all_goals first | decide | simp
theorem cut_rp {b nb m cap : Nat} {u : World} {x : Int × Int} {ns : Mvs} (h : Op mf mg 68 b u (.slice (some ⟨nb, 0, none⟩) m cap) (x :: ns)) : Rp mf mg u (.slice (some ⟨nb, 2, none⟩) (m - 1) (cap - 1)) ns ∧ (cap = 1 → Rp mf mg u (.slice (some ⟨nb, 0, none⟩) (m - 1) 0) ns) := by
  obtain ⟨a, c, hv, h1, h2, h3⟩ := Op.rd h
  simp only [Value.slice.injEq, List.length_cons] at hv
  obtain ⟨rfl, hm, hc⟩ := hv
  subst hc
  rw [List.length_cons] at h1
  have e : m - 1 = ns.length := by omega
  rw [e]
  refine ⟨⟨_, _, rfl, by omega, by omega, ?_⟩, fun hc => ?_⟩
  · rcases h3 with h3 | ⟨b', off, ha, h4⟩
    · cases h3
    · cases ha
      refine .inr ⟨nb, 2, rfl, fun i hi => ?_⟩
      have := h4 (i + 1) (by rw [List.length_cons]; omega)
      rw [show 0 + (i + 1) * 2 = 2 + i * 2 from by omega] at this
      simpa using this
  · have e0 : ns.length = 0 := by omega
    exact ⟨_, _, by rw [e0], by omega, Nat.zero_le _, .inl (List.eq_nil_of_length_eq_zero e0)⟩
theorem Op.row {base : Nat} {w : World} {v : Value} {ls : Mvs} (h : Op mf mg 68 base w v ls) (hp : 0 < ls.length) : ∃ b cap, v = .slice (some ⟨b, 0, none⟩) ls.length cap ∧ base ≤ b ∧ b < w.heap.size ∧ ls.length ≤ cap := by
  rcases h.2 with ⟨-, h0⟩ | ⟨g, cap, cur, hv, hb, hg, hc, -⟩
  · omega
  · exact ⟨g, cap, hv, hb, (Array.getElem?_eq_some_iff.1 hg).1, hc⟩
def TwP (l0 l1 : Int) (z0 z1 : List Int) (n0 n1 : Mvs) (x : Value) (w : World) (e : Ending) (w' : World) : Prop := TwQ w.heap.size l0 l1 z0 z1 n0 n1 x w e w'
def CaP0 (z0 z1 : List Int) (l0 l1 : Int) (n0 n1 : Mvs) (w : World) (e : Ending) (w' : World) : Prop :=
  (CaOk0 z0 z1 l0 l1 n0 n1 → TwP (l0 + (hearF ((n0.headD (0, 0)).1) (z0.getD ((n0.headD (0, 0)).2.toNat) 0) ((((n0.headD (0, 0)).2.toNat) : Int) % 2 == 0)).2.2) l1 (z0.set ((n0.headD (0, 0)).2.toNat) (hearF ((n0.headD (0, 0)).1) (z0.getD ((n0.headD (0, 0)).2.toNat) 0) ((((n0.headD (0, 0)).2.toNat) : Int) % 2 == 0)).1) z1 n0.tail (n1 ++ bkN0 z0 ((n0.headD (0, 0)).1) ((n0.headD (0, 0)).2.toNat)) (.bool true) w e w') ∧ (¬ CaOk0 z0 z1 l0 l1 n0 n1 → TwP l0 l1 z0 z1 n0 n1 (.bool false) w e w')
def CaP1 (z0 z1 : List Int) (l0 l1 : Int) (n0 n1 : Mvs) (w : World) (e : Ending) (w' : World) : Prop :=
  (CaOk1 z0 z1 l0 l1 n0 n1 → TwP l0 (l1 + (hearF ((n1.headD (0, 0)).1) (z1.getD ((n1.headD (0, 0)).2.toNat) 0) ((((n1.headD (0, 0)).2.toNat) : Int) % 2 == 1)).2.2) z0 (z1.set ((n1.headD (0, 0)).2.toNat) (hearF ((n1.headD (0, 0)).1) (z1.getD ((n1.headD (0, 0)).2.toNat) 0) ((((n1.headD (0, 0)).2.toNat) : Int) % 2 == 1)).1) (n0 ++ bkN1 z1 ((n1.headD (0, 0)).1) ((n1.headD (0, 0)).2.toNat)) n1.tail (.bool true) w e w') ∧ (¬ CaOk1 z0 z1 l0 l1 n0 n1 → TwP l0 l1 z0 z1 n0 n1 (.bool false) w e w')
set_option maxHeartbeats 12800000 in
theorem carryM0_c (c0 c1 w0 w1 : Value) (l0 l1 : Int) (z0 z1 : List Int) (n0 n1 : Mvs) (w : World) (h : Rk w c0 c1 w0 w1 z0 z1 n0 n1) (hl : (z0.length : Int) + z1.length + (n0.length + n1.length) ≤ 1048576) :
    Calls Try.prog 19 #[.agg (T6 c0 c1 l0 l1 w0 w1), .int .i64 0] w (CaP0 z0 z1 l0 l1 n0 n1 w) := by
  obtain ⟨W0, hW0⟩ : ∃ W0, (w.alloc (Obj.cells (T6 c0 c1 l0 l1 w0 w1) 33)).alloc (Obj.cells (T6 (.slice none 0 0) (.slice none 0 0) 0 0 (.slice none 0 0) (.slice none 0 0)) 33) = W0 := ⟨_, rfl⟩
  have HS : Hid (W0.heap.size = w.heap.size + 2) := by rw [← hW0]; simp [Hid]
  have HB0 : Hid (Below w.heap.size w W0) := by rw [← hW0]; exact ((Below.refl _ _).alloc (Nat.le_refl _) _).alloc (by simp) _
  have KP0 : Hid (Blk W0 w.heap.size (T6 c0 c1 l0 l1 w0 w1) 33) := by rw [← hW0]; exact (Blk.new _ _ _).alloc _
  have KR0 : Hid (Blk W0 (w.heap.size + 1) (T6 (.slice none 0 0) (.slice none 0 0) 0 0 (.slice none 0 0) (.slice none 0 0)) 33) := by rw [← hW0]; exact Blk.newAt _ (w.heap.size + 1) _ 33 (by simp)
  have HR : Hid (Rk w c0 c1 w0 w1 z0 z1 n0 n1) := h
  have HL : Hid ((z0.length : Int) + z1.length + (n0.length + n1.length) ≤ 1048576) := hl
  obtain ⟨a0, p0, hv0, -⟩ := h.r0
  obtain ⟨a1, p1, hv1, -⟩ := h.r1
  obtain ⟨a2, p2, hv2, -⟩ := h.r2
  obtain ⟨a3, p3, hv3, -⟩ := h.r3
  obtain ⟨m0, hm0⟩ : ∃ m, z0.length = m := ⟨_, rfl⟩
  obtain ⟨m1, hm1⟩ : ∃ m, z1.length = m := ⟨_, rfl⟩
  obtain ⟨m2, hm2⟩ : ∃ m, n0.length = m := ⟨_, rfl⟩
  obtain ⟨m3, hm3⟩ : ∃ m, n1.length = m := ⟨_, rfl⟩
  have HM : Hid (z0.length = m0 ∧ z1.length = m1 ∧ n0.length = m2 ∧ n1.length = m3) := ⟨hm0, hm1, hm2, hm3⟩
  rw [hm0] at hv0
  rw [hm1] at hv1
  rw [hm2] at hv2
  rw [hm3] at hv3
  subst hv0 hv1 hv2 hv3
  clear h hm0 hm1 hm2 hm3 hl
  have x0 := KP0.out.cell 0
  have xf0 := KP0.out.frozen 0
  have x1 := KP0.out.cell 1
  have xf1 := KP0.out.frozen 1
  have x2 := KP0.out.cell 2
  have xf2 := KP0.out.frozen 2
  have x3 := KP0.out.cell 3
  have xf3 := KP0.out.frozen 3
  have x4 := KP0.out.cell 4
  have xf4 := KP0.out.frozen 4
  have x5 := KP0.out.cell 5
  have xf5 := KP0.out.frozen 5
  have xl := KP0.out.lt
  simp at x0 x1 x2 x3 x4 x5
  go_enter Try.func19, Try.ntmps19
  go_wp2_with (fail)
  clear hW0
  refine (copyM_c _ _ _ _ l0 l1 z0 z1 n0 n1 W0 (HR.out.below HB0.out) HL.out).mono ?_
  rintro e u0 ⟨v0, v1, v2, v3, rfl, oo, bb⟩
  obtain ⟨e0, f0, hf0, -⟩ := own_form oo.o0
  obtain ⟨e1, f1, hf1, -⟩ := own_form oo.o1
  obtain ⟨e2, f2, hf2, -⟩ := own_form oo.o2
  obtain ⟨e3, f3, hf3, -⟩ := own_form oo.o3
  rw [HM.out.1] at hf0
  rw [HM.out.2.1] at hf1
  rw [HM.out.2.2.1] at hf2
  rw [HM.out.2.2.2] at hf3
  subst hf0 hf1 hf2 hf3
  have hs0 := HS.out
  have kp := KP0.out.below bb KP0.out.lt
  have kr := KR0.out.below bb KR0.out.lt
  have hfr := fr_put6 u0 w.heap.size (.slice e0 m0 f0) (.slice e1 m1 f1) l0 l1 (.slice e2 m2 f2) (.slice e3 m3 f3)
  have szb : W0.heap.size ≤ u0.heap.size := bb.size
  have KP : Hid (Blk (st6 u0 w.heap.size (.slice e0 m0 f0) (.slice e1 m1 f1) l0 l1 (.slice e2 m2 f2) (.slice e3 m3 f3)) w.heap.size (T6 (.slice e0 m0 f0) (.slice e1 m1 f1) l0 l1 (.slice e2 m2 f2) (.slice e3 m3 f3)) 33) := put6 kp _ _ _ _ _ _
  have KR : Hid (Blk (st6 u0 w.heap.size (.slice e0 m0 f0) (.slice e1 m1 f1) l0 l1 (.slice e2 m2 f2) (.slice e3 m3 f3)) (w.heap.size + 1) (T6 (.slice none 0 0) (.slice none 0 0) 0 0 (.slice none 0 0) (.slice none 0 0)) 33) := kr.fr hfr (fun e => by omega)
  have HO : Hid (Ok6 W0.heap.size u0.heap.size (st6 u0 w.heap.size (.slice e0 m0 f0) (.slice e1 m1 f1) l0 l1 (.slice e2 m2 f2) (.slice e3 m3 f3)) (.slice e0 m0 f0) (.slice e1 m1 f1) (.slice e2 m2 f2) (.slice e3 m3 f3) z0 z1 n0 n1) := oo.fr hfr (fun k hk e => by have := oo.ge k hk; omega)
  have bw := belowCall HB0.out bb HB0.out.size
  have HB1 : Hid (Below w.heap.size w (st6 u0 w.heap.size (.slice e0 m0 f0) (.slice e1 m1 f1) l0 l1 (.slice e2 m2 f2) (.slice e3 m3 f3))) := bw.trans (hfr.below (by omega) (fun j e => by omega))
  have HU : Hid (u0.heap.size ≤ (st6 u0 w.heap.size (.slice e0 m0 f0) (.slice e1 m1 f1) l0 l1 (.slice e2 m2 f2) (.slice e3 m3 f3)).heap.size ∧ w.heap.size + 2 ≤ u0.heap.size) := ⟨hfr.size, by omega⟩
  clear x0 xf0 x1 xf1 x2 xf2 x3 xf3 x4 xf4 x5 xf5 xl
  have x0 := kp.cell 0
  have xf0 := kp.frozen 0
  have x1 := kp.cell 1
  have xf1 := kp.frozen 1
  have x2 := kp.cell 2
  have xf2 := kp.frozen 2
  have x3 := kp.cell 3
  have xf3 := kp.frozen 3
  have x4 := kp.cell 4
  have xf4 := kp.frozen 4
  have x5 := kp.cell 5
  have xf5 := kp.frozen 5
  have xl := kp.lt
  simp at x0 x1 x2 x3 x4 x5
  obtain ⟨W1, hW1⟩ : ∃ W, st6 u0 w.heap.size (.slice e0 m0 f0) (.slice e1 m1 f1) l0 l1 (.slice e2 m2 f2) (.slice e3 m3 f3) = W := ⟨_, rfl⟩
  rw [hW1] at KP KR HO HB1 HU
  unfold st6 at hW1
  clear oo bb kp kr hfr szb bw KP0 KR0 HB0 hs0
  have y0 := KP.out.cell 0
  have yf0 := KP.out.frozen 0
  have y1 := KP.out.cell 1
  have yf1 := KP.out.frozen 1
  have y2 := KP.out.cell 2
  have yf2 := KP.out.frozen 2
  have y3 := KP.out.cell 3
  have yf3 := KP.out.frozen 3
  have y4 := KP.out.cell 4
  have yf4 := KP.out.frozen 4
  have y5 := KP.out.cell 5
  have yf5 := KP.out.frozen 5
  have yl := KP.out.lt
  simp at y0 y1 y2 y3 y4 y5
  go_wp2_with (fail)
  clear hW1 x0 xf0 x1 xf1 x2 xf2 x3 xf3 x4 xf4 x5 xf5 xl
  refine (okM_c _ _ _ _ l0 l1 z0 z1 n0 n1 W1 HO.out.rd).mono ?_
  rintro e u1 ⟨r, rfl, hr, b1⟩
  have KP1 : Hid (Blk u1 w.heap.size (T6 (.slice e0 m0 f0) (.slice e1 m1 f1) l0 l1 (.slice e2 m2 f2) (.slice e3 m3 f3)) 33) := KP.out.below b1 KP.out.lt
  have KR1 : Hid (Blk u1 (w.heap.size + 1) (T6 (.slice none 0 0) (.slice none 0 0) 0 0 (.slice none 0 0) (.slice none 0 0)) 33) := KR.out.below b1 KR.out.lt
  have HO1 : Hid (Ok6 W0.heap.size u0.heap.size u1 (.slice e0 m0 f0) (.slice e1 m1 f1) (.slice e2 m2 f2) (.slice e3 m3 f3) z0 z1 n0 n1) := HO.out.below b1
  have HB2 : Hid (Below w.heap.size w u1) := belowCall HB1.out b1 HB1.out.size
  have HU1 : Hid (u0.heap.size ≤ u1.heap.size ∧ w.heap.size + 2 ≤ u0.heap.size) := ⟨Nat.le_trans HU.out.1 b1.size, HU.out.2⟩
  have HF : Hid (∀ W, (((((u1.setCell ⟨w.heap.size + 1, 0, none⟩ (.slice e0 m0 f0)).setCell ⟨w.heap.size + 1, 1, none⟩ (.slice e1 m1 f1)).setCell ⟨w.heap.size + 1, 2, none⟩ (.int .i64 l0)).setCell ⟨w.heap.size + 1, 3, none⟩ (.int .i64 l1)).setCell ⟨w.heap.size + 1, 4, none⟩ (.slice e2 m2 f2)).setCell ⟨w.heap.size + 1, 5, none⟩ (.slice e3 m3 f3) = W → Blk W (w.heap.size + 1) (T6 (.slice e0 m0 f0) (.slice e1 m1 f1) l0 l1 (.slice e2 m2 f2) (.slice e3 m3 f3)) 33 ∧ TwP l0 l1 z0 z1 n0 n1 (.bool false) w (.returned (.tuple #[.agg (T6 (.slice e0 m0 f0) (.slice e1 m1 f1) l0 l1 (.slice e2 m2 f2) (.slice e3 m3 f3)), .bool false])) W) := by
    rintro _ rfl
    have hfr := fr_put6 u1 (w.heap.size + 1) (.slice e0 m0 f0) (.slice e1 m1 f1) l0 l1 (.slice e2 m2 f2) (.slice e3 m3 f3)
    have hs0 := HS.out
    have hu := HU1.out
    have hz := hfr.size
    exact ⟨put6 KR1.out _ _ _ _ _ _, _, _, _, _, rfl, ((HO1.out.fr hfr (fun k hk e => by have := HO1.out.ge k hk; omega)).mono (by omega) (Nat.le_trans hu.1 hfr.size)).rb, HB2.out.trans (hfr.below (by omega) (fun j e => by omega))⟩
  clear y0 yf0 y1 yf1 y2 yf2 y3 yf3 y4 yf4 y5 yf5 yl b1 KP KR HO HB1 HU
  have x0 := KP1.out.cell 0
  have xf0 := KP1.out.frozen 0
  have x1 := KP1.out.cell 1
  have xf1 := KP1.out.frozen 1
  have x2 := KP1.out.cell 2
  have xf2 := KP1.out.frozen 2
  have x3 := KP1.out.cell 3
  have xf3 := KP1.out.frozen 3
  have x4 := KP1.out.cell 4
  have xf4 := KP1.out.frozen 4
  have x5 := KP1.out.cell 5
  have xf5 := KP1.out.frozen 5
  have xl := KP1.out.lt
  simp at x0 x1 x2 x3 x4 x5
  have y0 := KR1.out.cell 0
  have yf0 := KR1.out.frozen 0
  have y1 := KR1.out.cell 1
  have yf1 := KR1.out.frozen 1
  have y2 := KR1.out.cell 2
  have yf2 := KR1.out.frozen 2
  have y3 := KR1.out.cell 3
  have yf3 := KR1.out.frozen 3
  have y4 := KR1.out.cell 4
  have yf4 := KR1.out.frozen 4
  have y5 := KR1.out.cell 5
  have yf5 := KR1.out.frozen 5
  have yl := KR1.out.lt
  simp at y0 y1 y2 y3 y4 y5
  by_cases g : TOk z0 z1 l0 l1 n0 n1
  case neg =>
    obtain rfl : r = false := by cases r; rfl; exact absurd (hr.1 rfl) g
    have HNO : Hid (¬ CaOk0 z0 z1 l0 l1 n0 n1) := fun h => g h.1
    clear hr g
    go_wp2
    exact bodyPost_ret (v := .tuple #[.agg (T6 (.slice e0 m0 f0) (.slice e1 m1 f1) l0 l1 (.slice e2 m2 f2) (.slice e3 m3 f3)), .bool false]) (results_T rfl _ _ _ _ _ _ _ _ _ _ rfl rfl (HF.out _ rfl).1) rfl ⟨fun h => absurd h HNO.out, fun _ => (HF.out _ rfl).2⟩
  obtain rfl : r = true := hr.2 g
  have G : Hid (TOk z0 z1 l0 l1 n0 n1) := g
  have hm24 : 1 ≤ m0 ∧ m0 ≤ 24 := by have := g.1; have := HM.out; omega
  obtain ⟨hm1', hm24⟩ := hm24
  have HE : Hid (m1 = m0) := by have := g.2.1; have := HM.out; show _ = _; omega
  have hk60 : m2 ≤ 60 := by have := g.2.2.1.2.2.1; have := HM.out; omega
  have hk61 : m3 ≤ 60 := by have := g.2.2.2.2.2.1; have := HM.out; omega
  clear hr g
  go_wp2_with (fail)
  refine (in_c 0 0 1 u1).mono ?_
  rintro e wq ⟨rfl, hwq⟩
  rw [hwq, show decide ((0 : Int) ≤ 0 ∧ (0 : Int) ≤ 1) = true from by decide]
  clear hwq wq
  by_cases hn : n0 = []
  case pos =>
    have hz : ((m2 : Int) == 0) = true := by have := HM.out.2.2.1; rw [hn] at this; simp at this; simp; omega
    have HNO : Hid (¬ CaOk0 z0 z1 l0 l1 n0 n1) := fun h => by have := h.2.1; rw [hn] at this; simp at this
    clear hn
    go_wp2
    exact bodyPost_ret (v := .tuple #[.agg (T6 (.slice e0 m0 f0) (.slice e1 m1 f1) l0 l1 (.slice e2 m2 f2) (.slice e3 m3 f3)), .bool false]) (results_T rfl _ _ _ _ _ _ _ _ _ _ rfl rfl (HF.out _ rfl).1) rfl ⟨fun h => absurd h HNO.out, fun _ => (HF.out _ rfl).2⟩
  obtain ⟨⟨kd, ci⟩, ns, hn⟩ : ∃ x ns, n0 = x :: ns := by
    revert hn
    cases n0 with
    | nil => intro hn; exact absurd rfl hn
    | cons x ns => intro _; exact ⟨x, ns, rfl⟩
  have hmp : m2 = ns.length + 1 := by have := HM.out.2.2.1; rw [hn] at this; simp at this; omega
  have hz : ((m2 : Int) == 0) = false := by simp; omega
  have hno := G.out.2.2.1.2.2.2 0 (by rw [hn]; simp)
  simp only [hn, List.getElem_cons_zero] at hno
  obtain ⟨m, rfl⟩ : ∃ m : Nat, ci = m := ⟨ci.toNat, by have := hno.2.1; simp only at this; omega⟩
  have hno' : 1 ≤ kd ∧ kd ≤ 5 ∧ m < m0 := by obtain ⟨⟨h1, h2⟩, h3, h4⟩ := hno; simp only at h1 h2 h3 h4; have := HM.out.1; omega
  have HNO : Hid (1 ≤ kd ∧ kd ≤ 5 ∧ m < m0) := hno'
  have HN : Hid (n0 = (kd, (m : Int)) :: ns) := hn
  have hmpos : 0 < m2 := by omega
  have HMP : Hid (m2 = ns.length + 1) := hmp
  clear hno hno' hn hmp
  go_wp2_with (fail)
  refine (copyM_c _ _ _ _ l0 l1 z0 z1 n0 n1 u1 HO1.out.rd HL.out).mono ?_
  rintro e u2 ⟨v0, v1, v2, v3, rfl, oo, bb⟩
  obtain ⟨g0, h0, hf0, -⟩ := own_form oo.o0
  obtain ⟨g1, h1, hf1, -⟩ := own_form oo.o1
  obtain ⟨g2, h2, hf2, -⟩ := own_form oo.o2
  obtain ⟨g3, h3, hf3, -⟩ := own_form oo.o3
  rw [HM.out.1] at hf0
  rw [HM.out.2.1] at hf1
  rw [HM.out.2.2.1] at hf2
  rw [HM.out.2.2.2] at hf3
  subst hf0 hf1 hf2 hf3
  obtain ⟨nb, ncap, hnv, hnb1, hnb2, hncl⟩ := Op.row oo.o2 (by have := HM.out.2.2.1; have := HMP.out; omega)
  rw [HM.out.2.2.1] at hnv hncl
  simp only [Value.slice.injEq] at hnv
  obtain ⟨hne, -, hnf⟩ := hnv
  subst hne hnf
  obtain ⟨rb, rcap, hrv, hrb1, hrb2⟩ := oo.o0.row (by have := HM.out; have := HE.out; have := HNO.out; omega)
  rw [HM.out.1] at hrv
  simp only [Value.slice.injEq] at hrv
  obtain ⟨hre, -, hrf⟩ := hrv
  subst hre hrf
  obtain ⟨xz, hxz⟩ : ∃ q, z0.getD m 0 = q := ⟨_, rfl⟩
  have hcz := Ow.cellFz HM.out.1 oo.o0 m (by have := HM.out; have := HE.out; have := HNO.out; omega)
  rw [hxz] at hcz
  obtain ⟨hcell, hfroz⟩ := hcz
  have hnc : u2.cell? ⟨nb, 0, none⟩ = some (.int .i64 kd) ∧ u2.cell? ⟨nb, 1, none⟩ = some (.int .i64 (m : Int)) := by
    have hq := oo.o2
    rw [HN.out] at hq
    obtain ⟨a', cap', hv', -, -, d⟩ := Op.rd hq
    simp only [Value.slice.injEq] at hv'
    rcases d with d | ⟨b', off', ha, h4⟩
    · cases d
    · rw [← hv'.1] at ha
      cases ha
      have := h4 0 (by simp)
      simpa [mf, mg] using this
  obtain ⟨hnc0, hnc1⟩ := hnc
  have KP2 : Hid (Blk u2 w.heap.size (T6 (.slice e0 m0 f0) (.slice e1 m1 f1) l0 l1 (.slice e2 m2 f2) (.slice e3 m3 f3)) 33) := KP1.out.below bb KP1.out.lt
  have KR2 : Hid (Blk u2 (w.heap.size + 1) (T6 (.slice none 0 0) (.slice none 0 0) 0 0 (.slice none 0 0) (.slice none 0 0)) 33) := KR1.out.below bb KR1.out.lt
  have HO2 : Hid (Ok6 W0.heap.size u0.heap.size u2 (.slice e0 m0 f0) (.slice e1 m1 f1) (.slice e2 m2 f2) (.slice e3 m3 f3) z0 z1 n0 n1) := HO1.out.below bb
  have HB3 : Hid (Below w.heap.size w u2) := belowCall HB2.out bb HB2.out.size
  have HQ : Hid (Ok6 u1.heap.size u2.heap.size u2 (.slice (some ⟨rb, 0, none⟩) m0 h0) (.slice g1 m1 h1) (.slice (some ⟨nb, 0, none⟩) m2 h2) (.slice g3 m3 h3) z0 z1 n0 n1) := oo
  have HZ2 : Hid (u1.heap.size ≤ u2.heap.size) := bb.size
  have HXZ : Hid (z0.getD m 0 = xz) := hxz
  have hrl : rb < u2.heap.size := hrb2
  have hnl : nb < u2.heap.size := hnb2
  clear oo bb x0 xf0 x1 xf1 x2 xf2 x3 xf3 x4 xf4 x5 xf5 xl y0 yf0 y1 yf1 y2 yf2 y3 yf3 y4 yf4 y5 yf5 yl HF hxz
  have hcr := cut_rp (HN.out ▸ HQ.out.o2 : Op mf mg 68 u1.heap.size u2 (.slice (some ⟨nb, 0, none⟩) m2 h2) ((kd, (m : Int)) :: ns))
  obtain ⟨hcr1, hcr2⟩ := hcr
  by_cases hcap : h2 = 1
  case' pos =>
    obtain ⟨CV, hCV⟩ : ∃ CV, Value.slice (some ⟨nb, 0, none⟩) (m2 - 1) 0 = CV := ⟨_, rfl⟩
    have HCE : Hid (Value.slice (some ⟨nb, 0, none⟩) (m2 - 1) 0 = CV) := hCV
    have HCV : Hid (Rp mf mg u2 CV ns ∧ CV.ownBlock = some nb) := by rw [← hCV]; exact ⟨hcr2 hcap, rfl⟩
  case' neg =>
    obtain ⟨CV, hCV⟩ : ∃ CV, Value.slice (some ⟨nb, 2, none⟩) (m2 - 1) (h2 - 1) = CV := ⟨_, rfl⟩
    have HCE : Hid (Value.slice (some ⟨nb, 2, none⟩) (m2 - 1) (h2 - 1) = CV) := hCV
    have HCV : Hid (Rp mf mg u2 CV ns ∧ CV.ownBlock = some nb) := by rw [← hCV]; exact ⟨hcr1, rfl⟩
  all_goals clear hcr1 hcr2 hCV
  all_goals go_wp2
  all_goals rw [HCE.out]
  all_goals obtain ⟨V, hV⟩ : ∃ V, (u2.alloc (Obj.cells #[(.slice (some ⟨rb, 0, none⟩) m0 h0), (.slice g1 m1 h1), .int .i64 l0, .int .i64 l1, CV, (.slice g3 m3 h3)] 33)).alloc (Obj.cells #[.int .i64 kd, .int .i64 (m : Int)] 68) = V := ⟨_, rfl⟩
  all_goals rw [hV]
  all_goals have BV : Hid (Below u2.heap.size u2 V) := by rw [← hV]; exact ((Below.refl _ _).alloc (Nat.le_refl _) _).alloc (by simp) _
  all_goals have KX : Hid (Blk V u2.heap.size (T6 (.slice (some ⟨rb, 0, none⟩) m0 h0) (.slice g1 m1 h1) l0 l1 CV (.slice g3 m3 h3)) 33) := by rw [← hV]; exact (Blk.new _ _ _).alloc _
  all_goals have KN : Hid (Blk V (u2.heap.size + 1) (H2 kd (m : Int)) 68) := by rw [← hV]; exact Blk.newAt _ (u2.heap.size + 1) _ 68 (by simp)
  all_goals have OQ : Hid (Ok6 u1.heap.size u2.heap.size V (.slice (some ⟨rb, 0, none⟩) m0 h0) (.slice g1 m1 h1) (.slice (some ⟨nb, 0, none⟩) m2 h2) (.slice g3 m3 h3) z0 z1 n0 n1) := HQ.out.below BV.out
  all_goals have HCVV : Hid (Rp mf mg V CV ns ∧ CV.ownBlock = some nb) := ⟨HCV.out.1.below BV.out, HCV.out.2⟩
  all_goals clear hV hcell hfroz hnc0 hnc1 hz hncl hcap HQ HCV HCE
  all_goals (
    have hsn : 0 ≤ xz ∧ xz ≤ 4 := by rw [← HXZ.out]; exact G.out.2.2.1.1 m (by have := HM.out; have := HE.out; have := HNO.out; omega)
    have HSN : Hid (0 ≤ xz ∧ xz ≤ 4) := hsn
    have hmi : (m : Int) < (m0 : Int) := by have := HM.out; have := HE.out; have := HNO.out; omega
    have hmn : (0 : Int) ≤ (m : Int) := by omega
    obtain ⟨ow, how⟩ : ∃ ow, (((m : Int) % 2 == 0) : Bool) = ow := ⟨_, rfl⟩
    have HOW : Hid ((((m : Int) % 2 == 0) : Bool) = ow) := how
    obtain ⟨sn, bk, lo, hh⟩ : ∃ a b c, hearF kd xz ow = (a, b, c) := ⟨_, _, _, rfl⟩
    have HHF : Hid (hearF kd xz ow = (sn, bk, lo)) := hh
    have HC1 : Hid (∀ W : Ov V, Calls Try.prog 45 #[.int .i64 (m : Int)] W.wd fun e w'' => e = .returned (.int .i64 ((m : Int) % 2)) ∧ ∃ W' : Ov V, w'' = W'.wd) := fun W => ov_call ((owner_c m W.wd (by have := HM.out; have := HE.out; have := HNO.out; omega)).mono fun e w' ⟨he, hw⟩ => ⟨he, hw ▸ Below.refl _ _⟩)
    have HC2 : Hid (∀ W : Ov V, Calls Try.prog 50 #[.int .i64 xz, .int .i64 kd, .bool ow] W.wd fun e w'' => e = .returned (.tuple #[.int .i64 sn, .int .i64 bk, .bool (decide (lo = 1))]) ∧ ∃ W' : Ov V, w'' = W'.wd) := fun W => ov_call ((hearM_c kd xz ow W.wd ⟨HNO.out.1, HNO.out.2.1⟩ HSN.out).mono fun e w' ⟨he, hw⟩ => ⟨by rw [he, HHF.out], hw ▸ Below.refl _ _⟩)
    have q0 : ∀ W : Ov V, W.wd.cell? ⟨u2.heap.size, 0, none⟩ = some (.slice (some ⟨rb, 0, none⟩) m0 h0) := ov_cell (by have := KX.out.cell 0; simpa using this)
    have q1 : ∀ W : Ov V, W.wd.cell? ⟨u2.heap.size + 1, 0, none⟩ = some (.int .i64 kd) := ov_cell (by have := KN.out.cell 0; simpa using this)
    have q2 : ∀ W : Ov V, W.wd.cell? ⟨u2.heap.size + 1, 1, none⟩ = some (.int .i64 (m : Int)) := ov_cell (by have := KN.out.cell 1; simpa using this)
    have hcz := (Ow.cellFz HM.out.1 OQ.out.o0 m (by have := HM.out; have := HE.out; have := HNO.out; omega)).1
    rw [HXZ.out] at hcz
    have q3 : ∀ W : Ov V, W.wd.cell? ⟨rb, m, none⟩ = some (.int .i64 xz) := ov_cell hcz
    have ne : Nonempty (Ov V) := ⟨⟨V, Below.refl _ _⟩⟩
    clear hh hsn hcz
    refine region_over (by kernel_rfl) (by kernel_rfl) ?_
    repeat (go_big_quiet_step (first | (go_at_call 45; exact HC1.out _) | (rw [how]; go_at_call 50; exact HC2.out _) | (go_at_call 50; exact HC2.out _)))
    refine wpQuiet_nil ?_
    rintro _ ⟨W, rfl⟩
    have BW := W.ok
    obtain ⟨V2, hV2⟩ : ∃ V2, W.wd = V2 := ⟨_, rfl⟩
    rw [hV2] at BW ⊢
    have KX2 : Hid (Blk V2 u2.heap.size (T6 (.slice (some ⟨rb, 0, none⟩) m0 h0) (.slice g1 m1 h1) l0 l1 CV (.slice g3 m3 h3)) 33) := KX.out.below BW KX.out.lt
    have KN2 : Hid (Blk V2 (u2.heap.size + 1) (H2 kd (m : Int)) 68) := KN.out.below BW KN.out.lt
    have OQ2 : Hid (Ok6 u1.heap.size u2.heap.size V2 (.slice (some ⟨rb, 0, none⟩) m0 h0) (.slice g1 m1 h1) (.slice (some ⟨nb, 0, none⟩) m2 h2) (.slice g3 m3 h3) z0 z1 n0 n1) := OQ.out.below BW
    have HCV2 : Hid (Rp mf mg V2 CV ns ∧ CV.ownBlock = some nb) := ⟨HCVV.out.1.below BW, HCVV.out.2⟩
    have BV2 : Hid (Below u2.heap.size u2 V2) := belowCall BV.out BW BV.out.size
    clear hV2 BW W q0 q1 q2 q3 ne KX KN OQ HCVV BV HC1 HC2
    obtain ⟨S, hS⟩ : ∃ S : World → Prop, ∀ W, S W ↔ Below V2.heap.size V2 W := ⟨_, fun _ => Iff.rfl⟩
    have hcz2 := Ow.cellFz HM.out.1 OQ2.out.o0 m (by have := HM.out; have := HE.out; have := HNO.out; omega)
    obtain ⟨hcz, hfz⟩ := hcz2
    have q0 : ∀ W : At S, W.wd.cell? ⟨u2.heap.size, 0, none⟩ = some (.slice (some ⟨rb, 0, none⟩) m0 h0) := fun W => by rw [(KX2.out.below ((hS _).1 W.ok) KX2.out.lt).cell 0]; rfl
    have q2 : ∀ W : At S, W.wd.cell? ⟨u2.heap.size + 1, 1, none⟩ = some (.int .i64 (m : Int)) := fun W => by rw [(KN2.out.below ((hS _).1 W.ok) KN2.out.lt).cell 1]; rfl
    have HSS : Hid (∀ W, S W ↔ Below V2.heap.size V2 W) := hS
    have ne : Nonempty (At S) := ⟨⟨V2, (hS _).2 (Below.refl _ _)⟩⟩
    clear hS
    go_wp2
    refine region_mixA [true, true, true, true, true, true, true, false, false] 8 1 S (by kernel_rfl) rfl (by kernel_rfl) (fun _ _ _ _ _ h => h) ((HSS.out _).2 (Below.refl _ _).drew) ?_
    simp only [selT, selF]
    repeat (go_big_quiet_step (fail))
    refine wpQuiet_nil ?_
    refine tail_step ?_
    go_wp2
    refine ⟨(HSS.out _).2 (Below.refl _ _).drew, tail_end ?_⟩
    have hczd : V2.drew.cell? ⟨rb, m, none⟩ = some (.int .i64 (z0.getD m 0)) := hcz
    have hfzd : V2.drew.frozen? ⟨rb, m, none⟩ = false := hfz
    obtain ⟨ca, cc, hcv, -⟩ := HCV2.out.1
    obtain ⟨mc, hmc⟩ : ∃ q, ns.length = q := ⟨_, rfl⟩
    rw [hmc] at hcv
    subst hcv
    clear hmc
    obtain ⟨V3, hV3⟩ : ∃ V, V2.drew.setCell ⟨rb, m, none⟩ (.int .i64 sn) = V := ⟨_, rfl⟩
    have hpw := carry_pw0 OQ2.out BV2.out.size HM.out.1 HCV2.out.1 HCV2.out.2 hV3
    have hu1 := HU1.out
    have fq := hpw.2
    have hss := BV2.out.size
    have hkn := KN2.out.lt
    have PW3 : Hid (Pw1 u1.heap.size u2.heap.size V3 (.slice (some ⟨rb, 0, none⟩) m0 h0) (.slice g1 m1 h1) (.slice ca mc cc) (.slice g3 m3 h3) (z0.set m sn) z1 ns n1) := hpw.1
    have KX3 : Hid (Blk V3 u2.heap.size (T6 (.slice (some ⟨rb, 0, none⟩) m0 h0) (.slice g1 m1 h1) l0 l1 (.slice ca mc cc) (.slice g3 m3 h3)) 33) := KX2.out.fr fq (by omega)
    have KN3 : Hid (Blk V3 (u2.heap.size + 1) (H2 kd (m : Int)) 68) := KN2.out.fr fq (by omega)
    have KP3 : Hid (Blk V3 w.heap.size (T6 (.slice e0 m0 f0) (.slice e1 m1 f1) l0 l1 (.slice e2 m2 f2) (.slice e3 m3 f3)) 33) := (KP2.out.below BV2.out KP2.out.lt).fr fq (by omega)
    have KR3 : Hid (Blk V3 (w.heap.size + 1) (T6 (.slice none 0 0) (.slice none 0 0) 0 0 (.slice none 0 0) (.slice none 0 0)) 33) := (KR2.out.below BV2.out KR2.out.lt).fr fq (by omega)
    have HO3 : Hid (Ok6 W0.heap.size u0.heap.size V3 (.slice e0 m0 f0) (.slice e1 m1 f1) (.slice e2 m2 f2) (.slice e3 m3 f3) z0 z1 n0 n1) := (HO2.out.below BV2.out).fr fq (fun k hk e => by have := HO2.out.ge k hk; omega)
    have HB5 : Hid (Below w.heap.size w V3) := (belowCall HB3.out BV2.out HB3.out.size).trans (fq.below (by have := HB3.out.size; omega) (fun k e => by omega))
    have HZ3 : Hid (u2.heap.size + 2 ≤ V3.heap.size ∧ w.heap.size + 2 ≤ u1.heap.size ∧ u1.heap.size ≤ u2.heap.size ∧ u0.heap.size ≤ u1.heap.size) := ⟨by have := fq.size; omega, by omega, HZ2.out, by omega⟩
    have HLO : Hid (lo = 0 ∨ lo = 1) := by have := hearF_lost kd xz ow; rw [HHF.out] at this; exact this
    have HBK : Hid (0 ≤ bk) := by have := hearF_back kd xz ow; rw [HHF.out] at this; exact this
    have HLR : Hid (LoOk l0) := G.out.2.2.1.2.1
    clear hpw fq hss hkn hu1 hcz hfz
    have HDONE : Hid (l0 + lo ≤ 1000000 → (bk = 0 ∨ n1.length < 60) → ∀ e w', TwP (l0 + lo) l1 (z0.set m sn) z1 ns (n1 ++ (if bk = 0 then [] else [(bk, (m : Int))])) (.bool true) w e w' → CaP0 z0 z1 l0 l1 n0 n1 w e w') := by
      intro h1 h2 e w' h
      have hx : hearF kd (z0.getD m 0) ((m : Int) % 2 == 0) = (sn, bk, lo) := by rw [HXZ.out, HOW.out]; exact HHF.out
      have hn := HN.out
      have hT := G.out
      unfold CaP0 CaOk0 ArOk0 bkN0
      rw [hn]
      simp only [List.headD_cons, List.tail_cons, Int.toNat_natCast, hx]
      exact ⟨fun _ => h, fun h' => absurd ⟨hn ▸ hT, by simp, h1, h2⟩ h'⟩
    have HREF : Hid (¬ (l0 + lo ≤ 1000000 ∧ (bk = 0 ∨ n1.length < 60)) → ∀ e w', TwP l0 l1 z0 z1 n0 n1 (.bool false) w e w' → CaP0 z0 z1 l0 l1 n0 n1 w e w') := by
      intro h1 e w' h
      have hx : hearF kd (z0.getD m 0) ((m : Int) % 2 == 0) = (sn, bk, lo) := by rw [HXZ.out, HOW.out]; exact HHF.out
      have hn := HN.out
      refine ⟨fun h' => absurd ?_ h1, fun _ => h⟩
      have h2 := h'.2.2
      unfold ArOk0 at h2
      rw [hn] at h2
      simpa only [List.headD_cons, List.tail_cons, Int.toNat_natCast, hx] using h2
    rcases HLO.out with hlo | hlo
    · subst hlo
      simp only [Int.add_zero] at HDONE HREF
      have HLR' := HLR.out
      have hlr1 : 0 ≤ l0 := HLR'.1
      have hlr2 : l0 ≤ 1000000 := HLR'.2
      clear HLR'
      by_cases hbk : 0 < bk
      case neg =>
        have hbk0 : bk = 0 := by have := HBK.out; omega
        subst hbk0
        clear hbk
        simp only [reduceIte, List.append_nil] at HDONE
        have HLE : Hid (l0 ≤ 1000000) := hlr2
        have hgt : ¬ (1000000 < l0) := by omega
        have HFD : Hid (∀ W, st6 V3 (w.heap.size + 1) (.slice (some ⟨rb, 0, none⟩) m0 h0) (.slice g1 m1 h1) l0 l1 (.slice ca mc cc) (.slice g3 m3 h3) = W → Blk W (w.heap.size + 1) (T6 (.slice (some ⟨rb, 0, none⟩) m0 h0) (.slice g1 m1 h1) l0 l1 (.slice ca mc cc) (.slice g3 m3 h3)) 33 ∧ CaP0 z0 z1 l0 l1 n0 n1 w (.returned (.tuple #[.agg (T6 (.slice (some ⟨rb, 0, none⟩) m0 h0) (.slice g1 m1 h1) l0 l1 (.slice ca mc cc) (.slice g3 m3 h3)), .bool true])) W) := by
          rintro _ rfl
          have hz := HZ3.out
          have hfr := fr_put6 V3 (w.heap.size + 1) (.slice (some ⟨rb, 0, none⟩) m0 h0) (.slice g1 m1 h1) l0 l1 (.slice ca mc cc) (.slice g3 m3 h3)
          have hzz := hfr.size
          exact ⟨put6 KR3.out _ _ _ _ _ _, HDONE.out HLE.out (.inl trivial) _ _ ⟨_, _, _, _, rfl, (PW3.out.rb.fr (by omega) hfr (fun k hk e => by have := PW3.out.rb.ge k hk; omega)).mono (by omega) (by omega), HB5.out.trans (hfr.below (by omega) (fun j e => by omega))⟩⟩
        unfold st6 at HFD
        have x0 := KX3.out.cell 0
        have xf0 := KX3.out.frozen 0
        have x1 := KX3.out.cell 1
        have xf1 := KX3.out.frozen 1
        have x2 := KX3.out.cell 2
        have xf2 := KX3.out.frozen 2
        have x3 := KX3.out.cell 3
        have xf3 := KX3.out.frozen 3
        have x4 := KX3.out.cell 4
        have xf4 := KX3.out.frozen 4
        have x5 := KX3.out.cell 5
        have xf5 := KX3.out.frozen 5
        have xl := KX3.out.lt
        simp at x0 x1 x2 x3 x4 x5
        have y0 := KR3.out.cell 0
        have yf0 := KR3.out.frozen 0
        have y1 := KR3.out.cell 1
        have yf1 := KR3.out.frozen 1
        have y2 := KR3.out.cell 2
        have yf2 := KR3.out.frozen 2
        have y3 := KR3.out.cell 3
        have yf3 := KR3.out.frozen 3
        have y4 := KR3.out.cell 4
        have yf4 := KR3.out.frozen 4
        have y5 := KR3.out.cell 5
        have yf5 := KR3.out.frozen 5
        have yl := KR3.out.lt
        simp at y0 y1 y2 y3 y4 y5
        go_wp2
        exact bodyPost_ret (v := .tuple #[.agg (T6 (.slice (some ⟨rb, 0, none⟩) m0 h0) (.slice g1 m1 h1) l0 l1 (.slice ca mc cc) (.slice g3 m3 h3)), .bool true]) (results_T rfl _ _ _ _ _ _ _ _ _ _ rfl rfl (HFD.out _ rfl).1) rfl (HFD.out _ rfl).2
      have hb0 : ¬ bk = 0 := by omega
      simp only [hb0, if_false, false_or] at HDONE HREF
      clear hb0
      have HN60 : Hid (n1.length ≤ 60) := G.out.2.2.2.2.2.1
      have x0 := KX3.out.cell 0
      have xf0 := KX3.out.frozen 0
      have x1 := KX3.out.cell 1
      have xf1 := KX3.out.frozen 1
      have x2 := KX3.out.cell 2
      have xf2 := KX3.out.frozen 2
      have x3 := KX3.out.cell 3
      have xf3 := KX3.out.frozen 3
      have x4 := KX3.out.cell 4
      have xf4 := KX3.out.frozen 4
      have x5 := KX3.out.cell 5
      have xf5 := KX3.out.frozen 5
      have xl := KX3.out.lt
      simp at x0 x1 x2 x3 x4 x5
      have kn1 := KN3.out.cell 1
      have knl := KN3.out.lt
      simp at kn1
      go_wp2_with (fail)
      refine (putR1_c u1.heap.size _ _ _ _ l0 l1 (z0.set m sn) z1 ns n1 bk (m : Int) V3 ⟨PW3.out.rb.mono (Nat.le_refl _) (by have := HZ3.out; omega), PW3.out.own, PW3.out.ap⟩ (by have := HZ3.out; omega) HN60.out).mono ?_
      rintro e u3 ⟨hfull, hroom⟩
      clear x0 xf0 x1 xf1 x2 xf2 x3 xf3 x4 xf4 x5 xf5 xl kn1 knl  hV3 hczd hfzd q0 q2 ne
      by_cases h60 : n1.length < 60
      case neg =>
        have HNL : Hid (¬ (l0 ≤ 1000000 ∧ n1.length < 60)) := fun h => h60 h.2
        obtain ⟨⟨y0, y1, y2, y3, rfl, ⟨rq, nq⟩, bq⟩, fq⟩ := hfull (by have := HN60.out; omega)
        obtain ⟨r0, t0, hf0, -⟩ := rq.rk.r0
        obtain ⟨q0, hq0⟩ : ∃ q, (z0.set m sn).length = q := ⟨_, rfl⟩
        rw [hq0] at hf0
        obtain ⟨r1, t1, hf1, -⟩ := rq.rk.r1
        obtain ⟨q1, hq1⟩ : ∃ q, z1.length = q := ⟨_, rfl⟩
        rw [hq1] at hf1
        obtain ⟨r2, t2, hf2, -⟩ := rq.rk.r2
        obtain ⟨q2, hq2⟩ : ∃ q, ns.length = q := ⟨_, rfl⟩
        rw [hq2] at hf2
        obtain ⟨r3, t3, hf3, -⟩ := rq.rk.r3
        obtain ⟨q3, hq3⟩ : ∃ q, n1.length = q := ⟨_, rfl⟩
        rw [hq3] at hf3
        subst hf0 hf1 hf2 hf3
        clear hq0 hq1 hq2 hq3
        have RQ : Hid (Rb u1.heap.size u3.heap.size u3 (.slice r0 q0 t0) (.slice r1 q1 t1) (.slice r2 q2 t2) (.slice r3 q3 t3) (z0.set m sn) z1 ns n1) := rq
        have HAP : Hid (¬ InT (.slice r0 q0 t0) (.slice r1 q1 t1) (.slice r2 q2 t2) (.slice r3 q3 t3) u2.heap.size) := fun hk => by have hz := HZ3.out; rcases nq _ hk with h | h; have := PW3.out.rb.ge _ h; omega; omega
        have hz := HZ3.out
        have hno : ∀ k, (Value.slice g3 m3 h3).ownBlock = some k → u1.heap.size ≤ k ∧ k < u2.heap.size := fun k e => PW3.out.rb.ge k (.inr (.inr e))
        have KX5 : Hid (Blk u3 u2.heap.size (T6 (.slice (some ⟨rb, 0, none⟩) m0 h0) (.slice g1 m1 h1) l0 l1 (.slice ca mc cc) (.slice g3 m3 h3)) 33) := KX3.out.fr fq (fun e => by have := hno _ e; omega)
        have KP5 : Hid (Blk u3 w.heap.size (T6 (.slice e0 m0 f0) (.slice e1 m1 f1) l0 l1 (.slice e2 m2 f2) (.slice e3 m3 f3)) 33) := KP3.out.fr fq (fun e => by have := hno _ e; omega)
        have KR5 : Hid (Blk u3 (w.heap.size + 1) (T6 (.slice none 0 0) (.slice none 0 0) 0 0 (.slice none 0 0) (.slice none 0 0)) 33) := KR3.out.fr fq (fun e => by have := hno _ e; omega)
        have HO5 : Hid (Ok6 W0.heap.size u0.heap.size u3 (.slice e0 m0 f0) (.slice e1 m1 f1) (.slice e2 m2 f2) (.slice e3 m3 f3) z0 z1 n0 n1) := HO3.out.fr fq (fun k hk e => by have := hno _ e; have := HO3.out.ge k hk; omega)
        have HB7 : Hid (Below w.heap.size w u3) := HB5.out.trans (bq.mono (by omega))
        have HZ5 : Hid (u2.heap.size + 2 ≤ u3.heap.size ∧ w.heap.size + 2 ≤ u1.heap.size ∧ u1.heap.size ≤ u2.heap.size ∧ u0.heap.size ≤ u1.heap.size) := ⟨by have := fq.size; omega, hz.2⟩
        have hn1 : u2.heap.size ≠ w.heap.size := by omega
        have hn2 : u2.heap.size ≠ w.heap.size + 1 := by omega
        have hn3 : w.heap.size ≠ u2.heap.size := by omega
        have hn4 : w.heap.size + 1 ≠ u2.heap.size := by omega
        clear hfull hroom rq nq bq fq hz hno
        have HFR : Hid (∀ W, st6 (st6 u3 u2.heap.size (.slice r0 q0 t0) (.slice r1 q1 t1) l0 l1 (.slice r2 q2 t2) (.slice r3 q3 t3)) (w.heap.size + 1) (.slice e0 m0 f0) (.slice e1 m1 f1) l0 l1 (.slice e2 m2 f2) (.slice e3 m3 f3) = W → Blk W (w.heap.size + 1) (T6 (.slice e0 m0 f0) (.slice e1 m1 f1) l0 l1 (.slice e2 m2 f2) (.slice e3 m3 f3)) 33 ∧ CaP0 z0 z1 l0 l1 n0 n1 w (.returned (.tuple #[.agg (T6 (.slice e0 m0 f0) (.slice e1 m1 f1) l0 l1 (.slice e2 m2 f2) (.slice e3 m3 f3)), .bool false])) W) := by
          rintro _ rfl
          have hz := HZ5.out
          have hs0 := HS.out
          have hf1 := fr_put6 u3 u2.heap.size (.slice r0 q0 t0) (.slice r1 q1 t1) l0 l1 (.slice r2 q2 t2) (.slice r3 q3 t3)
          have hf2 := fr_put6 (st6 u3 u2.heap.size (.slice r0 q0 t0) (.slice r1 q1 t1) l0 l1 (.slice r2 q2 t2) (.slice r3 q3 t3)) (w.heap.size + 1) (.slice e0 m0 f0) (.slice e1 m1 f1) l0 l1 (.slice e2 m2 f2) (.slice e3 m3 f3)
          have hz1 := hf1.size
          have hz2 := hf2.size
          exact ⟨put6 (KR5.out.fr hf1 (fun e => by omega)) _ _ _ _ _ _, HREF.out HNL.out _ _ ⟨_, _, _, _, rfl, (((HO5.out.fr hf1 (fun k hk e => by have := HO5.out.ge k hk; omega)).fr hf2 (fun k hk e => by have := HO5.out.ge k hk; omega)).mono (by omega) (by omega)).rb, (HB7.out.trans (hf1.below (by omega) (fun j e => by omega))).trans (hf2.below (by omega) (fun j e => by omega))⟩⟩
        unfold st6 at HFR
        have x0 := KX5.out.cell 0
        have xf0 := KX5.out.frozen 0
        have x1 := KX5.out.cell 1
        have xf1 := KX5.out.frozen 1
        have x2 := KX5.out.cell 2
        have xf2 := KX5.out.frozen 2
        have x3 := KX5.out.cell 3
        have xf3 := KX5.out.frozen 3
        have x4 := KX5.out.cell 4
        have xf4 := KX5.out.frozen 4
        have x5 := KX5.out.cell 5
        have xf5 := KX5.out.frozen 5
        have xl := KX5.out.lt
        simp at x0 x1 x2 x3 x4 x5
        have p0 := KP5.out.cell 0
        have pf0 := KP5.out.frozen 0
        have p1 := KP5.out.cell 1
        have pf1 := KP5.out.frozen 1
        have p2 := KP5.out.cell 2
        have pf2 := KP5.out.frozen 2
        have p3 := KP5.out.cell 3
        have pf3 := KP5.out.frozen 3
        have p4 := KP5.out.cell 4
        have pf4 := KP5.out.frozen 4
        have p5 := KP5.out.cell 5
        have pf5 := KP5.out.frozen 5
        have pl := KP5.out.lt
        simp at p0 p1 p2 p3 p4 p5
        have y0 := KR5.out.cell 0
        have yf0 := KR5.out.frozen 0
        have y1 := KR5.out.cell 1
        have yf1 := KR5.out.frozen 1
        have y2 := KR5.out.cell 2
        have yf2 := KR5.out.frozen 2
        have y3 := KR5.out.cell 3
        have yf3 := KR5.out.frozen 3
        have y4 := KR5.out.cell 4
        have yf4 := KR5.out.frozen 4
        have y5 := KR5.out.cell 5
        have yf5 := KR5.out.frozen 5
        have yl := KR5.out.lt
        simp at y0 y1 y2 y3 y4 y5
        go_wp2
        exact bodyPost_ret (v := .tuple #[.agg (T6 (.slice e0 m0 f0) (.slice e1 m1 f1) l0 l1 (.slice e2 m2 f2) (.slice e3 m3 f3)), .bool false]) (results_T rfl _ _ _ _ _ _ _ _ _ _ rfl rfl (HFR.out _ rfl).1) rfl (HFR.out _ rfl).2
      have H60 : Hid (n1.length < 60) := h60
      obtain ⟨⟨y0, y1, y2, y3, rfl, ⟨rq, nq⟩, bq⟩, fq⟩ := hroom h60
      obtain ⟨r0, t0, hf0, -⟩ := rq.rk.r0
      obtain ⟨q0, hq0⟩ : ∃ q, (z0.set m sn).length = q := ⟨_, rfl⟩
      rw [hq0] at hf0
      obtain ⟨r1, t1, hf1, -⟩ := rq.rk.r1
      obtain ⟨q1, hq1⟩ : ∃ q, z1.length = q := ⟨_, rfl⟩
      rw [hq1] at hf1
      obtain ⟨r2, t2, hf2, -⟩ := rq.rk.r2
      obtain ⟨q2, hq2⟩ : ∃ q, ns.length = q := ⟨_, rfl⟩
      rw [hq2] at hf2
      obtain ⟨r3, t3, hf3, -⟩ := rq.rk.r3
      obtain ⟨q3, hq3⟩ : ∃ q, (n1 ++ [(bk, (m : Int))]).length = q := ⟨_, rfl⟩
      rw [hq3] at hf3
      subst hf0 hf1 hf2 hf3
      clear hq0 hq1 hq2 hq3
      have RQ : Hid (Rb u1.heap.size u3.heap.size u3 (.slice r0 q0 t0) (.slice r1 q1 t1) (.slice r2 q2 t2) (.slice r3 q3 t3) (z0.set m sn) z1 ns (n1 ++ [(bk, (m : Int))])) := rq
      have HAP : Hid (¬ InT (.slice r0 q0 t0) (.slice r1 q1 t1) (.slice r2 q2 t2) (.slice r3 q3 t3) u2.heap.size) := fun hk => by have hz := HZ3.out; rcases nq _ hk with h | h; have := PW3.out.rb.ge _ h; omega; omega
      have hz := HZ3.out
      have hno : ∀ k, (Value.slice g3 m3 h3).ownBlock = some k → u1.heap.size ≤ k ∧ k < u2.heap.size := fun k e => PW3.out.rb.ge k (.inr (.inr e))
      have KX5 : Hid (Blk u3 u2.heap.size (T6 (.slice (some ⟨rb, 0, none⟩) m0 h0) (.slice g1 m1 h1) l0 l1 (.slice ca mc cc) (.slice g3 m3 h3)) 33) := KX3.out.fr fq (fun e => by have := hno _ e; omega)
      have KP5 : Hid (Blk u3 w.heap.size (T6 (.slice e0 m0 f0) (.slice e1 m1 f1) l0 l1 (.slice e2 m2 f2) (.slice e3 m3 f3)) 33) := KP3.out.fr fq (fun e => by have := hno _ e; omega)
      have KR5 : Hid (Blk u3 (w.heap.size + 1) (T6 (.slice none 0 0) (.slice none 0 0) 0 0 (.slice none 0 0) (.slice none 0 0)) 33) := KR3.out.fr fq (fun e => by have := hno _ e; omega)
      have HO5 : Hid (Ok6 W0.heap.size u0.heap.size u3 (.slice e0 m0 f0) (.slice e1 m1 f1) (.slice e2 m2 f2) (.slice e3 m3 f3) z0 z1 n0 n1) := HO3.out.fr fq (fun k hk e => by have := hno _ e; have := HO3.out.ge k hk; omega)
      have HB7 : Hid (Below w.heap.size w u3) := HB5.out.trans (bq.mono (by omega))
      have HZ5 : Hid (u2.heap.size + 2 ≤ u3.heap.size ∧ w.heap.size + 2 ≤ u1.heap.size ∧ u1.heap.size ≤ u2.heap.size ∧ u0.heap.size ≤ u1.heap.size) := ⟨by have := fq.size; omega, hz.2⟩
      have hn1 : u2.heap.size ≠ w.heap.size := by omega
      have hn2 : u2.heap.size ≠ w.heap.size + 1 := by omega
      have hn3 : w.heap.size ≠ u2.heap.size := by omega
      have hn4 : w.heap.size + 1 ≠ u2.heap.size := by omega
      clear hfull hroom rq nq bq fq hz hno
      have HLE : Hid (l0 ≤ 1000000) := hlr2
      have hgt : ¬ (1000000 < l0) := by omega
      have HFD : Hid (∀ W, st6 (st6 u3 u2.heap.size (.slice r0 q0 t0) (.slice r1 q1 t1) l0 l1 (.slice r2 q2 t2) (.slice r3 q3 t3)) (w.heap.size + 1) (.slice r0 q0 t0) (.slice r1 q1 t1) l0 l1 (.slice r2 q2 t2) (.slice r3 q3 t3) = W → Blk W (w.heap.size + 1) (T6 (.slice r0 q0 t0) (.slice r1 q1 t1) l0 l1 (.slice r2 q2 t2) (.slice r3 q3 t3)) 33 ∧ CaP0 z0 z1 l0 l1 n0 n1 w (.returned (.tuple #[.agg (T6 (.slice r0 q0 t0) (.slice r1 q1 t1) l0 l1 (.slice r2 q2 t2) (.slice r3 q3 t3)), .bool true])) W) := by
        rintro _ rfl
        have hz := HZ5.out
        have hf1 := fr_put6 u3 u2.heap.size (.slice r0 q0 t0) (.slice r1 q1 t1) l0 l1 (.slice r2 q2 t2) (.slice r3 q3 t3)
        have hf2 := fr_put6 (st6 u3 u2.heap.size (.slice r0 q0 t0) (.slice r1 q1 t1) l0 l1 (.slice r2 q2 t2) (.slice r3 q3 t3)) (w.heap.size + 1) (.slice r0 q0 t0) (.slice r1 q1 t1) l0 l1 (.slice r2 q2 t2) (.slice r3 q3 t3)
        have hz1 := hf1.size
        have hz2 := hf2.size
        exact ⟨put6 (KR5.out.fr hf1 (fun e => by omega)) _ _ _ _ _ _, HDONE.out HLE.out H60.out _ _ ⟨_, _, _, _, rfl, ((RQ.out.fr (Nat.le_refl _) hf1 (fun k hk e => HAP.out (e ▸ hk))).fr hz1 hf2 (fun k hk e => by have := RQ.out.ge k hk; omega)).mono (by omega) (by omega), (HB7.out.trans (hf1.below (by omega) (fun j e => by omega))).trans (hf2.below (by omega) (fun j e => by omega))⟩⟩
      unfold st6 at HFD
      have x0 := KX5.out.cell 0
      have xf0 := KX5.out.frozen 0
      have x1 := KX5.out.cell 1
      have xf1 := KX5.out.frozen 1
      have x2 := KX5.out.cell 2
      have xf2 := KX5.out.frozen 2
      have x3 := KX5.out.cell 3
      have xf3 := KX5.out.frozen 3
      have x4 := KX5.out.cell 4
      have xf4 := KX5.out.frozen 4
      have x5 := KX5.out.cell 5
      have xf5 := KX5.out.frozen 5
      have xl := KX5.out.lt
      simp at x0 x1 x2 x3 x4 x5
      have y0 := KR5.out.cell 0
      have yf0 := KR5.out.frozen 0
      have y1 := KR5.out.cell 1
      have yf1 := KR5.out.frozen 1
      have y2 := KR5.out.cell 2
      have yf2 := KR5.out.frozen 2
      have y3 := KR5.out.cell 3
      have yf3 := KR5.out.frozen 3
      have y4 := KR5.out.cell 4
      have yf4 := KR5.out.frozen 4
      have y5 := KR5.out.cell 5
      have yf5 := KR5.out.frozen 5
      have yl := KR5.out.lt
      simp at y0 y1 y2 y3 y4 y5
      go_wp2
      exact bodyPost_ret (v := .tuple #[.agg (T6 (.slice r0 q0 t0) (.slice r1 q1 t1) l0 l1 (.slice r2 q2 t2) (.slice r3 q3 t3)), .bool true]) (results_T rfl _ _ _ _ _ _ _ _ _ _ rfl rfl (HFD.out _ rfl).1) rfl (HFD.out _ rfl).2
    · subst hlo
      obtain ⟨V4, hV4⟩ : ∃ V, V3.setCell ⟨u2.heap.size, 2, none⟩ (.int .i64 (l0 + 1)) = V := ⟨_, rfl⟩
      have fq : Fr (fun k => k = u2.heap.size) V3 V4 := by rw [← hV4]; exact Fr.ofGrown (grown_set _ _ _ _) (fun k e => (Option.some.inj e).symm)
      have hz3 := HZ3.out
      have KX4 : Hid (Blk V4 u2.heap.size (T6 (.slice (some ⟨rb, 0, none⟩) m0 h0) (.slice g1 m1 h1) (l0 + 1) l1 (.slice ca mc cc) (.slice g3 m3 h3)) 33) := by rw [← hV4]; exact KX3.out.set 2 _
      have PW4 : Hid (Pw1 u1.heap.size u2.heap.size V4 (.slice (some ⟨rb, 0, none⟩) m0 h0) (.slice g1 m1 h1) (.slice ca mc cc) (.slice g3 m3 h3) (z0.set m sn) z1 ns n1) := PW3.out.fr (by omega) fq (fun k hk e => by have := PW3.out.rb.ge k hk; omega)
      have KN4 : Hid (Blk V4 (u2.heap.size + 1) (H2 kd (m : Int)) 68) := KN3.out.fr fq (by omega)
      have KP4 : Hid (Blk V4 w.heap.size (T6 (.slice e0 m0 f0) (.slice e1 m1 f1) l0 l1 (.slice e2 m2 f2) (.slice e3 m3 f3)) 33) := KP3.out.fr fq (by omega)
      have KR4 : Hid (Blk V4 (w.heap.size + 1) (T6 (.slice none 0 0) (.slice none 0 0) 0 0 (.slice none 0 0) (.slice none 0 0)) 33) := KR3.out.fr fq (by omega)
      have HO4 : Hid (Ok6 W0.heap.size u0.heap.size V4 (.slice e0 m0 f0) (.slice e1 m1 f1) (.slice e2 m2 f2) (.slice e3 m3 f3) z0 z1 n0 n1) := HO3.out.fr fq (fun k hk e => by have := HO3.out.ge k hk; omega)
      have HB6 : Hid (Below w.heap.size w V4) := HB5.out.trans (fq.below (by have := HB5.out.size; omega) (fun k e => by omega))
      have HZ4 : Hid (u2.heap.size + 2 ≤ V4.heap.size ∧ w.heap.size + 2 ≤ u1.heap.size ∧ u1.heap.size ≤ u2.heap.size ∧ u0.heap.size ≤ u1.heap.size) := ⟨by have := fq.size; omega, hz3.2⟩
      have xk := KX3.out.cell 2
      have xkf := KX3.out.frozen 2
      simp at xk
      clear fq hz3
      have HLR' := HLR.out
      have hlr1 : 0 ≤ l0 := HLR'.1
      have hlr2 : l0 ≤ 1000000 := HLR'.2
      clear HLR'
      by_cases hbk : 0 < bk
      case neg =>
        have hbk0 : bk = 0 := by have := HBK.out; omega
        subst hbk0
        clear hbk
        simp only [reduceIte, List.append_nil] at HDONE
        by_cases hle : l0 + 1 ≤ 1000000
        case neg =>
          have HNL : Hid (¬ (l0 + 1 ≤ 1000000 ∧ ((0 : Int) = 0 ∨ n1.length < 60))) := fun h => hle h.1
          have hgt : 1000000 < l0 + 1 := by omega
          clear hle
          have HFR : Hid (∀ W, st6 V4 (w.heap.size + 1) (.slice e0 m0 f0) (.slice e1 m1 f1) l0 l1 (.slice e2 m2 f2) (.slice e3 m3 f3) = W → Blk W (w.heap.size + 1) (T6 (.slice e0 m0 f0) (.slice e1 m1 f1) l0 l1 (.slice e2 m2 f2) (.slice e3 m3 f3)) 33 ∧ CaP0 z0 z1 l0 l1 n0 n1 w (.returned (.tuple #[.agg (T6 (.slice e0 m0 f0) (.slice e1 m1 f1) l0 l1 (.slice e2 m2 f2) (.slice e3 m3 f3)), .bool false])) W) := by
            rintro _ rfl
            have hz := HZ4.out
            have hs0 := HS.out
            have hfr := fr_put6 V4 (w.heap.size + 1) (.slice e0 m0 f0) (.slice e1 m1 f1) l0 l1 (.slice e2 m2 f2) (.slice e3 m3 f3)
            have hzz := hfr.size
            exact ⟨put6 KR4.out _ _ _ _ _ _, HREF.out HNL.out _ _ ⟨_, _, _, _, rfl, ((HO4.out.fr hfr (fun k hk e => by have := HO4.out.ge k hk; omega)).mono (by omega) (by omega)).rb, HB6.out.trans (hfr.below (by omega) (fun j e => by omega))⟩⟩
          unfold st6 at HFR
          have x0 := KX4.out.cell 0
          have xf0 := KX4.out.frozen 0
          have x1 := KX4.out.cell 1
          have xf1 := KX4.out.frozen 1
          have x2 := KX4.out.cell 2
          have xf2 := KX4.out.frozen 2
          have x3 := KX4.out.cell 3
          have xf3 := KX4.out.frozen 3
          have x4 := KX4.out.cell 4
          have xf4 := KX4.out.frozen 4
          have x5 := KX4.out.cell 5
          have xf5 := KX4.out.frozen 5
          have xl := KX4.out.lt
          simp at x0 x1 x2 x3 x4 x5
          have p0 := KP4.out.cell 0
          have pf0 := KP4.out.frozen 0
          have p1 := KP4.out.cell 1
          have pf1 := KP4.out.frozen 1
          have p2 := KP4.out.cell 2
          have pf2 := KP4.out.frozen 2
          have p3 := KP4.out.cell 3
          have pf3 := KP4.out.frozen 3
          have p4 := KP4.out.cell 4
          have pf4 := KP4.out.frozen 4
          have p5 := KP4.out.cell 5
          have pf5 := KP4.out.frozen 5
          have pl := KP4.out.lt
          simp at p0 p1 p2 p3 p4 p5
          have y0 := KR4.out.cell 0
          have yf0 := KR4.out.frozen 0
          have y1 := KR4.out.cell 1
          have yf1 := KR4.out.frozen 1
          have y2 := KR4.out.cell 2
          have yf2 := KR4.out.frozen 2
          have y3 := KR4.out.cell 3
          have yf3 := KR4.out.frozen 3
          have y4 := KR4.out.cell 4
          have yf4 := KR4.out.frozen 4
          have y5 := KR4.out.cell 5
          have yf5 := KR4.out.frozen 5
          have yl := KR4.out.lt
          simp at y0 y1 y2 y3 y4 y5
          go_wp2
          exact bodyPost_ret (v := .tuple #[.agg (T6 (.slice e0 m0 f0) (.slice e1 m1 f1) l0 l1 (.slice e2 m2 f2) (.slice e3 m3 f3)), .bool false]) (results_T rfl _ _ _ _ _ _ _ _ _ _ rfl rfl (HFR.out _ rfl).1) rfl (HFR.out _ rfl).2
        have HLE : Hid (l0 + 1 ≤ 1000000) := hle
        have hgt : ¬ (1000000 < l0 + 1) := by omega
        clear hle
        have HFD : Hid (∀ W, st6 V4 (w.heap.size + 1) (.slice (some ⟨rb, 0, none⟩) m0 h0) (.slice g1 m1 h1) (l0 + 1) l1 (.slice ca mc cc) (.slice g3 m3 h3) = W → Blk W (w.heap.size + 1) (T6 (.slice (some ⟨rb, 0, none⟩) m0 h0) (.slice g1 m1 h1) (l0 + 1) l1 (.slice ca mc cc) (.slice g3 m3 h3)) 33 ∧ CaP0 z0 z1 l0 l1 n0 n1 w (.returned (.tuple #[.agg (T6 (.slice (some ⟨rb, 0, none⟩) m0 h0) (.slice g1 m1 h1) (l0 + 1) l1 (.slice ca mc cc) (.slice g3 m3 h3)), .bool true])) W) := by
          rintro _ rfl
          have hz := HZ4.out
          have hfr := fr_put6 V4 (w.heap.size + 1) (.slice (some ⟨rb, 0, none⟩) m0 h0) (.slice g1 m1 h1) (l0 + 1) l1 (.slice ca mc cc) (.slice g3 m3 h3)
          have hzz := hfr.size
          exact ⟨put6 KR4.out _ _ _ _ _ _, HDONE.out HLE.out (.inl trivial) _ _ ⟨_, _, _, _, rfl, (PW4.out.rb.fr (by omega) hfr (fun k hk e => by have := PW4.out.rb.ge k hk; omega)).mono (by omega) (by omega), HB6.out.trans (hfr.below (by omega) (fun j e => by omega))⟩⟩
        unfold st6 at HFD
        have x0 := KX4.out.cell 0
        have xf0 := KX4.out.frozen 0
        have x1 := KX4.out.cell 1
        have xf1 := KX4.out.frozen 1
        have x2 := KX4.out.cell 2
        have xf2 := KX4.out.frozen 2
        have x3 := KX4.out.cell 3
        have xf3 := KX4.out.frozen 3
        have x4 := KX4.out.cell 4
        have xf4 := KX4.out.frozen 4
        have x5 := KX4.out.cell 5
        have xf5 := KX4.out.frozen 5
        have xl := KX4.out.lt
        simp at x0 x1 x2 x3 x4 x5
        have y0 := KR4.out.cell 0
        have yf0 := KR4.out.frozen 0
        have y1 := KR4.out.cell 1
        have yf1 := KR4.out.frozen 1
        have y2 := KR4.out.cell 2
        have yf2 := KR4.out.frozen 2
        have y3 := KR4.out.cell 3
        have yf3 := KR4.out.frozen 3
        have y4 := KR4.out.cell 4
        have yf4 := KR4.out.frozen 4
        have y5 := KR4.out.cell 5
        have yf5 := KR4.out.frozen 5
        have yl := KR4.out.lt
        simp at y0 y1 y2 y3 y4 y5
        go_wp2
        exact bodyPost_ret (v := .tuple #[.agg (T6 (.slice (some ⟨rb, 0, none⟩) m0 h0) (.slice g1 m1 h1) (l0 + 1) l1 (.slice ca mc cc) (.slice g3 m3 h3)), .bool true]) (results_T rfl _ _ _ _ _ _ _ _ _ _ rfl rfl (HFD.out _ rfl).1) rfl (HFD.out _ rfl).2
      have hb0 : ¬ bk = 0 := by omega
      simp only [hb0, if_false, false_or] at HDONE HREF
      clear hb0
      have HN60 : Hid (n1.length ≤ 60) := G.out.2.2.2.2.2.1
      have x0 := KX4.out.cell 0
      have xf0 := KX4.out.frozen 0
      have x1 := KX4.out.cell 1
      have xf1 := KX4.out.frozen 1
      have x2 := KX4.out.cell 2
      have xf2 := KX4.out.frozen 2
      have x3 := KX4.out.cell 3
      have xf3 := KX4.out.frozen 3
      have x4 := KX4.out.cell 4
      have xf4 := KX4.out.frozen 4
      have x5 := KX4.out.cell 5
      have xf5 := KX4.out.frozen 5
      have xl := KX4.out.lt
      simp at x0 x1 x2 x3 x4 x5
      have kn1 := KN4.out.cell 1
      have knl := KN4.out.lt
      simp at kn1
      go_wp2_with (fail)
      refine (putR1_c u1.heap.size _ _ _ _ (l0 + 1) l1 (z0.set m sn) z1 ns n1 bk (m : Int) V4 ⟨PW4.out.rb.mono (Nat.le_refl _) (by have := HZ4.out; omega), PW4.out.own, PW4.out.ap⟩ (by have := HZ4.out; omega) HN60.out).mono ?_
      rintro e u3 ⟨hfull, hroom⟩
      clear x0 xf0 x1 xf1 x2 xf2 x3 xf3 x4 xf4 x5 xf5 xl kn1 knl xk xkf hV4 hV3 hczd hfzd q0 q2 ne
      by_cases h60 : n1.length < 60
      case neg =>
        have HNL : Hid (¬ (l0 + 1 ≤ 1000000 ∧ n1.length < 60)) := fun h => h60 h.2
        obtain ⟨⟨y0, y1, y2, y3, rfl, ⟨rq, nq⟩, bq⟩, fq⟩ := hfull (by have := HN60.out; omega)
        obtain ⟨r0, t0, hf0, -⟩ := rq.rk.r0
        obtain ⟨q0, hq0⟩ : ∃ q, (z0.set m sn).length = q := ⟨_, rfl⟩
        rw [hq0] at hf0
        obtain ⟨r1, t1, hf1, -⟩ := rq.rk.r1
        obtain ⟨q1, hq1⟩ : ∃ q, z1.length = q := ⟨_, rfl⟩
        rw [hq1] at hf1
        obtain ⟨r2, t2, hf2, -⟩ := rq.rk.r2
        obtain ⟨q2, hq2⟩ : ∃ q, ns.length = q := ⟨_, rfl⟩
        rw [hq2] at hf2
        obtain ⟨r3, t3, hf3, -⟩ := rq.rk.r3
        obtain ⟨q3, hq3⟩ : ∃ q, n1.length = q := ⟨_, rfl⟩
        rw [hq3] at hf3
        subst hf0 hf1 hf2 hf3
        clear hq0 hq1 hq2 hq3
        have RQ : Hid (Rb u1.heap.size u3.heap.size u3 (.slice r0 q0 t0) (.slice r1 q1 t1) (.slice r2 q2 t2) (.slice r3 q3 t3) (z0.set m sn) z1 ns n1) := rq
        have HAP : Hid (¬ InT (.slice r0 q0 t0) (.slice r1 q1 t1) (.slice r2 q2 t2) (.slice r3 q3 t3) u2.heap.size) := fun hk => by have hz := HZ4.out; rcases nq _ hk with h | h; have := PW4.out.rb.ge _ h; omega; omega
        have hz := HZ4.out
        have hno : ∀ k, (Value.slice g3 m3 h3).ownBlock = some k → u1.heap.size ≤ k ∧ k < u2.heap.size := fun k e => PW4.out.rb.ge k (.inr (.inr e))
        have KX5 : Hid (Blk u3 u2.heap.size (T6 (.slice (some ⟨rb, 0, none⟩) m0 h0) (.slice g1 m1 h1) (l0 + 1) l1 (.slice ca mc cc) (.slice g3 m3 h3)) 33) := KX4.out.fr fq (fun e => by have := hno _ e; omega)
        have KP5 : Hid (Blk u3 w.heap.size (T6 (.slice e0 m0 f0) (.slice e1 m1 f1) l0 l1 (.slice e2 m2 f2) (.slice e3 m3 f3)) 33) := KP4.out.fr fq (fun e => by have := hno _ e; omega)
        have KR5 : Hid (Blk u3 (w.heap.size + 1) (T6 (.slice none 0 0) (.slice none 0 0) 0 0 (.slice none 0 0) (.slice none 0 0)) 33) := KR4.out.fr fq (fun e => by have := hno _ e; omega)
        have HO5 : Hid (Ok6 W0.heap.size u0.heap.size u3 (.slice e0 m0 f0) (.slice e1 m1 f1) (.slice e2 m2 f2) (.slice e3 m3 f3) z0 z1 n0 n1) := HO4.out.fr fq (fun k hk e => by have := hno _ e; have := HO4.out.ge k hk; omega)
        have HB7 : Hid (Below w.heap.size w u3) := HB6.out.trans (bq.mono (by omega))
        have HZ5 : Hid (u2.heap.size + 2 ≤ u3.heap.size ∧ w.heap.size + 2 ≤ u1.heap.size ∧ u1.heap.size ≤ u2.heap.size ∧ u0.heap.size ≤ u1.heap.size) := ⟨by have := fq.size; omega, hz.2⟩
        have hn1 : u2.heap.size ≠ w.heap.size := by omega
        have hn2 : u2.heap.size ≠ w.heap.size + 1 := by omega
        have hn3 : w.heap.size ≠ u2.heap.size := by omega
        have hn4 : w.heap.size + 1 ≠ u2.heap.size := by omega
        clear hfull hroom rq nq bq fq hz hno
        have HFR : Hid (∀ W, st6 (st6 u3 u2.heap.size (.slice r0 q0 t0) (.slice r1 q1 t1) (l0 + 1) l1 (.slice r2 q2 t2) (.slice r3 q3 t3)) (w.heap.size + 1) (.slice e0 m0 f0) (.slice e1 m1 f1) l0 l1 (.slice e2 m2 f2) (.slice e3 m3 f3) = W → Blk W (w.heap.size + 1) (T6 (.slice e0 m0 f0) (.slice e1 m1 f1) l0 l1 (.slice e2 m2 f2) (.slice e3 m3 f3)) 33 ∧ CaP0 z0 z1 l0 l1 n0 n1 w (.returned (.tuple #[.agg (T6 (.slice e0 m0 f0) (.slice e1 m1 f1) l0 l1 (.slice e2 m2 f2) (.slice e3 m3 f3)), .bool false])) W) := by
          rintro _ rfl
          have hz := HZ5.out
          have hs0 := HS.out
          have hf1 := fr_put6 u3 u2.heap.size (.slice r0 q0 t0) (.slice r1 q1 t1) (l0 + 1) l1 (.slice r2 q2 t2) (.slice r3 q3 t3)
          have hf2 := fr_put6 (st6 u3 u2.heap.size (.slice r0 q0 t0) (.slice r1 q1 t1) (l0 + 1) l1 (.slice r2 q2 t2) (.slice r3 q3 t3)) (w.heap.size + 1) (.slice e0 m0 f0) (.slice e1 m1 f1) l0 l1 (.slice e2 m2 f2) (.slice e3 m3 f3)
          have hz1 := hf1.size
          have hz2 := hf2.size
          exact ⟨put6 (KR5.out.fr hf1 (fun e => by omega)) _ _ _ _ _ _, HREF.out HNL.out _ _ ⟨_, _, _, _, rfl, (((HO5.out.fr hf1 (fun k hk e => by have := HO5.out.ge k hk; omega)).fr hf2 (fun k hk e => by have := HO5.out.ge k hk; omega)).mono (by omega) (by omega)).rb, (HB7.out.trans (hf1.below (by omega) (fun j e => by omega))).trans (hf2.below (by omega) (fun j e => by omega))⟩⟩
        unfold st6 at HFR
        have x0 := KX5.out.cell 0
        have xf0 := KX5.out.frozen 0
        have x1 := KX5.out.cell 1
        have xf1 := KX5.out.frozen 1
        have x2 := KX5.out.cell 2
        have xf2 := KX5.out.frozen 2
        have x3 := KX5.out.cell 3
        have xf3 := KX5.out.frozen 3
        have x4 := KX5.out.cell 4
        have xf4 := KX5.out.frozen 4
        have x5 := KX5.out.cell 5
        have xf5 := KX5.out.frozen 5
        have xl := KX5.out.lt
        simp at x0 x1 x2 x3 x4 x5
        have p0 := KP5.out.cell 0
        have pf0 := KP5.out.frozen 0
        have p1 := KP5.out.cell 1
        have pf1 := KP5.out.frozen 1
        have p2 := KP5.out.cell 2
        have pf2 := KP5.out.frozen 2
        have p3 := KP5.out.cell 3
        have pf3 := KP5.out.frozen 3
        have p4 := KP5.out.cell 4
        have pf4 := KP5.out.frozen 4
        have p5 := KP5.out.cell 5
        have pf5 := KP5.out.frozen 5
        have pl := KP5.out.lt
        simp at p0 p1 p2 p3 p4 p5
        have y0 := KR5.out.cell 0
        have yf0 := KR5.out.frozen 0
        have y1 := KR5.out.cell 1
        have yf1 := KR5.out.frozen 1
        have y2 := KR5.out.cell 2
        have yf2 := KR5.out.frozen 2
        have y3 := KR5.out.cell 3
        have yf3 := KR5.out.frozen 3
        have y4 := KR5.out.cell 4
        have yf4 := KR5.out.frozen 4
        have y5 := KR5.out.cell 5
        have yf5 := KR5.out.frozen 5
        have yl := KR5.out.lt
        simp at y0 y1 y2 y3 y4 y5
        go_wp2
        exact bodyPost_ret (v := .tuple #[.agg (T6 (.slice e0 m0 f0) (.slice e1 m1 f1) l0 l1 (.slice e2 m2 f2) (.slice e3 m3 f3)), .bool false]) (results_T rfl _ _ _ _ _ _ _ _ _ _ rfl rfl (HFR.out _ rfl).1) rfl (HFR.out _ rfl).2
      have H60 : Hid (n1.length < 60) := h60
      obtain ⟨⟨y0, y1, y2, y3, rfl, ⟨rq, nq⟩, bq⟩, fq⟩ := hroom h60
      obtain ⟨r0, t0, hf0, -⟩ := rq.rk.r0
      obtain ⟨q0, hq0⟩ : ∃ q, (z0.set m sn).length = q := ⟨_, rfl⟩
      rw [hq0] at hf0
      obtain ⟨r1, t1, hf1, -⟩ := rq.rk.r1
      obtain ⟨q1, hq1⟩ : ∃ q, z1.length = q := ⟨_, rfl⟩
      rw [hq1] at hf1
      obtain ⟨r2, t2, hf2, -⟩ := rq.rk.r2
      obtain ⟨q2, hq2⟩ : ∃ q, ns.length = q := ⟨_, rfl⟩
      rw [hq2] at hf2
      obtain ⟨r3, t3, hf3, -⟩ := rq.rk.r3
      obtain ⟨q3, hq3⟩ : ∃ q, (n1 ++ [(bk, (m : Int))]).length = q := ⟨_, rfl⟩
      rw [hq3] at hf3
      subst hf0 hf1 hf2 hf3
      clear hq0 hq1 hq2 hq3
      have RQ : Hid (Rb u1.heap.size u3.heap.size u3 (.slice r0 q0 t0) (.slice r1 q1 t1) (.slice r2 q2 t2) (.slice r3 q3 t3) (z0.set m sn) z1 ns (n1 ++ [(bk, (m : Int))])) := rq
      have HAP : Hid (¬ InT (.slice r0 q0 t0) (.slice r1 q1 t1) (.slice r2 q2 t2) (.slice r3 q3 t3) u2.heap.size) := fun hk => by have hz := HZ4.out; rcases nq _ hk with h | h; have := PW4.out.rb.ge _ h; omega; omega
      have hz := HZ4.out
      have hno : ∀ k, (Value.slice g3 m3 h3).ownBlock = some k → u1.heap.size ≤ k ∧ k < u2.heap.size := fun k e => PW4.out.rb.ge k (.inr (.inr e))
      have KX5 : Hid (Blk u3 u2.heap.size (T6 (.slice (some ⟨rb, 0, none⟩) m0 h0) (.slice g1 m1 h1) (l0 + 1) l1 (.slice ca mc cc) (.slice g3 m3 h3)) 33) := KX4.out.fr fq (fun e => by have := hno _ e; omega)
      have KP5 : Hid (Blk u3 w.heap.size (T6 (.slice e0 m0 f0) (.slice e1 m1 f1) l0 l1 (.slice e2 m2 f2) (.slice e3 m3 f3)) 33) := KP4.out.fr fq (fun e => by have := hno _ e; omega)
      have KR5 : Hid (Blk u3 (w.heap.size + 1) (T6 (.slice none 0 0) (.slice none 0 0) 0 0 (.slice none 0 0) (.slice none 0 0)) 33) := KR4.out.fr fq (fun e => by have := hno _ e; omega)
      have HO5 : Hid (Ok6 W0.heap.size u0.heap.size u3 (.slice e0 m0 f0) (.slice e1 m1 f1) (.slice e2 m2 f2) (.slice e3 m3 f3) z0 z1 n0 n1) := HO4.out.fr fq (fun k hk e => by have := hno _ e; have := HO4.out.ge k hk; omega)
      have HB7 : Hid (Below w.heap.size w u3) := HB6.out.trans (bq.mono (by omega))
      have HZ5 : Hid (u2.heap.size + 2 ≤ u3.heap.size ∧ w.heap.size + 2 ≤ u1.heap.size ∧ u1.heap.size ≤ u2.heap.size ∧ u0.heap.size ≤ u1.heap.size) := ⟨by have := fq.size; omega, hz.2⟩
      have hn1 : u2.heap.size ≠ w.heap.size := by omega
      have hn2 : u2.heap.size ≠ w.heap.size + 1 := by omega
      have hn3 : w.heap.size ≠ u2.heap.size := by omega
      have hn4 : w.heap.size + 1 ≠ u2.heap.size := by omega
      clear hfull hroom rq nq bq fq hz hno
      by_cases hle : l0 + 1 ≤ 1000000
      case neg =>
        have HNL : Hid (¬ (l0 + 1 ≤ 1000000 ∧ n1.length < 60)) := fun h => hle h.1
        have hgt : 1000000 < l0 + 1 := by omega
        clear hle
        have HFR : Hid (∀ W, st6 (st6 u3 u2.heap.size (.slice r0 q0 t0) (.slice r1 q1 t1) (l0 + 1) l1 (.slice r2 q2 t2) (.slice r3 q3 t3)) (w.heap.size + 1) (.slice e0 m0 f0) (.slice e1 m1 f1) l0 l1 (.slice e2 m2 f2) (.slice e3 m3 f3) = W → Blk W (w.heap.size + 1) (T6 (.slice e0 m0 f0) (.slice e1 m1 f1) l0 l1 (.slice e2 m2 f2) (.slice e3 m3 f3)) 33 ∧ CaP0 z0 z1 l0 l1 n0 n1 w (.returned (.tuple #[.agg (T6 (.slice e0 m0 f0) (.slice e1 m1 f1) l0 l1 (.slice e2 m2 f2) (.slice e3 m3 f3)), .bool false])) W) := by
          rintro _ rfl
          have hz := HZ5.out
          have hs0 := HS.out
          have hf1 := fr_put6 u3 u2.heap.size (.slice r0 q0 t0) (.slice r1 q1 t1) (l0 + 1) l1 (.slice r2 q2 t2) (.slice r3 q3 t3)
          have hf2 := fr_put6 (st6 u3 u2.heap.size (.slice r0 q0 t0) (.slice r1 q1 t1) (l0 + 1) l1 (.slice r2 q2 t2) (.slice r3 q3 t3)) (w.heap.size + 1) (.slice e0 m0 f0) (.slice e1 m1 f1) l0 l1 (.slice e2 m2 f2) (.slice e3 m3 f3)
          have hz1 := hf1.size
          have hz2 := hf2.size
          exact ⟨put6 (KR5.out.fr hf1 (fun e => by omega)) _ _ _ _ _ _, HREF.out HNL.out _ _ ⟨_, _, _, _, rfl, (((HO5.out.fr hf1 (fun k hk e => by have := HO5.out.ge k hk; omega)).fr hf2 (fun k hk e => by have := HO5.out.ge k hk; omega)).mono (by omega) (by omega)).rb, (HB7.out.trans (hf1.below (by omega) (fun j e => by omega))).trans (hf2.below (by omega) (fun j e => by omega))⟩⟩
        unfold st6 at HFR
        have x0 := KX5.out.cell 0
        have xf0 := KX5.out.frozen 0
        have x1 := KX5.out.cell 1
        have xf1 := KX5.out.frozen 1
        have x2 := KX5.out.cell 2
        have xf2 := KX5.out.frozen 2
        have x3 := KX5.out.cell 3
        have xf3 := KX5.out.frozen 3
        have x4 := KX5.out.cell 4
        have xf4 := KX5.out.frozen 4
        have x5 := KX5.out.cell 5
        have xf5 := KX5.out.frozen 5
        have xl := KX5.out.lt
        simp at x0 x1 x2 x3 x4 x5
        have p0 := KP5.out.cell 0
        have pf0 := KP5.out.frozen 0
        have p1 := KP5.out.cell 1
        have pf1 := KP5.out.frozen 1
        have p2 := KP5.out.cell 2
        have pf2 := KP5.out.frozen 2
        have p3 := KP5.out.cell 3
        have pf3 := KP5.out.frozen 3
        have p4 := KP5.out.cell 4
        have pf4 := KP5.out.frozen 4
        have p5 := KP5.out.cell 5
        have pf5 := KP5.out.frozen 5
        have pl := KP5.out.lt
        simp at p0 p1 p2 p3 p4 p5
        have y0 := KR5.out.cell 0
        have yf0 := KR5.out.frozen 0
        have y1 := KR5.out.cell 1
        have yf1 := KR5.out.frozen 1
        have y2 := KR5.out.cell 2
        have yf2 := KR5.out.frozen 2
        have y3 := KR5.out.cell 3
        have yf3 := KR5.out.frozen 3
        have y4 := KR5.out.cell 4
        have yf4 := KR5.out.frozen 4
        have y5 := KR5.out.cell 5
        have yf5 := KR5.out.frozen 5
        have yl := KR5.out.lt
        simp at y0 y1 y2 y3 y4 y5
        go_wp2
        exact bodyPost_ret (v := .tuple #[.agg (T6 (.slice e0 m0 f0) (.slice e1 m1 f1) l0 l1 (.slice e2 m2 f2) (.slice e3 m3 f3)), .bool false]) (results_T rfl _ _ _ _ _ _ _ _ _ _ rfl rfl (HFR.out _ rfl).1) rfl (HFR.out _ rfl).2
      have HLE : Hid (l0 + 1 ≤ 1000000) := hle
      have hgt : ¬ (1000000 < l0 + 1) := by omega
      clear hle
      have HFD : Hid (∀ W, st6 (st6 u3 u2.heap.size (.slice r0 q0 t0) (.slice r1 q1 t1) (l0 + 1) l1 (.slice r2 q2 t2) (.slice r3 q3 t3)) (w.heap.size + 1) (.slice r0 q0 t0) (.slice r1 q1 t1) (l0 + 1) l1 (.slice r2 q2 t2) (.slice r3 q3 t3) = W → Blk W (w.heap.size + 1) (T6 (.slice r0 q0 t0) (.slice r1 q1 t1) (l0 + 1) l1 (.slice r2 q2 t2) (.slice r3 q3 t3)) 33 ∧ CaP0 z0 z1 l0 l1 n0 n1 w (.returned (.tuple #[.agg (T6 (.slice r0 q0 t0) (.slice r1 q1 t1) (l0 + 1) l1 (.slice r2 q2 t2) (.slice r3 q3 t3)), .bool true])) W) := by
        rintro _ rfl
        have hz := HZ5.out
        have hf1 := fr_put6 u3 u2.heap.size (.slice r0 q0 t0) (.slice r1 q1 t1) (l0 + 1) l1 (.slice r2 q2 t2) (.slice r3 q3 t3)
        have hf2 := fr_put6 (st6 u3 u2.heap.size (.slice r0 q0 t0) (.slice r1 q1 t1) (l0 + 1) l1 (.slice r2 q2 t2) (.slice r3 q3 t3)) (w.heap.size + 1) (.slice r0 q0 t0) (.slice r1 q1 t1) (l0 + 1) l1 (.slice r2 q2 t2) (.slice r3 q3 t3)
        have hz1 := hf1.size
        have hz2 := hf2.size
        exact ⟨put6 (KR5.out.fr hf1 (fun e => by omega)) _ _ _ _ _ _, HDONE.out HLE.out H60.out _ _ ⟨_, _, _, _, rfl, ((RQ.out.fr (Nat.le_refl _) hf1 (fun k hk e => HAP.out (e ▸ hk))).fr hz1 hf2 (fun k hk e => by have := RQ.out.ge k hk; omega)).mono (by omega) (by omega), (HB7.out.trans (hf1.below (by omega) (fun j e => by omega))).trans (hf2.below (by omega) (fun j e => by omega))⟩⟩
      unfold st6 at HFD
      have x0 := KX5.out.cell 0
      have xf0 := KX5.out.frozen 0
      have x1 := KX5.out.cell 1
      have xf1 := KX5.out.frozen 1
      have x2 := KX5.out.cell 2
      have xf2 := KX5.out.frozen 2
      have x3 := KX5.out.cell 3
      have xf3 := KX5.out.frozen 3
      have x4 := KX5.out.cell 4
      have xf4 := KX5.out.frozen 4
      have x5 := KX5.out.cell 5
      have xf5 := KX5.out.frozen 5
      have xl := KX5.out.lt
      simp at x0 x1 x2 x3 x4 x5
      have y0 := KR5.out.cell 0
      have yf0 := KR5.out.frozen 0
      have y1 := KR5.out.cell 1
      have yf1 := KR5.out.frozen 1
      have y2 := KR5.out.cell 2
      have yf2 := KR5.out.frozen 2
      have y3 := KR5.out.cell 3
      have yf3 := KR5.out.frozen 3
      have y4 := KR5.out.cell 4
      have yf4 := KR5.out.frozen 4
      have y5 := KR5.out.cell 5
      have yf5 := KR5.out.frozen 5
      have yl := KR5.out.lt
      simp at y0 y1 y2 y3 y4 y5
      go_wp2
      exact bodyPost_ret (v := .tuple #[.agg (T6 (.slice r0 q0 t0) (.slice r1 q1 t1) (l0 + 1) l1 (.slice r2 q2 t2) (.slice r3 q3 t3)), .bool true]) (results_T rfl _ _ _ _ _ _ _ _ _ _ rfl rfl (HFD.out _ rfl).1) rfl (HFD.out _ rfl).2
    )
set_option maxHeartbeats 12800000 in
theorem carryM1_c (c0 c1 w0 w1 : Value) (l0 l1 : Int) (z0 z1 : List Int) (n0 n1 : Mvs) (w : World) (h : Rk w c0 c1 w0 w1 z0 z1 n0 n1) (hl : (z0.length : Int) + z1.length + (n0.length + n1.length) ≤ 1048576) :
    Calls Try.prog 19 #[.agg (T6 c0 c1 l0 l1 w0 w1), .int .i64 1] w (CaP1 z0 z1 l0 l1 n0 n1 w) := by
  obtain ⟨W0, hW0⟩ : ∃ W0, (w.alloc (Obj.cells (T6 c0 c1 l0 l1 w0 w1) 33)).alloc (Obj.cells (T6 (.slice none 0 0) (.slice none 0 0) 0 0 (.slice none 0 0) (.slice none 0 0)) 33) = W0 := ⟨_, rfl⟩
  have HS : Hid (W0.heap.size = w.heap.size + 2) := by rw [← hW0]; simp [Hid]
  have HB0 : Hid (Below w.heap.size w W0) := by rw [← hW0]; exact ((Below.refl _ _).alloc (Nat.le_refl _) _).alloc (by simp) _
  have KP0 : Hid (Blk W0 w.heap.size (T6 c0 c1 l0 l1 w0 w1) 33) := by rw [← hW0]; exact (Blk.new _ _ _).alloc _
  have KR0 : Hid (Blk W0 (w.heap.size + 1) (T6 (.slice none 0 0) (.slice none 0 0) 0 0 (.slice none 0 0) (.slice none 0 0)) 33) := by rw [← hW0]; exact Blk.newAt _ (w.heap.size + 1) _ 33 (by simp)
  have HR : Hid (Rk w c0 c1 w0 w1 z0 z1 n0 n1) := h
  have HL : Hid ((z0.length : Int) + z1.length + (n0.length + n1.length) ≤ 1048576) := hl
  obtain ⟨a0, p0, hv0, -⟩ := h.r0
  obtain ⟨a1, p1, hv1, -⟩ := h.r1
  obtain ⟨a2, p2, hv2, -⟩ := h.r2
  obtain ⟨a3, p3, hv3, -⟩ := h.r3
  obtain ⟨m0, hm0⟩ : ∃ m, z0.length = m := ⟨_, rfl⟩
  obtain ⟨m1, hm1⟩ : ∃ m, z1.length = m := ⟨_, rfl⟩
  obtain ⟨m2, hm2⟩ : ∃ m, n0.length = m := ⟨_, rfl⟩
  obtain ⟨m3, hm3⟩ : ∃ m, n1.length = m := ⟨_, rfl⟩
  have HM : Hid (z0.length = m0 ∧ z1.length = m1 ∧ n0.length = m2 ∧ n1.length = m3) := ⟨hm0, hm1, hm2, hm3⟩
  rw [hm0] at hv0
  rw [hm1] at hv1
  rw [hm2] at hv2
  rw [hm3] at hv3
  subst hv0 hv1 hv2 hv3
  clear h hm0 hm1 hm2 hm3 hl
  have x0 := KP0.out.cell 0
  have xf0 := KP0.out.frozen 0
  have x1 := KP0.out.cell 1
  have xf1 := KP0.out.frozen 1
  have x2 := KP0.out.cell 2
  have xf2 := KP0.out.frozen 2
  have x3 := KP0.out.cell 3
  have xf3 := KP0.out.frozen 3
  have x4 := KP0.out.cell 4
  have xf4 := KP0.out.frozen 4
  have x5 := KP0.out.cell 5
  have xf5 := KP0.out.frozen 5
  have xl := KP0.out.lt
  simp at x0 x1 x2 x3 x4 x5
  go_enter Try.func19, Try.ntmps19
  go_wp2_with (fail)
  clear hW0
  refine (copyM_c _ _ _ _ l0 l1 z0 z1 n0 n1 W0 (HR.out.below HB0.out) HL.out).mono ?_
  rintro e u0 ⟨v0, v1, v2, v3, rfl, oo, bb⟩
  obtain ⟨e0, f0, hf0, -⟩ := own_form oo.o0
  obtain ⟨e1, f1, hf1, -⟩ := own_form oo.o1
  obtain ⟨e2, f2, hf2, -⟩ := own_form oo.o2
  obtain ⟨e3, f3, hf3, -⟩ := own_form oo.o3
  rw [HM.out.1] at hf0
  rw [HM.out.2.1] at hf1
  rw [HM.out.2.2.1] at hf2
  rw [HM.out.2.2.2] at hf3
  subst hf0 hf1 hf2 hf3
  have hs0 := HS.out
  have kp := KP0.out.below bb KP0.out.lt
  have kr := KR0.out.below bb KR0.out.lt
  have hfr := fr_put6 u0 w.heap.size (.slice e0 m0 f0) (.slice e1 m1 f1) l0 l1 (.slice e2 m2 f2) (.slice e3 m3 f3)
  have szb : W0.heap.size ≤ u0.heap.size := bb.size
  have KP : Hid (Blk (st6 u0 w.heap.size (.slice e0 m0 f0) (.slice e1 m1 f1) l0 l1 (.slice e2 m2 f2) (.slice e3 m3 f3)) w.heap.size (T6 (.slice e0 m0 f0) (.slice e1 m1 f1) l0 l1 (.slice e2 m2 f2) (.slice e3 m3 f3)) 33) := put6 kp _ _ _ _ _ _
  have KR : Hid (Blk (st6 u0 w.heap.size (.slice e0 m0 f0) (.slice e1 m1 f1) l0 l1 (.slice e2 m2 f2) (.slice e3 m3 f3)) (w.heap.size + 1) (T6 (.slice none 0 0) (.slice none 0 0) 0 0 (.slice none 0 0) (.slice none 0 0)) 33) := kr.fr hfr (fun e => by omega)
  have HO : Hid (Ok6 W0.heap.size u0.heap.size (st6 u0 w.heap.size (.slice e0 m0 f0) (.slice e1 m1 f1) l0 l1 (.slice e2 m2 f2) (.slice e3 m3 f3)) (.slice e0 m0 f0) (.slice e1 m1 f1) (.slice e2 m2 f2) (.slice e3 m3 f3) z0 z1 n0 n1) := oo.fr hfr (fun k hk e => by have := oo.ge k hk; omega)
  have bw := belowCall HB0.out bb HB0.out.size
  have HB1 : Hid (Below w.heap.size w (st6 u0 w.heap.size (.slice e0 m0 f0) (.slice e1 m1 f1) l0 l1 (.slice e2 m2 f2) (.slice e3 m3 f3))) := bw.trans (hfr.below (by omega) (fun j e => by omega))
  have HU : Hid (u0.heap.size ≤ (st6 u0 w.heap.size (.slice e0 m0 f0) (.slice e1 m1 f1) l0 l1 (.slice e2 m2 f2) (.slice e3 m3 f3)).heap.size ∧ w.heap.size + 2 ≤ u0.heap.size) := ⟨hfr.size, by omega⟩
  clear x0 xf0 x1 xf1 x2 xf2 x3 xf3 x4 xf4 x5 xf5 xl
  have x0 := kp.cell 0
  have xf0 := kp.frozen 0
  have x1 := kp.cell 1
  have xf1 := kp.frozen 1
  have x2 := kp.cell 2
  have xf2 := kp.frozen 2
  have x3 := kp.cell 3
  have xf3 := kp.frozen 3
  have x4 := kp.cell 4
  have xf4 := kp.frozen 4
  have x5 := kp.cell 5
  have xf5 := kp.frozen 5
  have xl := kp.lt
  simp at x0 x1 x2 x3 x4 x5
  obtain ⟨W1, hW1⟩ : ∃ W, st6 u0 w.heap.size (.slice e0 m0 f0) (.slice e1 m1 f1) l0 l1 (.slice e2 m2 f2) (.slice e3 m3 f3) = W := ⟨_, rfl⟩
  rw [hW1] at KP KR HO HB1 HU
  unfold st6 at hW1
  clear oo bb kp kr hfr szb bw KP0 KR0 HB0 hs0
  have y0 := KP.out.cell 0
  have yf0 := KP.out.frozen 0
  have y1 := KP.out.cell 1
  have yf1 := KP.out.frozen 1
  have y2 := KP.out.cell 2
  have yf2 := KP.out.frozen 2
  have y3 := KP.out.cell 3
  have yf3 := KP.out.frozen 3
  have y4 := KP.out.cell 4
  have yf4 := KP.out.frozen 4
  have y5 := KP.out.cell 5
  have yf5 := KP.out.frozen 5
  have yl := KP.out.lt
  simp at y0 y1 y2 y3 y4 y5
  go_wp2_with (fail)
  clear hW1 x0 xf0 x1 xf1 x2 xf2 x3 xf3 x4 xf4 x5 xf5 xl
  refine (okM_c _ _ _ _ l0 l1 z0 z1 n0 n1 W1 HO.out.rd).mono ?_
  rintro e u1 ⟨r, rfl, hr, b1⟩
  have KP1 : Hid (Blk u1 w.heap.size (T6 (.slice e0 m0 f0) (.slice e1 m1 f1) l0 l1 (.slice e2 m2 f2) (.slice e3 m3 f3)) 33) := KP.out.below b1 KP.out.lt
  have KR1 : Hid (Blk u1 (w.heap.size + 1) (T6 (.slice none 0 0) (.slice none 0 0) 0 0 (.slice none 0 0) (.slice none 0 0)) 33) := KR.out.below b1 KR.out.lt
  have HO1 : Hid (Ok6 W0.heap.size u0.heap.size u1 (.slice e0 m0 f0) (.slice e1 m1 f1) (.slice e2 m2 f2) (.slice e3 m3 f3) z0 z1 n0 n1) := HO.out.below b1
  have HB2 : Hid (Below w.heap.size w u1) := belowCall HB1.out b1 HB1.out.size
  have HU1 : Hid (u0.heap.size ≤ u1.heap.size ∧ w.heap.size + 2 ≤ u0.heap.size) := ⟨Nat.le_trans HU.out.1 b1.size, HU.out.2⟩
  have HF : Hid (∀ W, (((((u1.setCell ⟨w.heap.size + 1, 0, none⟩ (.slice e0 m0 f0)).setCell ⟨w.heap.size + 1, 1, none⟩ (.slice e1 m1 f1)).setCell ⟨w.heap.size + 1, 2, none⟩ (.int .i64 l0)).setCell ⟨w.heap.size + 1, 3, none⟩ (.int .i64 l1)).setCell ⟨w.heap.size + 1, 4, none⟩ (.slice e2 m2 f2)).setCell ⟨w.heap.size + 1, 5, none⟩ (.slice e3 m3 f3) = W → Blk W (w.heap.size + 1) (T6 (.slice e0 m0 f0) (.slice e1 m1 f1) l0 l1 (.slice e2 m2 f2) (.slice e3 m3 f3)) 33 ∧ TwP l0 l1 z0 z1 n0 n1 (.bool false) w (.returned (.tuple #[.agg (T6 (.slice e0 m0 f0) (.slice e1 m1 f1) l0 l1 (.slice e2 m2 f2) (.slice e3 m3 f3)), .bool false])) W) := by
    rintro _ rfl
    have hfr := fr_put6 u1 (w.heap.size + 1) (.slice e0 m0 f0) (.slice e1 m1 f1) l0 l1 (.slice e2 m2 f2) (.slice e3 m3 f3)
    have hs0 := HS.out
    have hu := HU1.out
    have hz := hfr.size
    exact ⟨put6 KR1.out _ _ _ _ _ _, _, _, _, _, rfl, ((HO1.out.fr hfr (fun k hk e => by have := HO1.out.ge k hk; omega)).mono (by omega) (Nat.le_trans hu.1 hfr.size)).rb, HB2.out.trans (hfr.below (by omega) (fun j e => by omega))⟩
  clear y0 yf0 y1 yf1 y2 yf2 y3 yf3 y4 yf4 y5 yf5 yl b1 KP KR HO HB1 HU
  have x0 := KP1.out.cell 0
  have xf0 := KP1.out.frozen 0
  have x1 := KP1.out.cell 1
  have xf1 := KP1.out.frozen 1
  have x2 := KP1.out.cell 2
  have xf2 := KP1.out.frozen 2
  have x3 := KP1.out.cell 3
  have xf3 := KP1.out.frozen 3
  have x4 := KP1.out.cell 4
  have xf4 := KP1.out.frozen 4
  have x5 := KP1.out.cell 5
  have xf5 := KP1.out.frozen 5
  have xl := KP1.out.lt
  simp at x0 x1 x2 x3 x4 x5
  have y0 := KR1.out.cell 0
  have yf0 := KR1.out.frozen 0
  have y1 := KR1.out.cell 1
  have yf1 := KR1.out.frozen 1
  have y2 := KR1.out.cell 2
  have yf2 := KR1.out.frozen 2
  have y3 := KR1.out.cell 3
  have yf3 := KR1.out.frozen 3
  have y4 := KR1.out.cell 4
  have yf4 := KR1.out.frozen 4
  have y5 := KR1.out.cell 5
  have yf5 := KR1.out.frozen 5
  have yl := KR1.out.lt
  simp at y0 y1 y2 y3 y4 y5
  by_cases g : TOk z0 z1 l0 l1 n0 n1
  case neg =>
    obtain rfl : r = false := by cases r; rfl; exact absurd (hr.1 rfl) g
    have HNO : Hid (¬ CaOk1 z0 z1 l0 l1 n0 n1) := fun h => g h.1
    clear hr g
    go_wp2
    exact bodyPost_ret (v := .tuple #[.agg (T6 (.slice e0 m0 f0) (.slice e1 m1 f1) l0 l1 (.slice e2 m2 f2) (.slice e3 m3 f3)), .bool false]) (results_T rfl _ _ _ _ _ _ _ _ _ _ rfl rfl (HF.out _ rfl).1) rfl ⟨fun h => absurd h HNO.out, fun _ => (HF.out _ rfl).2⟩
  obtain rfl : r = true := hr.2 g
  have G : Hid (TOk z0 z1 l0 l1 n0 n1) := g
  have hm24 : 1 ≤ m0 ∧ m0 ≤ 24 := by have := g.1; have := HM.out; omega
  obtain ⟨hm1', hm24⟩ := hm24
  have HE : Hid (m1 = m0) := by have := g.2.1; have := HM.out; show _ = _; omega
  have hk60 : m2 ≤ 60 := by have := g.2.2.1.2.2.1; have := HM.out; omega
  have hk61 : m3 ≤ 60 := by have := g.2.2.2.2.2.1; have := HM.out; omega
  clear hr g
  go_wp2_with (fail)
  refine (in_c 1 0 1 u1).mono ?_
  rintro e wq ⟨rfl, hwq⟩
  rw [hwq, show decide ((0 : Int) ≤ 1 ∧ (1 : Int) ≤ 1) = true from by decide]
  clear hwq wq
  by_cases hn : n1 = []
  case pos =>
    have hz : ((m3 : Int) == 0) = true := by have := HM.out.2.2.2; rw [hn] at this; simp at this; simp; omega
    have HNO : Hid (¬ CaOk1 z0 z1 l0 l1 n0 n1) := fun h => by have := h.2.1; rw [hn] at this; simp at this
    clear hn
    go_wp2
    exact bodyPost_ret (v := .tuple #[.agg (T6 (.slice e0 m0 f0) (.slice e1 m1 f1) l0 l1 (.slice e2 m2 f2) (.slice e3 m3 f3)), .bool false]) (results_T rfl _ _ _ _ _ _ _ _ _ _ rfl rfl (HF.out _ rfl).1) rfl ⟨fun h => absurd h HNO.out, fun _ => (HF.out _ rfl).2⟩
  obtain ⟨⟨kd, ci⟩, ns, hn⟩ : ∃ x ns, n1 = x :: ns := by
    revert hn
    cases n1 with
    | nil => intro hn; exact absurd rfl hn
    | cons x ns => intro _; exact ⟨x, ns, rfl⟩
  have hmp : m3 = ns.length + 1 := by have := HM.out.2.2.2; rw [hn] at this; simp at this; omega
  have hz : ((m3 : Int) == 0) = false := by simp; omega
  have hno := G.out.2.2.2.2.2.2 0 (by rw [hn]; simp)
  simp only [hn, List.getElem_cons_zero] at hno
  obtain ⟨m, rfl⟩ : ∃ m : Nat, ci = m := ⟨ci.toNat, by have := hno.2.1; simp only at this; omega⟩
  have hno' : 1 ≤ kd ∧ kd ≤ 5 ∧ m < m0 := by obtain ⟨⟨h1, h2⟩, h3, h4⟩ := hno; simp only at h1 h2 h3 h4; have := HM.out.1; omega
  have HNO : Hid (1 ≤ kd ∧ kd ≤ 5 ∧ m < m0) := hno'
  have HN : Hid (n1 = (kd, (m : Int)) :: ns) := hn
  have hmpos : 0 < m3 := by omega
  have HMP : Hid (m3 = ns.length + 1) := hmp
  clear hno hno' hn hmp
  go_wp2_with (fail)
  refine (copyM_c _ _ _ _ l0 l1 z0 z1 n0 n1 u1 HO1.out.rd HL.out).mono ?_
  rintro e u2 ⟨v0, v1, v2, v3, rfl, oo, bb⟩
  obtain ⟨g0, h0, hf0, -⟩ := own_form oo.o0
  obtain ⟨g1, h1, hf1, -⟩ := own_form oo.o1
  obtain ⟨g2, h2, hf2, -⟩ := own_form oo.o2
  obtain ⟨g3, h3, hf3, -⟩ := own_form oo.o3
  rw [HM.out.1] at hf0
  rw [HM.out.2.1] at hf1
  rw [HM.out.2.2.1] at hf2
  rw [HM.out.2.2.2] at hf3
  subst hf0 hf1 hf2 hf3
  obtain ⟨nb, ncap, hnv, hnb1, hnb2, hncl⟩ := Op.row oo.o3 (by have := HM.out.2.2.2; have := HMP.out; omega)
  rw [HM.out.2.2.2] at hnv hncl
  simp only [Value.slice.injEq] at hnv
  obtain ⟨hne, -, hnf⟩ := hnv
  subst hne hnf
  obtain ⟨rb, rcap, hrv, hrb1, hrb2⟩ := oo.o1.row (by have := HM.out; have := HE.out; have := HNO.out; omega)
  rw [HM.out.2.1] at hrv
  simp only [Value.slice.injEq] at hrv
  obtain ⟨hre, -, hrf⟩ := hrv
  subst hre hrf
  obtain ⟨xz, hxz⟩ : ∃ q, z1.getD m 0 = q := ⟨_, rfl⟩
  have hcz := Ow.cellFz HM.out.2.1 oo.o1 m (by have := HM.out; have := HE.out; have := HNO.out; omega)
  rw [hxz] at hcz
  obtain ⟨hcell, hfroz⟩ := hcz
  have hnc : u2.cell? ⟨nb, 0, none⟩ = some (.int .i64 kd) ∧ u2.cell? ⟨nb, 1, none⟩ = some (.int .i64 (m : Int)) := by
    have hq := oo.o3
    rw [HN.out] at hq
    obtain ⟨a', cap', hv', -, -, d⟩ := Op.rd hq
    simp only [Value.slice.injEq] at hv'
    rcases d with d | ⟨b', off', ha, h4⟩
    · cases d
    · rw [← hv'.1] at ha
      cases ha
      have := h4 0 (by simp)
      simpa [mf, mg] using this
  obtain ⟨hnc0, hnc1⟩ := hnc
  have KP2 : Hid (Blk u2 w.heap.size (T6 (.slice e0 m0 f0) (.slice e1 m1 f1) l0 l1 (.slice e2 m2 f2) (.slice e3 m3 f3)) 33) := KP1.out.below bb KP1.out.lt
  have KR2 : Hid (Blk u2 (w.heap.size + 1) (T6 (.slice none 0 0) (.slice none 0 0) 0 0 (.slice none 0 0) (.slice none 0 0)) 33) := KR1.out.below bb KR1.out.lt
  have HO2 : Hid (Ok6 W0.heap.size u0.heap.size u2 (.slice e0 m0 f0) (.slice e1 m1 f1) (.slice e2 m2 f2) (.slice e3 m3 f3) z0 z1 n0 n1) := HO1.out.below bb
  have HB3 : Hid (Below w.heap.size w u2) := belowCall HB2.out bb HB2.out.size
  have HQ : Hid (Ok6 u1.heap.size u2.heap.size u2 (.slice g0 m0 h0) (.slice (some ⟨rb, 0, none⟩) m1 h1) (.slice g2 m2 h2) (.slice (some ⟨nb, 0, none⟩) m3 h3) z0 z1 n0 n1) := oo
  have HZ2 : Hid (u1.heap.size ≤ u2.heap.size) := bb.size
  have HXZ : Hid (z1.getD m 0 = xz) := hxz
  have hrl : rb < u2.heap.size := hrb2
  have hnl : nb < u2.heap.size := hnb2
  clear oo bb x0 xf0 x1 xf1 x2 xf2 x3 xf3 x4 xf4 x5 xf5 xl y0 yf0 y1 yf1 y2 yf2 y3 yf3 y4 yf4 y5 yf5 yl HF hxz
  have hcr := cut_rp (HN.out ▸ HQ.out.o3 : Op mf mg 68 u1.heap.size u2 (.slice (some ⟨nb, 0, none⟩) m3 h3) ((kd, (m : Int)) :: ns))
  obtain ⟨hcr1, hcr2⟩ := hcr
  by_cases hcap : h3 = 1
  case' pos =>
    obtain ⟨CV, hCV⟩ : ∃ CV, Value.slice (some ⟨nb, 0, none⟩) (m3 - 1) 0 = CV := ⟨_, rfl⟩
    have HCE : Hid (Value.slice (some ⟨nb, 0, none⟩) (m3 - 1) 0 = CV) := hCV
    have HCV : Hid (Rp mf mg u2 CV ns ∧ CV.ownBlock = some nb) := by rw [← hCV]; exact ⟨hcr2 hcap, rfl⟩
  case' neg =>
    obtain ⟨CV, hCV⟩ : ∃ CV, Value.slice (some ⟨nb, 2, none⟩) (m3 - 1) (h3 - 1) = CV := ⟨_, rfl⟩
    have HCE : Hid (Value.slice (some ⟨nb, 2, none⟩) (m3 - 1) (h3 - 1) = CV) := hCV
    have HCV : Hid (Rp mf mg u2 CV ns ∧ CV.ownBlock = some nb) := by rw [← hCV]; exact ⟨hcr1, rfl⟩
  all_goals clear hcr1 hcr2 hCV
  all_goals go_wp2
  all_goals rw [HCE.out]
  all_goals obtain ⟨V, hV⟩ : ∃ V, (u2.alloc (Obj.cells #[(.slice g0 m0 h0), (.slice (some ⟨rb, 0, none⟩) m1 h1), .int .i64 l0, .int .i64 l1, (.slice g2 m2 h2), CV] 33)).alloc (Obj.cells #[.int .i64 kd, .int .i64 (m : Int)] 68) = V := ⟨_, rfl⟩
  all_goals rw [hV]
  all_goals have BV : Hid (Below u2.heap.size u2 V) := by rw [← hV]; exact ((Below.refl _ _).alloc (Nat.le_refl _) _).alloc (by simp) _
  all_goals have KX : Hid (Blk V u2.heap.size (T6 (.slice g0 m0 h0) (.slice (some ⟨rb, 0, none⟩) m1 h1) l0 l1 (.slice g2 m2 h2) CV) 33) := by rw [← hV]; exact (Blk.new _ _ _).alloc _
  all_goals have KN : Hid (Blk V (u2.heap.size + 1) (H2 kd (m : Int)) 68) := by rw [← hV]; exact Blk.newAt _ (u2.heap.size + 1) _ 68 (by simp)
  all_goals have OQ : Hid (Ok6 u1.heap.size u2.heap.size V (.slice g0 m0 h0) (.slice (some ⟨rb, 0, none⟩) m1 h1) (.slice g2 m2 h2) (.slice (some ⟨nb, 0, none⟩) m3 h3) z0 z1 n0 n1) := HQ.out.below BV.out
  all_goals have HCVV : Hid (Rp mf mg V CV ns ∧ CV.ownBlock = some nb) := ⟨HCV.out.1.below BV.out, HCV.out.2⟩
  all_goals clear hV hcell hfroz hnc0 hnc1 hz hncl hcap HQ HCV HCE
  all_goals (
    have hsn : 0 ≤ xz ∧ xz ≤ 4 := by rw [← HXZ.out]; exact G.out.2.2.2.1 m (by have := HM.out; have := HE.out; have := HNO.out; omega)
    have HSN : Hid (0 ≤ xz ∧ xz ≤ 4) := hsn
    have hmi : (m : Int) < (m1 : Int) := by have := HM.out; have := HE.out; have := HNO.out; omega
    have hmn : (0 : Int) ≤ (m : Int) := by omega
    obtain ⟨ow, how⟩ : ∃ ow, (((m : Int) % 2 == 1) : Bool) = ow := ⟨_, rfl⟩
    have HOW : Hid ((((m : Int) % 2 == 1) : Bool) = ow) := how
    obtain ⟨sn, bk, lo, hh⟩ : ∃ a b c, hearF kd xz ow = (a, b, c) := ⟨_, _, _, rfl⟩
    have HHF : Hid (hearF kd xz ow = (sn, bk, lo)) := hh
    have HC1 : Hid (∀ W : Ov V, Calls Try.prog 45 #[.int .i64 (m : Int)] W.wd fun e w'' => e = .returned (.int .i64 ((m : Int) % 2)) ∧ ∃ W' : Ov V, w'' = W'.wd) := fun W => ov_call ((owner_c m W.wd (by have := HM.out; have := HE.out; have := HNO.out; omega)).mono fun e w' ⟨he, hw⟩ => ⟨he, hw ▸ Below.refl _ _⟩)
    have HC2 : Hid (∀ W : Ov V, Calls Try.prog 50 #[.int .i64 xz, .int .i64 kd, .bool ow] W.wd fun e w'' => e = .returned (.tuple #[.int .i64 sn, .int .i64 bk, .bool (decide (lo = 1))]) ∧ ∃ W' : Ov V, w'' = W'.wd) := fun W => ov_call ((hearM_c kd xz ow W.wd ⟨HNO.out.1, HNO.out.2.1⟩ HSN.out).mono fun e w' ⟨he, hw⟩ => ⟨by rw [he, HHF.out], hw ▸ Below.refl _ _⟩)
    have q0 : ∀ W : Ov V, W.wd.cell? ⟨u2.heap.size, 1, none⟩ = some (.slice (some ⟨rb, 0, none⟩) m1 h1) := ov_cell (by have := KX.out.cell 1; simpa using this)
    have q1 : ∀ W : Ov V, W.wd.cell? ⟨u2.heap.size + 1, 0, none⟩ = some (.int .i64 kd) := ov_cell (by have := KN.out.cell 0; simpa using this)
    have q2 : ∀ W : Ov V, W.wd.cell? ⟨u2.heap.size + 1, 1, none⟩ = some (.int .i64 (m : Int)) := ov_cell (by have := KN.out.cell 1; simpa using this)
    have hcz := (Ow.cellFz HM.out.2.1 OQ.out.o1 m (by have := HM.out; have := HE.out; have := HNO.out; omega)).1
    rw [HXZ.out] at hcz
    have q3 : ∀ W : Ov V, W.wd.cell? ⟨rb, m, none⟩ = some (.int .i64 xz) := ov_cell hcz
    have ne : Nonempty (Ov V) := ⟨⟨V, Below.refl _ _⟩⟩
    clear hh hsn hcz
    refine region_over (by kernel_rfl) (by kernel_rfl) ?_
    repeat (go_big_quiet_step (first | (go_at_call 45; exact HC1.out _) | (rw [how]; go_at_call 50; exact HC2.out _) | (go_at_call 50; exact HC2.out _)))
    refine wpQuiet_nil ?_
    rintro _ ⟨W, rfl⟩
    have BW := W.ok
    obtain ⟨V2, hV2⟩ : ∃ V2, W.wd = V2 := ⟨_, rfl⟩
    rw [hV2] at BW ⊢
    have KX2 : Hid (Blk V2 u2.heap.size (T6 (.slice g0 m0 h0) (.slice (some ⟨rb, 0, none⟩) m1 h1) l0 l1 (.slice g2 m2 h2) CV) 33) := KX.out.below BW KX.out.lt
    have KN2 : Hid (Blk V2 (u2.heap.size + 1) (H2 kd (m : Int)) 68) := KN.out.below BW KN.out.lt
    have OQ2 : Hid (Ok6 u1.heap.size u2.heap.size V2 (.slice g0 m0 h0) (.slice (some ⟨rb, 0, none⟩) m1 h1) (.slice g2 m2 h2) (.slice (some ⟨nb, 0, none⟩) m3 h3) z0 z1 n0 n1) := OQ.out.below BW
    have HCV2 : Hid (Rp mf mg V2 CV ns ∧ CV.ownBlock = some nb) := ⟨HCVV.out.1.below BW, HCVV.out.2⟩
    have BV2 : Hid (Below u2.heap.size u2 V2) := belowCall BV.out BW BV.out.size
    clear hV2 BW W q0 q1 q2 q3 ne KX KN OQ HCVV BV HC1 HC2
    obtain ⟨S, hS⟩ : ∃ S : World → Prop, ∀ W, S W ↔ Below V2.heap.size V2 W := ⟨_, fun _ => Iff.rfl⟩
    have hcz2 := Ow.cellFz HM.out.2.1 OQ2.out.o1 m (by have := HM.out; have := HE.out; have := HNO.out; omega)
    obtain ⟨hcz, hfz⟩ := hcz2
    have q0 : ∀ W : At S, W.wd.cell? ⟨u2.heap.size, 1, none⟩ = some (.slice (some ⟨rb, 0, none⟩) m1 h1) := fun W => by rw [(KX2.out.below ((hS _).1 W.ok) KX2.out.lt).cell 1]; rfl
    have q2 : ∀ W : At S, W.wd.cell? ⟨u2.heap.size + 1, 1, none⟩ = some (.int .i64 (m : Int)) := fun W => by rw [(KN2.out.below ((hS _).1 W.ok) KN2.out.lt).cell 1]; rfl
    have HSS : Hid (∀ W, S W ↔ Below V2.heap.size V2 W) := hS
    have ne : Nonempty (At S) := ⟨⟨V2, (hS _).2 (Below.refl _ _)⟩⟩
    clear hS
    go_wp2
    refine region_mixA [true, true, true, true, true, true, true, false, false] 8 1 S (by kernel_rfl) rfl (by kernel_rfl) (fun _ _ _ _ _ h => h) ((HSS.out _).2 (Below.refl _ _).drew) ?_
    simp only [selT, selF]
    repeat (go_big_quiet_step (fail))
    refine wpQuiet_nil ?_
    refine tail_step ?_
    go_wp2
    refine ⟨(HSS.out _).2 (Below.refl _ _).drew, tail_end ?_⟩
    have hczd : V2.drew.cell? ⟨rb, m, none⟩ = some (.int .i64 (z1.getD m 0)) := hcz
    have hfzd : V2.drew.frozen? ⟨rb, m, none⟩ = false := hfz
    obtain ⟨ca, cc, hcv, -⟩ := HCV2.out.1
    obtain ⟨mc, hmc⟩ : ∃ q, ns.length = q := ⟨_, rfl⟩
    rw [hmc] at hcv
    subst hcv
    clear hmc
    obtain ⟨V3, hV3⟩ : ∃ V, V2.drew.setCell ⟨rb, m, none⟩ (.int .i64 sn) = V := ⟨_, rfl⟩
    have hpw := carry_pw1 OQ2.out BV2.out.size HM.out.2.1 HCV2.out.1 HCV2.out.2 hV3
    have hu1 := HU1.out
    have fq := hpw.2
    have hss := BV2.out.size
    have hkn := KN2.out.lt
    have PW3 : Hid (Pw0 u1.heap.size u2.heap.size V3 (.slice g0 m0 h0) (.slice (some ⟨rb, 0, none⟩) m1 h1) (.slice g2 m2 h2) (.slice ca mc cc) z0 (z1.set m sn) n0 ns) := hpw.1
    have KX3 : Hid (Blk V3 u2.heap.size (T6 (.slice g0 m0 h0) (.slice (some ⟨rb, 0, none⟩) m1 h1) l0 l1 (.slice g2 m2 h2) (.slice ca mc cc)) 33) := KX2.out.fr fq (by omega)
    have KN3 : Hid (Blk V3 (u2.heap.size + 1) (H2 kd (m : Int)) 68) := KN2.out.fr fq (by omega)
    have KP3 : Hid (Blk V3 w.heap.size (T6 (.slice e0 m0 f0) (.slice e1 m1 f1) l0 l1 (.slice e2 m2 f2) (.slice e3 m3 f3)) 33) := (KP2.out.below BV2.out KP2.out.lt).fr fq (by omega)
    have KR3 : Hid (Blk V3 (w.heap.size + 1) (T6 (.slice none 0 0) (.slice none 0 0) 0 0 (.slice none 0 0) (.slice none 0 0)) 33) := (KR2.out.below BV2.out KR2.out.lt).fr fq (by omega)
    have HO3 : Hid (Ok6 W0.heap.size u0.heap.size V3 (.slice e0 m0 f0) (.slice e1 m1 f1) (.slice e2 m2 f2) (.slice e3 m3 f3) z0 z1 n0 n1) := (HO2.out.below BV2.out).fr fq (fun k hk e => by have := HO2.out.ge k hk; omega)
    have HB5 : Hid (Below w.heap.size w V3) := (belowCall HB3.out BV2.out HB3.out.size).trans (fq.below (by have := HB3.out.size; omega) (fun k e => by omega))
    have HZ3 : Hid (u2.heap.size + 2 ≤ V3.heap.size ∧ w.heap.size + 2 ≤ u1.heap.size ∧ u1.heap.size ≤ u2.heap.size ∧ u0.heap.size ≤ u1.heap.size) := ⟨by have := fq.size; omega, by omega, HZ2.out, by omega⟩
    have HLO : Hid (lo = 0 ∨ lo = 1) := by have := hearF_lost kd xz ow; rw [HHF.out] at this; exact this
    have HBK : Hid (0 ≤ bk) := by have := hearF_back kd xz ow; rw [HHF.out] at this; exact this
    have HLR : Hid (LoOk l1) := G.out.2.2.2.2.1
    clear hpw fq hss hkn hu1 hcz hfz
    have HDONE : Hid (l1 + lo ≤ 1000000 → (bk = 0 ∨ n0.length < 60) → ∀ e w', TwP l0 (l1 + lo) z0 (z1.set m sn) (n0 ++ (if bk = 0 then [] else [(bk, (m : Int))])) ns (.bool true) w e w' → CaP1 z0 z1 l0 l1 n0 n1 w e w') := by
      intro h1 h2 e w' h
      have hx : hearF kd (z1.getD m 0) ((m : Int) % 2 == 1) = (sn, bk, lo) := by rw [HXZ.out, HOW.out]; exact HHF.out
      have hn := HN.out
      have hT := G.out
      unfold CaP1 CaOk1 ArOk1 bkN1
      rw [hn]
      simp only [List.headD_cons, List.tail_cons, Int.toNat_natCast, hx]
      exact ⟨fun _ => h, fun h' => absurd ⟨hn ▸ hT, by simp, h1, h2⟩ h'⟩
    have HREF : Hid (¬ (l1 + lo ≤ 1000000 ∧ (bk = 0 ∨ n0.length < 60)) → ∀ e w', TwP l0 l1 z0 z1 n0 n1 (.bool false) w e w' → CaP1 z0 z1 l0 l1 n0 n1 w e w') := by
      intro h1 e w' h
      have hx : hearF kd (z1.getD m 0) ((m : Int) % 2 == 1) = (sn, bk, lo) := by rw [HXZ.out, HOW.out]; exact HHF.out
      have hn := HN.out
      refine ⟨fun h' => absurd ?_ h1, fun _ => h⟩
      have h2 := h'.2.2
      unfold ArOk1 at h2
      rw [hn] at h2
      simpa only [List.headD_cons, List.tail_cons, Int.toNat_natCast, hx] using h2
    rcases HLO.out with hlo | hlo
    · subst hlo
      simp only [Int.add_zero] at HDONE HREF
      have HLR' := HLR.out
      have hlr1 : 0 ≤ l1 := HLR'.1
      have hlr2 : l1 ≤ 1000000 := HLR'.2
      clear HLR'
      by_cases hbk : 0 < bk
      case neg =>
        have hbk0 : bk = 0 := by have := HBK.out; omega
        subst hbk0
        clear hbk
        simp only [reduceIte, List.append_nil] at HDONE
        have HLE : Hid (l1 ≤ 1000000) := hlr2
        have hgt : ¬ (1000000 < l1) := by omega
        have HFD : Hid (∀ W, st6 V3 (w.heap.size + 1) (.slice g0 m0 h0) (.slice (some ⟨rb, 0, none⟩) m1 h1) l0 l1 (.slice g2 m2 h2) (.slice ca mc cc) = W → Blk W (w.heap.size + 1) (T6 (.slice g0 m0 h0) (.slice (some ⟨rb, 0, none⟩) m1 h1) l0 l1 (.slice g2 m2 h2) (.slice ca mc cc)) 33 ∧ CaP1 z0 z1 l0 l1 n0 n1 w (.returned (.tuple #[.agg (T6 (.slice g0 m0 h0) (.slice (some ⟨rb, 0, none⟩) m1 h1) l0 l1 (.slice g2 m2 h2) (.slice ca mc cc)), .bool true])) W) := by
          rintro _ rfl
          have hz := HZ3.out
          have hfr := fr_put6 V3 (w.heap.size + 1) (.slice g0 m0 h0) (.slice (some ⟨rb, 0, none⟩) m1 h1) l0 l1 (.slice g2 m2 h2) (.slice ca mc cc)
          have hzz := hfr.size
          exact ⟨put6 KR3.out _ _ _ _ _ _, HDONE.out HLE.out (.inl trivial) _ _ ⟨_, _, _, _, rfl, (PW3.out.rb.fr (by omega) hfr (fun k hk e => by have := PW3.out.rb.ge k hk; omega)).mono (by omega) (by omega), HB5.out.trans (hfr.below (by omega) (fun j e => by omega))⟩⟩
        unfold st6 at HFD
        have x0 := KX3.out.cell 0
        have xf0 := KX3.out.frozen 0
        have x1 := KX3.out.cell 1
        have xf1 := KX3.out.frozen 1
        have x2 := KX3.out.cell 2
        have xf2 := KX3.out.frozen 2
        have x3 := KX3.out.cell 3
        have xf3 := KX3.out.frozen 3
        have x4 := KX3.out.cell 4
        have xf4 := KX3.out.frozen 4
        have x5 := KX3.out.cell 5
        have xf5 := KX3.out.frozen 5
        have xl := KX3.out.lt
        simp at x0 x1 x2 x3 x4 x5
        have y0 := KR3.out.cell 0
        have yf0 := KR3.out.frozen 0
        have y1 := KR3.out.cell 1
        have yf1 := KR3.out.frozen 1
        have y2 := KR3.out.cell 2
        have yf2 := KR3.out.frozen 2
        have y3 := KR3.out.cell 3
        have yf3 := KR3.out.frozen 3
        have y4 := KR3.out.cell 4
        have yf4 := KR3.out.frozen 4
        have y5 := KR3.out.cell 5
        have yf5 := KR3.out.frozen 5
        have yl := KR3.out.lt
        simp at y0 y1 y2 y3 y4 y5
        go_wp2
        exact bodyPost_ret (v := .tuple #[.agg (T6 (.slice g0 m0 h0) (.slice (some ⟨rb, 0, none⟩) m1 h1) l0 l1 (.slice g2 m2 h2) (.slice ca mc cc)), .bool true]) (results_T rfl _ _ _ _ _ _ _ _ _ _ rfl rfl (HFD.out _ rfl).1) rfl (HFD.out _ rfl).2
      have hb0 : ¬ bk = 0 := by omega
      simp only [hb0, if_false, false_or] at HDONE HREF
      clear hb0
      have HN60 : Hid (n0.length ≤ 60) := G.out.2.2.1.2.2.1
      have x0 := KX3.out.cell 0
      have xf0 := KX3.out.frozen 0
      have x1 := KX3.out.cell 1
      have xf1 := KX3.out.frozen 1
      have x2 := KX3.out.cell 2
      have xf2 := KX3.out.frozen 2
      have x3 := KX3.out.cell 3
      have xf3 := KX3.out.frozen 3
      have x4 := KX3.out.cell 4
      have xf4 := KX3.out.frozen 4
      have x5 := KX3.out.cell 5
      have xf5 := KX3.out.frozen 5
      have xl := KX3.out.lt
      simp at x0 x1 x2 x3 x4 x5
      have kn1 := KN3.out.cell 1
      have knl := KN3.out.lt
      simp at kn1
      go_wp2_with (fail)
      refine (putR0_c u1.heap.size _ _ _ _ l0 l1 z0 (z1.set m sn) n0 ns bk (m : Int) V3 ⟨PW3.out.rb.mono (Nat.le_refl _) (by have := HZ3.out; omega), PW3.out.own, PW3.out.ap⟩ (by have := HZ3.out; omega) HN60.out).mono ?_
      rintro e u3 ⟨hfull, hroom⟩
      clear x0 xf0 x1 xf1 x2 xf2 x3 xf3 x4 xf4 x5 xf5 xl kn1 knl  hV3 hczd hfzd q0 q2 ne
      by_cases h60 : n0.length < 60
      case neg =>
        have HNL : Hid (¬ (l1 ≤ 1000000 ∧ n0.length < 60)) := fun h => h60 h.2
        obtain ⟨⟨y0, y1, y2, y3, rfl, ⟨rq, nq⟩, bq⟩, fq⟩ := hfull (by have := HN60.out; omega)
        obtain ⟨r0, t0, hf0, -⟩ := rq.rk.r0
        obtain ⟨q0, hq0⟩ : ∃ q, z0.length = q := ⟨_, rfl⟩
        rw [hq0] at hf0
        obtain ⟨r1, t1, hf1, -⟩ := rq.rk.r1
        obtain ⟨q1, hq1⟩ : ∃ q, (z1.set m sn).length = q := ⟨_, rfl⟩
        rw [hq1] at hf1
        obtain ⟨r2, t2, hf2, -⟩ := rq.rk.r2
        obtain ⟨q2, hq2⟩ : ∃ q, n0.length = q := ⟨_, rfl⟩
        rw [hq2] at hf2
        obtain ⟨r3, t3, hf3, -⟩ := rq.rk.r3
        obtain ⟨q3, hq3⟩ : ∃ q, ns.length = q := ⟨_, rfl⟩
        rw [hq3] at hf3
        subst hf0 hf1 hf2 hf3
        clear hq0 hq1 hq2 hq3
        have RQ : Hid (Rb u1.heap.size u3.heap.size u3 (.slice r0 q0 t0) (.slice r1 q1 t1) (.slice r2 q2 t2) (.slice r3 q3 t3) z0 (z1.set m sn) n0 ns) := rq
        have HAP : Hid (¬ InT (.slice r0 q0 t0) (.slice r1 q1 t1) (.slice r2 q2 t2) (.slice r3 q3 t3) u2.heap.size) := fun hk => by have hz := HZ3.out; rcases nq _ hk with h | h; have := PW3.out.rb.ge _ h; omega; omega
        have hz := HZ3.out
        have hno : ∀ k, (Value.slice g2 m2 h2).ownBlock = some k → u1.heap.size ≤ k ∧ k < u2.heap.size := fun k e => PW3.out.rb.ge k (.inr (.inl e))
        have KX5 : Hid (Blk u3 u2.heap.size (T6 (.slice g0 m0 h0) (.slice (some ⟨rb, 0, none⟩) m1 h1) l0 l1 (.slice g2 m2 h2) (.slice ca mc cc)) 33) := KX3.out.fr fq (fun e => by have := hno _ e; omega)
        have KP5 : Hid (Blk u3 w.heap.size (T6 (.slice e0 m0 f0) (.slice e1 m1 f1) l0 l1 (.slice e2 m2 f2) (.slice e3 m3 f3)) 33) := KP3.out.fr fq (fun e => by have := hno _ e; omega)
        have KR5 : Hid (Blk u3 (w.heap.size + 1) (T6 (.slice none 0 0) (.slice none 0 0) 0 0 (.slice none 0 0) (.slice none 0 0)) 33) := KR3.out.fr fq (fun e => by have := hno _ e; omega)
        have HO5 : Hid (Ok6 W0.heap.size u0.heap.size u3 (.slice e0 m0 f0) (.slice e1 m1 f1) (.slice e2 m2 f2) (.slice e3 m3 f3) z0 z1 n0 n1) := HO3.out.fr fq (fun k hk e => by have := hno _ e; have := HO3.out.ge k hk; omega)
        have HB7 : Hid (Below w.heap.size w u3) := HB5.out.trans (bq.mono (by omega))
        have HZ5 : Hid (u2.heap.size + 2 ≤ u3.heap.size ∧ w.heap.size + 2 ≤ u1.heap.size ∧ u1.heap.size ≤ u2.heap.size ∧ u0.heap.size ≤ u1.heap.size) := ⟨by have := fq.size; omega, hz.2⟩
        have hn1 : u2.heap.size ≠ w.heap.size := by omega
        have hn2 : u2.heap.size ≠ w.heap.size + 1 := by omega
        have hn3 : w.heap.size ≠ u2.heap.size := by omega
        have hn4 : w.heap.size + 1 ≠ u2.heap.size := by omega
        clear hfull hroom rq nq bq fq hz hno
        have HFR : Hid (∀ W, st6 (st6 u3 u2.heap.size (.slice r0 q0 t0) (.slice r1 q1 t1) l0 l1 (.slice r2 q2 t2) (.slice r3 q3 t3)) (w.heap.size + 1) (.slice e0 m0 f0) (.slice e1 m1 f1) l0 l1 (.slice e2 m2 f2) (.slice e3 m3 f3) = W → Blk W (w.heap.size + 1) (T6 (.slice e0 m0 f0) (.slice e1 m1 f1) l0 l1 (.slice e2 m2 f2) (.slice e3 m3 f3)) 33 ∧ CaP1 z0 z1 l0 l1 n0 n1 w (.returned (.tuple #[.agg (T6 (.slice e0 m0 f0) (.slice e1 m1 f1) l0 l1 (.slice e2 m2 f2) (.slice e3 m3 f3)), .bool false])) W) := by
          rintro _ rfl
          have hz := HZ5.out
          have hs0 := HS.out
          have hf1 := fr_put6 u3 u2.heap.size (.slice r0 q0 t0) (.slice r1 q1 t1) l0 l1 (.slice r2 q2 t2) (.slice r3 q3 t3)
          have hf2 := fr_put6 (st6 u3 u2.heap.size (.slice r0 q0 t0) (.slice r1 q1 t1) l0 l1 (.slice r2 q2 t2) (.slice r3 q3 t3)) (w.heap.size + 1) (.slice e0 m0 f0) (.slice e1 m1 f1) l0 l1 (.slice e2 m2 f2) (.slice e3 m3 f3)
          have hz1 := hf1.size
          have hz2 := hf2.size
          exact ⟨put6 (KR5.out.fr hf1 (fun e => by omega)) _ _ _ _ _ _, HREF.out HNL.out _ _ ⟨_, _, _, _, rfl, (((HO5.out.fr hf1 (fun k hk e => by have := HO5.out.ge k hk; omega)).fr hf2 (fun k hk e => by have := HO5.out.ge k hk; omega)).mono (by omega) (by omega)).rb, (HB7.out.trans (hf1.below (by omega) (fun j e => by omega))).trans (hf2.below (by omega) (fun j e => by omega))⟩⟩
        unfold st6 at HFR
        have x0 := KX5.out.cell 0
        have xf0 := KX5.out.frozen 0
        have x1 := KX5.out.cell 1
        have xf1 := KX5.out.frozen 1
        have x2 := KX5.out.cell 2
        have xf2 := KX5.out.frozen 2
        have x3 := KX5.out.cell 3
        have xf3 := KX5.out.frozen 3
        have x4 := KX5.out.cell 4
        have xf4 := KX5.out.frozen 4
        have x5 := KX5.out.cell 5
        have xf5 := KX5.out.frozen 5
        have xl := KX5.out.lt
        simp at x0 x1 x2 x3 x4 x5
        have p0 := KP5.out.cell 0
        have pf0 := KP5.out.frozen 0
        have p1 := KP5.out.cell 1
        have pf1 := KP5.out.frozen 1
        have p2 := KP5.out.cell 2
        have pf2 := KP5.out.frozen 2
        have p3 := KP5.out.cell 3
        have pf3 := KP5.out.frozen 3
        have p4 := KP5.out.cell 4
        have pf4 := KP5.out.frozen 4
        have p5 := KP5.out.cell 5
        have pf5 := KP5.out.frozen 5
        have pl := KP5.out.lt
        simp at p0 p1 p2 p3 p4 p5
        have y0 := KR5.out.cell 0
        have yf0 := KR5.out.frozen 0
        have y1 := KR5.out.cell 1
        have yf1 := KR5.out.frozen 1
        have y2 := KR5.out.cell 2
        have yf2 := KR5.out.frozen 2
        have y3 := KR5.out.cell 3
        have yf3 := KR5.out.frozen 3
        have y4 := KR5.out.cell 4
        have yf4 := KR5.out.frozen 4
        have y5 := KR5.out.cell 5
        have yf5 := KR5.out.frozen 5
        have yl := KR5.out.lt
        simp at y0 y1 y2 y3 y4 y5
        go_wp2
        exact bodyPost_ret (v := .tuple #[.agg (T6 (.slice e0 m0 f0) (.slice e1 m1 f1) l0 l1 (.slice e2 m2 f2) (.slice e3 m3 f3)), .bool false]) (results_T rfl _ _ _ _ _ _ _ _ _ _ rfl rfl (HFR.out _ rfl).1) rfl (HFR.out _ rfl).2
      have H60 : Hid (n0.length < 60) := h60
      obtain ⟨⟨y0, y1, y2, y3, rfl, ⟨rq, nq⟩, bq⟩, fq⟩ := hroom h60
      obtain ⟨r0, t0, hf0, -⟩ := rq.rk.r0
      obtain ⟨q0, hq0⟩ : ∃ q, z0.length = q := ⟨_, rfl⟩
      rw [hq0] at hf0
      obtain ⟨r1, t1, hf1, -⟩ := rq.rk.r1
      obtain ⟨q1, hq1⟩ : ∃ q, (z1.set m sn).length = q := ⟨_, rfl⟩
      rw [hq1] at hf1
      obtain ⟨r2, t2, hf2, -⟩ := rq.rk.r2
      obtain ⟨q2, hq2⟩ : ∃ q, (n0 ++ [(bk, (m : Int))]).length = q := ⟨_, rfl⟩
      rw [hq2] at hf2
      obtain ⟨r3, t3, hf3, -⟩ := rq.rk.r3
      obtain ⟨q3, hq3⟩ : ∃ q, ns.length = q := ⟨_, rfl⟩
      rw [hq3] at hf3
      subst hf0 hf1 hf2 hf3
      clear hq0 hq1 hq2 hq3
      have RQ : Hid (Rb u1.heap.size u3.heap.size u3 (.slice r0 q0 t0) (.slice r1 q1 t1) (.slice r2 q2 t2) (.slice r3 q3 t3) z0 (z1.set m sn) (n0 ++ [(bk, (m : Int))]) ns) := rq
      have HAP : Hid (¬ InT (.slice r0 q0 t0) (.slice r1 q1 t1) (.slice r2 q2 t2) (.slice r3 q3 t3) u2.heap.size) := fun hk => by have hz := HZ3.out; rcases nq _ hk with h | h; have := PW3.out.rb.ge _ h; omega; omega
      have hz := HZ3.out
      have hno : ∀ k, (Value.slice g2 m2 h2).ownBlock = some k → u1.heap.size ≤ k ∧ k < u2.heap.size := fun k e => PW3.out.rb.ge k (.inr (.inl e))
      have KX5 : Hid (Blk u3 u2.heap.size (T6 (.slice g0 m0 h0) (.slice (some ⟨rb, 0, none⟩) m1 h1) l0 l1 (.slice g2 m2 h2) (.slice ca mc cc)) 33) := KX3.out.fr fq (fun e => by have := hno _ e; omega)
      have KP5 : Hid (Blk u3 w.heap.size (T6 (.slice e0 m0 f0) (.slice e1 m1 f1) l0 l1 (.slice e2 m2 f2) (.slice e3 m3 f3)) 33) := KP3.out.fr fq (fun e => by have := hno _ e; omega)
      have KR5 : Hid (Blk u3 (w.heap.size + 1) (T6 (.slice none 0 0) (.slice none 0 0) 0 0 (.slice none 0 0) (.slice none 0 0)) 33) := KR3.out.fr fq (fun e => by have := hno _ e; omega)
      have HO5 : Hid (Ok6 W0.heap.size u0.heap.size u3 (.slice e0 m0 f0) (.slice e1 m1 f1) (.slice e2 m2 f2) (.slice e3 m3 f3) z0 z1 n0 n1) := HO3.out.fr fq (fun k hk e => by have := hno _ e; have := HO3.out.ge k hk; omega)
      have HB7 : Hid (Below w.heap.size w u3) := HB5.out.trans (bq.mono (by omega))
      have HZ5 : Hid (u2.heap.size + 2 ≤ u3.heap.size ∧ w.heap.size + 2 ≤ u1.heap.size ∧ u1.heap.size ≤ u2.heap.size ∧ u0.heap.size ≤ u1.heap.size) := ⟨by have := fq.size; omega, hz.2⟩
      have hn1 : u2.heap.size ≠ w.heap.size := by omega
      have hn2 : u2.heap.size ≠ w.heap.size + 1 := by omega
      have hn3 : w.heap.size ≠ u2.heap.size := by omega
      have hn4 : w.heap.size + 1 ≠ u2.heap.size := by omega
      clear hfull hroom rq nq bq fq hz hno
      have HLE : Hid (l1 ≤ 1000000) := hlr2
      have hgt : ¬ (1000000 < l1) := by omega
      have HFD : Hid (∀ W, st6 (st6 u3 u2.heap.size (.slice r0 q0 t0) (.slice r1 q1 t1) l0 l1 (.slice r2 q2 t2) (.slice r3 q3 t3)) (w.heap.size + 1) (.slice r0 q0 t0) (.slice r1 q1 t1) l0 l1 (.slice r2 q2 t2) (.slice r3 q3 t3) = W → Blk W (w.heap.size + 1) (T6 (.slice r0 q0 t0) (.slice r1 q1 t1) l0 l1 (.slice r2 q2 t2) (.slice r3 q3 t3)) 33 ∧ CaP1 z0 z1 l0 l1 n0 n1 w (.returned (.tuple #[.agg (T6 (.slice r0 q0 t0) (.slice r1 q1 t1) l0 l1 (.slice r2 q2 t2) (.slice r3 q3 t3)), .bool true])) W) := by
        rintro _ rfl
        have hz := HZ5.out
        have hf1 := fr_put6 u3 u2.heap.size (.slice r0 q0 t0) (.slice r1 q1 t1) l0 l1 (.slice r2 q2 t2) (.slice r3 q3 t3)
        have hf2 := fr_put6 (st6 u3 u2.heap.size (.slice r0 q0 t0) (.slice r1 q1 t1) l0 l1 (.slice r2 q2 t2) (.slice r3 q3 t3)) (w.heap.size + 1) (.slice r0 q0 t0) (.slice r1 q1 t1) l0 l1 (.slice r2 q2 t2) (.slice r3 q3 t3)
        have hz1 := hf1.size
        have hz2 := hf2.size
        exact ⟨put6 (KR5.out.fr hf1 (fun e => by omega)) _ _ _ _ _ _, HDONE.out HLE.out H60.out _ _ ⟨_, _, _, _, rfl, ((RQ.out.fr (Nat.le_refl _) hf1 (fun k hk e => HAP.out (e ▸ hk))).fr hz1 hf2 (fun k hk e => by have := RQ.out.ge k hk; omega)).mono (by omega) (by omega), (HB7.out.trans (hf1.below (by omega) (fun j e => by omega))).trans (hf2.below (by omega) (fun j e => by omega))⟩⟩
      unfold st6 at HFD
      have x0 := KX5.out.cell 0
      have xf0 := KX5.out.frozen 0
      have x1 := KX5.out.cell 1
      have xf1 := KX5.out.frozen 1
      have x2 := KX5.out.cell 2
      have xf2 := KX5.out.frozen 2
      have x3 := KX5.out.cell 3
      have xf3 := KX5.out.frozen 3
      have x4 := KX5.out.cell 4
      have xf4 := KX5.out.frozen 4
      have x5 := KX5.out.cell 5
      have xf5 := KX5.out.frozen 5
      have xl := KX5.out.lt
      simp at x0 x1 x2 x3 x4 x5
      have y0 := KR5.out.cell 0
      have yf0 := KR5.out.frozen 0
      have y1 := KR5.out.cell 1
      have yf1 := KR5.out.frozen 1
      have y2 := KR5.out.cell 2
      have yf2 := KR5.out.frozen 2
      have y3 := KR5.out.cell 3
      have yf3 := KR5.out.frozen 3
      have y4 := KR5.out.cell 4
      have yf4 := KR5.out.frozen 4
      have y5 := KR5.out.cell 5
      have yf5 := KR5.out.frozen 5
      have yl := KR5.out.lt
      simp at y0 y1 y2 y3 y4 y5
      go_wp2
      exact bodyPost_ret (v := .tuple #[.agg (T6 (.slice r0 q0 t0) (.slice r1 q1 t1) l0 l1 (.slice r2 q2 t2) (.slice r3 q3 t3)), .bool true]) (results_T rfl _ _ _ _ _ _ _ _ _ _ rfl rfl (HFD.out _ rfl).1) rfl (HFD.out _ rfl).2
    · subst hlo
      obtain ⟨V4, hV4⟩ : ∃ V, V3.setCell ⟨u2.heap.size, 3, none⟩ (.int .i64 (l1 + 1)) = V := ⟨_, rfl⟩
      have fq : Fr (fun k => k = u2.heap.size) V3 V4 := by rw [← hV4]; exact Fr.ofGrown (grown_set _ _ _ _) (fun k e => (Option.some.inj e).symm)
      have hz3 := HZ3.out
      have KX4 : Hid (Blk V4 u2.heap.size (T6 (.slice g0 m0 h0) (.slice (some ⟨rb, 0, none⟩) m1 h1) l0 (l1 + 1) (.slice g2 m2 h2) (.slice ca mc cc)) 33) := by rw [← hV4]; exact KX3.out.set 3 _
      have PW4 : Hid (Pw0 u1.heap.size u2.heap.size V4 (.slice g0 m0 h0) (.slice (some ⟨rb, 0, none⟩) m1 h1) (.slice g2 m2 h2) (.slice ca mc cc) z0 (z1.set m sn) n0 ns) := PW3.out.fr (by omega) fq (fun k hk e => by have := PW3.out.rb.ge k hk; omega)
      have KN4 : Hid (Blk V4 (u2.heap.size + 1) (H2 kd (m : Int)) 68) := KN3.out.fr fq (by omega)
      have KP4 : Hid (Blk V4 w.heap.size (T6 (.slice e0 m0 f0) (.slice e1 m1 f1) l0 l1 (.slice e2 m2 f2) (.slice e3 m3 f3)) 33) := KP3.out.fr fq (by omega)
      have KR4 : Hid (Blk V4 (w.heap.size + 1) (T6 (.slice none 0 0) (.slice none 0 0) 0 0 (.slice none 0 0) (.slice none 0 0)) 33) := KR3.out.fr fq (by omega)
      have HO4 : Hid (Ok6 W0.heap.size u0.heap.size V4 (.slice e0 m0 f0) (.slice e1 m1 f1) (.slice e2 m2 f2) (.slice e3 m3 f3) z0 z1 n0 n1) := HO3.out.fr fq (fun k hk e => by have := HO3.out.ge k hk; omega)
      have HB6 : Hid (Below w.heap.size w V4) := HB5.out.trans (fq.below (by have := HB5.out.size; omega) (fun k e => by omega))
      have HZ4 : Hid (u2.heap.size + 2 ≤ V4.heap.size ∧ w.heap.size + 2 ≤ u1.heap.size ∧ u1.heap.size ≤ u2.heap.size ∧ u0.heap.size ≤ u1.heap.size) := ⟨by have := fq.size; omega, hz3.2⟩
      have xk := KX3.out.cell 3
      have xkf := KX3.out.frozen 3
      simp at xk
      clear fq hz3
      have HLR' := HLR.out
      have hlr1 : 0 ≤ l1 := HLR'.1
      have hlr2 : l1 ≤ 1000000 := HLR'.2
      clear HLR'
      by_cases hbk : 0 < bk
      case neg =>
        have hbk0 : bk = 0 := by have := HBK.out; omega
        subst hbk0
        clear hbk
        simp only [reduceIte, List.append_nil] at HDONE
        by_cases hle : l1 + 1 ≤ 1000000
        case neg =>
          have HNL : Hid (¬ (l1 + 1 ≤ 1000000 ∧ ((0 : Int) = 0 ∨ n0.length < 60))) := fun h => hle h.1
          have hgt : 1000000 < l1 + 1 := by omega
          clear hle
          have HFR : Hid (∀ W, st6 V4 (w.heap.size + 1) (.slice e0 m0 f0) (.slice e1 m1 f1) l0 l1 (.slice e2 m2 f2) (.slice e3 m3 f3) = W → Blk W (w.heap.size + 1) (T6 (.slice e0 m0 f0) (.slice e1 m1 f1) l0 l1 (.slice e2 m2 f2) (.slice e3 m3 f3)) 33 ∧ CaP1 z0 z1 l0 l1 n0 n1 w (.returned (.tuple #[.agg (T6 (.slice e0 m0 f0) (.slice e1 m1 f1) l0 l1 (.slice e2 m2 f2) (.slice e3 m3 f3)), .bool false])) W) := by
            rintro _ rfl
            have hz := HZ4.out
            have hs0 := HS.out
            have hfr := fr_put6 V4 (w.heap.size + 1) (.slice e0 m0 f0) (.slice e1 m1 f1) l0 l1 (.slice e2 m2 f2) (.slice e3 m3 f3)
            have hzz := hfr.size
            exact ⟨put6 KR4.out _ _ _ _ _ _, HREF.out HNL.out _ _ ⟨_, _, _, _, rfl, ((HO4.out.fr hfr (fun k hk e => by have := HO4.out.ge k hk; omega)).mono (by omega) (by omega)).rb, HB6.out.trans (hfr.below (by omega) (fun j e => by omega))⟩⟩
          unfold st6 at HFR
          have x0 := KX4.out.cell 0
          have xf0 := KX4.out.frozen 0
          have x1 := KX4.out.cell 1
          have xf1 := KX4.out.frozen 1
          have x2 := KX4.out.cell 2
          have xf2 := KX4.out.frozen 2
          have x3 := KX4.out.cell 3
          have xf3 := KX4.out.frozen 3
          have x4 := KX4.out.cell 4
          have xf4 := KX4.out.frozen 4
          have x5 := KX4.out.cell 5
          have xf5 := KX4.out.frozen 5
          have xl := KX4.out.lt
          simp at x0 x1 x2 x3 x4 x5
          have p0 := KP4.out.cell 0
          have pf0 := KP4.out.frozen 0
          have p1 := KP4.out.cell 1
          have pf1 := KP4.out.frozen 1
          have p2 := KP4.out.cell 2
          have pf2 := KP4.out.frozen 2
          have p3 := KP4.out.cell 3
          have pf3 := KP4.out.frozen 3
          have p4 := KP4.out.cell 4
          have pf4 := KP4.out.frozen 4
          have p5 := KP4.out.cell 5
          have pf5 := KP4.out.frozen 5
          have pl := KP4.out.lt
          simp at p0 p1 p2 p3 p4 p5
          have y0 := KR4.out.cell 0
          have yf0 := KR4.out.frozen 0
          have y1 := KR4.out.cell 1
          have yf1 := KR4.out.frozen 1
          have y2 := KR4.out.cell 2
          have yf2 := KR4.out.frozen 2
          have y3 := KR4.out.cell 3
          have yf3 := KR4.out.frozen 3
          have y4 := KR4.out.cell 4
          have yf4 := KR4.out.frozen 4
          have y5 := KR4.out.cell 5
          have yf5 := KR4.out.frozen 5
          have yl := KR4.out.lt
          simp at y0 y1 y2 y3 y4 y5
          go_wp2
          exact bodyPost_ret (v := .tuple #[.agg (T6 (.slice e0 m0 f0) (.slice e1 m1 f1) l0 l1 (.slice e2 m2 f2) (.slice e3 m3 f3)), .bool false]) (results_T rfl _ _ _ _ _ _ _ _ _ _ rfl rfl (HFR.out _ rfl).1) rfl (HFR.out _ rfl).2
        have HLE : Hid (l1 + 1 ≤ 1000000) := hle
        have hgt : ¬ (1000000 < l1 + 1) := by omega
        clear hle
        have HFD : Hid (∀ W, st6 V4 (w.heap.size + 1) (.slice g0 m0 h0) (.slice (some ⟨rb, 0, none⟩) m1 h1) l0 (l1 + 1) (.slice g2 m2 h2) (.slice ca mc cc) = W → Blk W (w.heap.size + 1) (T6 (.slice g0 m0 h0) (.slice (some ⟨rb, 0, none⟩) m1 h1) l0 (l1 + 1) (.slice g2 m2 h2) (.slice ca mc cc)) 33 ∧ CaP1 z0 z1 l0 l1 n0 n1 w (.returned (.tuple #[.agg (T6 (.slice g0 m0 h0) (.slice (some ⟨rb, 0, none⟩) m1 h1) l0 (l1 + 1) (.slice g2 m2 h2) (.slice ca mc cc)), .bool true])) W) := by
          rintro _ rfl
          have hz := HZ4.out
          have hfr := fr_put6 V4 (w.heap.size + 1) (.slice g0 m0 h0) (.slice (some ⟨rb, 0, none⟩) m1 h1) l0 (l1 + 1) (.slice g2 m2 h2) (.slice ca mc cc)
          have hzz := hfr.size
          exact ⟨put6 KR4.out _ _ _ _ _ _, HDONE.out HLE.out (.inl trivial) _ _ ⟨_, _, _, _, rfl, (PW4.out.rb.fr (by omega) hfr (fun k hk e => by have := PW4.out.rb.ge k hk; omega)).mono (by omega) (by omega), HB6.out.trans (hfr.below (by omega) (fun j e => by omega))⟩⟩
        unfold st6 at HFD
        have x0 := KX4.out.cell 0
        have xf0 := KX4.out.frozen 0
        have x1 := KX4.out.cell 1
        have xf1 := KX4.out.frozen 1
        have x2 := KX4.out.cell 2
        have xf2 := KX4.out.frozen 2
        have x3 := KX4.out.cell 3
        have xf3 := KX4.out.frozen 3
        have x4 := KX4.out.cell 4
        have xf4 := KX4.out.frozen 4
        have x5 := KX4.out.cell 5
        have xf5 := KX4.out.frozen 5
        have xl := KX4.out.lt
        simp at x0 x1 x2 x3 x4 x5
        have y0 := KR4.out.cell 0
        have yf0 := KR4.out.frozen 0
        have y1 := KR4.out.cell 1
        have yf1 := KR4.out.frozen 1
        have y2 := KR4.out.cell 2
        have yf2 := KR4.out.frozen 2
        have y3 := KR4.out.cell 3
        have yf3 := KR4.out.frozen 3
        have y4 := KR4.out.cell 4
        have yf4 := KR4.out.frozen 4
        have y5 := KR4.out.cell 5
        have yf5 := KR4.out.frozen 5
        have yl := KR4.out.lt
        simp at y0 y1 y2 y3 y4 y5
        go_wp2
        exact bodyPost_ret (v := .tuple #[.agg (T6 (.slice g0 m0 h0) (.slice (some ⟨rb, 0, none⟩) m1 h1) l0 (l1 + 1) (.slice g2 m2 h2) (.slice ca mc cc)), .bool true]) (results_T rfl _ _ _ _ _ _ _ _ _ _ rfl rfl (HFD.out _ rfl).1) rfl (HFD.out _ rfl).2
      have hb0 : ¬ bk = 0 := by omega
      simp only [hb0, if_false, false_or] at HDONE HREF
      clear hb0
      have HN60 : Hid (n0.length ≤ 60) := G.out.2.2.1.2.2.1
      have x0 := KX4.out.cell 0
      have xf0 := KX4.out.frozen 0
      have x1 := KX4.out.cell 1
      have xf1 := KX4.out.frozen 1
      have x2 := KX4.out.cell 2
      have xf2 := KX4.out.frozen 2
      have x3 := KX4.out.cell 3
      have xf3 := KX4.out.frozen 3
      have x4 := KX4.out.cell 4
      have xf4 := KX4.out.frozen 4
      have x5 := KX4.out.cell 5
      have xf5 := KX4.out.frozen 5
      have xl := KX4.out.lt
      simp at x0 x1 x2 x3 x4 x5
      have kn1 := KN4.out.cell 1
      have knl := KN4.out.lt
      simp at kn1
      go_wp2_with (fail)
      refine (putR0_c u1.heap.size _ _ _ _ l0 (l1 + 1) z0 (z1.set m sn) n0 ns bk (m : Int) V4 ⟨PW4.out.rb.mono (Nat.le_refl _) (by have := HZ4.out; omega), PW4.out.own, PW4.out.ap⟩ (by have := HZ4.out; omega) HN60.out).mono ?_
      rintro e u3 ⟨hfull, hroom⟩
      clear x0 xf0 x1 xf1 x2 xf2 x3 xf3 x4 xf4 x5 xf5 xl kn1 knl xk xkf hV4 hV3 hczd hfzd q0 q2 ne
      by_cases h60 : n0.length < 60
      case neg =>
        have HNL : Hid (¬ (l1 + 1 ≤ 1000000 ∧ n0.length < 60)) := fun h => h60 h.2
        obtain ⟨⟨y0, y1, y2, y3, rfl, ⟨rq, nq⟩, bq⟩, fq⟩ := hfull (by have := HN60.out; omega)
        obtain ⟨r0, t0, hf0, -⟩ := rq.rk.r0
        obtain ⟨q0, hq0⟩ : ∃ q, z0.length = q := ⟨_, rfl⟩
        rw [hq0] at hf0
        obtain ⟨r1, t1, hf1, -⟩ := rq.rk.r1
        obtain ⟨q1, hq1⟩ : ∃ q, (z1.set m sn).length = q := ⟨_, rfl⟩
        rw [hq1] at hf1
        obtain ⟨r2, t2, hf2, -⟩ := rq.rk.r2
        obtain ⟨q2, hq2⟩ : ∃ q, n0.length = q := ⟨_, rfl⟩
        rw [hq2] at hf2
        obtain ⟨r3, t3, hf3, -⟩ := rq.rk.r3
        obtain ⟨q3, hq3⟩ : ∃ q, ns.length = q := ⟨_, rfl⟩
        rw [hq3] at hf3
        subst hf0 hf1 hf2 hf3
        clear hq0 hq1 hq2 hq3
        have RQ : Hid (Rb u1.heap.size u3.heap.size u3 (.slice r0 q0 t0) (.slice r1 q1 t1) (.slice r2 q2 t2) (.slice r3 q3 t3) z0 (z1.set m sn) n0 ns) := rq
        have HAP : Hid (¬ InT (.slice r0 q0 t0) (.slice r1 q1 t1) (.slice r2 q2 t2) (.slice r3 q3 t3) u2.heap.size) := fun hk => by have hz := HZ4.out; rcases nq _ hk with h | h; have := PW4.out.rb.ge _ h; omega; omega
        have hz := HZ4.out
        have hno : ∀ k, (Value.slice g2 m2 h2).ownBlock = some k → u1.heap.size ≤ k ∧ k < u2.heap.size := fun k e => PW4.out.rb.ge k (.inr (.inl e))
        have KX5 : Hid (Blk u3 u2.heap.size (T6 (.slice g0 m0 h0) (.slice (some ⟨rb, 0, none⟩) m1 h1) l0 (l1 + 1) (.slice g2 m2 h2) (.slice ca mc cc)) 33) := KX4.out.fr fq (fun e => by have := hno _ e; omega)
        have KP5 : Hid (Blk u3 w.heap.size (T6 (.slice e0 m0 f0) (.slice e1 m1 f1) l0 l1 (.slice e2 m2 f2) (.slice e3 m3 f3)) 33) := KP4.out.fr fq (fun e => by have := hno _ e; omega)
        have KR5 : Hid (Blk u3 (w.heap.size + 1) (T6 (.slice none 0 0) (.slice none 0 0) 0 0 (.slice none 0 0) (.slice none 0 0)) 33) := KR4.out.fr fq (fun e => by have := hno _ e; omega)
        have HO5 : Hid (Ok6 W0.heap.size u0.heap.size u3 (.slice e0 m0 f0) (.slice e1 m1 f1) (.slice e2 m2 f2) (.slice e3 m3 f3) z0 z1 n0 n1) := HO4.out.fr fq (fun k hk e => by have := hno _ e; have := HO4.out.ge k hk; omega)
        have HB7 : Hid (Below w.heap.size w u3) := HB6.out.trans (bq.mono (by omega))
        have HZ5 : Hid (u2.heap.size + 2 ≤ u3.heap.size ∧ w.heap.size + 2 ≤ u1.heap.size ∧ u1.heap.size ≤ u2.heap.size ∧ u0.heap.size ≤ u1.heap.size) := ⟨by have := fq.size; omega, hz.2⟩
        have hn1 : u2.heap.size ≠ w.heap.size := by omega
        have hn2 : u2.heap.size ≠ w.heap.size + 1 := by omega
        have hn3 : w.heap.size ≠ u2.heap.size := by omega
        have hn4 : w.heap.size + 1 ≠ u2.heap.size := by omega
        clear hfull hroom rq nq bq fq hz hno
        have HFR : Hid (∀ W, st6 (st6 u3 u2.heap.size (.slice r0 q0 t0) (.slice r1 q1 t1) l0 (l1 + 1) (.slice r2 q2 t2) (.slice r3 q3 t3)) (w.heap.size + 1) (.slice e0 m0 f0) (.slice e1 m1 f1) l0 l1 (.slice e2 m2 f2) (.slice e3 m3 f3) = W → Blk W (w.heap.size + 1) (T6 (.slice e0 m0 f0) (.slice e1 m1 f1) l0 l1 (.slice e2 m2 f2) (.slice e3 m3 f3)) 33 ∧ CaP1 z0 z1 l0 l1 n0 n1 w (.returned (.tuple #[.agg (T6 (.slice e0 m0 f0) (.slice e1 m1 f1) l0 l1 (.slice e2 m2 f2) (.slice e3 m3 f3)), .bool false])) W) := by
          rintro _ rfl
          have hz := HZ5.out
          have hs0 := HS.out
          have hf1 := fr_put6 u3 u2.heap.size (.slice r0 q0 t0) (.slice r1 q1 t1) l0 (l1 + 1) (.slice r2 q2 t2) (.slice r3 q3 t3)
          have hf2 := fr_put6 (st6 u3 u2.heap.size (.slice r0 q0 t0) (.slice r1 q1 t1) l0 (l1 + 1) (.slice r2 q2 t2) (.slice r3 q3 t3)) (w.heap.size + 1) (.slice e0 m0 f0) (.slice e1 m1 f1) l0 l1 (.slice e2 m2 f2) (.slice e3 m3 f3)
          have hz1 := hf1.size
          have hz2 := hf2.size
          exact ⟨put6 (KR5.out.fr hf1 (fun e => by omega)) _ _ _ _ _ _, HREF.out HNL.out _ _ ⟨_, _, _, _, rfl, (((HO5.out.fr hf1 (fun k hk e => by have := HO5.out.ge k hk; omega)).fr hf2 (fun k hk e => by have := HO5.out.ge k hk; omega)).mono (by omega) (by omega)).rb, (HB7.out.trans (hf1.below (by omega) (fun j e => by omega))).trans (hf2.below (by omega) (fun j e => by omega))⟩⟩
        unfold st6 at HFR
        have x0 := KX5.out.cell 0
        have xf0 := KX5.out.frozen 0
        have x1 := KX5.out.cell 1
        have xf1 := KX5.out.frozen 1
        have x2 := KX5.out.cell 2
        have xf2 := KX5.out.frozen 2
        have x3 := KX5.out.cell 3
        have xf3 := KX5.out.frozen 3
        have x4 := KX5.out.cell 4
        have xf4 := KX5.out.frozen 4
        have x5 := KX5.out.cell 5
        have xf5 := KX5.out.frozen 5
        have xl := KX5.out.lt
        simp at x0 x1 x2 x3 x4 x5
        have p0 := KP5.out.cell 0
        have pf0 := KP5.out.frozen 0
        have p1 := KP5.out.cell 1
        have pf1 := KP5.out.frozen 1
        have p2 := KP5.out.cell 2
        have pf2 := KP5.out.frozen 2
        have p3 := KP5.out.cell 3
        have pf3 := KP5.out.frozen 3
        have p4 := KP5.out.cell 4
        have pf4 := KP5.out.frozen 4
        have p5 := KP5.out.cell 5
        have pf5 := KP5.out.frozen 5
        have pl := KP5.out.lt
        simp at p0 p1 p2 p3 p4 p5
        have y0 := KR5.out.cell 0
        have yf0 := KR5.out.frozen 0
        have y1 := KR5.out.cell 1
        have yf1 := KR5.out.frozen 1
        have y2 := KR5.out.cell 2
        have yf2 := KR5.out.frozen 2
        have y3 := KR5.out.cell 3
        have yf3 := KR5.out.frozen 3
        have y4 := KR5.out.cell 4
        have yf4 := KR5.out.frozen 4
        have y5 := KR5.out.cell 5
        have yf5 := KR5.out.frozen 5
        have yl := KR5.out.lt
        simp at y0 y1 y2 y3 y4 y5
        go_wp2
        exact bodyPost_ret (v := .tuple #[.agg (T6 (.slice e0 m0 f0) (.slice e1 m1 f1) l0 l1 (.slice e2 m2 f2) (.slice e3 m3 f3)), .bool false]) (results_T rfl _ _ _ _ _ _ _ _ _ _ rfl rfl (HFR.out _ rfl).1) rfl (HFR.out _ rfl).2
      have H60 : Hid (n0.length < 60) := h60
      obtain ⟨⟨y0, y1, y2, y3, rfl, ⟨rq, nq⟩, bq⟩, fq⟩ := hroom h60
      obtain ⟨r0, t0, hf0, -⟩ := rq.rk.r0
      obtain ⟨q0, hq0⟩ : ∃ q, z0.length = q := ⟨_, rfl⟩
      rw [hq0] at hf0
      obtain ⟨r1, t1, hf1, -⟩ := rq.rk.r1
      obtain ⟨q1, hq1⟩ : ∃ q, (z1.set m sn).length = q := ⟨_, rfl⟩
      rw [hq1] at hf1
      obtain ⟨r2, t2, hf2, -⟩ := rq.rk.r2
      obtain ⟨q2, hq2⟩ : ∃ q, (n0 ++ [(bk, (m : Int))]).length = q := ⟨_, rfl⟩
      rw [hq2] at hf2
      obtain ⟨r3, t3, hf3, -⟩ := rq.rk.r3
      obtain ⟨q3, hq3⟩ : ∃ q, ns.length = q := ⟨_, rfl⟩
      rw [hq3] at hf3
      subst hf0 hf1 hf2 hf3
      clear hq0 hq1 hq2 hq3
      have RQ : Hid (Rb u1.heap.size u3.heap.size u3 (.slice r0 q0 t0) (.slice r1 q1 t1) (.slice r2 q2 t2) (.slice r3 q3 t3) z0 (z1.set m sn) (n0 ++ [(bk, (m : Int))]) ns) := rq
      have HAP : Hid (¬ InT (.slice r0 q0 t0) (.slice r1 q1 t1) (.slice r2 q2 t2) (.slice r3 q3 t3) u2.heap.size) := fun hk => by have hz := HZ4.out; rcases nq _ hk with h | h; have := PW4.out.rb.ge _ h; omega; omega
      have hz := HZ4.out
      have hno : ∀ k, (Value.slice g2 m2 h2).ownBlock = some k → u1.heap.size ≤ k ∧ k < u2.heap.size := fun k e => PW4.out.rb.ge k (.inr (.inl e))
      have KX5 : Hid (Blk u3 u2.heap.size (T6 (.slice g0 m0 h0) (.slice (some ⟨rb, 0, none⟩) m1 h1) l0 (l1 + 1) (.slice g2 m2 h2) (.slice ca mc cc)) 33) := KX4.out.fr fq (fun e => by have := hno _ e; omega)
      have KP5 : Hid (Blk u3 w.heap.size (T6 (.slice e0 m0 f0) (.slice e1 m1 f1) l0 l1 (.slice e2 m2 f2) (.slice e3 m3 f3)) 33) := KP4.out.fr fq (fun e => by have := hno _ e; omega)
      have KR5 : Hid (Blk u3 (w.heap.size + 1) (T6 (.slice none 0 0) (.slice none 0 0) 0 0 (.slice none 0 0) (.slice none 0 0)) 33) := KR4.out.fr fq (fun e => by have := hno _ e; omega)
      have HO5 : Hid (Ok6 W0.heap.size u0.heap.size u3 (.slice e0 m0 f0) (.slice e1 m1 f1) (.slice e2 m2 f2) (.slice e3 m3 f3) z0 z1 n0 n1) := HO4.out.fr fq (fun k hk e => by have := hno _ e; have := HO4.out.ge k hk; omega)
      have HB7 : Hid (Below w.heap.size w u3) := HB6.out.trans (bq.mono (by omega))
      have HZ5 : Hid (u2.heap.size + 2 ≤ u3.heap.size ∧ w.heap.size + 2 ≤ u1.heap.size ∧ u1.heap.size ≤ u2.heap.size ∧ u0.heap.size ≤ u1.heap.size) := ⟨by have := fq.size; omega, hz.2⟩
      have hn1 : u2.heap.size ≠ w.heap.size := by omega
      have hn2 : u2.heap.size ≠ w.heap.size + 1 := by omega
      have hn3 : w.heap.size ≠ u2.heap.size := by omega
      have hn4 : w.heap.size + 1 ≠ u2.heap.size := by omega
      clear hfull hroom rq nq bq fq hz hno
      by_cases hle : l1 + 1 ≤ 1000000
      case neg =>
        have HNL : Hid (¬ (l1 + 1 ≤ 1000000 ∧ n0.length < 60)) := fun h => hle h.1
        have hgt : 1000000 < l1 + 1 := by omega
        clear hle
        have HFR : Hid (∀ W, st6 (st6 u3 u2.heap.size (.slice r0 q0 t0) (.slice r1 q1 t1) l0 (l1 + 1) (.slice r2 q2 t2) (.slice r3 q3 t3)) (w.heap.size + 1) (.slice e0 m0 f0) (.slice e1 m1 f1) l0 l1 (.slice e2 m2 f2) (.slice e3 m3 f3) = W → Blk W (w.heap.size + 1) (T6 (.slice e0 m0 f0) (.slice e1 m1 f1) l0 l1 (.slice e2 m2 f2) (.slice e3 m3 f3)) 33 ∧ CaP1 z0 z1 l0 l1 n0 n1 w (.returned (.tuple #[.agg (T6 (.slice e0 m0 f0) (.slice e1 m1 f1) l0 l1 (.slice e2 m2 f2) (.slice e3 m3 f3)), .bool false])) W) := by
          rintro _ rfl
          have hz := HZ5.out
          have hs0 := HS.out
          have hf1 := fr_put6 u3 u2.heap.size (.slice r0 q0 t0) (.slice r1 q1 t1) l0 (l1 + 1) (.slice r2 q2 t2) (.slice r3 q3 t3)
          have hf2 := fr_put6 (st6 u3 u2.heap.size (.slice r0 q0 t0) (.slice r1 q1 t1) l0 (l1 + 1) (.slice r2 q2 t2) (.slice r3 q3 t3)) (w.heap.size + 1) (.slice e0 m0 f0) (.slice e1 m1 f1) l0 l1 (.slice e2 m2 f2) (.slice e3 m3 f3)
          have hz1 := hf1.size
          have hz2 := hf2.size
          exact ⟨put6 (KR5.out.fr hf1 (fun e => by omega)) _ _ _ _ _ _, HREF.out HNL.out _ _ ⟨_, _, _, _, rfl, (((HO5.out.fr hf1 (fun k hk e => by have := HO5.out.ge k hk; omega)).fr hf2 (fun k hk e => by have := HO5.out.ge k hk; omega)).mono (by omega) (by omega)).rb, (HB7.out.trans (hf1.below (by omega) (fun j e => by omega))).trans (hf2.below (by omega) (fun j e => by omega))⟩⟩
        unfold st6 at HFR
        have x0 := KX5.out.cell 0
        have xf0 := KX5.out.frozen 0
        have x1 := KX5.out.cell 1
        have xf1 := KX5.out.frozen 1
        have x2 := KX5.out.cell 2
        have xf2 := KX5.out.frozen 2
        have x3 := KX5.out.cell 3
        have xf3 := KX5.out.frozen 3
        have x4 := KX5.out.cell 4
        have xf4 := KX5.out.frozen 4
        have x5 := KX5.out.cell 5
        have xf5 := KX5.out.frozen 5
        have xl := KX5.out.lt
        simp at x0 x1 x2 x3 x4 x5
        have p0 := KP5.out.cell 0
        have pf0 := KP5.out.frozen 0
        have p1 := KP5.out.cell 1
        have pf1 := KP5.out.frozen 1
        have p2 := KP5.out.cell 2
        have pf2 := KP5.out.frozen 2
        have p3 := KP5.out.cell 3
        have pf3 := KP5.out.frozen 3
        have p4 := KP5.out.cell 4
        have pf4 := KP5.out.frozen 4
        have p5 := KP5.out.cell 5
        have pf5 := KP5.out.frozen 5
        have pl := KP5.out.lt
        simp at p0 p1 p2 p3 p4 p5
        have y0 := KR5.out.cell 0
        have yf0 := KR5.out.frozen 0
        have y1 := KR5.out.cell 1
        have yf1 := KR5.out.frozen 1
        have y2 := KR5.out.cell 2
        have yf2 := KR5.out.frozen 2
        have y3 := KR5.out.cell 3
        have yf3 := KR5.out.frozen 3
        have y4 := KR5.out.cell 4
        have yf4 := KR5.out.frozen 4
        have y5 := KR5.out.cell 5
        have yf5 := KR5.out.frozen 5
        have yl := KR5.out.lt
        simp at y0 y1 y2 y3 y4 y5
        go_wp2
        exact bodyPost_ret (v := .tuple #[.agg (T6 (.slice e0 m0 f0) (.slice e1 m1 f1) l0 l1 (.slice e2 m2 f2) (.slice e3 m3 f3)), .bool false]) (results_T rfl _ _ _ _ _ _ _ _ _ _ rfl rfl (HFR.out _ rfl).1) rfl (HFR.out _ rfl).2
      have HLE : Hid (l1 + 1 ≤ 1000000) := hle
      have hgt : ¬ (1000000 < l1 + 1) := by omega
      clear hle
      have HFD : Hid (∀ W, st6 (st6 u3 u2.heap.size (.slice r0 q0 t0) (.slice r1 q1 t1) l0 (l1 + 1) (.slice r2 q2 t2) (.slice r3 q3 t3)) (w.heap.size + 1) (.slice r0 q0 t0) (.slice r1 q1 t1) l0 (l1 + 1) (.slice r2 q2 t2) (.slice r3 q3 t3) = W → Blk W (w.heap.size + 1) (T6 (.slice r0 q0 t0) (.slice r1 q1 t1) l0 (l1 + 1) (.slice r2 q2 t2) (.slice r3 q3 t3)) 33 ∧ CaP1 z0 z1 l0 l1 n0 n1 w (.returned (.tuple #[.agg (T6 (.slice r0 q0 t0) (.slice r1 q1 t1) l0 (l1 + 1) (.slice r2 q2 t2) (.slice r3 q3 t3)), .bool true])) W) := by
        rintro _ rfl
        have hz := HZ5.out
        have hf1 := fr_put6 u3 u2.heap.size (.slice r0 q0 t0) (.slice r1 q1 t1) l0 (l1 + 1) (.slice r2 q2 t2) (.slice r3 q3 t3)
        have hf2 := fr_put6 (st6 u3 u2.heap.size (.slice r0 q0 t0) (.slice r1 q1 t1) l0 (l1 + 1) (.slice r2 q2 t2) (.slice r3 q3 t3)) (w.heap.size + 1) (.slice r0 q0 t0) (.slice r1 q1 t1) l0 (l1 + 1) (.slice r2 q2 t2) (.slice r3 q3 t3)
        have hz1 := hf1.size
        have hz2 := hf2.size
        exact ⟨put6 (KR5.out.fr hf1 (fun e => by omega)) _ _ _ _ _ _, HDONE.out HLE.out H60.out _ _ ⟨_, _, _, _, rfl, ((RQ.out.fr (Nat.le_refl _) hf1 (fun k hk e => HAP.out (e ▸ hk))).fr hz1 hf2 (fun k hk e => by have := RQ.out.ge k hk; omega)).mono (by omega) (by omega), (HB7.out.trans (hf1.below (by omega) (fun j e => by omega))).trans (hf2.below (by omega) (fun j e => by omega))⟩⟩
      unfold st6 at HFD
      have x0 := KX5.out.cell 0
      have xf0 := KX5.out.frozen 0
      have x1 := KX5.out.cell 1
      have xf1 := KX5.out.frozen 1
      have x2 := KX5.out.cell 2
      have xf2 := KX5.out.frozen 2
      have x3 := KX5.out.cell 3
      have xf3 := KX5.out.frozen 3
      have x4 := KX5.out.cell 4
      have xf4 := KX5.out.frozen 4
      have x5 := KX5.out.cell 5
      have xf5 := KX5.out.frozen 5
      have xl := KX5.out.lt
      simp at x0 x1 x2 x3 x4 x5
      have y0 := KR5.out.cell 0
      have yf0 := KR5.out.frozen 0
      have y1 := KR5.out.cell 1
      have yf1 := KR5.out.frozen 1
      have y2 := KR5.out.cell 2
      have yf2 := KR5.out.frozen 2
      have y3 := KR5.out.cell 3
      have yf3 := KR5.out.frozen 3
      have y4 := KR5.out.cell 4
      have yf4 := KR5.out.frozen 4
      have y5 := KR5.out.cell 5
      have yf5 := KR5.out.frozen 5
      have yl := KR5.out.lt
      simp at y0 y1 y2 y3 y4 y5
      go_wp2
      exact bodyPost_ret (v := .tuple #[.agg (T6 (.slice r0 q0 t0) (.slice r1 q1 t1) l0 (l1 + 1) (.slice r2 q2 t2) (.slice r3 q3 t3)), .bool true]) (results_T rfl _ _ _ _ _ _ _ _ _ _ rfl rfl (HFD.out _ rfl).1) rfl (HFD.out _ rfl).2
    )
end Go.Proofs.Ytkehcalijamhjaa

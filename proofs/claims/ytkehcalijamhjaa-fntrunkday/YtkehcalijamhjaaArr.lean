/- The program's arrive; no condition. -/
import Derived.Test.YtkehcalijamhjaaOpn
import Derived.Test.YtkehcalijamhjaaHea
import Derived.Test.YtkehcalijamhjaaInv
import Derived.Test.YtkehcalijamhjaaLvM
namespace Go.Proofs.Ytkehcalijamhjaa
open Go.RowKit Go.ChangeShapes Go.WideShapes Go.ChangeAt
set_option linter.unusedVariables false
set_option linter.unusedSimpArgs false
set_option maxRecDepth 8000
theorem hearF_lost (kd y : Int) (ow : Bool) : (hearF kd y ow).2.2 = 0 ∨ (hearF kd y ow).2.2 = 1 := by
  unfold hearF; repeat' split
  all_goals simp
theorem Lv.below {b g k0 k1 : Nat} {W W' : World} {c0 c1 : Value} {l0 l1 : Int} {z0 z1 : List Int} {n0 n1 : Mvs} (h : Lv b W g c0 c1 l0 l1 k0 k1 z0 z1 n0 n1) (hb : Below W.heap.size W W') : Lv b W' g c0 c1 l0 l1 k0 k1 z0 z1 n0 n1 :=
  ⟨h.blk.below hb h.blk.lt, h.o0.below hb, h.o1.below hb, h.ch0.below hb, h.ch1.below hb, h.bg, h.bk0, h.bk1, h.gk0, h.gk1, h.kk, h.d0, h.d1, h.ap⟩
theorem Lv.seen0 {b g k0 k1 : Nat} {W W' : World} {c1 : Value} {br cr m : Nat} {l0 l1 : Int} {z0 z1 : List Int} {n0 n1 : Mvs} (h : Lv b W g (.slice (some ⟨br, 0, none⟩) z0.length cr) c1 l0 l1 k0 k1 z0 z1 n0 n1) (y : Int) (hW : W.setCell ⟨br, m, none⟩ (.int .i64 y) = W') : Lv b W' g (.slice (some ⟨br, 0, none⟩) z0.length cr) c1 l0 l1 k0 k1 (z0.set m y) z1 n0 n1 := by
  have hf : Fr (fun k => k = br) W W' := by rw [← hW]; exact Fr.ofGrown (grown_set _ _ _ _) (fun k e => (Option.some.inj e).symm)
  have hd := h.d0 br rfl
  exact ⟨h.blk.fr hf (fun e => hd.1 e.symm), by rw [← hW]; exact Ow.setAt rfl h.o0 m y, ownsRow_fr h.o1 hf (fun k e e' => by subst e'; exact h.ap _ rfl e), h.ch0.fr hf (fun e => hd.2.1 e.symm), h.ch1.fr hf (fun e => hd.2.2 e.symm), h.bg, h.bk0, h.bk1, h.gk0, h.gk1, h.kk, h.d0, h.d1, h.ap⟩
theorem Lv.lost0 {b g k0 k1 : Nat} {W W' : World} {c0 c1 : Value} {l0 l1 : Int} {z0 z1 : List Int} {n0 n1 : Mvs} (h : Lv b W g c0 c1 l0 l1 k0 k1 z0 z1 n0 n1) (y : Int) (hW : W.setCell ⟨g, 2, none⟩ (.int .i64 y) = W') : Lv b W' g c0 c1 y l1 k0 k1 z0 z1 n0 n1 := by
  have hf : Fr (fun k => k = g) W W' := by rw [← hW]; exact Fr.ofGrown (grown_set _ _ _ _) (fun k e => (Option.some.inj e).symm)
  exact ⟨by rw [← hW]; exact h.blk.set 2 _, ownsRow_fr h.o0 hf (fun k e e' => (h.d0 k e).1 e'), ownsRow_fr h.o1 hf (fun k e e' => (h.d1 k e).1 e'), h.ch0.fr hf (fun e => h.gk0 e.symm), h.ch1.fr hf (fun e => h.gk1 e.symm), h.bg, h.bk0, h.bk1, h.gk0, h.gk1, h.kk, h.d0, h.d1, h.ap⟩
theorem Lv.way0 {b g k0 k1 : Nat} {W W' : World} {c0 c1 : Value} {l0 l1 : Int} {z0 z1 : List Int} {n0 n1 : Mvs} (h : Lv b W g c0 c1 l0 l1 k0 k1 z0 z1 n0 n1) {ns : Mvs} (hc : Chn W' k0 ns) (hf : Fr (fun k => k = k0) W W') : Lv b W' g c0 c1 l0 l1 k0 k1 z0 z1 ns n1 :=
  ⟨h.blk.fr hf h.gk0, ownsRow_fr h.o0 hf (fun k e e' => (h.d0 k e).2.1 e'), ownsRow_fr h.o1 hf (fun k e e' => (h.d1 k e).2.1 e'), hc, h.ch1.fr hf (fun e => h.kk e.symm), h.bg, h.bk0, h.bk1, h.gk0, h.gk1, h.kk, h.d0, h.d1, h.ap⟩
theorem Lv.seen1 {b g k0 k1 : Nat} {W W' : World} {c0 : Value} {br cr m : Nat} {l0 l1 : Int} {z0 z1 : List Int} {n0 n1 : Mvs} (h : Lv b W g c0 (.slice (some ⟨br, 0, none⟩) z1.length cr) l0 l1 k0 k1 z0 z1 n0 n1) (y : Int) (hW : W.setCell ⟨br, m, none⟩ (.int .i64 y) = W') : Lv b W' g c0 (.slice (some ⟨br, 0, none⟩) z1.length cr) l0 l1 k0 k1 z0 (z1.set m y) n0 n1 := by
  have hf : Fr (fun k => k = br) W W' := by rw [← hW]; exact Fr.ofGrown (grown_set _ _ _ _) (fun k e => (Option.some.inj e).symm)
  have hd := h.d1 br rfl
  exact ⟨h.blk.fr hf (fun e => hd.1 e.symm), ownsRow_fr h.o0 hf (fun k e e' => by subst e'; exact h.ap _ e rfl), by rw [← hW]; exact Ow.setAt rfl h.o1 m y, h.ch0.fr hf (fun e => hd.2.1 e.symm), h.ch1.fr hf (fun e => hd.2.2 e.symm), h.bg, h.bk0, h.bk1, h.gk0, h.gk1, h.kk, h.d0, h.d1, h.ap⟩
theorem Lv.lost1 {b g k0 k1 : Nat} {W W' : World} {c0 c1 : Value} {l0 l1 : Int} {z0 z1 : List Int} {n0 n1 : Mvs} (h : Lv b W g c0 c1 l0 l1 k0 k1 z0 z1 n0 n1) (y : Int) (hW : W.setCell ⟨g, 3, none⟩ (.int .i64 y) = W') : Lv b W' g c0 c1 l0 y k0 k1 z0 z1 n0 n1 := by
  have hf : Fr (fun k => k = g) W W' := by rw [← hW]; exact Fr.ofGrown (grown_set _ _ _ _) (fun k e => (Option.some.inj e).symm)
  exact ⟨by rw [← hW]; exact h.blk.set 3 _, ownsRow_fr h.o0 hf (fun k e e' => (h.d0 k e).1 e'), ownsRow_fr h.o1 hf (fun k e e' => (h.d1 k e).1 e'), h.ch0.fr hf (fun e => h.gk0 e.symm), h.ch1.fr hf (fun e => h.gk1 e.symm), h.bg, h.bk0, h.bk1, h.gk0, h.gk1, h.kk, h.d0, h.d1, h.ap⟩
theorem Lv.way1 {b g k0 k1 : Nat} {W W' : World} {c0 c1 : Value} {l0 l1 : Int} {z0 z1 : List Int} {n0 n1 : Mvs} (h : Lv b W g c0 c1 l0 l1 k0 k1 z0 z1 n0 n1) {ns : Mvs} (hc : Chn W' k1 ns) (hf : Fr (fun k => k = k1) W W') : Lv b W' g c0 c1 l0 l1 k0 k1 z0 z1 n0 ns :=
  ⟨h.blk.fr hf h.gk1, ownsRow_fr h.o0 hf (fun k e e' => (h.d0 k e).2.2 e'), ownsRow_fr h.o1 hf (fun k e e' => (h.d1 k e).2.2 e'), h.ch0.fr hf h.kk, hc, h.bg, h.bk0, h.bk1, h.gk0, h.gk1, h.kk, h.d0, h.d1, h.ap⟩
/-- a note arrives at side 0: the trunk at work behind it, where it may be -/
def ArOk0 (l0 l1 : Int) (z0 z1 : List Int) (n0 n1 : Mvs) (kd : Int) (m : Nat) : Prop := l0 + (hearF kd (z0.getD m 0) ((m : Int) % 2 == 0)).2.2 ≤ 1000000 ∧ ((hearF kd (z0.getD m 0) ((m : Int) % 2 == 0)).2.1 = 0 ∨ n1.length < 60)
def bkN0 (z0 : List Int) (kd : Int) (m : Nat) : Mvs := if (hearF kd (z0.getD m 0) ((m : Int) % 2 == 0)).2.1 = 0 then [] else [((hearF kd (z0.getD m 0) ((m : Int) % 2 == 0)).2.1, (m : Int))]
def ArR0 (b g : Nat) (c0 c1 : Value) (l0 l1 : Int) (k0 k1 : Nat) (z0 z1 : List Int) (n0 n1 : Mvs) (kd : Int) (m : Nat) (w : World) (e : Ending) (w' : World) : Prop :=
  (ArOk0 l0 l1 z0 z1 n0 n1 kd m → e = .returned (.bool true) ∧ Lv b w' g c0 c1 (l0 + (hearF kd (z0.getD m 0) ((m : Int) % 2 == 0)).2.2) l1 k0 k1 (z0.set m (hearF kd (z0.getD m 0) ((m : Int) % 2 == 0)).1) z1 n0 (n1 ++ bkN0 z0 kd m) ∧ Below b w w') ∧
  (¬ ArOk0 l0 l1 z0 z1 n0 n1 kd m → e = .returned (.bool false) ∧ Below b w w')
/-- a note arrives at side 1: the trunk at work behind it, where it may be -/
def ArOk1 (l0 l1 : Int) (z0 z1 : List Int) (n0 n1 : Mvs) (kd : Int) (m : Nat) : Prop := l1 + (hearF kd (z1.getD m 0) ((m : Int) % 2 == 1)).2.2 ≤ 1000000 ∧ ((hearF kd (z1.getD m 0) ((m : Int) % 2 == 1)).2.1 = 0 ∨ n0.length < 60)
def bkN1 (z1 : List Int) (kd : Int) (m : Nat) : Mvs := if (hearF kd (z1.getD m 0) ((m : Int) % 2 == 1)).2.1 = 0 then [] else [((hearF kd (z1.getD m 0) ((m : Int) % 2 == 1)).2.1, (m : Int))]
def ArR1 (b g : Nat) (c0 c1 : Value) (l0 l1 : Int) (k0 k1 : Nat) (z0 z1 : List Int) (n0 n1 : Mvs) (kd : Int) (m : Nat) (w : World) (e : Ending) (w' : World) : Prop :=
  (ArOk1 l0 l1 z0 z1 n0 n1 kd m → e = .returned (.bool true) ∧ Lv b w' g c0 c1 l0 (l1 + (hearF kd (z1.getD m 0) ((m : Int) % 2 == 1)).2.2) k0 k1 z0 (z1.set m (hearF kd (z1.getD m 0) ((m : Int) % 2 == 1)).1) (n0 ++ bkN1 z1 kd m) n1 ∧ Below b w w') ∧
  (¬ ArOk1 l0 l1 z0 z1 n0 n1 kd m → e = .returned (.bool false) ∧ Below b w w')
structure Sr0 (Wd : World) (s : Nat) (g : Nat) (br : Nat) (zl : Nat) (cr : Nat) (m : Nat) (kd : Int) (y : Int) (ow : Bool) (hh : Int × Int × Int) (d : Nat → Bool) (W : World) (v0 v1 v2 v3 v4 v5 v6 v7 v8 v9 v10 v11 v12 v13 v14 v15 v16 v17 v18 : Value) (X : Nat) : Prop where
  bel : Below Wd.heap.size Wd W
  f0 : d 0 = true → v0 = .pointer (some ⟨s, 0, none⟩)
  f1 : d 1 = true → v1 = .int .i64 kd
  f2 : d 2 = true → v2 = .pointer (some ⟨g, 0, none⟩)
  f3 : d 3 = true → v3 = .int .i64 0
  f4 : d 4 = true → v4 = .pointer (some ⟨g, 0, none⟩)
  f5 : d 5 = true → v5 = .pointer (some ⟨g, 0, none⟩)
  f6 : d 6 = true → v6 = .pointer (some ⟨g, 0, none⟩)
  f7 : d 7 = true → v7 = .slice (some ⟨br, 0, none⟩) zl cr
  f8 : d 8 = true → v8 = .pointer (some ⟨s, 1, none⟩)
  f9 : d 9 = true → v9 = .int .i64 (m : Int)
  f10 : d 10 = true → v10 = .pointer (some ⟨br, m, none⟩)
  f11 : d 11 = true → v11 = .int .i64 y
  f12 : d 12 = true → v12 = .int .i64 0
  f13 : d 13 = true → v13 = .pointer (some ⟨s, 1, none⟩)
  f14 : d 14 = true → v14 = .int .i64 (m : Int)
  f15 : d 15 = true → v15 = .bool ow
  f16 : d 16 = true → v16 = .agg (N3 hh)
  f17 : d 17 = true → v17 = .pointer (some ⟨X, 0, none⟩)
  x17 : d 17 = true → Wd.heap.size ≤ X
  k17 : d 17 = true → d 18 = false → Blk W X (N3 (0, 0, 0)) 96
  k18 : d 18 = true → Blk W X (N3 hh) 96
  g18_17 : d 18 = true → d 17 = true
def Sr0S (Wd : World) (s : Nat) (g : Nat) (br : Nat) (zl : Nat) (cr : Nat) (m : Nat) (kd : Int) (y : Int) (ow : Bool) (hh : Int × Int × Int) (d : Nat → Bool) (q : List Value) (W : World) : Prop := ∃ v0 v1 v2 v3 v4 v5 v6 v7 v8 v9 v10 v11 v12 v13 v14 v15 v16 v17 v18 X, q = [v0, v1, v2, v3, v4, v5, v6, v7, v8, v9, v10, v11, v12, v13, v14, v15, v16, v17, v18] ∧ Sr0 Wd s g br zl cr m kd y ow hh d W v0 v1 v2 v3 v4 v5 v6 v7 v8 v9 v10 v11 v12 v13 v14 v15 v16 v17 v18 X
theorem Sr0.below {Wd : World} {s : Nat} {g : Nat} {br : Nat} {zl : Nat} {cr : Nat} {m : Nat} {kd : Int} {y : Int} {ow : Bool} {hh : Int × Int × Int} {d : Nat → Bool} {W W' : World} {v0 v1 v2 v3 v4 v5 v6 v7 v8 v9 v10 v11 v12 v13 v14 v15 v16 v17 v18 : Value} {X : Nat} (h : Sr0 Wd s g br zl cr m kd y ow hh d W v0 v1 v2 v3 v4 v5 v6 v7 v8 v9 v10 v11 v12 v13 v14 v15 v16 v17 v18 X) (hb : Below W.heap.size W W') : Sr0 Wd s g br zl cr m kd y ow hh d W' v0 v1 v2 v3 v4 v5 v6 v7 v8 v9 v10 v11 v12 v13 v14 v15 v16 v17 v18 X :=
  { h with
    bel := belowCall h.bel hb h.bel.size
    k17 := fun e0 e1 => (h.k17 e0 e1).below hb (h.k17 e0 e1).lt
    k18 := fun e0 => (h.k18 e0).below hb (h.k18 e0).lt
  }
set_option maxHeartbeats 12800000 in
theorem arrive0_c (b g : Nat) (c0 c1 : Value) (l0 l1 : Int) (k0 k1 : Nat) (z0 z1 : List Int) (n0 n1 : Mvs) (kd : Int) (m : Nat) (w : World) (h : Lv b w g c0 c1 l0 l1 k0 k1 z0 z1 n0 n1) (hb : b ≤ w.heap.size) (hkd : 1 ≤ kd ∧ kd ≤ 5) (hm : m < z0.length) (hz : 0 ≤ z0.getD m 0 ∧ z0.getD m 0 ≤ 4) (hm24 : m ≤ 24) (hl : 0 ≤ l0 ∧ l0 ≤ 1000000) (hn : n1.length ≤ 60) :
    Calls Try.prog 49 #[.pointer (some ⟨g, 0, none⟩), .int .i64 0, .agg (H2 kd (m : Int))] w (ArR0 b g c0 c1 l0 l1 k0 k1 z0 z1 n0 n1 kd m w) := by
  obtain ⟨br, cr, hcr, hbr1, hbr2⟩ := Ow.row h.o0 (by omega)
  obtain ⟨eo, fo, hco, -⟩ := own_form h.o1
  subst hcr hco
  obtain ⟨zl, hzl⟩ : ∃ q, z0.length = q := ⟨_, rfl⟩
  obtain ⟨y, hy⟩ : ∃ q, z0.getD m 0 = q := ⟨_, rfl⟩
  rw [hy] at hz
  have HV : Hid (Lv b w g (.slice (some ⟨br, 0, none⟩) z0.length cr) (.slice eo z1.length fo) l0 l1 k0 k1 z0 z1 n0 n1) := h
  have HY : Hid (z0.getD m 0 = y) := hy
  have HZL : Hid (z0.length = zl) := hzl
  have HC : Hid (b ≤ w.heap.size ∧ (1 ≤ kd ∧ kd ≤ 5) ∧ m < z0.length ∧ (0 ≤ y ∧ y ≤ 4) ∧ m ≤ 24 ∧ (0 ≤ l0 ∧ l0 ≤ 1000000) ∧ n1.length ≤ 60) := ⟨hb, hkd, hm, hz, hm24, hl, hn⟩
  have HBR : Hid (b ≤ br ∧ br < w.heap.size) := ⟨hbr1, hbr2⟩
  obtain ⟨ow, how⟩ : ∃ q, ((m : Int) % 2 == 0) = q := ⟨_, rfl⟩
  have HOW : Hid (((m : Int) % 2 == 0) = ow) := how
  obtain ⟨hh, hhh⟩ : ∃ q, hearF kd y ow = q := ⟨_, rfl⟩
  have HHH : Hid (hearF kd y ow = hh) := hhh
  obtain ⟨s, hs⟩ : ∃ k, w.heap.size = k := ⟨_, rfl⟩
  have HS : Hid (w.heap.size = s) := hs
  obtain ⟨W0, hW0⟩ : ∃ W0, w.alloc (Obj.cells (H2 kd (m : Int)) 68) = W0 := ⟨_, rfl⟩
  have hb0 : Below w.heap.size w W0 := by rw [← hW0]; exact (Below.refl _ _).alloc (Nat.le_refl _) _
  have B0 : Hid (Below w.heap.size w W0) := hb0
  have KN : Hid (Blk W0 s (H2 kd (m : Int)) 68) := by rw [← hW0, ← hs]; exact Blk.new _ _ _
  have KG : Hid (Blk W0 g (L6 (.slice (some ⟨br, 0, none⟩) z0.length cr) (.slice eo z1.length fo) l0 l1 k0 k1) 65) := h.blk.below hb0 h.blk.lt
  have OJ : Hid (Ow .i64 3 b W0 (.slice (some ⟨br, 0, none⟩) z0.length cr) z0) := h.o0.below hb0
  have hmi : (m : Int) < (z0.length : Int) := by omega
  have hm0 : (0 : Int) ≤ (m : Int) := by omega
  have hmi' : (m : Int) < (zl : Int) := by omega
  have CE : Hid (∀ W, Below W0.drew.heap.size W0.drew W → (W.cell? ⟨s, 0, none⟩ = some (.int .i64 kd) ∧ W.cell? ⟨s, 1, none⟩ = some (.int .i64 (m : Int))) ∧ W.cell? ⟨g, 0, none⟩ = some (.slice (some ⟨br, 0, none⟩) zl cr) ∧ W.cell? ⟨br, m, none⟩ = some (.int .i64 y)) := fun W hW => by
    have k1 := (show Blk W0.drew s (H2 kd (m : Int)) 68 from KN.out).below hW KN.out.lt
    have k2 := (show Blk W0.drew g _ 65 from KG.out).below hW KG.out.lt
    have k3 : Ow .i64 3 b W (.slice (some ⟨br, 0, none⟩) z0.length cr) z0 := (show Ow .i64 3 b W0.drew _ _ from OJ.out).below hW
    refine ⟨⟨k1.cell 0, k1.cell 1⟩, ?_, ?_⟩
    · rw [k2.cell 0, ← HZL.out]; rfl
    · rw [(Ow.cellFz rfl k3 m HC.out.2.2.1).1, HY.out]
  clear h hb hkd hz hm24 hl hn hbr1 hbr2 hb0 hy hzl how hhh hm
  go_enter Try.func49, Try.ntmps49
  go_wp2
  clear hW0 hs
  refine region_vals [undef, undef, undef, undef, undef, undef, undef, undef, undef, undef, undef, undef, undef, undef, undef, undef, undef, undef, undef] (Sr0S (W0.drew) (s) (g) (br) (zl) (cr) (m) (kd) (y) (ow) (hh)) (by kernel_rfl) (by kernel_rfl) ?_ ⟨?_, ?_, ?_, ?_, ?_, ?_, ?_, ?_, ?_, ?_, ?_, ?_, ?_, ?_, ?_, ?_, ?_, ?_, ?_, trivial⟩ ?_
  · refine ⟨_, _, _, _, _, _, _, _, _, _, _, _, _, _, _, _, _, _, _, 0, rfl, ⟨(Below.refl _ _), ?_, ?_, ?_, ?_, ?_, ?_, ?_, ?_, ?_, ?_, ?_, ?_, ?_, ?_, ?_, ?_, ?_, ?_, ?_, ?_, ?_, ?_⟩⟩ <;> simp
  · rintro d vs W ⟨v0, v1, v2, v3, v4, v5, v6, v7, v8, v9, v10, v11, v12, v13, v14, v15, v16, v17, v18, X, rfl, H⟩ hn hd
    simp only [putAll, Act.put, List.setIfInBounds_toArray, List.set_cons_succ, List.set_cons_zero]
    have HH1 : Hid (Sr0 (W0.drew) (s) (g) (br) (zl) (cr) (m) (kd) (y) (ow) (hh) d W v0 v1 v2 v3 v4 v5 v6 v7 v8 v9 v10 v11 v12 v13 v14 v15 v16 v17 v18 X) := H
    clear H
    have HHN : Hid (d 0 = false) := hn
    clear hd hn
    go_wp2
    have H0 := HH1.out
    have H := HH1.out
    have hn := HHN.out
    refine ⟨rfl, [.pointer (some ⟨s, 0, none⟩), v1, v2, v3, v4, v5, v6, v7, v8, v9, v10, v11, v12, v13, v14, v15, v16, v17, v18], ?_, .pointer (some ⟨s, 0, none⟩), v1, v2, v3, v4, v5, v6, v7, v8, v9, v10, v11, v12, v13, v14, v15, v16, v17, v18, X, rfl, ⟨H.bel, (fun _ => rfl), (by have h := H.f1; simpa [doneSet] using h), (by have h := H.f2; simpa [doneSet] using h), (by have h := H.f3; simpa [doneSet] using h), (by have h := H.f4; simpa [doneSet] using h), (by have h := H.f5; simpa [doneSet] using h), (by have h := H.f6; simpa [doneSet] using h), (by have h := H.f7; simpa [doneSet] using h), (by have h := H.f8; simpa [doneSet] using h), (by have h := H.f9; simpa [doneSet] using h), (by have h := H.f10; simpa [doneSet] using h), (by have h := H.f11; simpa [doneSet] using h), (by have h := H.f12; simpa [doneSet] using h), (by have h := H.f13; simpa [doneSet] using h), (by have h := H.f14; simpa [doneSet] using h), (by have h := H.f15; simpa [doneSet] using h), (by have h := H.f16; simpa [doneSet] using h), (by have h := H.f17; simpa [doneSet] using h), (by have h := H.x17; simpa [doneSet] using h), (by have h := H.k17; simpa [doneSet] using h), (by have h := H.k18; simpa [doneSet] using h), (by have h := H.g18_17; simpa [doneSet] using h)⟩⟩
    simp only [putAll, Act.put, List.setIfInBounds_toArray, List.set_cons_succ, List.set_cons_zero]
  · rintro d vs W ⟨v0, v1, v2, v3, v4, v5, v6, v7, v8, v9, v10, v11, v12, v13, v14, v15, v16, v17, v18, X, rfl, H⟩ hn hd
    simp only [putAll, Act.put, List.setIfInBounds_toArray, List.set_cons_succ, List.set_cons_zero]
    have h0 : d 0 = true := hd { on := 0, ground := .data } (by simp) rfl
    obtain ⟨⟨q0, q1⟩, q2, q3⟩ := CE.out W H.bel
    obtain rfl := H.f0 h0
    have HH1 : Hid (Sr0 (W0.drew) (s) (g) (br) (zl) (cr) (m) (kd) (y) (ow) (hh) d W (.pointer (some ⟨s, 0, none⟩)) v1 v2 v3 v4 v5 v6 v7 v8 v9 v10 v11 v12 v13 v14 v15 v16 v17 v18 X) := H
    clear H
    have HHN : Hid (d 1 = false) := hn
    have HHD : Hid (d 0 = true) := h0
    clear hd hn h0
    go_wp2
    have H0 := HH1.out
    have H := HH1.out
    have hn := HHN.out
    have h0 := HHD.out
    refine ⟨rfl, [.pointer (some ⟨s, 0, none⟩), .int .i64 kd, v2, v3, v4, v5, v6, v7, v8, v9, v10, v11, v12, v13, v14, v15, v16, v17, v18], ?_, .pointer (some ⟨s, 0, none⟩), .int .i64 kd, v2, v3, v4, v5, v6, v7, v8, v9, v10, v11, v12, v13, v14, v15, v16, v17, v18, X, rfl, ⟨H.bel, (fun _ => rfl), (fun _ => rfl), (by have h := H.f2; simpa [doneSet] using h), (by have h := H.f3; simpa [doneSet] using h), (by have h := H.f4; simpa [doneSet] using h), (by have h := H.f5; simpa [doneSet] using h), (by have h := H.f6; simpa [doneSet] using h), (by have h := H.f7; simpa [doneSet] using h), (by have h := H.f8; simpa [doneSet] using h), (by have h := H.f9; simpa [doneSet] using h), (by have h := H.f10; simpa [doneSet] using h), (by have h := H.f11; simpa [doneSet] using h), (by have h := H.f12; simpa [doneSet] using h), (by have h := H.f13; simpa [doneSet] using h), (by have h := H.f14; simpa [doneSet] using h), (by have h := H.f15; simpa [doneSet] using h), (by have h := H.f16; simpa [doneSet] using h), (by have h := H.f17; simpa [doneSet] using h), (by have h := H.x17; simpa [doneSet] using h), (by have h := H.k17; simpa [doneSet] using h), (by have h := H.k18; simpa [doneSet] using h), (by have h := H.g18_17; simpa [doneSet] using h)⟩⟩
    simp only [putAll, Act.put, List.setIfInBounds_toArray, List.set_cons_succ, List.set_cons_zero]
  · rintro d vs W ⟨v0, v1, v2, v3, v4, v5, v6, v7, v8, v9, v10, v11, v12, v13, v14, v15, v16, v17, v18, X, rfl, H⟩ hn hd
    simp only [putAll, Act.put, List.setIfInBounds_toArray, List.set_cons_succ, List.set_cons_zero]
    have HH1 : Hid (Sr0 (W0.drew) (s) (g) (br) (zl) (cr) (m) (kd) (y) (ow) (hh) d W v0 v1 v2 v3 v4 v5 v6 v7 v8 v9 v10 v11 v12 v13 v14 v15 v16 v17 v18 X) := H
    clear H
    have HHN : Hid (d 2 = false) := hn
    clear hd hn
    go_wp2
    have H0 := HH1.out
    have H := HH1.out
    have hn := HHN.out
    refine ⟨rfl, [v0, v1, .pointer (some ⟨g, 0, none⟩), v3, v4, v5, v6, v7, v8, v9, v10, v11, v12, v13, v14, v15, v16, v17, v18], ?_, v0, v1, .pointer (some ⟨g, 0, none⟩), v3, v4, v5, v6, v7, v8, v9, v10, v11, v12, v13, v14, v15, v16, v17, v18, X, rfl, ⟨H.bel, (by have h := H.f0; simpa [doneSet] using h), (by have h := H.f1; simpa [doneSet] using h), (fun _ => rfl), (by have h := H.f3; simpa [doneSet] using h), (by have h := H.f4; simpa [doneSet] using h), (by have h := H.f5; simpa [doneSet] using h), (by have h := H.f6; simpa [doneSet] using h), (by have h := H.f7; simpa [doneSet] using h), (by have h := H.f8; simpa [doneSet] using h), (by have h := H.f9; simpa [doneSet] using h), (by have h := H.f10; simpa [doneSet] using h), (by have h := H.f11; simpa [doneSet] using h), (by have h := H.f12; simpa [doneSet] using h), (by have h := H.f13; simpa [doneSet] using h), (by have h := H.f14; simpa [doneSet] using h), (by have h := H.f15; simpa [doneSet] using h), (by have h := H.f16; simpa [doneSet] using h), (by have h := H.f17; simpa [doneSet] using h), (by have h := H.x17; simpa [doneSet] using h), (by have h := H.k17; simpa [doneSet] using h), (by have h := H.k18; simpa [doneSet] using h), (by have h := H.g18_17; simpa [doneSet] using h)⟩⟩
    simp only [putAll, Act.put, List.setIfInBounds_toArray, List.set_cons_succ, List.set_cons_zero]
  · rintro d vs W ⟨v0, v1, v2, v3, v4, v5, v6, v7, v8, v9, v10, v11, v12, v13, v14, v15, v16, v17, v18, X, rfl, H⟩ hn hd
    simp only [putAll, Act.put, List.setIfInBounds_toArray, List.set_cons_succ, List.set_cons_zero]
    have HH1 : Hid (Sr0 (W0.drew) (s) (g) (br) (zl) (cr) (m) (kd) (y) (ow) (hh) d W v0 v1 v2 v3 v4 v5 v6 v7 v8 v9 v10 v11 v12 v13 v14 v15 v16 v17 v18 X) := H
    clear H
    have HHN : Hid (d 3 = false) := hn
    clear hd hn
    go_wp2
    have H0 := HH1.out
    have H := HH1.out
    have hn := HHN.out
    refine ⟨rfl, [v0, v1, v2, .int .i64 0, v4, v5, v6, v7, v8, v9, v10, v11, v12, v13, v14, v15, v16, v17, v18], ?_, v0, v1, v2, .int .i64 0, v4, v5, v6, v7, v8, v9, v10, v11, v12, v13, v14, v15, v16, v17, v18, X, rfl, ⟨H.bel, (by have h := H.f0; simpa [doneSet] using h), (by have h := H.f1; simpa [doneSet] using h), (by have h := H.f2; simpa [doneSet] using h), (fun _ => rfl), (by have h := H.f4; simpa [doneSet] using h), (by have h := H.f5; simpa [doneSet] using h), (by have h := H.f6; simpa [doneSet] using h), (by have h := H.f7; simpa [doneSet] using h), (by have h := H.f8; simpa [doneSet] using h), (by have h := H.f9; simpa [doneSet] using h), (by have h := H.f10; simpa [doneSet] using h), (by have h := H.f11; simpa [doneSet] using h), (by have h := H.f12; simpa [doneSet] using h), (by have h := H.f13; simpa [doneSet] using h), (by have h := H.f14; simpa [doneSet] using h), (by have h := H.f15; simpa [doneSet] using h), (by have h := H.f16; simpa [doneSet] using h), (by have h := H.f17; simpa [doneSet] using h), (by have h := H.x17; simpa [doneSet] using h), (by have h := H.k17; simpa [doneSet] using h), (by have h := H.k18; simpa [doneSet] using h), (by have h := H.g18_17; simpa [doneSet] using h)⟩⟩
    simp only [putAll, Act.put, List.setIfInBounds_toArray, List.set_cons_succ, List.set_cons_zero]
  · rintro d vs W ⟨v0, v1, v2, v3, v4, v5, v6, v7, v8, v9, v10, v11, v12, v13, v14, v15, v16, v17, v18, X, rfl, H⟩ hn hd
    simp only [putAll, Act.put, List.setIfInBounds_toArray, List.set_cons_succ, List.set_cons_zero]
    have h2 : d 2 = true := hd { on := 2, ground := .data } (by simp) rfl
    obtain rfl := H.f2 h2
    have HH1 : Hid (Sr0 (W0.drew) (s) (g) (br) (zl) (cr) (m) (kd) (y) (ow) (hh) d W v0 v1 (.pointer (some ⟨g, 0, none⟩)) v3 v4 v5 v6 v7 v8 v9 v10 v11 v12 v13 v14 v15 v16 v17 v18 X) := H
    clear H
    have HHN : Hid (d 4 = false) := hn
    have HHD : Hid (d 2 = true) := h2
    clear hd hn h2
    go_wp2
    have H0 := HH1.out
    have H := HH1.out
    have hn := HHN.out
    have h2 := HHD.out
    refine ⟨rfl, [v0, v1, .pointer (some ⟨g, 0, none⟩), v3, .pointer (some ⟨g, 0, none⟩), v5, v6, v7, v8, v9, v10, v11, v12, v13, v14, v15, v16, v17, v18], ?_, v0, v1, .pointer (some ⟨g, 0, none⟩), v3, .pointer (some ⟨g, 0, none⟩), v5, v6, v7, v8, v9, v10, v11, v12, v13, v14, v15, v16, v17, v18, X, rfl, ⟨H.bel, (by have h := H.f0; simpa [doneSet] using h), (by have h := H.f1; simpa [doneSet] using h), (fun _ => rfl), (by have h := H.f3; simpa [doneSet] using h), (fun _ => rfl), (by have h := H.f5; simpa [doneSet] using h), (by have h := H.f6; simpa [doneSet] using h), (by have h := H.f7; simpa [doneSet] using h), (by have h := H.f8; simpa [doneSet] using h), (by have h := H.f9; simpa [doneSet] using h), (by have h := H.f10; simpa [doneSet] using h), (by have h := H.f11; simpa [doneSet] using h), (by have h := H.f12; simpa [doneSet] using h), (by have h := H.f13; simpa [doneSet] using h), (by have h := H.f14; simpa [doneSet] using h), (by have h := H.f15; simpa [doneSet] using h), (by have h := H.f16; simpa [doneSet] using h), (by have h := H.f17; simpa [doneSet] using h), (by have h := H.x17; simpa [doneSet] using h), (by have h := H.k17; simpa [doneSet] using h), (by have h := H.k18; simpa [doneSet] using h), (by have h := H.g18_17; simpa [doneSet] using h)⟩⟩
    simp only [putAll, Act.put, List.setIfInBounds_toArray, List.set_cons_succ, List.set_cons_zero]
  · rintro d vs W ⟨v0, v1, v2, v3, v4, v5, v6, v7, v8, v9, v10, v11, v12, v13, v14, v15, v16, v17, v18, X, rfl, H⟩ hn hd
    simp only [putAll, Act.put, List.setIfInBounds_toArray, List.set_cons_succ, List.set_cons_zero]
    have h4 : d 4 = true := hd { on := 4, ground := .data } (by simp) rfl
    obtain rfl := H.f4 h4
    have HH1 : Hid (Sr0 (W0.drew) (s) (g) (br) (zl) (cr) (m) (kd) (y) (ow) (hh) d W v0 v1 v2 v3 (.pointer (some ⟨g, 0, none⟩)) v5 v6 v7 v8 v9 v10 v11 v12 v13 v14 v15 v16 v17 v18 X) := H
    clear H
    have HHN : Hid (d 5 = false) := hn
    have HHD : Hid (d 4 = true) := h4
    clear hd hn h4
    go_wp2
    have H0 := HH1.out
    have H := HH1.out
    have hn := HHN.out
    have h4 := HHD.out
    refine ⟨rfl, [v0, v1, v2, v3, .pointer (some ⟨g, 0, none⟩), .pointer (some ⟨g, 0, none⟩), v6, v7, v8, v9, v10, v11, v12, v13, v14, v15, v16, v17, v18], ?_, v0, v1, v2, v3, .pointer (some ⟨g, 0, none⟩), .pointer (some ⟨g, 0, none⟩), v6, v7, v8, v9, v10, v11, v12, v13, v14, v15, v16, v17, v18, X, rfl, ⟨H.bel, (by have h := H.f0; simpa [doneSet] using h), (by have h := H.f1; simpa [doneSet] using h), (by have h := H.f2; simpa [doneSet] using h), (by have h := H.f3; simpa [doneSet] using h), (fun _ => rfl), (fun _ => rfl), (by have h := H.f6; simpa [doneSet] using h), (by have h := H.f7; simpa [doneSet] using h), (by have h := H.f8; simpa [doneSet] using h), (by have h := H.f9; simpa [doneSet] using h), (by have h := H.f10; simpa [doneSet] using h), (by have h := H.f11; simpa [doneSet] using h), (by have h := H.f12; simpa [doneSet] using h), (by have h := H.f13; simpa [doneSet] using h), (by have h := H.f14; simpa [doneSet] using h), (by have h := H.f15; simpa [doneSet] using h), (by have h := H.f16; simpa [doneSet] using h), (by have h := H.f17; simpa [doneSet] using h), (by have h := H.x17; simpa [doneSet] using h), (by have h := H.k17; simpa [doneSet] using h), (by have h := H.k18; simpa [doneSet] using h), (by have h := H.g18_17; simpa [doneSet] using h)⟩⟩
    simp only [putAll, Act.put, List.setIfInBounds_toArray, List.set_cons_succ, List.set_cons_zero]
  · rintro d vs W ⟨v0, v1, v2, v3, v4, v5, v6, v7, v8, v9, v10, v11, v12, v13, v14, v15, v16, v17, v18, X, rfl, H⟩ hn hd
    simp only [putAll, Act.put, List.setIfInBounds_toArray, List.set_cons_succ, List.set_cons_zero]
    have h5 : d 5 = true := hd { on := 5, ground := .data } (by simp) rfl
    have h3 : d 3 = true := hd { on := 3, ground := .data } (by simp) rfl
    obtain rfl := H.f5 h5
    obtain rfl := H.f3 h3
    have HH1 : Hid (Sr0 (W0.drew) (s) (g) (br) (zl) (cr) (m) (kd) (y) (ow) (hh) d W v0 v1 v2 (.int .i64 0) v4 (.pointer (some ⟨g, 0, none⟩)) v6 v7 v8 v9 v10 v11 v12 v13 v14 v15 v16 v17 v18 X) := H
    clear H
    have HHN : Hid (d 6 = false) := hn
    have HHD : Hid (d 5 = true ∧ d 3 = true) := ⟨h5, h3⟩
    clear hd hn h5 h3
    go_wp2
    have H0 := HH1.out
    have H := HH1.out
    have hn := HHN.out
    have h5 := HHD.out.1
    have h3 := HHD.out.2
    refine ⟨rfl, [v0, v1, v2, .int .i64 0, v4, .pointer (some ⟨g, 0, none⟩), .pointer (some ⟨g, 0, none⟩), v7, v8, v9, v10, v11, v12, v13, v14, v15, v16, v17, v18], ?_, v0, v1, v2, .int .i64 0, v4, .pointer (some ⟨g, 0, none⟩), .pointer (some ⟨g, 0, none⟩), v7, v8, v9, v10, v11, v12, v13, v14, v15, v16, v17, v18, X, rfl, ⟨H.bel, (by have h := H.f0; simpa [doneSet] using h), (by have h := H.f1; simpa [doneSet] using h), (by have h := H.f2; simpa [doneSet] using h), (fun _ => rfl), (by have h := H.f4; simpa [doneSet] using h), (fun _ => rfl), (fun _ => rfl), (by have h := H.f7; simpa [doneSet] using h), (by have h := H.f8; simpa [doneSet] using h), (by have h := H.f9; simpa [doneSet] using h), (by have h := H.f10; simpa [doneSet] using h), (by have h := H.f11; simpa [doneSet] using h), (by have h := H.f12; simpa [doneSet] using h), (by have h := H.f13; simpa [doneSet] using h), (by have h := H.f14; simpa [doneSet] using h), (by have h := H.f15; simpa [doneSet] using h), (by have h := H.f16; simpa [doneSet] using h), (by have h := H.f17; simpa [doneSet] using h), (by have h := H.x17; simpa [doneSet] using h), (by have h := H.k17; simpa [doneSet] using h), (by have h := H.k18; simpa [doneSet] using h), (by have h := H.g18_17; simpa [doneSet] using h)⟩⟩
    simp only [putAll, Act.put, List.setIfInBounds_toArray, List.set_cons_succ, List.set_cons_zero]
  · rintro d vs W ⟨v0, v1, v2, v3, v4, v5, v6, v7, v8, v9, v10, v11, v12, v13, v14, v15, v16, v17, v18, X, rfl, H⟩ hn hd
    simp only [putAll, Act.put, List.setIfInBounds_toArray, List.set_cons_succ, List.set_cons_zero]
    have h6 : d 6 = true := hd { on := 6, ground := .data } (by simp) rfl
    obtain ⟨⟨q0, q1⟩, q2, q3⟩ := CE.out W H.bel
    obtain rfl := H.f6 h6
    have HH1 : Hid (Sr0 (W0.drew) (s) (g) (br) (zl) (cr) (m) (kd) (y) (ow) (hh) d W v0 v1 v2 v3 v4 v5 (.pointer (some ⟨g, 0, none⟩)) v7 v8 v9 v10 v11 v12 v13 v14 v15 v16 v17 v18 X) := H
    clear H
    have HHN : Hid (d 7 = false) := hn
    have HHD : Hid (d 6 = true) := h6
    clear hd hn h6
    go_wp2
    have H0 := HH1.out
    have H := HH1.out
    have hn := HHN.out
    have h6 := HHD.out
    refine ⟨rfl, [v0, v1, v2, v3, v4, v5, .pointer (some ⟨g, 0, none⟩), .slice (some ⟨br, 0, none⟩) zl cr, v8, v9, v10, v11, v12, v13, v14, v15, v16, v17, v18], ?_, v0, v1, v2, v3, v4, v5, .pointer (some ⟨g, 0, none⟩), .slice (some ⟨br, 0, none⟩) zl cr, v8, v9, v10, v11, v12, v13, v14, v15, v16, v17, v18, X, rfl, ⟨H.bel, (by have h := H.f0; simpa [doneSet] using h), (by have h := H.f1; simpa [doneSet] using h), (by have h := H.f2; simpa [doneSet] using h), (by have h := H.f3; simpa [doneSet] using h), (by have h := H.f4; simpa [doneSet] using h), (by have h := H.f5; simpa [doneSet] using h), (fun _ => rfl), (fun _ => rfl), (by have h := H.f8; simpa [doneSet] using h), (by have h := H.f9; simpa [doneSet] using h), (by have h := H.f10; simpa [doneSet] using h), (by have h := H.f11; simpa [doneSet] using h), (by have h := H.f12; simpa [doneSet] using h), (by have h := H.f13; simpa [doneSet] using h), (by have h := H.f14; simpa [doneSet] using h), (by have h := H.f15; simpa [doneSet] using h), (by have h := H.f16; simpa [doneSet] using h), (by have h := H.f17; simpa [doneSet] using h), (by have h := H.x17; simpa [doneSet] using h), (by have h := H.k17; simpa [doneSet] using h), (by have h := H.k18; simpa [doneSet] using h), (by have h := H.g18_17; simpa [doneSet] using h)⟩⟩
    simp only [putAll, Act.put, List.setIfInBounds_toArray, List.set_cons_succ, List.set_cons_zero]
  · rintro d vs W ⟨v0, v1, v2, v3, v4, v5, v6, v7, v8, v9, v10, v11, v12, v13, v14, v15, v16, v17, v18, X, rfl, H⟩ hn hd
    simp only [putAll, Act.put, List.setIfInBounds_toArray, List.set_cons_succ, List.set_cons_zero]
    have HH1 : Hid (Sr0 (W0.drew) (s) (g) (br) (zl) (cr) (m) (kd) (y) (ow) (hh) d W v0 v1 v2 v3 v4 v5 v6 v7 v8 v9 v10 v11 v12 v13 v14 v15 v16 v17 v18 X) := H
    clear H
    have HHN : Hid (d 8 = false) := hn
    clear hd hn
    go_wp2
    have H0 := HH1.out
    have H := HH1.out
    have hn := HHN.out
    refine ⟨rfl, [v0, v1, v2, v3, v4, v5, v6, v7, .pointer (some ⟨s, 1, none⟩), v9, v10, v11, v12, v13, v14, v15, v16, v17, v18], ?_, v0, v1, v2, v3, v4, v5, v6, v7, .pointer (some ⟨s, 1, none⟩), v9, v10, v11, v12, v13, v14, v15, v16, v17, v18, X, rfl, ⟨H.bel, (by have h := H.f0; simpa [doneSet] using h), (by have h := H.f1; simpa [doneSet] using h), (by have h := H.f2; simpa [doneSet] using h), (by have h := H.f3; simpa [doneSet] using h), (by have h := H.f4; simpa [doneSet] using h), (by have h := H.f5; simpa [doneSet] using h), (by have h := H.f6; simpa [doneSet] using h), (by have h := H.f7; simpa [doneSet] using h), (fun _ => rfl), (by have h := H.f9; simpa [doneSet] using h), (by have h := H.f10; simpa [doneSet] using h), (by have h := H.f11; simpa [doneSet] using h), (by have h := H.f12; simpa [doneSet] using h), (by have h := H.f13; simpa [doneSet] using h), (by have h := H.f14; simpa [doneSet] using h), (by have h := H.f15; simpa [doneSet] using h), (by have h := H.f16; simpa [doneSet] using h), (by have h := H.f17; simpa [doneSet] using h), (by have h := H.x17; simpa [doneSet] using h), (by have h := H.k17; simpa [doneSet] using h), (by have h := H.k18; simpa [doneSet] using h), (by have h := H.g18_17; simpa [doneSet] using h)⟩⟩
    simp only [putAll, Act.put, List.setIfInBounds_toArray, List.set_cons_succ, List.set_cons_zero]
  · rintro d vs W ⟨v0, v1, v2, v3, v4, v5, v6, v7, v8, v9, v10, v11, v12, v13, v14, v15, v16, v17, v18, X, rfl, H⟩ hn hd
    simp only [putAll, Act.put, List.setIfInBounds_toArray, List.set_cons_succ, List.set_cons_zero]
    have h8 : d 8 = true := hd { on := 8, ground := .data } (by simp) rfl
    obtain ⟨⟨q0, q1⟩, q2, q3⟩ := CE.out W H.bel
    obtain rfl := H.f8 h8
    have HH1 : Hid (Sr0 (W0.drew) (s) (g) (br) (zl) (cr) (m) (kd) (y) (ow) (hh) d W v0 v1 v2 v3 v4 v5 v6 v7 (.pointer (some ⟨s, 1, none⟩)) v9 v10 v11 v12 v13 v14 v15 v16 v17 v18 X) := H
    clear H
    have HHN : Hid (d 9 = false) := hn
    have HHD : Hid (d 8 = true) := h8
    clear hd hn h8
    go_wp2
    have H0 := HH1.out
    have H := HH1.out
    have hn := HHN.out
    have h8 := HHD.out
    refine ⟨rfl, [v0, v1, v2, v3, v4, v5, v6, v7, .pointer (some ⟨s, 1, none⟩), .int .i64 (m : Int), v10, v11, v12, v13, v14, v15, v16, v17, v18], ?_, v0, v1, v2, v3, v4, v5, v6, v7, .pointer (some ⟨s, 1, none⟩), .int .i64 (m : Int), v10, v11, v12, v13, v14, v15, v16, v17, v18, X, rfl, ⟨H.bel, (by have h := H.f0; simpa [doneSet] using h), (by have h := H.f1; simpa [doneSet] using h), (by have h := H.f2; simpa [doneSet] using h), (by have h := H.f3; simpa [doneSet] using h), (by have h := H.f4; simpa [doneSet] using h), (by have h := H.f5; simpa [doneSet] using h), (by have h := H.f6; simpa [doneSet] using h), (by have h := H.f7; simpa [doneSet] using h), (fun _ => rfl), (fun _ => rfl), (by have h := H.f10; simpa [doneSet] using h), (by have h := H.f11; simpa [doneSet] using h), (by have h := H.f12; simpa [doneSet] using h), (by have h := H.f13; simpa [doneSet] using h), (by have h := H.f14; simpa [doneSet] using h), (by have h := H.f15; simpa [doneSet] using h), (by have h := H.f16; simpa [doneSet] using h), (by have h := H.f17; simpa [doneSet] using h), (by have h := H.x17; simpa [doneSet] using h), (by have h := H.k17; simpa [doneSet] using h), (by have h := H.k18; simpa [doneSet] using h), (by have h := H.g18_17; simpa [doneSet] using h)⟩⟩
    simp only [putAll, Act.put, List.setIfInBounds_toArray, List.set_cons_succ, List.set_cons_zero]
  · rintro d vs W ⟨v0, v1, v2, v3, v4, v5, v6, v7, v8, v9, v10, v11, v12, v13, v14, v15, v16, v17, v18, X, rfl, H⟩ hn hd
    simp only [putAll, Act.put, List.setIfInBounds_toArray, List.set_cons_succ, List.set_cons_zero]
    have h7 : d 7 = true := hd { on := 7, ground := .data } (by simp) rfl
    have h9 : d 9 = true := hd { on := 9, ground := .data } (by simp) rfl
    obtain rfl := H.f7 h7
    obtain rfl := H.f9 h9
    have HH1 : Hid (Sr0 (W0.drew) (s) (g) (br) (zl) (cr) (m) (kd) (y) (ow) (hh) d W v0 v1 v2 v3 v4 v5 v6 (.slice (some ⟨br, 0, none⟩) zl cr) v8 (.int .i64 (m : Int)) v10 v11 v12 v13 v14 v15 v16 v17 v18 X) := H
    clear H
    have HHN : Hid (d 10 = false) := hn
    have HHD : Hid (d 7 = true ∧ d 9 = true) := ⟨h7, h9⟩
    clear hd hn h7 h9
    go_wp2
    have H0 := HH1.out
    have H := HH1.out
    have hn := HHN.out
    have h7 := HHD.out.1
    have h9 := HHD.out.2
    refine ⟨rfl, [v0, v1, v2, v3, v4, v5, v6, .slice (some ⟨br, 0, none⟩) zl cr, v8, .int .i64 (m : Int), .pointer (some ⟨br, m, none⟩), v11, v12, v13, v14, v15, v16, v17, v18], ?_, v0, v1, v2, v3, v4, v5, v6, .slice (some ⟨br, 0, none⟩) zl cr, v8, .int .i64 (m : Int), .pointer (some ⟨br, m, none⟩), v11, v12, v13, v14, v15, v16, v17, v18, X, rfl, ⟨H.bel, (by have h := H.f0; simpa [doneSet] using h), (by have h := H.f1; simpa [doneSet] using h), (by have h := H.f2; simpa [doneSet] using h), (by have h := H.f3; simpa [doneSet] using h), (by have h := H.f4; simpa [doneSet] using h), (by have h := H.f5; simpa [doneSet] using h), (by have h := H.f6; simpa [doneSet] using h), (fun _ => rfl), (by have h := H.f8; simpa [doneSet] using h), (fun _ => rfl), (fun _ => rfl), (by have h := H.f11; simpa [doneSet] using h), (by have h := H.f12; simpa [doneSet] using h), (by have h := H.f13; simpa [doneSet] using h), (by have h := H.f14; simpa [doneSet] using h), (by have h := H.f15; simpa [doneSet] using h), (by have h := H.f16; simpa [doneSet] using h), (by have h := H.f17; simpa [doneSet] using h), (by have h := H.x17; simpa [doneSet] using h), (by have h := H.k17; simpa [doneSet] using h), (by have h := H.k18; simpa [doneSet] using h), (by have h := H.g18_17; simpa [doneSet] using h)⟩⟩
    simp only [putAll, Act.put, List.setIfInBounds_toArray, List.set_cons_succ, List.set_cons_zero]
  · rintro d vs W ⟨v0, v1, v2, v3, v4, v5, v6, v7, v8, v9, v10, v11, v12, v13, v14, v15, v16, v17, v18, X, rfl, H⟩ hn hd
    simp only [putAll, Act.put, List.setIfInBounds_toArray, List.set_cons_succ, List.set_cons_zero]
    have h10 : d 10 = true := hd { on := 10, ground := .data } (by simp) rfl
    obtain ⟨⟨q0, q1⟩, q2, q3⟩ := CE.out W H.bel
    obtain rfl := H.f10 h10
    have HH1 : Hid (Sr0 (W0.drew) (s) (g) (br) (zl) (cr) (m) (kd) (y) (ow) (hh) d W v0 v1 v2 v3 v4 v5 v6 v7 v8 v9 (.pointer (some ⟨br, m, none⟩)) v11 v12 v13 v14 v15 v16 v17 v18 X) := H
    clear H
    have HHN : Hid (d 11 = false) := hn
    have HHD : Hid (d 10 = true) := h10
    clear hd hn h10
    go_wp2
    have H0 := HH1.out
    have H := HH1.out
    have hn := HHN.out
    have h10 := HHD.out
    refine ⟨rfl, [v0, v1, v2, v3, v4, v5, v6, v7, v8, v9, .pointer (some ⟨br, m, none⟩), .int .i64 y, v12, v13, v14, v15, v16, v17, v18], ?_, v0, v1, v2, v3, v4, v5, v6, v7, v8, v9, .pointer (some ⟨br, m, none⟩), .int .i64 y, v12, v13, v14, v15, v16, v17, v18, X, rfl, ⟨H.bel, (by have h := H.f0; simpa [doneSet] using h), (by have h := H.f1; simpa [doneSet] using h), (by have h := H.f2; simpa [doneSet] using h), (by have h := H.f3; simpa [doneSet] using h), (by have h := H.f4; simpa [doneSet] using h), (by have h := H.f5; simpa [doneSet] using h), (by have h := H.f6; simpa [doneSet] using h), (by have h := H.f7; simpa [doneSet] using h), (by have h := H.f8; simpa [doneSet] using h), (by have h := H.f9; simpa [doneSet] using h), (fun _ => rfl), (fun _ => rfl), (by have h := H.f12; simpa [doneSet] using h), (by have h := H.f13; simpa [doneSet] using h), (by have h := H.f14; simpa [doneSet] using h), (by have h := H.f15; simpa [doneSet] using h), (by have h := H.f16; simpa [doneSet] using h), (by have h := H.f17; simpa [doneSet] using h), (by have h := H.x17; simpa [doneSet] using h), (by have h := H.k17; simpa [doneSet] using h), (by have h := H.k18; simpa [doneSet] using h), (by have h := H.g18_17; simpa [doneSet] using h)⟩⟩
    simp only [putAll, Act.put, List.setIfInBounds_toArray, List.set_cons_succ, List.set_cons_zero]
  · rintro d vs W ⟨v0, v1, v2, v3, v4, v5, v6, v7, v8, v9, v10, v11, v12, v13, v14, v15, v16, v17, v18, X, rfl, H⟩ hn hd
    simp only [putAll, Act.put, List.setIfInBounds_toArray, List.set_cons_succ, List.set_cons_zero]
    have HH1 : Hid (Sr0 (W0.drew) (s) (g) (br) (zl) (cr) (m) (kd) (y) (ow) (hh) d W v0 v1 v2 v3 v4 v5 v6 v7 v8 v9 v10 v11 v12 v13 v14 v15 v16 v17 v18 X) := H
    clear H
    have HHN : Hid (d 12 = false) := hn
    clear hd hn
    go_wp2
    have H0 := HH1.out
    have H := HH1.out
    have hn := HHN.out
    refine ⟨rfl, [v0, v1, v2, v3, v4, v5, v6, v7, v8, v9, v10, v11, .int .i64 0, v13, v14, v15, v16, v17, v18], ?_, v0, v1, v2, v3, v4, v5, v6, v7, v8, v9, v10, v11, .int .i64 0, v13, v14, v15, v16, v17, v18, X, rfl, ⟨H.bel, (by have h := H.f0; simpa [doneSet] using h), (by have h := H.f1; simpa [doneSet] using h), (by have h := H.f2; simpa [doneSet] using h), (by have h := H.f3; simpa [doneSet] using h), (by have h := H.f4; simpa [doneSet] using h), (by have h := H.f5; simpa [doneSet] using h), (by have h := H.f6; simpa [doneSet] using h), (by have h := H.f7; simpa [doneSet] using h), (by have h := H.f8; simpa [doneSet] using h), (by have h := H.f9; simpa [doneSet] using h), (by have h := H.f10; simpa [doneSet] using h), (by have h := H.f11; simpa [doneSet] using h), (fun _ => rfl), (by have h := H.f13; simpa [doneSet] using h), (by have h := H.f14; simpa [doneSet] using h), (by have h := H.f15; simpa [doneSet] using h), (by have h := H.f16; simpa [doneSet] using h), (by have h := H.f17; simpa [doneSet] using h), (by have h := H.x17; simpa [doneSet] using h), (by have h := H.k17; simpa [doneSet] using h), (by have h := H.k18; simpa [doneSet] using h), (by have h := H.g18_17; simpa [doneSet] using h)⟩⟩
    simp only [putAll, Act.put, List.setIfInBounds_toArray, List.set_cons_succ, List.set_cons_zero]
  · rintro d vs W ⟨v0, v1, v2, v3, v4, v5, v6, v7, v8, v9, v10, v11, v12, v13, v14, v15, v16, v17, v18, X, rfl, H⟩ hn hd
    simp only [putAll, Act.put, List.setIfInBounds_toArray, List.set_cons_succ, List.set_cons_zero]
    have HH1 : Hid (Sr0 (W0.drew) (s) (g) (br) (zl) (cr) (m) (kd) (y) (ow) (hh) d W v0 v1 v2 v3 v4 v5 v6 v7 v8 v9 v10 v11 v12 v13 v14 v15 v16 v17 v18 X) := H
    clear H
    have HHN : Hid (d 13 = false) := hn
    clear hd hn
    go_wp2
    have H0 := HH1.out
    have H := HH1.out
    have hn := HHN.out
    refine ⟨rfl, [v0, v1, v2, v3, v4, v5, v6, v7, v8, v9, v10, v11, v12, .pointer (some ⟨s, 1, none⟩), v14, v15, v16, v17, v18], ?_, v0, v1, v2, v3, v4, v5, v6, v7, v8, v9, v10, v11, v12, .pointer (some ⟨s, 1, none⟩), v14, v15, v16, v17, v18, X, rfl, ⟨H.bel, (by have h := H.f0; simpa [doneSet] using h), (by have h := H.f1; simpa [doneSet] using h), (by have h := H.f2; simpa [doneSet] using h), (by have h := H.f3; simpa [doneSet] using h), (by have h := H.f4; simpa [doneSet] using h), (by have h := H.f5; simpa [doneSet] using h), (by have h := H.f6; simpa [doneSet] using h), (by have h := H.f7; simpa [doneSet] using h), (by have h := H.f8; simpa [doneSet] using h), (by have h := H.f9; simpa [doneSet] using h), (by have h := H.f10; simpa [doneSet] using h), (by have h := H.f11; simpa [doneSet] using h), (by have h := H.f12; simpa [doneSet] using h), (fun _ => rfl), (by have h := H.f14; simpa [doneSet] using h), (by have h := H.f15; simpa [doneSet] using h), (by have h := H.f16; simpa [doneSet] using h), (by have h := H.f17; simpa [doneSet] using h), (by have h := H.x17; simpa [doneSet] using h), (by have h := H.k17; simpa [doneSet] using h), (by have h := H.k18; simpa [doneSet] using h), (by have h := H.g18_17; simpa [doneSet] using h)⟩⟩
    simp only [putAll, Act.put, List.setIfInBounds_toArray, List.set_cons_succ, List.set_cons_zero]
  · rintro d vs W ⟨v0, v1, v2, v3, v4, v5, v6, v7, v8, v9, v10, v11, v12, v13, v14, v15, v16, v17, v18, X, rfl, H⟩ hn hd
    simp only [putAll, Act.put, List.setIfInBounds_toArray, List.set_cons_succ, List.set_cons_zero]
    have h13 : d 13 = true := hd { on := 13, ground := .data } (by simp) rfl
    obtain ⟨⟨q0, q1⟩, q2, q3⟩ := CE.out W H.bel
    obtain rfl := H.f13 h13
    have HH1 : Hid (Sr0 (W0.drew) (s) (g) (br) (zl) (cr) (m) (kd) (y) (ow) (hh) d W v0 v1 v2 v3 v4 v5 v6 v7 v8 v9 v10 v11 v12 (.pointer (some ⟨s, 1, none⟩)) v14 v15 v16 v17 v18 X) := H
    clear H
    have HHN : Hid (d 14 = false) := hn
    have HHD : Hid (d 13 = true) := h13
    clear hd hn h13
    go_wp2
    have H0 := HH1.out
    have H := HH1.out
    have hn := HHN.out
    have h13 := HHD.out
    refine ⟨rfl, [v0, v1, v2, v3, v4, v5, v6, v7, v8, v9, v10, v11, v12, .pointer (some ⟨s, 1, none⟩), .int .i64 (m : Int), v15, v16, v17, v18], ?_, v0, v1, v2, v3, v4, v5, v6, v7, v8, v9, v10, v11, v12, .pointer (some ⟨s, 1, none⟩), .int .i64 (m : Int), v15, v16, v17, v18, X, rfl, ⟨H.bel, (by have h := H.f0; simpa [doneSet] using h), (by have h := H.f1; simpa [doneSet] using h), (by have h := H.f2; simpa [doneSet] using h), (by have h := H.f3; simpa [doneSet] using h), (by have h := H.f4; simpa [doneSet] using h), (by have h := H.f5; simpa [doneSet] using h), (by have h := H.f6; simpa [doneSet] using h), (by have h := H.f7; simpa [doneSet] using h), (by have h := H.f8; simpa [doneSet] using h), (by have h := H.f9; simpa [doneSet] using h), (by have h := H.f10; simpa [doneSet] using h), (by have h := H.f11; simpa [doneSet] using h), (by have h := H.f12; simpa [doneSet] using h), (fun _ => rfl), (fun _ => rfl), (by have h := H.f15; simpa [doneSet] using h), (by have h := H.f16; simpa [doneSet] using h), (by have h := H.f17; simpa [doneSet] using h), (by have h := H.x17; simpa [doneSet] using h), (by have h := H.k17; simpa [doneSet] using h), (by have h := H.k18; simpa [doneSet] using h), (by have h := H.g18_17; simpa [doneSet] using h)⟩⟩
    simp only [putAll, Act.put, List.setIfInBounds_toArray, List.set_cons_succ, List.set_cons_zero]
  · rintro d vs W ⟨v0, v1, v2, v3, v4, v5, v6, v7, v8, v9, v10, v11, v12, v13, v14, v15, v16, v17, v18, X, rfl, H⟩ hn hd
    simp only [putAll, Act.put, List.setIfInBounds_toArray, List.set_cons_succ, List.set_cons_zero]
    have h12 : d 12 = true := hd { on := 12, ground := .data } (by simp) rfl
    have h14 : d 14 = true := hd { on := 14, ground := .data } (by simp) rfl
    obtain rfl := H.f12 h12
    obtain rfl := H.f14 h14
    have HH1 : Hid (Sr0 (W0.drew) (s) (g) (br) (zl) (cr) (m) (kd) (y) (ow) (hh) d W v0 v1 v2 v3 v4 v5 v6 v7 v8 v9 v10 v11 (.int .i64 0) v13 (.int .i64 (m : Int)) v15 v16 v17 v18 X) := H
    clear H
    have HHN : Hid (d 15 = false) := hn
    have HHD : Hid (d 12 = true ∧ d 14 = true) := ⟨h12, h14⟩
    clear hd hn h12 h14
    go_wp2_with (fail)
    refine (owns_c 0 m W (by have := HC.out.2.2.2.2.1; omega)).mono ?_
    rintro e W3 ⟨rfl, hw3⟩
    rw [hw3, HOW.out]
    clear hw3 W3
    go_wp2
    have H0 := HH1.out
    have H := HH1.out
    have hn := HHN.out
    have h12 := HHD.out.1
    have h14 := HHD.out.2
    refine ⟨rfl, [v0, v1, v2, v3, v4, v5, v6, v7, v8, v9, v10, v11, .int .i64 0, v13, .int .i64 (m : Int), .bool ow, v16, v17, v18], ?_, v0, v1, v2, v3, v4, v5, v6, v7, v8, v9, v10, v11, .int .i64 0, v13, .int .i64 (m : Int), .bool ow, v16, v17, v18, X, rfl, ⟨H.bel, (by have h := H.f0; simpa [doneSet] using h), (by have h := H.f1; simpa [doneSet] using h), (by have h := H.f2; simpa [doneSet] using h), (by have h := H.f3; simpa [doneSet] using h), (by have h := H.f4; simpa [doneSet] using h), (by have h := H.f5; simpa [doneSet] using h), (by have h := H.f6; simpa [doneSet] using h), (by have h := H.f7; simpa [doneSet] using h), (by have h := H.f8; simpa [doneSet] using h), (by have h := H.f9; simpa [doneSet] using h), (by have h := H.f10; simpa [doneSet] using h), (by have h := H.f11; simpa [doneSet] using h), (fun _ => rfl), (by have h := H.f13; simpa [doneSet] using h), (fun _ => rfl), (fun _ => rfl), (by have h := H.f16; simpa [doneSet] using h), (by have h := H.f17; simpa [doneSet] using h), (by have h := H.x17; simpa [doneSet] using h), (by have h := H.k17; simpa [doneSet] using h), (by have h := H.k18; simpa [doneSet] using h), (by have h := H.g18_17; simpa [doneSet] using h)⟩⟩
    simp only [putAll, Act.put, List.setIfInBounds_toArray, List.set_cons_succ, List.set_cons_zero]
  · rintro d vs W ⟨v0, v1, v2, v3, v4, v5, v6, v7, v8, v9, v10, v11, v12, v13, v14, v15, v16, v17, v18, X, rfl, H⟩ hn hd
    simp only [putAll, Act.put, List.setIfInBounds_toArray, List.set_cons_succ, List.set_cons_zero]
    have h1 : d 1 = true := hd { on := 1, ground := .data } (by simp) rfl
    have h11 : d 11 = true := hd { on := 11, ground := .data } (by simp) rfl
    have h15 : d 15 = true := hd { on := 15, ground := .data } (by simp) rfl
    obtain rfl := H.f1 h1
    obtain rfl := H.f11 h11
    obtain rfl := H.f15 h15
    have HH1 : Hid (Sr0 (W0.drew) (s) (g) (br) (zl) (cr) (m) (kd) (y) (ow) (hh) d W v0 (.int .i64 kd) v2 v3 v4 v5 v6 v7 v8 v9 v10 (.int .i64 y) v12 v13 v14 (.bool ow) v16 v17 v18 X) := H
    clear H
    have HHN : Hid (d 16 = false) := hn
    have HHD : Hid (d 1 = true ∧ d 11 = true ∧ d 15 = true) := ⟨h1, h11, h15⟩
    clear hd hn h1 h11 h15
    go_wp2_with (fail)
    refine (hearI_c kd y ow W HC.out.2.1 HC.out.2.2.2.1).mono ?_
    rintro e W3 ⟨rfl, hb3⟩
    rw [HHH.out]
    have HB3 : Hid (Below W.heap.size W W3) := hb3
    clear hb3
    go_wp2
    have H0 := HH1.out
    have H := HH1.out.below HB3.out
    have hn := HHN.out
    have h1 := HHD.out.1
    have h11 := HHD.out.2.1
    have h15 := HHD.out.2.2
    refine ⟨rfl, [v0, .int .i64 kd, v2, v3, v4, v5, v6, v7, v8, v9, v10, .int .i64 y, v12, v13, v14, .bool ow, .agg (N3 hh), v17, v18], ?_, v0, .int .i64 kd, v2, v3, v4, v5, v6, v7, v8, v9, v10, .int .i64 y, v12, v13, v14, .bool ow, .agg (N3 hh), v17, v18, X, rfl, ⟨H.bel, (by have h := H.f0; simpa [doneSet] using h), (fun _ => rfl), (by have h := H.f2; simpa [doneSet] using h), (by have h := H.f3; simpa [doneSet] using h), (by have h := H.f4; simpa [doneSet] using h), (by have h := H.f5; simpa [doneSet] using h), (by have h := H.f6; simpa [doneSet] using h), (by have h := H.f7; simpa [doneSet] using h), (by have h := H.f8; simpa [doneSet] using h), (by have h := H.f9; simpa [doneSet] using h), (by have h := H.f10; simpa [doneSet] using h), (fun _ => rfl), (by have h := H.f12; simpa [doneSet] using h), (by have h := H.f13; simpa [doneSet] using h), (by have h := H.f14; simpa [doneSet] using h), (fun _ => rfl), (fun _ => rfl), (by have h := H.f17; simpa [doneSet] using h), (by have h := H.x17; simpa [doneSet] using h), (by have h := H.k17; simpa [doneSet] using h), (by have h := H.k18; simpa [doneSet] using h), (by have h := H.g18_17; simpa [doneSet] using h)⟩⟩
    simp only [putAll, Act.put, List.setIfInBounds_toArray, List.set_cons_succ, List.set_cons_zero]
  · rintro d vs W ⟨v0, v1, v2, v3, v4, v5, v6, v7, v8, v9, v10, v11, v12, v13, v14, v15, v16, v17, v18, X, rfl, H⟩ hn hd
    simp only [putAll, Act.put, List.setIfInBounds_toArray, List.set_cons_succ, List.set_cons_zero]
    have HH1 : Hid (Sr0 (W0.drew) (s) (g) (br) (zl) (cr) (m) (kd) (y) (ow) (hh) d W v0 v1 v2 v3 v4 v5 v6 v7 v8 v9 v10 v11 v12 v13 v14 v15 v16 v17 v18 X) := H
    clear H
    have HHN : Hid (d 17 = false) := hn
    clear hd hn
    go_wp2
    have H0 := HH1.out
    have H := HH1.out.below ((Below.refl _ W).alloc (Nat.le_refl _) (.cells (N3 (0, 0, 0)) 96))
    have hn := HHN.out
    refine ⟨rfl, [v0, v1, v2, v3, v4, v5, v6, v7, v8, v9, v10, v11, v12, v13, v14, v15, v16, .pointer (some ⟨W.heap.size, 0, none⟩), v18], ?_, v0, v1, v2, v3, v4, v5, v6, v7, v8, v9, v10, v11, v12, v13, v14, v15, v16, .pointer (some ⟨W.heap.size, 0, none⟩), v18, W.heap.size, rfl, ⟨H.bel, (by have h := H.f0; simpa [doneSet] using h), (by have h := H.f1; simpa [doneSet] using h), (by have h := H.f2; simpa [doneSet] using h), (by have h := H.f3; simpa [doneSet] using h), (by have h := H.f4; simpa [doneSet] using h), (by have h := H.f5; simpa [doneSet] using h), (by have h := H.f6; simpa [doneSet] using h), (by have h := H.f7; simpa [doneSet] using h), (by have h := H.f8; simpa [doneSet] using h), (by have h := H.f9; simpa [doneSet] using h), (by have h := H.f10; simpa [doneSet] using h), (by have h := H.f11; simpa [doneSet] using h), (by have h := H.f12; simpa [doneSet] using h), (by have h := H.f13; simpa [doneSet] using h), (by have h := H.f14; simpa [doneSet] using h), (by have h := H.f15; simpa [doneSet] using h), (by have h := H.f16; simpa [doneSet] using h), (fun _ => rfl), (fun _ => H0.bel.size), (fun _ _ => Blk.new _ _ _), (fun e => absurd (H0.g18_17 (by simpa [doneSet] using e)) (by rw [hn]; simp)), (fun _ => by simp [doneSet])⟩⟩
    simp only [putAll, Act.put, List.setIfInBounds_toArray, List.set_cons_succ, List.set_cons_zero]
  · rintro d vs W ⟨v0, v1, v2, v3, v4, v5, v6, v7, v8, v9, v10, v11, v12, v13, v14, v15, v16, v17, v18, X, rfl, H⟩ hn hd
    simp only [putAll, Act.put, List.setIfInBounds_toArray, List.set_cons_succ, List.set_cons_zero]
    have h16 : d 16 = true := hd { on := 16, ground := .data } (by simp) rfl
    have h17 : d 17 = true := hd { on := 17, ground := .data } (by simp) rfl
    have kx := H.k17 h17 hn
    have e0 := kx.cell 0
    have e1 := kx.cell 1
    have e2 := kx.cell 2
    have u0 := kx.frozen 0
    have u1 := kx.frozen 1
    have u2 := kx.frozen 2
    have ul := kx.lt
    simp at e0 e1 e2
    clear kx
    obtain rfl := H.f16 h16
    obtain rfl := H.f17 h17
    have HH1 : Hid (Sr0 (W0.drew) (s) (g) (br) (zl) (cr) (m) (kd) (y) (ow) (hh) d W v0 v1 v2 v3 v4 v5 v6 v7 v8 v9 v10 v11 v12 v13 v14 v15 (.agg (N3 hh)) (.pointer (some ⟨X, 0, none⟩)) v18 X) := H
    clear H
    have HHN : Hid (d 18 = false) := hn
    have HHD : Hid (d 16 = true ∧ d 17 = true) := ⟨h16, h17⟩
    clear hd hn h16 h17
    go_wp2
    have H0 := HH1.out
    have H := HH1.out
    have hn := HHN.out
    have h16 := HHD.out.1
    have h17 := HHD.out.2
    refine ⟨rfl, [v0, v1, v2, v3, v4, v5, v6, v7, v8, v9, v10, v11, v12, v13, v14, v15, .agg (N3 hh), .pointer (some ⟨X, 0, none⟩), undef], ?_, v0, v1, v2, v3, v4, v5, v6, v7, v8, v9, v10, v11, v12, v13, v14, v15, .agg (N3 hh), .pointer (some ⟨X, 0, none⟩), undef, X, rfl, ⟨(((H0.bel.setCell (H0.x17 h17) _).setCell (H0.x17 h17) _).setCell (H0.x17 h17) _), (by have h := H.f0; simpa [doneSet] using h), (by have h := H.f1; simpa [doneSet] using h), (by have h := H.f2; simpa [doneSet] using h), (by have h := H.f3; simpa [doneSet] using h), (by have h := H.f4; simpa [doneSet] using h), (by have h := H.f5; simpa [doneSet] using h), (by have h := H.f6; simpa [doneSet] using h), (by have h := H.f7; simpa [doneSet] using h), (by have h := H.f8; simpa [doneSet] using h), (by have h := H.f9; simpa [doneSet] using h), (by have h := H.f10; simpa [doneSet] using h), (by have h := H.f11; simpa [doneSet] using h), (by have h := H.f12; simpa [doneSet] using h), (by have h := H.f13; simpa [doneSet] using h), (by have h := H.f14; simpa [doneSet] using h), (by have h := H.f15; simpa [doneSet] using h), (fun _ => rfl), (fun _ => rfl), (by have h := H.x17; simpa [doneSet] using h), (fun _ e => by simp [doneSet] at e), (fun _ => (((H0.k17 h17 hn).set 0 _).set 1 _).set 2 _), (fun _ => by simpa [doneSet] using h17)⟩⟩
    simp only [putAll, Act.put, List.setIfInBounds_toArray, List.set_cons_succ, List.set_cons_zero]
  rintro d vs W ⟨v0, v1, v2, v3, v4, v5, v6, v7, v8, v9, v10, v11, v12, v13, v14, v15, v16, v17, v18, X, rfl, H⟩ hn
  obtain rfl := H.f0 (hn 0 (by decide))
  obtain rfl := H.f1 (hn 1 (by decide))
  obtain rfl := H.f2 (hn 2 (by decide))
  obtain rfl := H.f3 (hn 3 (by decide))
  obtain rfl := H.f4 (hn 4 (by decide))
  obtain rfl := H.f5 (hn 5 (by decide))
  obtain rfl := H.f6 (hn 6 (by decide))
  obtain rfl := H.f7 (hn 7 (by decide))
  obtain rfl := H.f8 (hn 8 (by decide))
  obtain rfl := H.f9 (hn 9 (by decide))
  obtain rfl := H.f10 (hn 10 (by decide))
  obtain rfl := H.f11 (hn 11 (by decide))
  obtain rfl := H.f12 (hn 12 (by decide))
  obtain rfl := H.f13 (hn 13 (by decide))
  obtain rfl := H.f14 (hn 14 (by decide))
  obtain rfl := H.f15 (hn 15 (by decide))
  obtain rfl := H.f16 (hn 16 (by decide))
  obtain rfl := H.f17 (hn 17 (by decide))
  have BW : Hid (Below W0.drew.heap.size W0.drew W) := H.bel
  have KX : Hid (Blk W X (N3 hh) 96) := H.k18 (hn 18 (by decide))
  have HX : Hid (W0.heap.size ≤ X) := H.x17 (hn 17 (by decide))
  clear H hn CE
  simp only [putAll, Act.put, List.setIfInBounds_toArray, List.set_cons_succ, List.set_cons_zero]
  have LW : Hid (Lv b W g (.slice (some ⟨br, 0, none⟩) z0.length cr) (.slice eo z1.length fo) l0 l1 k0 k1 z0 z1 n0 n1) := (HV.out.below B0.out).below (show Below W0.heap.size W0 W from ⟨BW.out.os, BW.out.tape, BW.out.output, BW.out.size, BW.out.block⟩)
  have HBW : Hid (Below w.heap.size w W) := belowCall B0.out (show Below W0.heap.size W0 W from ⟨BW.out.os, BW.out.tape, BW.out.output, BW.out.size, BW.out.block⟩) B0.out.size
  have KNW : Hid (Blk W s (H2 kd (m : Int)) 68) := (show Blk W0.drew s (H2 kd (m : Int)) 68 from KN.out).below BW.out KN.out.lt
  have hsW : s < W0.heap.size := KN.out.lt
  have HNE : Hid (s ≠ br ∧ X ≠ br ∧ s ≠ g ∧ X ≠ g ∧ X ≠ s ∧ X ≠ k1 ∧ s ≠ k1 ∧ b ≤ s) := by
    have h1 := HBR.out; have h2 := HX.out; have h3 := HS.out; have h4 := HV.out.blk.lt; have h5 := HV.out.ch1.lt; have h6 := HC.out.1; have h7 := B0.out.size
    show _ ∧ _ ∧ _ ∧ _ ∧ _ ∧ _ ∧ _ ∧ _; omega
  clear hsW BW B0 KN KG OJ HX
  obtain ⟨hh0, hh1, hh2⟩ := hh
  obtain ⟨W2, hW2⟩ : ∃ W', W.drew.setCell ⟨br, m, none⟩ (.int .i64 hh0) = W' := ⟨_, rfl⟩
  have f2 : Fr (fun k => k = br) W.drew W2 := by rw [← hW2]; exact Fr.ofGrown (grown_set _ _ _ _) (fun k e => (Option.some.inj e).symm)
  have LW2 : Hid (Lv b W2 g (.slice (some ⟨br, 0, none⟩) z0.length cr) (.slice eo z1.length fo) l0 l1 k0 k1 (z0.set m hh0) z1 n0 n1) := Lv.seen0 (show Lv b W.drew g _ _ l0 l1 k0 k1 z0 z1 n0 n1 from LW.out.below (Below.refl _ _).drew) hh0 hW2
  have KN2 : Hid (Blk W2 s (H2 kd (m : Int)) 68) := (show Blk W.drew s (H2 kd (m : Int)) 68 from KNW.out).fr f2 HNE.out.1
  have KX2 : Hid (Blk W2 X (N3 (hh0, hh1, hh2)) 96) := (show Blk W.drew X (N3 (hh0, hh1, hh2)) 96 from KX.out).fr f2 HNE.out.2.1
  have HB2 : Hid (Below b w W2) := (show Below b w W.drew from (HBW.out.mono HC.out.1).drew).trans (f2.below (by have h1 := HBW.out.size; have h2 := HC.out.1; show b ≤ W.heap.size; omega) (fun k e => by have := HBR.out; omega))
  have CE2 : Hid (∀ q, q = W.drew ∨ q = W2 → (q.cell? ⟨s, 1, none⟩ = some (.int .i64 (m : Int))) ∧ q.cell? ⟨g, 0, none⟩ = some (.slice (some ⟨br, 0, none⟩) zl cr) ∧ q.cell? ⟨X, 0, none⟩ = some (.int .i64 hh0)) := fun q hq => by
    rcases hq with rfl | rfl
    · refine ⟨KNW.out.cell 1, ?_, KX.out.cell 0⟩
      rw [show W.drew.cell? ⟨g, 0, none⟩ = _ from LW.out.blk.cell 0, ← HZL.out]; rfl
    · refine ⟨KN2.out.cell 1, ?_, KX2.out.cell 0⟩
      rw [LW2.out.blk.cell 0, ← HZL.out]; rfl
  obtain ⟨cz, cf⟩ := Ow.cellFz rfl (show Ow .i64 3 b W.drew (.slice (some ⟨br, 0, none⟩) z0.length cr) z0 from LW.out.o0) m HC.out.2.2.1
  clear f2 KX KNW
  go_wp2
  refine region_det [.pointer (some ⟨g, 0, none⟩), .int .i64 0, .pointer (some ⟨g, 0, none⟩), .pointer (some ⟨g, 0, none⟩), .pointer (some ⟨g, 0, none⟩), .slice (some ⟨br, 0, none⟩) zl cr, .pointer (some ⟨s, 1, none⟩), .int .i64 (m : Int), .pointer (some ⟨X, 0, none⟩), .int .i64 hh0, .pointer (some ⟨br, m, none⟩), undef]
    (fun d q => (d 11 = false → q = W.drew) ∧ (d 11 = true → q = W2)) (by kernel_rfl) (by kernel_rfl)
    (by simp only [putAll, Act.put, List.setIfInBounds_toArray, List.set_cons_succ, List.set_cons_zero]; exact rfl) ⟨fun _ => rfl, fun h => (by cases h)⟩ ⟨?_, ?_, ?_, ?_, ?_, ?_, ?_, ?_, ?_, ?_, ?_, ?_, trivial⟩ ?_
  case refine_12 =>
    rintro d q ⟨s0, s1⟩ hn hd
    have hq := s0 hn
    subst hq
    clear s0 s1 CE2
    go_wp2
    exact ⟨rfl, rfl, fun h => by simp [doneSet] at h, fun _ => rfl⟩
  case refine_13 => 
    rintro d q ⟨-, s1⟩ hall
    have hq := s1 (hall 11 (by decide))
    subst hq
    clear s1 hall CE2 cz cf hW2
    obtain ⟨W3, hW3⟩ : ∃ W', q.drew.setCell ⟨g, 2, none⟩ (.int .i64 (l0 + hh2)) = W' := ⟨_, rfl⟩
    have f3 : Fr (fun k => k = g) q.drew W3 := by rw [← hW3]; exact Fr.ofGrown (grown_set _ _ _ _) (fun k e => (Option.some.inj e).symm)
    have LW3 : Hid (Lv b W3 g (.slice (some ⟨br, 0, none⟩) z0.length cr) (.slice eo z1.length fo) (l0 + hh2) l1 k0 k1 (z0.set m hh0) z1 n0 n1) := Lv.lost0 (show Lv b q.drew g _ _ l0 l1 k0 k1 (z0.set m hh0) z1 n0 n1 from LW2.out.below (Below.refl _ _).drew) _ hW3
    have KN3 : Hid (Blk W3 s (H2 kd (m : Int)) 68) := (show Blk q.drew s (H2 kd (m : Int)) 68 from KN2.out).fr f3 HNE.out.2.2.1
    have KX3 : Hid (Blk W3 X (N3 (hh0, hh1, hh2)) 96) := (show Blk q.drew X (N3 (hh0, hh1, hh2)) 96 from KX2.out).fr f3 HNE.out.2.2.2.1
    have HB3 : Hid (Below b w W3) := (show Below b w q.drew from HB2.out.drew).trans (f3.below (by have h1 := HB2.out.size; have h2 := HC.out.1; show b ≤ q.heap.size; omega) (fun k e => by have := HV.out.bg; omega))
    have hh2b : hh2 = 0 ∨ hh2 = 1 := by have h1 := hearF_lost kd y ow; rw [HHH.out] at h1; exact h1
    have hlb := HC.out.2.2.2.2.2.1
    have CE3 : Hid (∀ p, p = q.drew ∨ p = W3 → p.cell? ⟨X, 2, none⟩ = some (.int .i64 hh2)) := fun p hp => by
      rcases hp with rfl | rfl
      · exact KX2.out.cell 2
      · exact KX3.out.cell 2
    have cg := (show Blk q.drew g _ 65 from LW2.out.blk).cell 2
    have cgf := (show Blk q.drew g _ 65 from LW2.out.blk).frozen 2
    have cgl := (show Blk q.drew g _ 65 from LW2.out.blk).lt
    simp at cg
    have HL2 : Hid ((hh2 = 0 ∨ hh2 = 1) ∧ (0 ≤ l0 ∧ l0 ≤ 1000000)) := ⟨hh2b, hlb⟩
    obtain ⟨hlb0, hlb1⟩ := hlb
    have hs0 : -9223372036854775808 ≤ l0 + hh2 := by omega
    have hs1 : l0 + hh2 ≤ 9223372036854775807 := by omega
    clear f3
    go_wp2
    refine region_det [.pointer (some ⟨g, 0, none⟩), .int .i64 0, .pointer (some ⟨g, 0, none⟩), .pointer (some ⟨g, 2, none⟩), .pointer (some ⟨g, 2, none⟩), .int .i64 l0, .pointer (some ⟨X, 2, none⟩), .int .i64 hh2, .int .i64 (l0 + hh2), .pointer (some ⟨g, 0, none⟩), .pointer (some ⟨g, 2, none⟩), .pointer (some ⟨g, 2, none⟩), undef]
      (fun d p => (d 12 = false → p = q.drew) ∧ (d 12 = true → p = W3 ∧ d 5 = true)) (by kernel_rfl) (by kernel_rfl)
      (by simp only [putAll, Act.put, List.setIfInBounds_toArray, List.set_cons_succ, List.set_cons_zero]; exact rfl) ⟨fun _ => rfl, fun h => (by cases h)⟩ ⟨?_, ?_, ?_, ?_, ?_, ?_, ?_, ?_, ?_, ?_, ?_, ?_, ?_, trivial⟩ ?_
    case refine_13 =>
      rintro d p ⟨s0, s1⟩ hn hd
      have h5 : d 5 = true := hd { on := 5, ground := .phase } (by simp) rfl
      have hp := s0 hn
      subst hp
      clear s0 s1 CE3
      go_wp2
      exact ⟨rfl, rfl, fun h => by simp [doneSet] at h, fun _ => ⟨rfl, by simp [doneSet, h5]⟩⟩
    case refine_6 =>
      rintro d p ⟨s0, s1⟩ hn hd
      have h12 : d 12 = false := by cases h : d 12 with | false => rfl | true => rw [(s1 h).2] at hn; cases hn
      have hp := s0 h12
      subst hp
      clear s0 s1 CE3 hW3
      go_wp2
      exact ⟨rfl, rfl, fun _ => rfl, fun h => by simp [doneSet, h12] at h⟩
    case refine_14 => 
      rintro d p ⟨-, s1⟩ hall
      have hp := (s1 (hall 12 (by decide))).1
      subst hp
      clear s1 hall CE3 hW3 cg cgf
      have e2 := LW3.out.blk.cell 2
      have t0 := KN3.out.cell 1
      have t1 := KX3.out.cell 1
      have e3 := LW3.out.blk.lt
      simp at e2 t0 t1
      have HE : Hid (hearF kd (z0.getD m 0) ((m : Int) % 2 == 0) = (hh0, hh1, hh2)) := by show _ = _; rw [HY.out, HOW.out]; exact HHH.out
      by_cases hbig : 1000000 < l0 + hh2
      · go_wp2
        go_ret
        exact ⟨fun h => absurd h.1 (by rw [HE.out]; show ¬ (l0 + hh2 ≤ 1000000); omega), fun _ => ⟨rfl, HB3.out⟩⟩
      have hbig' : (1000000 < l0 + hh2) = False := eq_false hbig
      by_cases hbk : hh1 = 0
      · have hbk' : (hh1 == 0) = true := by simpa using hbk
        have HBK : Hid (hh1 = 0) := hbk
        clear hbk
        go_wp2
        go_ret
        refine ⟨fun h => ⟨rfl, ?_, HB3.out⟩, fun h => absurd ⟨by rw [HE.out]; show l0 + hh2 ≤ 1000000; omega, by rw [HE.out]; exact .inl HBK.out⟩ h⟩
        unfold bkN0
        rw [HE.out, if_pos HBK.out, List.append_nil]
        exact LW3.out
      have hbk' : (hh1 == 0) = false := by simpa using hbk
      go_wp2_with (fail)
      refine (send1_c g _ _ _ _ k0 k1 n1 hh1 (m : Int) p LW3.out.blk LW3.out.ch1 HC.out.2.2.2.2.2.2).mono ?_
      rintro e w4 ⟨hA, hBd⟩
      by_cases hroom : n1.length < 60
      · obtain ⟨rfl, c4, f4⟩ := hA hroom
        have HF4 : Hid (Lv b w4 g (.slice (some ⟨br, 0, none⟩) z0.length cr) (.slice eo z1.length fo) (l0 + hh2) l1 k0 k1 (z0.set m hh0) z1 n0 (n1 ++ [(hh1, (m : Int))]) ∧ Below b w w4) := ⟨LW3.out.way1 c4 f4, HB3.out.trans (f4.below (by have h1 := HB3.out.size; have h2 := HC.out.1; omega) (fun k e => by have := HV.out.bk1; omega))⟩
        clear c4 f4 hA hBd
        go_wp2
        go_ret
        refine ⟨fun h => ⟨rfl, ?_, HF4.out.2⟩, fun h => absurd ⟨by rw [HE.out]; show l0 + hh2 ≤ 1000000; omega, .inr hroom⟩ h⟩
        unfold bkN0
        rw [HE.out, if_neg hbk]
        exact HF4.out.1
      · obtain ⟨rfl, b4⟩ := hBd (by have := HC.out.2.2.2.2.2.2; omega)
        have HF4 : Hid (Below b w w4) := HB3.out.trans (b4.mono (by have h1 := HB3.out.size; have h2 := HC.out.1; omega))
        clear b4 hA hBd
        go_wp2
        go_ret
        exact ⟨fun h => absurd h.2 (by rw [HE.out]; intro h'; rcases h' with h' | h'; exact hbk h'; exact hroom h'), fun _ => ⟨rfl, HF4.out⟩⟩

    all_goals
      rintro d p ⟨s0, s1⟩ hn hd
      have SS : Hid ((d 12 = false → p = q.drew) ∧ (d 12 = true → p = W3 ∧ d 5 = true)) := ⟨s0, s1⟩
      have q0 := CE3.out p (by cases h : d 12 with | false => exact .inl (s0 h) | true => exact .inr (s1 h).1)
      clear s0 s1 CE3 hW3 cg cgf
      go_wp2
      exact ⟨rfl, rfl, by simpa [doneSet] using SS.out.1, by first | simpa [doneSet] using SS.out.2 | (intro h; have h' := SS.out.2 (by simpa [doneSet] using h); exact ⟨h'.1, by simp [doneSet, h'.2]⟩)⟩

  all_goals
    rintro d q ⟨s0, s1⟩ hn hd
    have SS : Hid ((d 11 = false → q = W.drew) ∧ (d 11 = true → q = W2)) := ⟨s0, s1⟩
    obtain ⟨q0, q1, q2⟩ := CE2.out q (by cases h : d 11 with | false => exact .inl (s0 h) | true => exact .inr (s1 h))
    clear s0 s1 CE2 cz cf hW2
    go_wp2
    exact ⟨rfl, rfl, by simpa [doneSet] using SS.out.1, by simpa [doneSet] using SS.out.2⟩
structure Sr1 (Wd : World) (s : Nat) (g : Nat) (br : Nat) (zl : Nat) (cr : Nat) (m : Nat) (kd : Int) (y : Int) (ow : Bool) (hh : Int × Int × Int) (d : Nat → Bool) (W : World) (v0 v1 v2 v3 v4 v5 v6 v7 v8 v9 v10 v11 v12 v13 v14 v15 v16 v17 v18 : Value) (X : Nat) : Prop where
  bel : Below Wd.heap.size Wd W
  f0 : d 0 = true → v0 = .pointer (some ⟨s, 0, none⟩)
  f1 : d 1 = true → v1 = .int .i64 kd
  f2 : d 2 = true → v2 = .pointer (some ⟨g, 0, none⟩)
  f3 : d 3 = true → v3 = .int .i64 1
  f4 : d 4 = true → v4 = .pointer (some ⟨g, 0, none⟩)
  f5 : d 5 = true → v5 = .pointer (some ⟨g, 0, none⟩)
  f6 : d 6 = true → v6 = .pointer (some ⟨g, 1, none⟩)
  f7 : d 7 = true → v7 = .slice (some ⟨br, 0, none⟩) zl cr
  f8 : d 8 = true → v8 = .pointer (some ⟨s, 1, none⟩)
  f9 : d 9 = true → v9 = .int .i64 (m : Int)
  f10 : d 10 = true → v10 = .pointer (some ⟨br, m, none⟩)
  f11 : d 11 = true → v11 = .int .i64 y
  f12 : d 12 = true → v12 = .int .i64 1
  f13 : d 13 = true → v13 = .pointer (some ⟨s, 1, none⟩)
  f14 : d 14 = true → v14 = .int .i64 (m : Int)
  f15 : d 15 = true → v15 = .bool ow
  f16 : d 16 = true → v16 = .agg (N3 hh)
  f17 : d 17 = true → v17 = .pointer (some ⟨X, 0, none⟩)
  x17 : d 17 = true → Wd.heap.size ≤ X
  k17 : d 17 = true → d 18 = false → Blk W X (N3 (0, 0, 0)) 96
  k18 : d 18 = true → Blk W X (N3 hh) 96
  g18_17 : d 18 = true → d 17 = true
def Sr1S (Wd : World) (s : Nat) (g : Nat) (br : Nat) (zl : Nat) (cr : Nat) (m : Nat) (kd : Int) (y : Int) (ow : Bool) (hh : Int × Int × Int) (d : Nat → Bool) (q : List Value) (W : World) : Prop := ∃ v0 v1 v2 v3 v4 v5 v6 v7 v8 v9 v10 v11 v12 v13 v14 v15 v16 v17 v18 X, q = [v0, v1, v2, v3, v4, v5, v6, v7, v8, v9, v10, v11, v12, v13, v14, v15, v16, v17, v18] ∧ Sr1 Wd s g br zl cr m kd y ow hh d W v0 v1 v2 v3 v4 v5 v6 v7 v8 v9 v10 v11 v12 v13 v14 v15 v16 v17 v18 X
theorem Sr1.below {Wd : World} {s : Nat} {g : Nat} {br : Nat} {zl : Nat} {cr : Nat} {m : Nat} {kd : Int} {y : Int} {ow : Bool} {hh : Int × Int × Int} {d : Nat → Bool} {W W' : World} {v0 v1 v2 v3 v4 v5 v6 v7 v8 v9 v10 v11 v12 v13 v14 v15 v16 v17 v18 : Value} {X : Nat} (h : Sr1 Wd s g br zl cr m kd y ow hh d W v0 v1 v2 v3 v4 v5 v6 v7 v8 v9 v10 v11 v12 v13 v14 v15 v16 v17 v18 X) (hb : Below W.heap.size W W') : Sr1 Wd s g br zl cr m kd y ow hh d W' v0 v1 v2 v3 v4 v5 v6 v7 v8 v9 v10 v11 v12 v13 v14 v15 v16 v17 v18 X :=
  { h with
    bel := belowCall h.bel hb h.bel.size
    k17 := fun e0 e1 => (h.k17 e0 e1).below hb (h.k17 e0 e1).lt
    k18 := fun e0 => (h.k18 e0).below hb (h.k18 e0).lt
  }
set_option maxHeartbeats 12800000 in
theorem arrive1_c (b g : Nat) (c0 c1 : Value) (l0 l1 : Int) (k0 k1 : Nat) (z0 z1 : List Int) (n0 n1 : Mvs) (kd : Int) (m : Nat) (w : World) (h : Lv b w g c0 c1 l0 l1 k0 k1 z0 z1 n0 n1) (hb : b ≤ w.heap.size) (hkd : 1 ≤ kd ∧ kd ≤ 5) (hm : m < z1.length) (hz : 0 ≤ z1.getD m 0 ∧ z1.getD m 0 ≤ 4) (hm24 : m ≤ 24) (hl : 0 ≤ l1 ∧ l1 ≤ 1000000) (hn : n0.length ≤ 60) :
    Calls Try.prog 49 #[.pointer (some ⟨g, 0, none⟩), .int .i64 1, .agg (H2 kd (m : Int))] w (ArR1 b g c0 c1 l0 l1 k0 k1 z0 z1 n0 n1 kd m w) := by
  obtain ⟨br, cr, hcr, hbr1, hbr2⟩ := Ow.row h.o1 (by omega)
  obtain ⟨eo, fo, hco, -⟩ := own_form h.o0
  subst hcr hco
  obtain ⟨zl, hzl⟩ : ∃ q, z1.length = q := ⟨_, rfl⟩
  obtain ⟨y, hy⟩ : ∃ q, z1.getD m 0 = q := ⟨_, rfl⟩
  rw [hy] at hz
  have HV : Hid (Lv b w g (.slice eo z0.length fo) (.slice (some ⟨br, 0, none⟩) z1.length cr) l0 l1 k0 k1 z0 z1 n0 n1) := h
  have HY : Hid (z1.getD m 0 = y) := hy
  have HZL : Hid (z1.length = zl) := hzl
  have HC : Hid (b ≤ w.heap.size ∧ (1 ≤ kd ∧ kd ≤ 5) ∧ m < z1.length ∧ (0 ≤ y ∧ y ≤ 4) ∧ m ≤ 24 ∧ (0 ≤ l1 ∧ l1 ≤ 1000000) ∧ n0.length ≤ 60) := ⟨hb, hkd, hm, hz, hm24, hl, hn⟩
  have HBR : Hid (b ≤ br ∧ br < w.heap.size) := ⟨hbr1, hbr2⟩
  obtain ⟨ow, how⟩ : ∃ q, ((m : Int) % 2 == 1) = q := ⟨_, rfl⟩
  have HOW : Hid (((m : Int) % 2 == 1) = ow) := how
  obtain ⟨hh, hhh⟩ : ∃ q, hearF kd y ow = q := ⟨_, rfl⟩
  have HHH : Hid (hearF kd y ow = hh) := hhh
  obtain ⟨s, hs⟩ : ∃ k, w.heap.size = k := ⟨_, rfl⟩
  have HS : Hid (w.heap.size = s) := hs
  obtain ⟨W0, hW0⟩ : ∃ W0, w.alloc (Obj.cells (H2 kd (m : Int)) 68) = W0 := ⟨_, rfl⟩
  have hb0 : Below w.heap.size w W0 := by rw [← hW0]; exact (Below.refl _ _).alloc (Nat.le_refl _) _
  have B0 : Hid (Below w.heap.size w W0) := hb0
  have KN : Hid (Blk W0 s (H2 kd (m : Int)) 68) := by rw [← hW0, ← hs]; exact Blk.new _ _ _
  have KG : Hid (Blk W0 g (L6 (.slice eo z0.length fo) (.slice (some ⟨br, 0, none⟩) z1.length cr) l0 l1 k0 k1) 65) := h.blk.below hb0 h.blk.lt
  have OJ : Hid (Ow .i64 3 b W0 (.slice (some ⟨br, 0, none⟩) z1.length cr) z1) := h.o1.below hb0
  have hmi : (m : Int) < (z1.length : Int) := by omega
  have hm0 : (0 : Int) ≤ (m : Int) := by omega
  have hmi' : (m : Int) < (zl : Int) := by omega
  have CE : Hid (∀ W, Below W0.drew.heap.size W0.drew W → (W.cell? ⟨s, 0, none⟩ = some (.int .i64 kd) ∧ W.cell? ⟨s, 1, none⟩ = some (.int .i64 (m : Int))) ∧ W.cell? ⟨g, 1, none⟩ = some (.slice (some ⟨br, 0, none⟩) zl cr) ∧ W.cell? ⟨br, m, none⟩ = some (.int .i64 y)) := fun W hW => by
    have k1 := (show Blk W0.drew s (H2 kd (m : Int)) 68 from KN.out).below hW KN.out.lt
    have k2 := (show Blk W0.drew g _ 65 from KG.out).below hW KG.out.lt
    have k3 : Ow .i64 3 b W (.slice (some ⟨br, 0, none⟩) z1.length cr) z1 := (show Ow .i64 3 b W0.drew _ _ from OJ.out).below hW
    refine ⟨⟨k1.cell 0, k1.cell 1⟩, ?_, ?_⟩
    · rw [k2.cell 1, ← HZL.out]; rfl
    · rw [(Ow.cellFz rfl k3 m HC.out.2.2.1).1, HY.out]
  clear h hb hkd hz hm24 hl hn hbr1 hbr2 hb0 hy hzl how hhh hm
  go_enter Try.func49, Try.ntmps49
  go_wp2
  clear hW0 hs
  refine region_vals [undef, undef, undef, undef, undef, undef, undef, undef, undef, undef, undef, undef, undef, undef, undef, undef, undef, undef, undef] (Sr1S (W0.drew) (s) (g) (br) (zl) (cr) (m) (kd) (y) (ow) (hh)) (by kernel_rfl) (by kernel_rfl) ?_ ⟨?_, ?_, ?_, ?_, ?_, ?_, ?_, ?_, ?_, ?_, ?_, ?_, ?_, ?_, ?_, ?_, ?_, ?_, ?_, trivial⟩ ?_
  · refine ⟨_, _, _, _, _, _, _, _, _, _, _, _, _, _, _, _, _, _, _, 0, rfl, ⟨(Below.refl _ _), ?_, ?_, ?_, ?_, ?_, ?_, ?_, ?_, ?_, ?_, ?_, ?_, ?_, ?_, ?_, ?_, ?_, ?_, ?_, ?_, ?_, ?_⟩⟩ <;> simp
  · rintro d vs W ⟨v0, v1, v2, v3, v4, v5, v6, v7, v8, v9, v10, v11, v12, v13, v14, v15, v16, v17, v18, X, rfl, H⟩ hn hd
    simp only [putAll, Act.put, List.setIfInBounds_toArray, List.set_cons_succ, List.set_cons_zero]
    have HH1 : Hid (Sr1 (W0.drew) (s) (g) (br) (zl) (cr) (m) (kd) (y) (ow) (hh) d W v0 v1 v2 v3 v4 v5 v6 v7 v8 v9 v10 v11 v12 v13 v14 v15 v16 v17 v18 X) := H
    clear H
    have HHN : Hid (d 0 = false) := hn
    clear hd hn
    go_wp2
    have H0 := HH1.out
    have H := HH1.out
    have hn := HHN.out
    refine ⟨rfl, [.pointer (some ⟨s, 0, none⟩), v1, v2, v3, v4, v5, v6, v7, v8, v9, v10, v11, v12, v13, v14, v15, v16, v17, v18], ?_, .pointer (some ⟨s, 0, none⟩), v1, v2, v3, v4, v5, v6, v7, v8, v9, v10, v11, v12, v13, v14, v15, v16, v17, v18, X, rfl, ⟨H.bel, (fun _ => rfl), (by have h := H.f1; simpa [doneSet] using h), (by have h := H.f2; simpa [doneSet] using h), (by have h := H.f3; simpa [doneSet] using h), (by have h := H.f4; simpa [doneSet] using h), (by have h := H.f5; simpa [doneSet] using h), (by have h := H.f6; simpa [doneSet] using h), (by have h := H.f7; simpa [doneSet] using h), (by have h := H.f8; simpa [doneSet] using h), (by have h := H.f9; simpa [doneSet] using h), (by have h := H.f10; simpa [doneSet] using h), (by have h := H.f11; simpa [doneSet] using h), (by have h := H.f12; simpa [doneSet] using h), (by have h := H.f13; simpa [doneSet] using h), (by have h := H.f14; simpa [doneSet] using h), (by have h := H.f15; simpa [doneSet] using h), (by have h := H.f16; simpa [doneSet] using h), (by have h := H.f17; simpa [doneSet] using h), (by have h := H.x17; simpa [doneSet] using h), (by have h := H.k17; simpa [doneSet] using h), (by have h := H.k18; simpa [doneSet] using h), (by have h := H.g18_17; simpa [doneSet] using h)⟩⟩
    simp only [putAll, Act.put, List.setIfInBounds_toArray, List.set_cons_succ, List.set_cons_zero]
  · rintro d vs W ⟨v0, v1, v2, v3, v4, v5, v6, v7, v8, v9, v10, v11, v12, v13, v14, v15, v16, v17, v18, X, rfl, H⟩ hn hd
    simp only [putAll, Act.put, List.setIfInBounds_toArray, List.set_cons_succ, List.set_cons_zero]
    have h0 : d 0 = true := hd { on := 0, ground := .data } (by simp) rfl
    obtain ⟨⟨q0, q1⟩, q2, q3⟩ := CE.out W H.bel
    obtain rfl := H.f0 h0
    have HH1 : Hid (Sr1 (W0.drew) (s) (g) (br) (zl) (cr) (m) (kd) (y) (ow) (hh) d W (.pointer (some ⟨s, 0, none⟩)) v1 v2 v3 v4 v5 v6 v7 v8 v9 v10 v11 v12 v13 v14 v15 v16 v17 v18 X) := H
    clear H
    have HHN : Hid (d 1 = false) := hn
    have HHD : Hid (d 0 = true) := h0
    clear hd hn h0
    go_wp2
    have H0 := HH1.out
    have H := HH1.out
    have hn := HHN.out
    have h0 := HHD.out
    refine ⟨rfl, [.pointer (some ⟨s, 0, none⟩), .int .i64 kd, v2, v3, v4, v5, v6, v7, v8, v9, v10, v11, v12, v13, v14, v15, v16, v17, v18], ?_, .pointer (some ⟨s, 0, none⟩), .int .i64 kd, v2, v3, v4, v5, v6, v7, v8, v9, v10, v11, v12, v13, v14, v15, v16, v17, v18, X, rfl, ⟨H.bel, (fun _ => rfl), (fun _ => rfl), (by have h := H.f2; simpa [doneSet] using h), (by have h := H.f3; simpa [doneSet] using h), (by have h := H.f4; simpa [doneSet] using h), (by have h := H.f5; simpa [doneSet] using h), (by have h := H.f6; simpa [doneSet] using h), (by have h := H.f7; simpa [doneSet] using h), (by have h := H.f8; simpa [doneSet] using h), (by have h := H.f9; simpa [doneSet] using h), (by have h := H.f10; simpa [doneSet] using h), (by have h := H.f11; simpa [doneSet] using h), (by have h := H.f12; simpa [doneSet] using h), (by have h := H.f13; simpa [doneSet] using h), (by have h := H.f14; simpa [doneSet] using h), (by have h := H.f15; simpa [doneSet] using h), (by have h := H.f16; simpa [doneSet] using h), (by have h := H.f17; simpa [doneSet] using h), (by have h := H.x17; simpa [doneSet] using h), (by have h := H.k17; simpa [doneSet] using h), (by have h := H.k18; simpa [doneSet] using h), (by have h := H.g18_17; simpa [doneSet] using h)⟩⟩
    simp only [putAll, Act.put, List.setIfInBounds_toArray, List.set_cons_succ, List.set_cons_zero]
  · rintro d vs W ⟨v0, v1, v2, v3, v4, v5, v6, v7, v8, v9, v10, v11, v12, v13, v14, v15, v16, v17, v18, X, rfl, H⟩ hn hd
    simp only [putAll, Act.put, List.setIfInBounds_toArray, List.set_cons_succ, List.set_cons_zero]
    have HH1 : Hid (Sr1 (W0.drew) (s) (g) (br) (zl) (cr) (m) (kd) (y) (ow) (hh) d W v0 v1 v2 v3 v4 v5 v6 v7 v8 v9 v10 v11 v12 v13 v14 v15 v16 v17 v18 X) := H
    clear H
    have HHN : Hid (d 2 = false) := hn
    clear hd hn
    go_wp2
    have H0 := HH1.out
    have H := HH1.out
    have hn := HHN.out
    refine ⟨rfl, [v0, v1, .pointer (some ⟨g, 0, none⟩), v3, v4, v5, v6, v7, v8, v9, v10, v11, v12, v13, v14, v15, v16, v17, v18], ?_, v0, v1, .pointer (some ⟨g, 0, none⟩), v3, v4, v5, v6, v7, v8, v9, v10, v11, v12, v13, v14, v15, v16, v17, v18, X, rfl, ⟨H.bel, (by have h := H.f0; simpa [doneSet] using h), (by have h := H.f1; simpa [doneSet] using h), (fun _ => rfl), (by have h := H.f3; simpa [doneSet] using h), (by have h := H.f4; simpa [doneSet] using h), (by have h := H.f5; simpa [doneSet] using h), (by have h := H.f6; simpa [doneSet] using h), (by have h := H.f7; simpa [doneSet] using h), (by have h := H.f8; simpa [doneSet] using h), (by have h := H.f9; simpa [doneSet] using h), (by have h := H.f10; simpa [doneSet] using h), (by have h := H.f11; simpa [doneSet] using h), (by have h := H.f12; simpa [doneSet] using h), (by have h := H.f13; simpa [doneSet] using h), (by have h := H.f14; simpa [doneSet] using h), (by have h := H.f15; simpa [doneSet] using h), (by have h := H.f16; simpa [doneSet] using h), (by have h := H.f17; simpa [doneSet] using h), (by have h := H.x17; simpa [doneSet] using h), (by have h := H.k17; simpa [doneSet] using h), (by have h := H.k18; simpa [doneSet] using h), (by have h := H.g18_17; simpa [doneSet] using h)⟩⟩
    simp only [putAll, Act.put, List.setIfInBounds_toArray, List.set_cons_succ, List.set_cons_zero]
  · rintro d vs W ⟨v0, v1, v2, v3, v4, v5, v6, v7, v8, v9, v10, v11, v12, v13, v14, v15, v16, v17, v18, X, rfl, H⟩ hn hd
    simp only [putAll, Act.put, List.setIfInBounds_toArray, List.set_cons_succ, List.set_cons_zero]
    have HH1 : Hid (Sr1 (W0.drew) (s) (g) (br) (zl) (cr) (m) (kd) (y) (ow) (hh) d W v0 v1 v2 v3 v4 v5 v6 v7 v8 v9 v10 v11 v12 v13 v14 v15 v16 v17 v18 X) := H
    clear H
    have HHN : Hid (d 3 = false) := hn
    clear hd hn
    go_wp2
    have H0 := HH1.out
    have H := HH1.out
    have hn := HHN.out
    refine ⟨rfl, [v0, v1, v2, .int .i64 1, v4, v5, v6, v7, v8, v9, v10, v11, v12, v13, v14, v15, v16, v17, v18], ?_, v0, v1, v2, .int .i64 1, v4, v5, v6, v7, v8, v9, v10, v11, v12, v13, v14, v15, v16, v17, v18, X, rfl, ⟨H.bel, (by have h := H.f0; simpa [doneSet] using h), (by have h := H.f1; simpa [doneSet] using h), (by have h := H.f2; simpa [doneSet] using h), (fun _ => rfl), (by have h := H.f4; simpa [doneSet] using h), (by have h := H.f5; simpa [doneSet] using h), (by have h := H.f6; simpa [doneSet] using h), (by have h := H.f7; simpa [doneSet] using h), (by have h := H.f8; simpa [doneSet] using h), (by have h := H.f9; simpa [doneSet] using h), (by have h := H.f10; simpa [doneSet] using h), (by have h := H.f11; simpa [doneSet] using h), (by have h := H.f12; simpa [doneSet] using h), (by have h := H.f13; simpa [doneSet] using h), (by have h := H.f14; simpa [doneSet] using h), (by have h := H.f15; simpa [doneSet] using h), (by have h := H.f16; simpa [doneSet] using h), (by have h := H.f17; simpa [doneSet] using h), (by have h := H.x17; simpa [doneSet] using h), (by have h := H.k17; simpa [doneSet] using h), (by have h := H.k18; simpa [doneSet] using h), (by have h := H.g18_17; simpa [doneSet] using h)⟩⟩
    simp only [putAll, Act.put, List.setIfInBounds_toArray, List.set_cons_succ, List.set_cons_zero]
  · rintro d vs W ⟨v0, v1, v2, v3, v4, v5, v6, v7, v8, v9, v10, v11, v12, v13, v14, v15, v16, v17, v18, X, rfl, H⟩ hn hd
    simp only [putAll, Act.put, List.setIfInBounds_toArray, List.set_cons_succ, List.set_cons_zero]
    have h2 : d 2 = true := hd { on := 2, ground := .data } (by simp) rfl
    obtain rfl := H.f2 h2
    have HH1 : Hid (Sr1 (W0.drew) (s) (g) (br) (zl) (cr) (m) (kd) (y) (ow) (hh) d W v0 v1 (.pointer (some ⟨g, 0, none⟩)) v3 v4 v5 v6 v7 v8 v9 v10 v11 v12 v13 v14 v15 v16 v17 v18 X) := H
    clear H
    have HHN : Hid (d 4 = false) := hn
    have HHD : Hid (d 2 = true) := h2
    clear hd hn h2
    go_wp2
    have H0 := HH1.out
    have H := HH1.out
    have hn := HHN.out
    have h2 := HHD.out
    refine ⟨rfl, [v0, v1, .pointer (some ⟨g, 0, none⟩), v3, .pointer (some ⟨g, 0, none⟩), v5, v6, v7, v8, v9, v10, v11, v12, v13, v14, v15, v16, v17, v18], ?_, v0, v1, .pointer (some ⟨g, 0, none⟩), v3, .pointer (some ⟨g, 0, none⟩), v5, v6, v7, v8, v9, v10, v11, v12, v13, v14, v15, v16, v17, v18, X, rfl, ⟨H.bel, (by have h := H.f0; simpa [doneSet] using h), (by have h := H.f1; simpa [doneSet] using h), (fun _ => rfl), (by have h := H.f3; simpa [doneSet] using h), (fun _ => rfl), (by have h := H.f5; simpa [doneSet] using h), (by have h := H.f6; simpa [doneSet] using h), (by have h := H.f7; simpa [doneSet] using h), (by have h := H.f8; simpa [doneSet] using h), (by have h := H.f9; simpa [doneSet] using h), (by have h := H.f10; simpa [doneSet] using h), (by have h := H.f11; simpa [doneSet] using h), (by have h := H.f12; simpa [doneSet] using h), (by have h := H.f13; simpa [doneSet] using h), (by have h := H.f14; simpa [doneSet] using h), (by have h := H.f15; simpa [doneSet] using h), (by have h := H.f16; simpa [doneSet] using h), (by have h := H.f17; simpa [doneSet] using h), (by have h := H.x17; simpa [doneSet] using h), (by have h := H.k17; simpa [doneSet] using h), (by have h := H.k18; simpa [doneSet] using h), (by have h := H.g18_17; simpa [doneSet] using h)⟩⟩
    simp only [putAll, Act.put, List.setIfInBounds_toArray, List.set_cons_succ, List.set_cons_zero]
  · rintro d vs W ⟨v0, v1, v2, v3, v4, v5, v6, v7, v8, v9, v10, v11, v12, v13, v14, v15, v16, v17, v18, X, rfl, H⟩ hn hd
    simp only [putAll, Act.put, List.setIfInBounds_toArray, List.set_cons_succ, List.set_cons_zero]
    have h4 : d 4 = true := hd { on := 4, ground := .data } (by simp) rfl
    obtain rfl := H.f4 h4
    have HH1 : Hid (Sr1 (W0.drew) (s) (g) (br) (zl) (cr) (m) (kd) (y) (ow) (hh) d W v0 v1 v2 v3 (.pointer (some ⟨g, 0, none⟩)) v5 v6 v7 v8 v9 v10 v11 v12 v13 v14 v15 v16 v17 v18 X) := H
    clear H
    have HHN : Hid (d 5 = false) := hn
    have HHD : Hid (d 4 = true) := h4
    clear hd hn h4
    go_wp2
    have H0 := HH1.out
    have H := HH1.out
    have hn := HHN.out
    have h4 := HHD.out
    refine ⟨rfl, [v0, v1, v2, v3, .pointer (some ⟨g, 0, none⟩), .pointer (some ⟨g, 0, none⟩), v6, v7, v8, v9, v10, v11, v12, v13, v14, v15, v16, v17, v18], ?_, v0, v1, v2, v3, .pointer (some ⟨g, 0, none⟩), .pointer (some ⟨g, 0, none⟩), v6, v7, v8, v9, v10, v11, v12, v13, v14, v15, v16, v17, v18, X, rfl, ⟨H.bel, (by have h := H.f0; simpa [doneSet] using h), (by have h := H.f1; simpa [doneSet] using h), (by have h := H.f2; simpa [doneSet] using h), (by have h := H.f3; simpa [doneSet] using h), (fun _ => rfl), (fun _ => rfl), (by have h := H.f6; simpa [doneSet] using h), (by have h := H.f7; simpa [doneSet] using h), (by have h := H.f8; simpa [doneSet] using h), (by have h := H.f9; simpa [doneSet] using h), (by have h := H.f10; simpa [doneSet] using h), (by have h := H.f11; simpa [doneSet] using h), (by have h := H.f12; simpa [doneSet] using h), (by have h := H.f13; simpa [doneSet] using h), (by have h := H.f14; simpa [doneSet] using h), (by have h := H.f15; simpa [doneSet] using h), (by have h := H.f16; simpa [doneSet] using h), (by have h := H.f17; simpa [doneSet] using h), (by have h := H.x17; simpa [doneSet] using h), (by have h := H.k17; simpa [doneSet] using h), (by have h := H.k18; simpa [doneSet] using h), (by have h := H.g18_17; simpa [doneSet] using h)⟩⟩
    simp only [putAll, Act.put, List.setIfInBounds_toArray, List.set_cons_succ, List.set_cons_zero]
  · rintro d vs W ⟨v0, v1, v2, v3, v4, v5, v6, v7, v8, v9, v10, v11, v12, v13, v14, v15, v16, v17, v18, X, rfl, H⟩ hn hd
    simp only [putAll, Act.put, List.setIfInBounds_toArray, List.set_cons_succ, List.set_cons_zero]
    have h5 : d 5 = true := hd { on := 5, ground := .data } (by simp) rfl
    have h3 : d 3 = true := hd { on := 3, ground := .data } (by simp) rfl
    obtain rfl := H.f5 h5
    obtain rfl := H.f3 h3
    have HH1 : Hid (Sr1 (W0.drew) (s) (g) (br) (zl) (cr) (m) (kd) (y) (ow) (hh) d W v0 v1 v2 (.int .i64 1) v4 (.pointer (some ⟨g, 0, none⟩)) v6 v7 v8 v9 v10 v11 v12 v13 v14 v15 v16 v17 v18 X) := H
    clear H
    have HHN : Hid (d 6 = false) := hn
    have HHD : Hid (d 5 = true ∧ d 3 = true) := ⟨h5, h3⟩
    clear hd hn h5 h3
    go_wp2
    have H0 := HH1.out
    have H := HH1.out
    have hn := HHN.out
    have h5 := HHD.out.1
    have h3 := HHD.out.2
    refine ⟨rfl, [v0, v1, v2, .int .i64 1, v4, .pointer (some ⟨g, 0, none⟩), .pointer (some ⟨g, 1, none⟩), v7, v8, v9, v10, v11, v12, v13, v14, v15, v16, v17, v18], ?_, v0, v1, v2, .int .i64 1, v4, .pointer (some ⟨g, 0, none⟩), .pointer (some ⟨g, 1, none⟩), v7, v8, v9, v10, v11, v12, v13, v14, v15, v16, v17, v18, X, rfl, ⟨H.bel, (by have h := H.f0; simpa [doneSet] using h), (by have h := H.f1; simpa [doneSet] using h), (by have h := H.f2; simpa [doneSet] using h), (fun _ => rfl), (by have h := H.f4; simpa [doneSet] using h), (fun _ => rfl), (fun _ => rfl), (by have h := H.f7; simpa [doneSet] using h), (by have h := H.f8; simpa [doneSet] using h), (by have h := H.f9; simpa [doneSet] using h), (by have h := H.f10; simpa [doneSet] using h), (by have h := H.f11; simpa [doneSet] using h), (by have h := H.f12; simpa [doneSet] using h), (by have h := H.f13; simpa [doneSet] using h), (by have h := H.f14; simpa [doneSet] using h), (by have h := H.f15; simpa [doneSet] using h), (by have h := H.f16; simpa [doneSet] using h), (by have h := H.f17; simpa [doneSet] using h), (by have h := H.x17; simpa [doneSet] using h), (by have h := H.k17; simpa [doneSet] using h), (by have h := H.k18; simpa [doneSet] using h), (by have h := H.g18_17; simpa [doneSet] using h)⟩⟩
    simp only [putAll, Act.put, List.setIfInBounds_toArray, List.set_cons_succ, List.set_cons_zero]
  · rintro d vs W ⟨v0, v1, v2, v3, v4, v5, v6, v7, v8, v9, v10, v11, v12, v13, v14, v15, v16, v17, v18, X, rfl, H⟩ hn hd
    simp only [putAll, Act.put, List.setIfInBounds_toArray, List.set_cons_succ, List.set_cons_zero]
    have h6 : d 6 = true := hd { on := 6, ground := .data } (by simp) rfl
    obtain ⟨⟨q0, q1⟩, q2, q3⟩ := CE.out W H.bel
    obtain rfl := H.f6 h6
    have HH1 : Hid (Sr1 (W0.drew) (s) (g) (br) (zl) (cr) (m) (kd) (y) (ow) (hh) d W v0 v1 v2 v3 v4 v5 (.pointer (some ⟨g, 1, none⟩)) v7 v8 v9 v10 v11 v12 v13 v14 v15 v16 v17 v18 X) := H
    clear H
    have HHN : Hid (d 7 = false) := hn
    have HHD : Hid (d 6 = true) := h6
    clear hd hn h6
    go_wp2
    have H0 := HH1.out
    have H := HH1.out
    have hn := HHN.out
    have h6 := HHD.out
    refine ⟨rfl, [v0, v1, v2, v3, v4, v5, .pointer (some ⟨g, 1, none⟩), .slice (some ⟨br, 0, none⟩) zl cr, v8, v9, v10, v11, v12, v13, v14, v15, v16, v17, v18], ?_, v0, v1, v2, v3, v4, v5, .pointer (some ⟨g, 1, none⟩), .slice (some ⟨br, 0, none⟩) zl cr, v8, v9, v10, v11, v12, v13, v14, v15, v16, v17, v18, X, rfl, ⟨H.bel, (by have h := H.f0; simpa [doneSet] using h), (by have h := H.f1; simpa [doneSet] using h), (by have h := H.f2; simpa [doneSet] using h), (by have h := H.f3; simpa [doneSet] using h), (by have h := H.f4; simpa [doneSet] using h), (by have h := H.f5; simpa [doneSet] using h), (fun _ => rfl), (fun _ => rfl), (by have h := H.f8; simpa [doneSet] using h), (by have h := H.f9; simpa [doneSet] using h), (by have h := H.f10; simpa [doneSet] using h), (by have h := H.f11; simpa [doneSet] using h), (by have h := H.f12; simpa [doneSet] using h), (by have h := H.f13; simpa [doneSet] using h), (by have h := H.f14; simpa [doneSet] using h), (by have h := H.f15; simpa [doneSet] using h), (by have h := H.f16; simpa [doneSet] using h), (by have h := H.f17; simpa [doneSet] using h), (by have h := H.x17; simpa [doneSet] using h), (by have h := H.k17; simpa [doneSet] using h), (by have h := H.k18; simpa [doneSet] using h), (by have h := H.g18_17; simpa [doneSet] using h)⟩⟩
    simp only [putAll, Act.put, List.setIfInBounds_toArray, List.set_cons_succ, List.set_cons_zero]
  · rintro d vs W ⟨v0, v1, v2, v3, v4, v5, v6, v7, v8, v9, v10, v11, v12, v13, v14, v15, v16, v17, v18, X, rfl, H⟩ hn hd
    simp only [putAll, Act.put, List.setIfInBounds_toArray, List.set_cons_succ, List.set_cons_zero]
    have HH1 : Hid (Sr1 (W0.drew) (s) (g) (br) (zl) (cr) (m) (kd) (y) (ow) (hh) d W v0 v1 v2 v3 v4 v5 v6 v7 v8 v9 v10 v11 v12 v13 v14 v15 v16 v17 v18 X) := H
    clear H
    have HHN : Hid (d 8 = false) := hn
    clear hd hn
    go_wp2
    have H0 := HH1.out
    have H := HH1.out
    have hn := HHN.out
    refine ⟨rfl, [v0, v1, v2, v3, v4, v5, v6, v7, .pointer (some ⟨s, 1, none⟩), v9, v10, v11, v12, v13, v14, v15, v16, v17, v18], ?_, v0, v1, v2, v3, v4, v5, v6, v7, .pointer (some ⟨s, 1, none⟩), v9, v10, v11, v12, v13, v14, v15, v16, v17, v18, X, rfl, ⟨H.bel, (by have h := H.f0; simpa [doneSet] using h), (by have h := H.f1; simpa [doneSet] using h), (by have h := H.f2; simpa [doneSet] using h), (by have h := H.f3; simpa [doneSet] using h), (by have h := H.f4; simpa [doneSet] using h), (by have h := H.f5; simpa [doneSet] using h), (by have h := H.f6; simpa [doneSet] using h), (by have h := H.f7; simpa [doneSet] using h), (fun _ => rfl), (by have h := H.f9; simpa [doneSet] using h), (by have h := H.f10; simpa [doneSet] using h), (by have h := H.f11; simpa [doneSet] using h), (by have h := H.f12; simpa [doneSet] using h), (by have h := H.f13; simpa [doneSet] using h), (by have h := H.f14; simpa [doneSet] using h), (by have h := H.f15; simpa [doneSet] using h), (by have h := H.f16; simpa [doneSet] using h), (by have h := H.f17; simpa [doneSet] using h), (by have h := H.x17; simpa [doneSet] using h), (by have h := H.k17; simpa [doneSet] using h), (by have h := H.k18; simpa [doneSet] using h), (by have h := H.g18_17; simpa [doneSet] using h)⟩⟩
    simp only [putAll, Act.put, List.setIfInBounds_toArray, List.set_cons_succ, List.set_cons_zero]
  · rintro d vs W ⟨v0, v1, v2, v3, v4, v5, v6, v7, v8, v9, v10, v11, v12, v13, v14, v15, v16, v17, v18, X, rfl, H⟩ hn hd
    simp only [putAll, Act.put, List.setIfInBounds_toArray, List.set_cons_succ, List.set_cons_zero]
    have h8 : d 8 = true := hd { on := 8, ground := .data } (by simp) rfl
    obtain ⟨⟨q0, q1⟩, q2, q3⟩ := CE.out W H.bel
    obtain rfl := H.f8 h8
    have HH1 : Hid (Sr1 (W0.drew) (s) (g) (br) (zl) (cr) (m) (kd) (y) (ow) (hh) d W v0 v1 v2 v3 v4 v5 v6 v7 (.pointer (some ⟨s, 1, none⟩)) v9 v10 v11 v12 v13 v14 v15 v16 v17 v18 X) := H
    clear H
    have HHN : Hid (d 9 = false) := hn
    have HHD : Hid (d 8 = true) := h8
    clear hd hn h8
    go_wp2
    have H0 := HH1.out
    have H := HH1.out
    have hn := HHN.out
    have h8 := HHD.out
    refine ⟨rfl, [v0, v1, v2, v3, v4, v5, v6, v7, .pointer (some ⟨s, 1, none⟩), .int .i64 (m : Int), v10, v11, v12, v13, v14, v15, v16, v17, v18], ?_, v0, v1, v2, v3, v4, v5, v6, v7, .pointer (some ⟨s, 1, none⟩), .int .i64 (m : Int), v10, v11, v12, v13, v14, v15, v16, v17, v18, X, rfl, ⟨H.bel, (by have h := H.f0; simpa [doneSet] using h), (by have h := H.f1; simpa [doneSet] using h), (by have h := H.f2; simpa [doneSet] using h), (by have h := H.f3; simpa [doneSet] using h), (by have h := H.f4; simpa [doneSet] using h), (by have h := H.f5; simpa [doneSet] using h), (by have h := H.f6; simpa [doneSet] using h), (by have h := H.f7; simpa [doneSet] using h), (fun _ => rfl), (fun _ => rfl), (by have h := H.f10; simpa [doneSet] using h), (by have h := H.f11; simpa [doneSet] using h), (by have h := H.f12; simpa [doneSet] using h), (by have h := H.f13; simpa [doneSet] using h), (by have h := H.f14; simpa [doneSet] using h), (by have h := H.f15; simpa [doneSet] using h), (by have h := H.f16; simpa [doneSet] using h), (by have h := H.f17; simpa [doneSet] using h), (by have h := H.x17; simpa [doneSet] using h), (by have h := H.k17; simpa [doneSet] using h), (by have h := H.k18; simpa [doneSet] using h), (by have h := H.g18_17; simpa [doneSet] using h)⟩⟩
    simp only [putAll, Act.put, List.setIfInBounds_toArray, List.set_cons_succ, List.set_cons_zero]
  · rintro d vs W ⟨v0, v1, v2, v3, v4, v5, v6, v7, v8, v9, v10, v11, v12, v13, v14, v15, v16, v17, v18, X, rfl, H⟩ hn hd
    simp only [putAll, Act.put, List.setIfInBounds_toArray, List.set_cons_succ, List.set_cons_zero]
    have h7 : d 7 = true := hd { on := 7, ground := .data } (by simp) rfl
    have h9 : d 9 = true := hd { on := 9, ground := .data } (by simp) rfl
    obtain rfl := H.f7 h7
    obtain rfl := H.f9 h9
    have HH1 : Hid (Sr1 (W0.drew) (s) (g) (br) (zl) (cr) (m) (kd) (y) (ow) (hh) d W v0 v1 v2 v3 v4 v5 v6 (.slice (some ⟨br, 0, none⟩) zl cr) v8 (.int .i64 (m : Int)) v10 v11 v12 v13 v14 v15 v16 v17 v18 X) := H
    clear H
    have HHN : Hid (d 10 = false) := hn
    have HHD : Hid (d 7 = true ∧ d 9 = true) := ⟨h7, h9⟩
    clear hd hn h7 h9
    go_wp2
    have H0 := HH1.out
    have H := HH1.out
    have hn := HHN.out
    have h7 := HHD.out.1
    have h9 := HHD.out.2
    refine ⟨rfl, [v0, v1, v2, v3, v4, v5, v6, .slice (some ⟨br, 0, none⟩) zl cr, v8, .int .i64 (m : Int), .pointer (some ⟨br, m, none⟩), v11, v12, v13, v14, v15, v16, v17, v18], ?_, v0, v1, v2, v3, v4, v5, v6, .slice (some ⟨br, 0, none⟩) zl cr, v8, .int .i64 (m : Int), .pointer (some ⟨br, m, none⟩), v11, v12, v13, v14, v15, v16, v17, v18, X, rfl, ⟨H.bel, (by have h := H.f0; simpa [doneSet] using h), (by have h := H.f1; simpa [doneSet] using h), (by have h := H.f2; simpa [doneSet] using h), (by have h := H.f3; simpa [doneSet] using h), (by have h := H.f4; simpa [doneSet] using h), (by have h := H.f5; simpa [doneSet] using h), (by have h := H.f6; simpa [doneSet] using h), (fun _ => rfl), (by have h := H.f8; simpa [doneSet] using h), (fun _ => rfl), (fun _ => rfl), (by have h := H.f11; simpa [doneSet] using h), (by have h := H.f12; simpa [doneSet] using h), (by have h := H.f13; simpa [doneSet] using h), (by have h := H.f14; simpa [doneSet] using h), (by have h := H.f15; simpa [doneSet] using h), (by have h := H.f16; simpa [doneSet] using h), (by have h := H.f17; simpa [doneSet] using h), (by have h := H.x17; simpa [doneSet] using h), (by have h := H.k17; simpa [doneSet] using h), (by have h := H.k18; simpa [doneSet] using h), (by have h := H.g18_17; simpa [doneSet] using h)⟩⟩
    simp only [putAll, Act.put, List.setIfInBounds_toArray, List.set_cons_succ, List.set_cons_zero]
  · rintro d vs W ⟨v0, v1, v2, v3, v4, v5, v6, v7, v8, v9, v10, v11, v12, v13, v14, v15, v16, v17, v18, X, rfl, H⟩ hn hd
    simp only [putAll, Act.put, List.setIfInBounds_toArray, List.set_cons_succ, List.set_cons_zero]
    have h10 : d 10 = true := hd { on := 10, ground := .data } (by simp) rfl
    obtain ⟨⟨q0, q1⟩, q2, q3⟩ := CE.out W H.bel
    obtain rfl := H.f10 h10
    have HH1 : Hid (Sr1 (W0.drew) (s) (g) (br) (zl) (cr) (m) (kd) (y) (ow) (hh) d W v0 v1 v2 v3 v4 v5 v6 v7 v8 v9 (.pointer (some ⟨br, m, none⟩)) v11 v12 v13 v14 v15 v16 v17 v18 X) := H
    clear H
    have HHN : Hid (d 11 = false) := hn
    have HHD : Hid (d 10 = true) := h10
    clear hd hn h10
    go_wp2
    have H0 := HH1.out
    have H := HH1.out
    have hn := HHN.out
    have h10 := HHD.out
    refine ⟨rfl, [v0, v1, v2, v3, v4, v5, v6, v7, v8, v9, .pointer (some ⟨br, m, none⟩), .int .i64 y, v12, v13, v14, v15, v16, v17, v18], ?_, v0, v1, v2, v3, v4, v5, v6, v7, v8, v9, .pointer (some ⟨br, m, none⟩), .int .i64 y, v12, v13, v14, v15, v16, v17, v18, X, rfl, ⟨H.bel, (by have h := H.f0; simpa [doneSet] using h), (by have h := H.f1; simpa [doneSet] using h), (by have h := H.f2; simpa [doneSet] using h), (by have h := H.f3; simpa [doneSet] using h), (by have h := H.f4; simpa [doneSet] using h), (by have h := H.f5; simpa [doneSet] using h), (by have h := H.f6; simpa [doneSet] using h), (by have h := H.f7; simpa [doneSet] using h), (by have h := H.f8; simpa [doneSet] using h), (by have h := H.f9; simpa [doneSet] using h), (fun _ => rfl), (fun _ => rfl), (by have h := H.f12; simpa [doneSet] using h), (by have h := H.f13; simpa [doneSet] using h), (by have h := H.f14; simpa [doneSet] using h), (by have h := H.f15; simpa [doneSet] using h), (by have h := H.f16; simpa [doneSet] using h), (by have h := H.f17; simpa [doneSet] using h), (by have h := H.x17; simpa [doneSet] using h), (by have h := H.k17; simpa [doneSet] using h), (by have h := H.k18; simpa [doneSet] using h), (by have h := H.g18_17; simpa [doneSet] using h)⟩⟩
    simp only [putAll, Act.put, List.setIfInBounds_toArray, List.set_cons_succ, List.set_cons_zero]
  · rintro d vs W ⟨v0, v1, v2, v3, v4, v5, v6, v7, v8, v9, v10, v11, v12, v13, v14, v15, v16, v17, v18, X, rfl, H⟩ hn hd
    simp only [putAll, Act.put, List.setIfInBounds_toArray, List.set_cons_succ, List.set_cons_zero]
    have HH1 : Hid (Sr1 (W0.drew) (s) (g) (br) (zl) (cr) (m) (kd) (y) (ow) (hh) d W v0 v1 v2 v3 v4 v5 v6 v7 v8 v9 v10 v11 v12 v13 v14 v15 v16 v17 v18 X) := H
    clear H
    have HHN : Hid (d 12 = false) := hn
    clear hd hn
    go_wp2
    have H0 := HH1.out
    have H := HH1.out
    have hn := HHN.out
    refine ⟨rfl, [v0, v1, v2, v3, v4, v5, v6, v7, v8, v9, v10, v11, .int .i64 1, v13, v14, v15, v16, v17, v18], ?_, v0, v1, v2, v3, v4, v5, v6, v7, v8, v9, v10, v11, .int .i64 1, v13, v14, v15, v16, v17, v18, X, rfl, ⟨H.bel, (by have h := H.f0; simpa [doneSet] using h), (by have h := H.f1; simpa [doneSet] using h), (by have h := H.f2; simpa [doneSet] using h), (by have h := H.f3; simpa [doneSet] using h), (by have h := H.f4; simpa [doneSet] using h), (by have h := H.f5; simpa [doneSet] using h), (by have h := H.f6; simpa [doneSet] using h), (by have h := H.f7; simpa [doneSet] using h), (by have h := H.f8; simpa [doneSet] using h), (by have h := H.f9; simpa [doneSet] using h), (by have h := H.f10; simpa [doneSet] using h), (by have h := H.f11; simpa [doneSet] using h), (fun _ => rfl), (by have h := H.f13; simpa [doneSet] using h), (by have h := H.f14; simpa [doneSet] using h), (by have h := H.f15; simpa [doneSet] using h), (by have h := H.f16; simpa [doneSet] using h), (by have h := H.f17; simpa [doneSet] using h), (by have h := H.x17; simpa [doneSet] using h), (by have h := H.k17; simpa [doneSet] using h), (by have h := H.k18; simpa [doneSet] using h), (by have h := H.g18_17; simpa [doneSet] using h)⟩⟩
    simp only [putAll, Act.put, List.setIfInBounds_toArray, List.set_cons_succ, List.set_cons_zero]
  · rintro d vs W ⟨v0, v1, v2, v3, v4, v5, v6, v7, v8, v9, v10, v11, v12, v13, v14, v15, v16, v17, v18, X, rfl, H⟩ hn hd
    simp only [putAll, Act.put, List.setIfInBounds_toArray, List.set_cons_succ, List.set_cons_zero]
    have HH1 : Hid (Sr1 (W0.drew) (s) (g) (br) (zl) (cr) (m) (kd) (y) (ow) (hh) d W v0 v1 v2 v3 v4 v5 v6 v7 v8 v9 v10 v11 v12 v13 v14 v15 v16 v17 v18 X) := H
    clear H
    have HHN : Hid (d 13 = false) := hn
    clear hd hn
    go_wp2
    have H0 := HH1.out
    have H := HH1.out
    have hn := HHN.out
    refine ⟨rfl, [v0, v1, v2, v3, v4, v5, v6, v7, v8, v9, v10, v11, v12, .pointer (some ⟨s, 1, none⟩), v14, v15, v16, v17, v18], ?_, v0, v1, v2, v3, v4, v5, v6, v7, v8, v9, v10, v11, v12, .pointer (some ⟨s, 1, none⟩), v14, v15, v16, v17, v18, X, rfl, ⟨H.bel, (by have h := H.f0; simpa [doneSet] using h), (by have h := H.f1; simpa [doneSet] using h), (by have h := H.f2; simpa [doneSet] using h), (by have h := H.f3; simpa [doneSet] using h), (by have h := H.f4; simpa [doneSet] using h), (by have h := H.f5; simpa [doneSet] using h), (by have h := H.f6; simpa [doneSet] using h), (by have h := H.f7; simpa [doneSet] using h), (by have h := H.f8; simpa [doneSet] using h), (by have h := H.f9; simpa [doneSet] using h), (by have h := H.f10; simpa [doneSet] using h), (by have h := H.f11; simpa [doneSet] using h), (by have h := H.f12; simpa [doneSet] using h), (fun _ => rfl), (by have h := H.f14; simpa [doneSet] using h), (by have h := H.f15; simpa [doneSet] using h), (by have h := H.f16; simpa [doneSet] using h), (by have h := H.f17; simpa [doneSet] using h), (by have h := H.x17; simpa [doneSet] using h), (by have h := H.k17; simpa [doneSet] using h), (by have h := H.k18; simpa [doneSet] using h), (by have h := H.g18_17; simpa [doneSet] using h)⟩⟩
    simp only [putAll, Act.put, List.setIfInBounds_toArray, List.set_cons_succ, List.set_cons_zero]
  · rintro d vs W ⟨v0, v1, v2, v3, v4, v5, v6, v7, v8, v9, v10, v11, v12, v13, v14, v15, v16, v17, v18, X, rfl, H⟩ hn hd
    simp only [putAll, Act.put, List.setIfInBounds_toArray, List.set_cons_succ, List.set_cons_zero]
    have h13 : d 13 = true := hd { on := 13, ground := .data } (by simp) rfl
    obtain ⟨⟨q0, q1⟩, q2, q3⟩ := CE.out W H.bel
    obtain rfl := H.f13 h13
    have HH1 : Hid (Sr1 (W0.drew) (s) (g) (br) (zl) (cr) (m) (kd) (y) (ow) (hh) d W v0 v1 v2 v3 v4 v5 v6 v7 v8 v9 v10 v11 v12 (.pointer (some ⟨s, 1, none⟩)) v14 v15 v16 v17 v18 X) := H
    clear H
    have HHN : Hid (d 14 = false) := hn
    have HHD : Hid (d 13 = true) := h13
    clear hd hn h13
    go_wp2
    have H0 := HH1.out
    have H := HH1.out
    have hn := HHN.out
    have h13 := HHD.out
    refine ⟨rfl, [v0, v1, v2, v3, v4, v5, v6, v7, v8, v9, v10, v11, v12, .pointer (some ⟨s, 1, none⟩), .int .i64 (m : Int), v15, v16, v17, v18], ?_, v0, v1, v2, v3, v4, v5, v6, v7, v8, v9, v10, v11, v12, .pointer (some ⟨s, 1, none⟩), .int .i64 (m : Int), v15, v16, v17, v18, X, rfl, ⟨H.bel, (by have h := H.f0; simpa [doneSet] using h), (by have h := H.f1; simpa [doneSet] using h), (by have h := H.f2; simpa [doneSet] using h), (by have h := H.f3; simpa [doneSet] using h), (by have h := H.f4; simpa [doneSet] using h), (by have h := H.f5; simpa [doneSet] using h), (by have h := H.f6; simpa [doneSet] using h), (by have h := H.f7; simpa [doneSet] using h), (by have h := H.f8; simpa [doneSet] using h), (by have h := H.f9; simpa [doneSet] using h), (by have h := H.f10; simpa [doneSet] using h), (by have h := H.f11; simpa [doneSet] using h), (by have h := H.f12; simpa [doneSet] using h), (fun _ => rfl), (fun _ => rfl), (by have h := H.f15; simpa [doneSet] using h), (by have h := H.f16; simpa [doneSet] using h), (by have h := H.f17; simpa [doneSet] using h), (by have h := H.x17; simpa [doneSet] using h), (by have h := H.k17; simpa [doneSet] using h), (by have h := H.k18; simpa [doneSet] using h), (by have h := H.g18_17; simpa [doneSet] using h)⟩⟩
    simp only [putAll, Act.put, List.setIfInBounds_toArray, List.set_cons_succ, List.set_cons_zero]
  · rintro d vs W ⟨v0, v1, v2, v3, v4, v5, v6, v7, v8, v9, v10, v11, v12, v13, v14, v15, v16, v17, v18, X, rfl, H⟩ hn hd
    simp only [putAll, Act.put, List.setIfInBounds_toArray, List.set_cons_succ, List.set_cons_zero]
    have h12 : d 12 = true := hd { on := 12, ground := .data } (by simp) rfl
    have h14 : d 14 = true := hd { on := 14, ground := .data } (by simp) rfl
    obtain rfl := H.f12 h12
    obtain rfl := H.f14 h14
    have HH1 : Hid (Sr1 (W0.drew) (s) (g) (br) (zl) (cr) (m) (kd) (y) (ow) (hh) d W v0 v1 v2 v3 v4 v5 v6 v7 v8 v9 v10 v11 (.int .i64 1) v13 (.int .i64 (m : Int)) v15 v16 v17 v18 X) := H
    clear H
    have HHN : Hid (d 15 = false) := hn
    have HHD : Hid (d 12 = true ∧ d 14 = true) := ⟨h12, h14⟩
    clear hd hn h12 h14
    go_wp2_with (fail)
    refine (owns_c 1 m W (by have := HC.out.2.2.2.2.1; omega)).mono ?_
    rintro e W3 ⟨rfl, hw3⟩
    rw [hw3, HOW.out]
    clear hw3 W3
    go_wp2
    have H0 := HH1.out
    have H := HH1.out
    have hn := HHN.out
    have h12 := HHD.out.1
    have h14 := HHD.out.2
    refine ⟨rfl, [v0, v1, v2, v3, v4, v5, v6, v7, v8, v9, v10, v11, .int .i64 1, v13, .int .i64 (m : Int), .bool ow, v16, v17, v18], ?_, v0, v1, v2, v3, v4, v5, v6, v7, v8, v9, v10, v11, .int .i64 1, v13, .int .i64 (m : Int), .bool ow, v16, v17, v18, X, rfl, ⟨H.bel, (by have h := H.f0; simpa [doneSet] using h), (by have h := H.f1; simpa [doneSet] using h), (by have h := H.f2; simpa [doneSet] using h), (by have h := H.f3; simpa [doneSet] using h), (by have h := H.f4; simpa [doneSet] using h), (by have h := H.f5; simpa [doneSet] using h), (by have h := H.f6; simpa [doneSet] using h), (by have h := H.f7; simpa [doneSet] using h), (by have h := H.f8; simpa [doneSet] using h), (by have h := H.f9; simpa [doneSet] using h), (by have h := H.f10; simpa [doneSet] using h), (by have h := H.f11; simpa [doneSet] using h), (fun _ => rfl), (by have h := H.f13; simpa [doneSet] using h), (fun _ => rfl), (fun _ => rfl), (by have h := H.f16; simpa [doneSet] using h), (by have h := H.f17; simpa [doneSet] using h), (by have h := H.x17; simpa [doneSet] using h), (by have h := H.k17; simpa [doneSet] using h), (by have h := H.k18; simpa [doneSet] using h), (by have h := H.g18_17; simpa [doneSet] using h)⟩⟩
    simp only [putAll, Act.put, List.setIfInBounds_toArray, List.set_cons_succ, List.set_cons_zero]
  · rintro d vs W ⟨v0, v1, v2, v3, v4, v5, v6, v7, v8, v9, v10, v11, v12, v13, v14, v15, v16, v17, v18, X, rfl, H⟩ hn hd
    simp only [putAll, Act.put, List.setIfInBounds_toArray, List.set_cons_succ, List.set_cons_zero]
    have h1 : d 1 = true := hd { on := 1, ground := .data } (by simp) rfl
    have h11 : d 11 = true := hd { on := 11, ground := .data } (by simp) rfl
    have h15 : d 15 = true := hd { on := 15, ground := .data } (by simp) rfl
    obtain rfl := H.f1 h1
    obtain rfl := H.f11 h11
    obtain rfl := H.f15 h15
    have HH1 : Hid (Sr1 (W0.drew) (s) (g) (br) (zl) (cr) (m) (kd) (y) (ow) (hh) d W v0 (.int .i64 kd) v2 v3 v4 v5 v6 v7 v8 v9 v10 (.int .i64 y) v12 v13 v14 (.bool ow) v16 v17 v18 X) := H
    clear H
    have HHN : Hid (d 16 = false) := hn
    have HHD : Hid (d 1 = true ∧ d 11 = true ∧ d 15 = true) := ⟨h1, h11, h15⟩
    clear hd hn h1 h11 h15
    go_wp2_with (fail)
    refine (hearI_c kd y ow W HC.out.2.1 HC.out.2.2.2.1).mono ?_
    rintro e W3 ⟨rfl, hb3⟩
    rw [HHH.out]
    have HB3 : Hid (Below W.heap.size W W3) := hb3
    clear hb3
    go_wp2
    have H0 := HH1.out
    have H := HH1.out.below HB3.out
    have hn := HHN.out
    have h1 := HHD.out.1
    have h11 := HHD.out.2.1
    have h15 := HHD.out.2.2
    refine ⟨rfl, [v0, .int .i64 kd, v2, v3, v4, v5, v6, v7, v8, v9, v10, .int .i64 y, v12, v13, v14, .bool ow, .agg (N3 hh), v17, v18], ?_, v0, .int .i64 kd, v2, v3, v4, v5, v6, v7, v8, v9, v10, .int .i64 y, v12, v13, v14, .bool ow, .agg (N3 hh), v17, v18, X, rfl, ⟨H.bel, (by have h := H.f0; simpa [doneSet] using h), (fun _ => rfl), (by have h := H.f2; simpa [doneSet] using h), (by have h := H.f3; simpa [doneSet] using h), (by have h := H.f4; simpa [doneSet] using h), (by have h := H.f5; simpa [doneSet] using h), (by have h := H.f6; simpa [doneSet] using h), (by have h := H.f7; simpa [doneSet] using h), (by have h := H.f8; simpa [doneSet] using h), (by have h := H.f9; simpa [doneSet] using h), (by have h := H.f10; simpa [doneSet] using h), (fun _ => rfl), (by have h := H.f12; simpa [doneSet] using h), (by have h := H.f13; simpa [doneSet] using h), (by have h := H.f14; simpa [doneSet] using h), (fun _ => rfl), (fun _ => rfl), (by have h := H.f17; simpa [doneSet] using h), (by have h := H.x17; simpa [doneSet] using h), (by have h := H.k17; simpa [doneSet] using h), (by have h := H.k18; simpa [doneSet] using h), (by have h := H.g18_17; simpa [doneSet] using h)⟩⟩
    simp only [putAll, Act.put, List.setIfInBounds_toArray, List.set_cons_succ, List.set_cons_zero]
  · rintro d vs W ⟨v0, v1, v2, v3, v4, v5, v6, v7, v8, v9, v10, v11, v12, v13, v14, v15, v16, v17, v18, X, rfl, H⟩ hn hd
    simp only [putAll, Act.put, List.setIfInBounds_toArray, List.set_cons_succ, List.set_cons_zero]
    have HH1 : Hid (Sr1 (W0.drew) (s) (g) (br) (zl) (cr) (m) (kd) (y) (ow) (hh) d W v0 v1 v2 v3 v4 v5 v6 v7 v8 v9 v10 v11 v12 v13 v14 v15 v16 v17 v18 X) := H
    clear H
    have HHN : Hid (d 17 = false) := hn
    clear hd hn
    go_wp2
    have H0 := HH1.out
    have H := HH1.out.below ((Below.refl _ W).alloc (Nat.le_refl _) (.cells (N3 (0, 0, 0)) 96))
    have hn := HHN.out
    refine ⟨rfl, [v0, v1, v2, v3, v4, v5, v6, v7, v8, v9, v10, v11, v12, v13, v14, v15, v16, .pointer (some ⟨W.heap.size, 0, none⟩), v18], ?_, v0, v1, v2, v3, v4, v5, v6, v7, v8, v9, v10, v11, v12, v13, v14, v15, v16, .pointer (some ⟨W.heap.size, 0, none⟩), v18, W.heap.size, rfl, ⟨H.bel, (by have h := H.f0; simpa [doneSet] using h), (by have h := H.f1; simpa [doneSet] using h), (by have h := H.f2; simpa [doneSet] using h), (by have h := H.f3; simpa [doneSet] using h), (by have h := H.f4; simpa [doneSet] using h), (by have h := H.f5; simpa [doneSet] using h), (by have h := H.f6; simpa [doneSet] using h), (by have h := H.f7; simpa [doneSet] using h), (by have h := H.f8; simpa [doneSet] using h), (by have h := H.f9; simpa [doneSet] using h), (by have h := H.f10; simpa [doneSet] using h), (by have h := H.f11; simpa [doneSet] using h), (by have h := H.f12; simpa [doneSet] using h), (by have h := H.f13; simpa [doneSet] using h), (by have h := H.f14; simpa [doneSet] using h), (by have h := H.f15; simpa [doneSet] using h), (by have h := H.f16; simpa [doneSet] using h), (fun _ => rfl), (fun _ => H0.bel.size), (fun _ _ => Blk.new _ _ _), (fun e => absurd (H0.g18_17 (by simpa [doneSet] using e)) (by rw [hn]; simp)), (fun _ => by simp [doneSet])⟩⟩
    simp only [putAll, Act.put, List.setIfInBounds_toArray, List.set_cons_succ, List.set_cons_zero]
  · rintro d vs W ⟨v0, v1, v2, v3, v4, v5, v6, v7, v8, v9, v10, v11, v12, v13, v14, v15, v16, v17, v18, X, rfl, H⟩ hn hd
    simp only [putAll, Act.put, List.setIfInBounds_toArray, List.set_cons_succ, List.set_cons_zero]
    have h16 : d 16 = true := hd { on := 16, ground := .data } (by simp) rfl
    have h17 : d 17 = true := hd { on := 17, ground := .data } (by simp) rfl
    have kx := H.k17 h17 hn
    have e0 := kx.cell 0
    have e1 := kx.cell 1
    have e2 := kx.cell 2
    have u0 := kx.frozen 0
    have u1 := kx.frozen 1
    have u2 := kx.frozen 2
    have ul := kx.lt
    simp at e0 e1 e2
    clear kx
    obtain rfl := H.f16 h16
    obtain rfl := H.f17 h17
    have HH1 : Hid (Sr1 (W0.drew) (s) (g) (br) (zl) (cr) (m) (kd) (y) (ow) (hh) d W v0 v1 v2 v3 v4 v5 v6 v7 v8 v9 v10 v11 v12 v13 v14 v15 (.agg (N3 hh)) (.pointer (some ⟨X, 0, none⟩)) v18 X) := H
    clear H
    have HHN : Hid (d 18 = false) := hn
    have HHD : Hid (d 16 = true ∧ d 17 = true) := ⟨h16, h17⟩
    clear hd hn h16 h17
    go_wp2
    have H0 := HH1.out
    have H := HH1.out
    have hn := HHN.out
    have h16 := HHD.out.1
    have h17 := HHD.out.2
    refine ⟨rfl, [v0, v1, v2, v3, v4, v5, v6, v7, v8, v9, v10, v11, v12, v13, v14, v15, .agg (N3 hh), .pointer (some ⟨X, 0, none⟩), undef], ?_, v0, v1, v2, v3, v4, v5, v6, v7, v8, v9, v10, v11, v12, v13, v14, v15, .agg (N3 hh), .pointer (some ⟨X, 0, none⟩), undef, X, rfl, ⟨(((H0.bel.setCell (H0.x17 h17) _).setCell (H0.x17 h17) _).setCell (H0.x17 h17) _), (by have h := H.f0; simpa [doneSet] using h), (by have h := H.f1; simpa [doneSet] using h), (by have h := H.f2; simpa [doneSet] using h), (by have h := H.f3; simpa [doneSet] using h), (by have h := H.f4; simpa [doneSet] using h), (by have h := H.f5; simpa [doneSet] using h), (by have h := H.f6; simpa [doneSet] using h), (by have h := H.f7; simpa [doneSet] using h), (by have h := H.f8; simpa [doneSet] using h), (by have h := H.f9; simpa [doneSet] using h), (by have h := H.f10; simpa [doneSet] using h), (by have h := H.f11; simpa [doneSet] using h), (by have h := H.f12; simpa [doneSet] using h), (by have h := H.f13; simpa [doneSet] using h), (by have h := H.f14; simpa [doneSet] using h), (by have h := H.f15; simpa [doneSet] using h), (fun _ => rfl), (fun _ => rfl), (by have h := H.x17; simpa [doneSet] using h), (fun _ e => by simp [doneSet] at e), (fun _ => (((H0.k17 h17 hn).set 0 _).set 1 _).set 2 _), (fun _ => by simpa [doneSet] using h17)⟩⟩
    simp only [putAll, Act.put, List.setIfInBounds_toArray, List.set_cons_succ, List.set_cons_zero]
  rintro d vs W ⟨v0, v1, v2, v3, v4, v5, v6, v7, v8, v9, v10, v11, v12, v13, v14, v15, v16, v17, v18, X, rfl, H⟩ hn
  obtain rfl := H.f0 (hn 0 (by decide))
  obtain rfl := H.f1 (hn 1 (by decide))
  obtain rfl := H.f2 (hn 2 (by decide))
  obtain rfl := H.f3 (hn 3 (by decide))
  obtain rfl := H.f4 (hn 4 (by decide))
  obtain rfl := H.f5 (hn 5 (by decide))
  obtain rfl := H.f6 (hn 6 (by decide))
  obtain rfl := H.f7 (hn 7 (by decide))
  obtain rfl := H.f8 (hn 8 (by decide))
  obtain rfl := H.f9 (hn 9 (by decide))
  obtain rfl := H.f10 (hn 10 (by decide))
  obtain rfl := H.f11 (hn 11 (by decide))
  obtain rfl := H.f12 (hn 12 (by decide))
  obtain rfl := H.f13 (hn 13 (by decide))
  obtain rfl := H.f14 (hn 14 (by decide))
  obtain rfl := H.f15 (hn 15 (by decide))
  obtain rfl := H.f16 (hn 16 (by decide))
  obtain rfl := H.f17 (hn 17 (by decide))
  have BW : Hid (Below W0.drew.heap.size W0.drew W) := H.bel
  have KX : Hid (Blk W X (N3 hh) 96) := H.k18 (hn 18 (by decide))
  have HX : Hid (W0.heap.size ≤ X) := H.x17 (hn 17 (by decide))
  clear H hn CE
  simp only [putAll, Act.put, List.setIfInBounds_toArray, List.set_cons_succ, List.set_cons_zero]
  have LW : Hid (Lv b W g (.slice eo z0.length fo) (.slice (some ⟨br, 0, none⟩) z1.length cr) l0 l1 k0 k1 z0 z1 n0 n1) := (HV.out.below B0.out).below (show Below W0.heap.size W0 W from ⟨BW.out.os, BW.out.tape, BW.out.output, BW.out.size, BW.out.block⟩)
  have HBW : Hid (Below w.heap.size w W) := belowCall B0.out (show Below W0.heap.size W0 W from ⟨BW.out.os, BW.out.tape, BW.out.output, BW.out.size, BW.out.block⟩) B0.out.size
  have KNW : Hid (Blk W s (H2 kd (m : Int)) 68) := (show Blk W0.drew s (H2 kd (m : Int)) 68 from KN.out).below BW.out KN.out.lt
  have hsW : s < W0.heap.size := KN.out.lt
  have HNE : Hid (s ≠ br ∧ X ≠ br ∧ s ≠ g ∧ X ≠ g ∧ X ≠ s ∧ X ≠ k0 ∧ s ≠ k0 ∧ b ≤ s) := by
    have h1 := HBR.out; have h2 := HX.out; have h3 := HS.out; have h4 := HV.out.blk.lt; have h5 := HV.out.ch0.lt; have h6 := HC.out.1; have h7 := B0.out.size
    show _ ∧ _ ∧ _ ∧ _ ∧ _ ∧ _ ∧ _ ∧ _; omega
  clear hsW BW B0 KN KG OJ HX
  obtain ⟨hh0, hh1, hh2⟩ := hh
  obtain ⟨W2, hW2⟩ : ∃ W', W.drew.setCell ⟨br, m, none⟩ (.int .i64 hh0) = W' := ⟨_, rfl⟩
  have f2 : Fr (fun k => k = br) W.drew W2 := by rw [← hW2]; exact Fr.ofGrown (grown_set _ _ _ _) (fun k e => (Option.some.inj e).symm)
  have LW2 : Hid (Lv b W2 g (.slice eo z0.length fo) (.slice (some ⟨br, 0, none⟩) z1.length cr) l0 l1 k0 k1 z0 (z1.set m hh0) n0 n1) := Lv.seen1 (show Lv b W.drew g _ _ l0 l1 k0 k1 z0 z1 n0 n1 from LW.out.below (Below.refl _ _).drew) hh0 hW2
  have KN2 : Hid (Blk W2 s (H2 kd (m : Int)) 68) := (show Blk W.drew s (H2 kd (m : Int)) 68 from KNW.out).fr f2 HNE.out.1
  have KX2 : Hid (Blk W2 X (N3 (hh0, hh1, hh2)) 96) := (show Blk W.drew X (N3 (hh0, hh1, hh2)) 96 from KX.out).fr f2 HNE.out.2.1
  have HB2 : Hid (Below b w W2) := (show Below b w W.drew from (HBW.out.mono HC.out.1).drew).trans (f2.below (by have h1 := HBW.out.size; have h2 := HC.out.1; show b ≤ W.heap.size; omega) (fun k e => by have := HBR.out; omega))
  have CE2 : Hid (∀ q, q = W.drew ∨ q = W2 → (q.cell? ⟨s, 1, none⟩ = some (.int .i64 (m : Int))) ∧ q.cell? ⟨g, 1, none⟩ = some (.slice (some ⟨br, 0, none⟩) zl cr) ∧ q.cell? ⟨X, 0, none⟩ = some (.int .i64 hh0)) := fun q hq => by
    rcases hq with rfl | rfl
    · refine ⟨KNW.out.cell 1, ?_, KX.out.cell 0⟩
      rw [show W.drew.cell? ⟨g, 1, none⟩ = _ from LW.out.blk.cell 1, ← HZL.out]; rfl
    · refine ⟨KN2.out.cell 1, ?_, KX2.out.cell 0⟩
      rw [LW2.out.blk.cell 1, ← HZL.out]; rfl
  obtain ⟨cz, cf⟩ := Ow.cellFz rfl (show Ow .i64 3 b W.drew (.slice (some ⟨br, 0, none⟩) z1.length cr) z1 from LW.out.o1) m HC.out.2.2.1
  clear f2 KX KNW
  go_wp2
  refine region_det [.pointer (some ⟨g, 0, none⟩), .int .i64 1, .pointer (some ⟨g, 0, none⟩), .pointer (some ⟨g, 0, none⟩), .pointer (some ⟨g, 1, none⟩), .slice (some ⟨br, 0, none⟩) zl cr, .pointer (some ⟨s, 1, none⟩), .int .i64 (m : Int), .pointer (some ⟨X, 0, none⟩), .int .i64 hh0, .pointer (some ⟨br, m, none⟩), undef]
    (fun d q => (d 11 = false → q = W.drew) ∧ (d 11 = true → q = W2)) (by kernel_rfl) (by kernel_rfl)
    (by simp only [putAll, Act.put, List.setIfInBounds_toArray, List.set_cons_succ, List.set_cons_zero]; exact rfl) ⟨fun _ => rfl, fun h => (by cases h)⟩ ⟨?_, ?_, ?_, ?_, ?_, ?_, ?_, ?_, ?_, ?_, ?_, ?_, trivial⟩ ?_
  case refine_12 =>
    rintro d q ⟨s0, s1⟩ hn hd
    have hq := s0 hn
    subst hq
    clear s0 s1 CE2
    go_wp2
    exact ⟨rfl, rfl, fun h => by simp [doneSet] at h, fun _ => rfl⟩
  case refine_13 => 
    rintro d q ⟨-, s1⟩ hall
    have hq := s1 (hall 11 (by decide))
    subst hq
    clear s1 hall CE2 cz cf hW2
    obtain ⟨W3, hW3⟩ : ∃ W', q.drew.setCell ⟨g, 3, none⟩ (.int .i64 (l1 + hh2)) = W' := ⟨_, rfl⟩
    have f3 : Fr (fun k => k = g) q.drew W3 := by rw [← hW3]; exact Fr.ofGrown (grown_set _ _ _ _) (fun k e => (Option.some.inj e).symm)
    have LW3 : Hid (Lv b W3 g (.slice eo z0.length fo) (.slice (some ⟨br, 0, none⟩) z1.length cr) l0 (l1 + hh2) k0 k1 z0 (z1.set m hh0) n0 n1) := Lv.lost1 (show Lv b q.drew g _ _ l0 l1 k0 k1 z0 (z1.set m hh0) n0 n1 from LW2.out.below (Below.refl _ _).drew) _ hW3
    have KN3 : Hid (Blk W3 s (H2 kd (m : Int)) 68) := (show Blk q.drew s (H2 kd (m : Int)) 68 from KN2.out).fr f3 HNE.out.2.2.1
    have KX3 : Hid (Blk W3 X (N3 (hh0, hh1, hh2)) 96) := (show Blk q.drew X (N3 (hh0, hh1, hh2)) 96 from KX2.out).fr f3 HNE.out.2.2.2.1
    have HB3 : Hid (Below b w W3) := (show Below b w q.drew from HB2.out.drew).trans (f3.below (by have h1 := HB2.out.size; have h2 := HC.out.1; show b ≤ q.heap.size; omega) (fun k e => by have := HV.out.bg; omega))
    have hh2b : hh2 = 0 ∨ hh2 = 1 := by have h1 := hearF_lost kd y ow; rw [HHH.out] at h1; exact h1
    have hlb := HC.out.2.2.2.2.2.1
    have CE3 : Hid (∀ p, p = q.drew ∨ p = W3 → p.cell? ⟨X, 2, none⟩ = some (.int .i64 hh2)) := fun p hp => by
      rcases hp with rfl | rfl
      · exact KX2.out.cell 2
      · exact KX3.out.cell 2
    have cg := (show Blk q.drew g _ 65 from LW2.out.blk).cell 3
    have cgf := (show Blk q.drew g _ 65 from LW2.out.blk).frozen 3
    have cgl := (show Blk q.drew g _ 65 from LW2.out.blk).lt
    simp at cg
    have HL2 : Hid ((hh2 = 0 ∨ hh2 = 1) ∧ (0 ≤ l1 ∧ l1 ≤ 1000000)) := ⟨hh2b, hlb⟩
    obtain ⟨hlb0, hlb1⟩ := hlb
    have hs0 : -9223372036854775808 ≤ l1 + hh2 := by omega
    have hs1 : l1 + hh2 ≤ 9223372036854775807 := by omega
    clear f3
    go_wp2
    refine region_det [.pointer (some ⟨g, 0, none⟩), .int .i64 1, .pointer (some ⟨g, 0, none⟩), .pointer (some ⟨g, 2, none⟩), .pointer (some ⟨g, 3, none⟩), .int .i64 l1, .pointer (some ⟨X, 2, none⟩), .int .i64 hh2, .int .i64 (l1 + hh2), .pointer (some ⟨g, 0, none⟩), .pointer (some ⟨g, 2, none⟩), .pointer (some ⟨g, 3, none⟩), undef]
      (fun d p => (d 12 = false → p = q.drew) ∧ (d 12 = true → p = W3 ∧ d 5 = true)) (by kernel_rfl) (by kernel_rfl)
      (by simp only [putAll, Act.put, List.setIfInBounds_toArray, List.set_cons_succ, List.set_cons_zero]; exact rfl) ⟨fun _ => rfl, fun h => (by cases h)⟩ ⟨?_, ?_, ?_, ?_, ?_, ?_, ?_, ?_, ?_, ?_, ?_, ?_, ?_, trivial⟩ ?_
    case refine_13 =>
      rintro d p ⟨s0, s1⟩ hn hd
      have h5 : d 5 = true := hd { on := 5, ground := .phase } (by simp) rfl
      have hp := s0 hn
      subst hp
      clear s0 s1 CE3
      go_wp2
      exact ⟨rfl, rfl, fun h => by simp [doneSet] at h, fun _ => ⟨rfl, by simp [doneSet, h5]⟩⟩
    case refine_6 =>
      rintro d p ⟨s0, s1⟩ hn hd
      have h12 : d 12 = false := by cases h : d 12 with | false => rfl | true => rw [(s1 h).2] at hn; cases hn
      have hp := s0 h12
      subst hp
      clear s0 s1 CE3 hW3
      go_wp2
      exact ⟨rfl, rfl, fun _ => rfl, fun h => by simp [doneSet, h12] at h⟩
    case refine_14 => 
      rintro d p ⟨-, s1⟩ hall
      have hp := (s1 (hall 12 (by decide))).1
      subst hp
      clear s1 hall CE3 hW3 cg cgf
      have e2 := LW3.out.blk.cell 3
      have t0 := KN3.out.cell 1
      have t1 := KX3.out.cell 1
      have e3 := LW3.out.blk.lt
      simp at e2 t0 t1
      have HE : Hid (hearF kd (z1.getD m 0) ((m : Int) % 2 == 1) = (hh0, hh1, hh2)) := by show _ = _; rw [HY.out, HOW.out]; exact HHH.out
      by_cases hbig : 1000000 < l1 + hh2
      · go_wp2
        go_ret
        exact ⟨fun h => absurd h.1 (by rw [HE.out]; show ¬ (l1 + hh2 ≤ 1000000); omega), fun _ => ⟨rfl, HB3.out⟩⟩
      have hbig' : (1000000 < l1 + hh2) = False := eq_false hbig
      by_cases hbk : hh1 = 0
      · have hbk' : (hh1 == 0) = true := by simpa using hbk
        have HBK : Hid (hh1 = 0) := hbk
        clear hbk
        go_wp2
        go_ret
        refine ⟨fun h => ⟨rfl, ?_, HB3.out⟩, fun h => absurd ⟨by rw [HE.out]; show l1 + hh2 ≤ 1000000; omega, by rw [HE.out]; exact .inl HBK.out⟩ h⟩
        unfold bkN1
        rw [HE.out, if_pos HBK.out, List.append_nil]
        exact LW3.out
      have hbk' : (hh1 == 0) = false := by simpa using hbk
      go_wp2_with (fail)
      refine (send0_c g _ _ _ _ k0 k1 n0 hh1 (m : Int) p LW3.out.blk LW3.out.ch0 HC.out.2.2.2.2.2.2).mono ?_
      rintro e w4 ⟨hA, hBd⟩
      by_cases hroom : n0.length < 60
      · obtain ⟨rfl, c4, f4⟩ := hA hroom
        have HF4 : Hid (Lv b w4 g (.slice eo z0.length fo) (.slice (some ⟨br, 0, none⟩) z1.length cr) l0 (l1 + hh2) k0 k1 z0 (z1.set m hh0) (n0 ++ [(hh1, (m : Int))]) n1 ∧ Below b w w4) := ⟨LW3.out.way0 c4 f4, HB3.out.trans (f4.below (by have h1 := HB3.out.size; have h2 := HC.out.1; omega) (fun k e => by have := HV.out.bk0; omega))⟩
        clear c4 f4 hA hBd
        go_wp2
        go_ret
        refine ⟨fun h => ⟨rfl, ?_, HF4.out.2⟩, fun h => absurd ⟨by rw [HE.out]; show l1 + hh2 ≤ 1000000; omega, .inr hroom⟩ h⟩
        unfold bkN1
        rw [HE.out, if_neg hbk]
        exact HF4.out.1
      · obtain ⟨rfl, b4⟩ := hBd (by have := HC.out.2.2.2.2.2.2; omega)
        have HF4 : Hid (Below b w w4) := HB3.out.trans (b4.mono (by have h1 := HB3.out.size; have h2 := HC.out.1; omega))
        clear b4 hA hBd
        go_wp2
        go_ret
        exact ⟨fun h => absurd h.2 (by rw [HE.out]; intro h'; rcases h' with h' | h'; exact hbk h'; exact hroom h'), fun _ => ⟨rfl, HF4.out⟩⟩

    all_goals
      rintro d p ⟨s0, s1⟩ hn hd
      have SS : Hid ((d 12 = false → p = q.drew) ∧ (d 12 = true → p = W3 ∧ d 5 = true)) := ⟨s0, s1⟩
      have q0 := CE3.out p (by cases h : d 12 with | false => exact .inl (s0 h) | true => exact .inr (s1 h).1)
      clear s0 s1 CE3 hW3 cg cgf
      go_wp2
      exact ⟨rfl, rfl, by simpa [doneSet] using SS.out.1, by first | simpa [doneSet] using SS.out.2 | (intro h; have h' := SS.out.2 (by simpa [doneSet] using h); exact ⟨h'.1, by simp [doneSet, h'.2]⟩)⟩

  all_goals
    rintro d q ⟨s0, s1⟩ hn hd
    have SS : Hid ((d 11 = false → q = W.drew) ∧ (d 11 = true → q = W2)) := ⟨s0, s1⟩
    obtain ⟨q0, q1, q2⟩ := CE2.out q (by cases h : d 11 with | false => exact .inl (s0 h) | true => exact .inr (s1 h))
    clear s0 s1 CE2 cz cf hW2
    go_wp2
    exact ⟨rfl, rfl, by simpa [doneSet] using SS.out.1, by simpa [doneSet] using SS.out.2⟩
end Go.Proofs.Ytkehcalijamhjaa

/- The model puts a note on a way; no condition. -/
import Derived.Test.YtkehcalijamhjaaCpy
namespace Go.Proofs.Ytkehcalijamhjaa
open Go.RowKit Go.ChangeShapes Go.WideShapes Go.ChangeAt
set_option linter.unusedVariables false
set_option linter.unusedSimpArgs false
set_option maxRecDepth 8000

theorem results_T {fn : Func} {p u : Tmp} (h : fn.results = #[.cell p 33, .tmp u]) (tmps : Array Value) (w : World) (g : Nat) (c0 c1 : Value) (l0 l1 : Int) (w0 w1 x : Value)
    (hp : tmps.getD p undef = .pointer (some ⟨g, 0, none⟩)) (hx : tmps.getD u undef = x) (hg : Blk w g (T6 c0 c1 l0 l1 w0 w1) 33) :
    (results fn tmps).run Try.prog w = .ok (.tuple #[.agg (T6 c0 c1 l0 l1 w0 w1), x]) w := by
  have hp' : tmps[p]?.getD undef = .pointer (some ⟨g, 0, none⟩) := by simpa using hp
  have hx' : tmps[u]?.getD undef = x := by simpa using hx
  have hr := run_loadVar_row (P := Try.prog) w g 33 33 (T6 c0 c1 l0 l1 w0 w1) (0, 0) _ hg Try.underlying33 rfl size33
  simp [results, h, hp', hx', asAddr, hr]
/-- a trunk is stored -/
abbrev st6 (W : World) (r : Nat) (c0 c1 : Value) (l0 l1 : Int) (w0 w1 : Value) : World := (((((W.setCell ⟨r, 0, none⟩ c0).setCell ⟨r, 1, none⟩ c1).setCell ⟨r, 2, none⟩ (.int .i64 l0)).setCell ⟨r, 3, none⟩ (.int .i64 l1)).setCell ⟨r, 4, none⟩ w0).setCell ⟨r, 5, none⟩ w1
theorem put6 {W : World} {r : Nat} {d0 d1 : Value} {k0 k1 : Int} {v0 v1 : Value} (h : Blk W r (T6 d0 d1 k0 k1 v0 v1) 33) (c0 c1 : Value) (l0 l1 : Int) (w0 w1 : Value) : Blk (st6 W r c0 c1 l0 l1 w0 w1) r (T6 c0 c1 l0 l1 w0 w1) 33 :=
  (((((h.set 0 c0).set 1 c1).set 2 (.int .i64 l0)).set 3 (.int .i64 l1)).set 4 w0).set 5 w1
theorem fr_put6 (W : World) (r : Nat) (c0 c1 : Value) (l0 l1 : Int) (w0 w1 : Value) : Fr (fun j => j = r) W (st6 W r c0 c1 l0 l1 w0 w1) := by
  refine ((((((Fr.refl _ _).set ?_ _ _).set ?_ _ _).set ?_ _ _).set ?_ _ _).set ?_ _ _).set ?_ _ _
  all_goals rfl
theorem oneNote {base : Nat} {W : World} {V : Value} {ls : Mvs} (h : Op mf mg 68 base W V ls) (f t : Int) : Op mf mg 68 base (W.alloc (Obj.cells (H2 f t) 68)) V ls ∧ Rp mf mg (W.alloc (Obj.cells (H2 f t) 68)) (.slice (some ⟨W.heap.size, 0, none⟩) 1 1) [(f, t)] := by
  refine ⟨h.below ((Below.refl _ _).alloc (Nat.le_refl _) _), some ⟨W.heap.size, 0, none⟩, 1, rfl, by simp, by unfold maxLen; omega, .inr ⟨W.heap.size, 0, rfl, fun i hi => ?_⟩⟩
  have hi0 : i = 0 := by simp at hi; omega
  subst hi0
  exact ⟨by simp, by simp⟩
/-- what a function hands back beside a trunk of its own -/
def TwR (b : Nat) (l0 l1 : Int) (z0 z1 : List Int) (n0 n1 : Mvs) (x : Value) (w : World) (e : Ending) (w' : World) : Prop := ∃ c0 c1 w0 w1, e = .returned (.tuple #[.agg (T6 c0 c1 l0 l1 w0 w1), x]) ∧ Ok6 b w'.heap.size w' c0 c1 w0 w1 z0 z1 n0 n1 ∧ Below b w w'

set_option maxHeartbeats 6400000 in
theorem put0_c (b : Nat) (c0 c1 w0 w1 : Value) (l0 l1 : Int) (z0 z1 : List Int) (n0 n1 : Mvs) (kd ci : Int) (w : World) (h : Ok6 b w.heap.size w c0 c1 w0 w1 z0 z1 n0 n1) (hb : b ≤ w.heap.size) (hl : n0.length ≤ 60) :
    Calls Try.prog 46 #[.agg (T6 c0 c1 l0 l1 w0 w1), .int .i64 0, .int .i64 kd, .int .i64 ci] w fun e w' => (n0.length = 60 → TwR b l0 l1 z0 z1 n0 n1 (.bool false) w e w') ∧ (n0.length < 60 → TwR b l0 l1 z0 z1 (n0 ++ [(kd, ci)]) n1 (.bool true) w e w') := by
  obtain ⟨W0, hW0⟩ : ∃ W0, (w.alloc (Obj.cells (T6 c0 c1 l0 l1 w0 w1) 33)).alloc (Obj.cells (T6 (.slice none 0 0) (.slice none 0 0) 0 0 (.slice none 0 0) (.slice none 0 0)) 33) = W0 := ⟨_, rfl⟩
  have HS : Hid (W0.heap.size = w.heap.size + 2) := by rw [← hW0]; simp [Hid]
  have hb0 : Below w.heap.size w W0 := by rw [← hW0]; exact ((Below.refl _ _).alloc (Nat.le_refl _) _).alloc (by simp) _
  have HB0 : Hid (Below w.heap.size w W0) := hb0
  have KP : Hid (Blk W0 w.heap.size (T6 c0 c1 l0 l1 w0 w1) 33) := by rw [← hW0]; exact (Blk.new _ _ _).alloc _
  have KR : Hid (Blk W0 (w.heap.size + 1) (T6 (.slice none 0 0) (.slice none 0 0) 0 0 (.slice none 0 0) (.slice none 0 0)) 33) := by rw [← hW0]; exact Blk.newAt _ (w.heap.size + 1) _ 33 (by simp)
  have HO : Hid (Ok6 b w.heap.size W0 c0 c1 w0 w1 z0 z1 n0 n1) := h.below hb0
  obtain ⟨a0, p0, hv0, -⟩ := own_form h.o0
  obtain ⟨a1, p1, hv1, -⟩ := own_form h.o1
  obtain ⟨a2, p2, hv2, -⟩ := own_form h.o2
  obtain ⟨a3, p3, hv3, -⟩ := own_form h.o3
  obtain ⟨m0, hm0⟩ : ∃ m, z0.length = m := ⟨_, rfl⟩
  obtain ⟨m1, hm1⟩ : ∃ m, z1.length = m := ⟨_, rfl⟩
  obtain ⟨m2, hm2⟩ : ∃ m, n0.length = m := ⟨_, rfl⟩
  obtain ⟨m3, hm3⟩ : ∃ m, n1.length = m := ⟨_, rfl⟩
  have HMT : Hid (n0.length = m2) := hm2
  rw [hm0] at hv0
  rw [hm1] at hv1
  rw [hm2] at hv2
  rw [hm3] at hv3
  rw [hm2] at hl
  subst hv0 hv1 hv2 hv3
  clear h hb0 hm0 hm1 hm2 hm3
  have x0 := KP.out.cell 0
  have xf0 := KP.out.frozen 0
  have x1 := KP.out.cell 1
  have xf1 := KP.out.frozen 1
  have x2 := KP.out.cell 2
  have xf2 := KP.out.frozen 2
  have x3 := KP.out.cell 3
  have xf3 := KP.out.frozen 3
  have x4 := KP.out.cell 4
  have xf4 := KP.out.frozen 4
  have x5 := KP.out.cell 5
  have xf5 := KP.out.frozen 5
  have xl := KP.out.lt
  simp at x0 x1 x2 x3 x4 x5
  have y0 := KR.out.cell 0
  have yf0 := KR.out.frozen 0
  have y1 := KR.out.cell 1
  have yf1 := KR.out.frozen 1
  have y2 := KR.out.cell 2
  have yf2 := KR.out.frozen 2
  have y3 := KR.out.cell 3
  have yf3 := KR.out.frozen 3
  have y4 := KR.out.cell 4
  have yf4 := KR.out.frozen 4
  have y5 := KR.out.cell 5
  have yf5 := KR.out.frozen 5
  have yl := KR.out.lt
  simp at y0 y1 y2 y3 y4 y5
  by_cases hf : m2 = 60
  · have hfb : ((m2 : Int) == 60) = true := by simp; omega
    have HF : Hid (∀ W, st6 W0 (w.heap.size + 1) (.slice a0 m0 p0) (.slice a1 m1 p1) l0 l1 (.slice a2 m2 p2) (.slice a3 m3 p3) = W → Blk W (w.heap.size + 1) (T6 (.slice a0 m0 p0) (.slice a1 m1 p1) l0 l1 (.slice a2 m2 p2) (.slice a3 m3 p3)) 33 ∧ TwR b l0 l1 z0 z1 n0 n1 (.bool false) w (.returned (.tuple #[.agg (T6 (.slice a0 m0 p0) (.slice a1 m1 p1) l0 l1 (.slice a2 m2 p2) (.slice a3 m3 p3)), .bool false])) W) := by
      rintro _ rfl
      have hfr := fr_put6 W0 (w.heap.size + 1) (.slice a0 m0 p0) (.slice a1 m1 p1) l0 l1 (.slice a2 m2 p2) (.slice a3 m3 p3)
      refine ⟨put6 KR.out _ _ _ _ _ _, _, _, _, _, rfl, (HO.out.fr hfr (fun k hk e => by have := HO.out.ge k hk; omega)).mono (Nat.le_refl _) (by have := hfr.size; have := HB0.out.size; omega), (HB0.out.mono hb).trans (hfr.below (by have := HB0.out.size; omega) (fun j e => by omega))⟩
    have HFF : Hid (n0.length = 60) := by have := HMT.out; show _ = _; omega
    unfold st6 at HF
    clear hf
    go_enter Try.func46, Try.ntmps46
    go_wp2
    exact bodyPost_ret (v := .tuple #[.agg (T6 (.slice a0 m0 p0) (.slice a1 m1 p1) l0 l1 (.slice a2 m2 p2) (.slice a3 m3 p3)), .bool false]) (results_T rfl _ _ _ _ _ _ _ _ _ _ rfl rfl (HF.out _ rfl).1) rfl ⟨fun _ => (HF.out _ rfl).2, fun h => absurd h (by have := HFF.out; omega)⟩
  · have hfb : ((m2 : Int) == 60) = false := by simp; omega
    have HNF : Hid (n0.length < 60) := by have := HMT.out; show _ < _; omega
    have HON : Hid (Op mf mg 68 b (W0.alloc (Obj.cells (H2 kd ci) 68)) (.slice a2 m2 p2) n0 ∧ Rp mf mg (W0.alloc (Obj.cells (H2 kd ci) 68)) (.slice (some ⟨W0.heap.size, 0, none⟩) 1 1) [(kd, ci)]) := oneNote HO.out.o2 kd ci
    clear hf
    go_enter Try.func46, Try.ntmps46
    go_wp2_with (at_builtin; refine appNt rfl _ _ rfl b _ n0 rfl HON.out.1 _ [(kd, ci)] (by simp [Act.eval]) HON.out.2 (by have := HNF.out; simp; omega) (by have := HB0.out.size; simp; omega) ?_)
    intro vx u0 oo gg nn
    clear hW0
    have ba : Below W0.heap.size W0 (W0.alloc (Obj.cells (H2 kd ci) 68)) := (Below.refl _ _).alloc (Nat.le_refl _) _
    obtain ⟨e9, f9, hfx, -⟩ := own_form oo
    obtain ⟨N9, hN9⟩ : ∃ n, (n0 ++ [(kd, ci)]).length = n := ⟨_, rfl⟩
    rw [hN9] at hfx
    subst hfx
    have hs0 := HS.out
    have frg : Fr (fun j => (Value.slice a2 m2 p2).ownBlock = some j) (W0.alloc (Obj.cells (H2 kd ci) 68)) u0 := Fr.ofGrown gg (fun k e => e)
    have hlo : ∀ k, InT (.slice a0 m0 p0) (.slice a1 m1 p1) (.slice a2 m2 p2) (.slice a3 m3 p3) k → b ≤ k ∧ k < w.heap.size := fun k hk => HO.out.ge k hk
    have hnew : ∀ k, (Value.slice e9 N9 f9).ownBlock = some k → (Value.slice a2 m2 p2).ownBlock = some k ∨ k = W0.heap.size + 1 := fun k e => by
      rcases nn with nn | nn
      · exact .inl (nn ▸ e)
      · rw [nn] at e; exact .inr ((Option.some.inj e).symm.trans (by simp))
    have k1 := (KP.out.below ba KP.out.lt).fr frg (fun e => by have := hlo _ (.inr (.inl e)); omega)
    have k2 := (KR.out.below ba KR.out.lt).fr frg (fun e => by have := hlo _ (.inr (.inl e)); omega)
    have szu : W0.heap.size + 1 ≤ u0.heap.size := by have := frg.size; simpa using this
    have OA := HO.out.below ba
    have HF : Hid (∀ W, st6 (u0.setCell ⟨w.heap.size, 4, none⟩ (.slice e9 N9 f9)) (w.heap.size + 1) (.slice a0 m0 p0) (.slice a1 m1 p1) l0 l1 (.slice e9 N9 f9) (.slice a3 m3 p3) = W → Blk W (w.heap.size + 1) (T6 (.slice a0 m0 p0) (.slice a1 m1 p1) l0 l1 (.slice e9 N9 f9) (.slice a3 m3 p3)) 33 ∧ TwR b l0 l1 z0 z1 (n0 ++ [(kd, ci)]) n1 (.bool true) w (.returned (.tuple #[.agg (T6 (.slice a0 m0 p0) (.slice a1 m1 p1) l0 l1 (.slice e9 N9 f9) (.slice a3 m3 p3)), .bool true])) W) := by
      rintro _ rfl
      have hfr : Fr (fun j => j = w.heap.size ∨ j = w.heap.size + 1) u0 (st6 (u0.setCell ⟨w.heap.size, 4, none⟩ (.slice e9 N9 f9)) (w.heap.size + 1) (.slice a0 m0 p0) (.slice a1 m1 p1) l0 l1 (.slice e9 N9 f9) (.slice a3 m3 p3)) := ((Fr.refl _ _).set (.inl rfl) _ _).trans ((fr_put6 _ _ _ _ _ _ _ _).mono (fun k _ e => .inr e))
      have szf := hfr.size
      have hin : ∀ k, (Value.slice e9 N9 f9).ownBlock = some k → b ≤ k ∧ (k < w.heap.size ∨ k = W0.heap.size + 1) := fun k e => by
        rcases hnew k e with h | h
        · have := hlo k (.inr (.inl h)); omega
        · omega
      refine ⟨put6 (k2.other _ _ (by simp)) _ _ _ _ _ _, _, _, _, _, rfl, ⟨?_, ?_, ?_, ?_, ?_, HO.out.a01, ?_, ?_⟩, ?_⟩
      · exact ownsRow_fr (ownsRow_fr OA.o0 frg (fun k e h => HO.out.ax k (.inl e) (.inl h))) hfr (fun k e h => by have := hlo k (.inl (.inl e)); omega)
      · exact ownsRow_fr (ownsRow_fr OA.o1 frg (fun k e h => HO.out.ax k (.inr e) (.inl h))) hfr (fun k e h => by have := hlo k (.inl (.inr e)); omega)
      · exact ownsRow_fr oo hfr (fun k e h => by have := hin k e; omega)
      · exact ownsRow_fr (ownsRow_fr OA.o3 frg (fun k e h => HO.out.a23 k h e)) hfr (fun k e h => by have := hlo k (.inr (.inr e)); omega)
      · intro k hk
        rcases hk with (e | e) | (e | e)
        · have := hlo k (.inl (.inl e)); omega
        · have := hlo k (.inl (.inr e)); omega
        · have := World.ownsRow.lt oo k e; omega
        · have := hlo k (.inr (.inr e)); omega
      · intro k e f
        rcases hnew k e with h | h
        · exact HO.out.a23 k h f
        · have := hlo k (.inr (.inr f)); omega
      · intro k e f
        have hk := hlo k (.inl e)
        rcases f with f | f
        · rcases hnew k f with h | h
          · exact HO.out.ax k e (.inl h)
          · omega
        · exact HO.out.ax k e (.inr f)
      · have b1 : Below b w (W0.alloc (Obj.cells (H2 kd ci) 68)) := (HB0.out.mono hb).trans (ba.mono (by have := HB0.out.size; omega))
        have b2 := b1.trans (frg.below (by simp; omega) (fun k e => (hlo k (.inr (.inl e))).1))
        exact b2.trans (hfr.below (by omega) (fun j e => by omega))
    clear x0 xf0 x1 xf1 x2 xf2 x3 xf3 x4 xf4 x5 xf5 xl y0 yf0 y1 yf1 y2 yf2 y3 yf3 y4 yf4 y5 yf5 yl
    have x0 := k1.cell 0
    have xf0 := k1.frozen 0
    have x1 := k1.cell 1
    have xf1 := k1.frozen 1
    have x2 := k1.cell 2
    have xf2 := k1.frozen 2
    have x3 := k1.cell 3
    have xf3 := k1.frozen 3
    have x4 := k1.cell 4
    have xf4 := k1.frozen 4
    have x5 := k1.cell 5
    have xf5 := k1.frozen 5
    have xl := k1.lt
    simp at x0 x1 x2 x3 x4 x5
    have y0 := k2.cell 0
    have yf0 := k2.frozen 0
    have y1 := k2.cell 1
    have yf1 := k2.frozen 1
    have y2 := k2.cell 2
    have yf2 := k2.frozen 2
    have y3 := k2.cell 3
    have yf3 := k2.frozen 3
    have y4 := k2.cell 4
    have yf4 := k2.frozen 4
    have y5 := k2.cell 5
    have yf5 := k2.frozen 5
    have yl := k2.lt
    simp at y0 y1 y2 y3 y4 y5
    unfold st6 at HF
    clear ba oo gg nn frg hlo hnew k1 k2 OA HON HO hs0 szu hN9
    go_wp2
    exact bodyPost_ret (v := .tuple #[.agg (T6 (.slice a0 m0 p0) (.slice a1 m1 p1) l0 l1 (.slice e9 N9 f9) (.slice a3 m3 p3)), .bool true]) (results_T rfl _ _ _ _ _ _ _ _ _ _ rfl rfl (HF.out _ rfl).1) rfl ⟨fun h => absurd h (by have := HNF.out; omega), fun _ => (HF.out _ rfl).2⟩

set_option maxHeartbeats 6400000 in
theorem put1_c (b : Nat) (c0 c1 w0 w1 : Value) (l0 l1 : Int) (z0 z1 : List Int) (n0 n1 : Mvs) (kd ci : Int) (w : World) (h : Ok6 b w.heap.size w c0 c1 w0 w1 z0 z1 n0 n1) (hb : b ≤ w.heap.size) (hl : n1.length ≤ 60) :
    Calls Try.prog 46 #[.agg (T6 c0 c1 l0 l1 w0 w1), .int .i64 1, .int .i64 kd, .int .i64 ci] w fun e w' => (n1.length = 60 → TwR b l0 l1 z0 z1 n0 n1 (.bool false) w e w') ∧ (n1.length < 60 → TwR b l0 l1 z0 z1 n0 (n1 ++ [(kd, ci)]) (.bool true) w e w') := by
  obtain ⟨W0, hW0⟩ : ∃ W0, (w.alloc (Obj.cells (T6 c0 c1 l0 l1 w0 w1) 33)).alloc (Obj.cells (T6 (.slice none 0 0) (.slice none 0 0) 0 0 (.slice none 0 0) (.slice none 0 0)) 33) = W0 := ⟨_, rfl⟩
  have HS : Hid (W0.heap.size = w.heap.size + 2) := by rw [← hW0]; simp [Hid]
  have hb0 : Below w.heap.size w W0 := by rw [← hW0]; exact ((Below.refl _ _).alloc (Nat.le_refl _) _).alloc (by simp) _
  have HB0 : Hid (Below w.heap.size w W0) := hb0
  have KP : Hid (Blk W0 w.heap.size (T6 c0 c1 l0 l1 w0 w1) 33) := by rw [← hW0]; exact (Blk.new _ _ _).alloc _
  have KR : Hid (Blk W0 (w.heap.size + 1) (T6 (.slice none 0 0) (.slice none 0 0) 0 0 (.slice none 0 0) (.slice none 0 0)) 33) := by rw [← hW0]; exact Blk.newAt _ (w.heap.size + 1) _ 33 (by simp)
  have HO : Hid (Ok6 b w.heap.size W0 c0 c1 w0 w1 z0 z1 n0 n1) := h.below hb0
  obtain ⟨a0, p0, hv0, -⟩ := own_form h.o0
  obtain ⟨a1, p1, hv1, -⟩ := own_form h.o1
  obtain ⟨a2, p2, hv2, -⟩ := own_form h.o2
  obtain ⟨a3, p3, hv3, -⟩ := own_form h.o3
  obtain ⟨m0, hm0⟩ : ∃ m, z0.length = m := ⟨_, rfl⟩
  obtain ⟨m1, hm1⟩ : ∃ m, z1.length = m := ⟨_, rfl⟩
  obtain ⟨m2, hm2⟩ : ∃ m, n0.length = m := ⟨_, rfl⟩
  obtain ⟨m3, hm3⟩ : ∃ m, n1.length = m := ⟨_, rfl⟩
  have HMT : Hid (n1.length = m3) := hm3
  rw [hm0] at hv0
  rw [hm1] at hv1
  rw [hm2] at hv2
  rw [hm3] at hv3
  rw [hm3] at hl
  subst hv0 hv1 hv2 hv3
  clear h hb0 hm0 hm1 hm2 hm3
  have x0 := KP.out.cell 0
  have xf0 := KP.out.frozen 0
  have x1 := KP.out.cell 1
  have xf1 := KP.out.frozen 1
  have x2 := KP.out.cell 2
  have xf2 := KP.out.frozen 2
  have x3 := KP.out.cell 3
  have xf3 := KP.out.frozen 3
  have x4 := KP.out.cell 4
  have xf4 := KP.out.frozen 4
  have x5 := KP.out.cell 5
  have xf5 := KP.out.frozen 5
  have xl := KP.out.lt
  simp at x0 x1 x2 x3 x4 x5
  have y0 := KR.out.cell 0
  have yf0 := KR.out.frozen 0
  have y1 := KR.out.cell 1
  have yf1 := KR.out.frozen 1
  have y2 := KR.out.cell 2
  have yf2 := KR.out.frozen 2
  have y3 := KR.out.cell 3
  have yf3 := KR.out.frozen 3
  have y4 := KR.out.cell 4
  have yf4 := KR.out.frozen 4
  have y5 := KR.out.cell 5
  have yf5 := KR.out.frozen 5
  have yl := KR.out.lt
  simp at y0 y1 y2 y3 y4 y5
  by_cases hf : m3 = 60
  · have hfb : ((m3 : Int) == 60) = true := by simp; omega
    have HF : Hid (∀ W, st6 W0 (w.heap.size + 1) (.slice a0 m0 p0) (.slice a1 m1 p1) l0 l1 (.slice a2 m2 p2) (.slice a3 m3 p3) = W → Blk W (w.heap.size + 1) (T6 (.slice a0 m0 p0) (.slice a1 m1 p1) l0 l1 (.slice a2 m2 p2) (.slice a3 m3 p3)) 33 ∧ TwR b l0 l1 z0 z1 n0 n1 (.bool false) w (.returned (.tuple #[.agg (T6 (.slice a0 m0 p0) (.slice a1 m1 p1) l0 l1 (.slice a2 m2 p2) (.slice a3 m3 p3)), .bool false])) W) := by
      rintro _ rfl
      have hfr := fr_put6 W0 (w.heap.size + 1) (.slice a0 m0 p0) (.slice a1 m1 p1) l0 l1 (.slice a2 m2 p2) (.slice a3 m3 p3)
      refine ⟨put6 KR.out _ _ _ _ _ _, _, _, _, _, rfl, (HO.out.fr hfr (fun k hk e => by have := HO.out.ge k hk; omega)).mono (Nat.le_refl _) (by have := hfr.size; have := HB0.out.size; omega), (HB0.out.mono hb).trans (hfr.below (by have := HB0.out.size; omega) (fun j e => by omega))⟩
    have HFF : Hid (n1.length = 60) := by have := HMT.out; show _ = _; omega
    unfold st6 at HF
    clear hf
    go_enter Try.func46, Try.ntmps46
    go_wp2
    exact bodyPost_ret (v := .tuple #[.agg (T6 (.slice a0 m0 p0) (.slice a1 m1 p1) l0 l1 (.slice a2 m2 p2) (.slice a3 m3 p3)), .bool false]) (results_T rfl _ _ _ _ _ _ _ _ _ _ rfl rfl (HF.out _ rfl).1) rfl ⟨fun _ => (HF.out _ rfl).2, fun h => absurd h (by have := HFF.out; omega)⟩
  · have hfb : ((m3 : Int) == 60) = false := by simp; omega
    have HNF : Hid (n1.length < 60) := by have := HMT.out; show _ < _; omega
    have HON : Hid (Op mf mg 68 b (W0.alloc (Obj.cells (H2 kd ci) 68)) (.slice a3 m3 p3) n1 ∧ Rp mf mg (W0.alloc (Obj.cells (H2 kd ci) 68)) (.slice (some ⟨W0.heap.size, 0, none⟩) 1 1) [(kd, ci)]) := oneNote HO.out.o3 kd ci
    clear hf
    go_enter Try.func46, Try.ntmps46
    go_wp2_with (at_builtin; refine appNt rfl _ _ rfl b _ n1 rfl HON.out.1 _ [(kd, ci)] (by simp [Act.eval]) HON.out.2 (by have := HNF.out; simp; omega) (by have := HB0.out.size; simp; omega) ?_)
    intro vx u0 oo gg nn
    clear hW0
    have ba : Below W0.heap.size W0 (W0.alloc (Obj.cells (H2 kd ci) 68)) := (Below.refl _ _).alloc (Nat.le_refl _) _
    obtain ⟨e9, f9, hfx, -⟩ := own_form oo
    obtain ⟨N9, hN9⟩ : ∃ n, (n1 ++ [(kd, ci)]).length = n := ⟨_, rfl⟩
    rw [hN9] at hfx
    subst hfx
    have hs0 := HS.out
    have frg : Fr (fun j => (Value.slice a3 m3 p3).ownBlock = some j) (W0.alloc (Obj.cells (H2 kd ci) 68)) u0 := Fr.ofGrown gg (fun k e => e)
    have hlo : ∀ k, InT (.slice a0 m0 p0) (.slice a1 m1 p1) (.slice a2 m2 p2) (.slice a3 m3 p3) k → b ≤ k ∧ k < w.heap.size := fun k hk => HO.out.ge k hk
    have hnew : ∀ k, (Value.slice e9 N9 f9).ownBlock = some k → (Value.slice a3 m3 p3).ownBlock = some k ∨ k = W0.heap.size + 1 := fun k e => by
      rcases nn with nn | nn
      · exact .inl (nn ▸ e)
      · rw [nn] at e; exact .inr ((Option.some.inj e).symm.trans (by simp))
    have k1 := (KP.out.below ba KP.out.lt).fr frg (fun e => by have := hlo _ (.inr (.inr e)); omega)
    have k2 := (KR.out.below ba KR.out.lt).fr frg (fun e => by have := hlo _ (.inr (.inr e)); omega)
    have szu : W0.heap.size + 1 ≤ u0.heap.size := by have := frg.size; simpa using this
    have OA := HO.out.below ba
    have HF : Hid (∀ W, st6 (u0.setCell ⟨w.heap.size, 5, none⟩ (.slice e9 N9 f9)) (w.heap.size + 1) (.slice a0 m0 p0) (.slice a1 m1 p1) l0 l1 (.slice a2 m2 p2) (.slice e9 N9 f9) = W → Blk W (w.heap.size + 1) (T6 (.slice a0 m0 p0) (.slice a1 m1 p1) l0 l1 (.slice a2 m2 p2) (.slice e9 N9 f9)) 33 ∧ TwR b l0 l1 z0 z1 n0 (n1 ++ [(kd, ci)]) (.bool true) w (.returned (.tuple #[.agg (T6 (.slice a0 m0 p0) (.slice a1 m1 p1) l0 l1 (.slice a2 m2 p2) (.slice e9 N9 f9)), .bool true])) W) := by
      rintro _ rfl
      have hfr : Fr (fun j => j = w.heap.size ∨ j = w.heap.size + 1) u0 (st6 (u0.setCell ⟨w.heap.size, 5, none⟩ (.slice e9 N9 f9)) (w.heap.size + 1) (.slice a0 m0 p0) (.slice a1 m1 p1) l0 l1 (.slice a2 m2 p2) (.slice e9 N9 f9)) := ((Fr.refl _ _).set (.inl rfl) _ _).trans ((fr_put6 _ _ _ _ _ _ _ _).mono (fun k _ e => .inr e))
      have szf := hfr.size
      have hin : ∀ k, (Value.slice e9 N9 f9).ownBlock = some k → b ≤ k ∧ (k < w.heap.size ∨ k = W0.heap.size + 1) := fun k e => by
        rcases hnew k e with h | h
        · have := hlo k (.inr (.inr h)); omega
        · omega
      refine ⟨put6 (k2.other _ _ (by simp)) _ _ _ _ _ _, _, _, _, _, rfl, ⟨?_, ?_, ?_, ?_, ?_, HO.out.a01, ?_, ?_⟩, ?_⟩
      · exact ownsRow_fr (ownsRow_fr OA.o0 frg (fun k e h => HO.out.ax k (.inl e) (.inr h))) hfr (fun k e h => by have := hlo k (.inl (.inl e)); omega)
      · exact ownsRow_fr (ownsRow_fr OA.o1 frg (fun k e h => HO.out.ax k (.inr e) (.inr h))) hfr (fun k e h => by have := hlo k (.inl (.inr e)); omega)
      · exact ownsRow_fr (ownsRow_fr OA.o2 frg (fun k e h => HO.out.a23 k e h)) hfr (fun k e h => by have := hlo k (.inr (.inl e)); omega)
      · exact ownsRow_fr oo hfr (fun k e h => by have := hin k e; omega)
      · intro k hk
        rcases hk with (e | e) | (e | e)
        · have := hlo k (.inl (.inl e)); omega
        · have := hlo k (.inl (.inr e)); omega
        · have := hlo k (.inr (.inl e)); omega
        · have := World.ownsRow.lt oo k e; omega
      · intro k e f
        rcases hnew k f with h | h
        · exact HO.out.a23 k e h
        · have := hlo k (.inr (.inl e)); omega
      · intro k e f
        have hk := hlo k (.inl e)
        rcases f with f | f
        · exact HO.out.ax k e (.inl f)
        · rcases hnew k f with h | h
          · exact HO.out.ax k e (.inr h)
          · omega
      · have b1 : Below b w (W0.alloc (Obj.cells (H2 kd ci) 68)) := (HB0.out.mono hb).trans (ba.mono (by have := HB0.out.size; omega))
        have b2 := b1.trans (frg.below (by simp; omega) (fun k e => (hlo k (.inr (.inr e))).1))
        exact b2.trans (hfr.below (by omega) (fun j e => by omega))
    clear x0 xf0 x1 xf1 x2 xf2 x3 xf3 x4 xf4 x5 xf5 xl y0 yf0 y1 yf1 y2 yf2 y3 yf3 y4 yf4 y5 yf5 yl
    have x0 := k1.cell 0
    have xf0 := k1.frozen 0
    have x1 := k1.cell 1
    have xf1 := k1.frozen 1
    have x2 := k1.cell 2
    have xf2 := k1.frozen 2
    have x3 := k1.cell 3
    have xf3 := k1.frozen 3
    have x4 := k1.cell 4
    have xf4 := k1.frozen 4
    have x5 := k1.cell 5
    have xf5 := k1.frozen 5
    have xl := k1.lt
    simp at x0 x1 x2 x3 x4 x5
    have y0 := k2.cell 0
    have yf0 := k2.frozen 0
    have y1 := k2.cell 1
    have yf1 := k2.frozen 1
    have y2 := k2.cell 2
    have yf2 := k2.frozen 2
    have y3 := k2.cell 3
    have yf3 := k2.frozen 3
    have y4 := k2.cell 4
    have yf4 := k2.frozen 4
    have y5 := k2.cell 5
    have yf5 := k2.frozen 5
    have yl := k2.lt
    simp at y0 y1 y2 y3 y4 y5
    unfold st6 at HF
    clear ba oo gg nn frg hlo hnew k1 k2 OA HON HO hs0 szu hN9
    go_wp2
    exact bodyPost_ret (v := .tuple #[.agg (T6 (.slice a0 m0 p0) (.slice a1 m1 p1) l0 l1 (.slice a2 m2 p2) (.slice e9 N9 f9)), .bool true]) (results_T rfl _ _ _ _ _ _ _ _ _ _ rfl rfl (HF.out _ rfl).1) rfl ⟨fun h => absurd h (by have := HNF.out; omega), fun _ => (HF.out _ rfl).2⟩
end Go.Proofs.Ytkehcalijamhjaa

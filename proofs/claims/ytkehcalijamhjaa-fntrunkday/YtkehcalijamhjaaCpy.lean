/- A trunk copied, by the program and by the model; no condition. -/
import Derived.Test.YtkehcalijamhjaaCln
namespace Go.Proofs.Ytkehcalijamhjaa
open Go.RowKit Go.ChangeShapes Go.WideShapes Go.ChangeAt
set_option linter.unusedVariables false
set_option linter.unusedSimpArgs false
set_option maxRecDepth 8000

def TcR (l0 l1 : Int) (z0 z1 : List Int) (n0 n1 : Mvs) (w : World) (e : Ending) (w' : World) : Prop := ∃ c0 c1 w0 w1, e = .returned (.agg (T6 c0 c1 l0 l1 w0 w1)) ∧ Ok6 w.heap.size w'.heap.size w' c0 c1 w0 w1 z0 z1 n0 n1 ∧ Below w.heap.size w w'

set_option maxHeartbeats 6400000 in
theorem copyI_c (c0 c1 w0 w1 : Value) (l0 l1 : Int) (z0 z1 : List Int) (n0 n1 : Mvs) (w : World) (h : Rk w c0 c1 w0 w1 z0 z1 n0 n1) (hl : (z0.length : Int) + z1.length + (n0.length + n1.length) ≤ 1048576) :
    Calls Try.prog 38 #[.agg (T6 c0 c1 l0 l1 w0 w1)] w (TcR l0 l1 z0 z1 n0 n1 w) := by
  obtain ⟨W0, hW0⟩ : ∃ W0, (w.alloc (Obj.cells (T6 c0 c1 l0 l1 w0 w1) 33)).alloc (Obj.cells (T6 (.slice none 0 0) (.slice none 0 0) 0 0 (.slice none 0 0) (.slice none 0 0)) 33) = W0 := ⟨_, rfl⟩
  have HS : Hid (W0.heap.size = w.heap.size + 2) := by rw [← hW0]; simp [Hid]
  have HB0 : Hid (Below w.heap.size w W0) := by rw [← hW0]; exact ((Below.refl _ _).alloc (Nat.le_refl _) _).alloc (by simp) _
  have KP0 : Hid (Blk W0 w.heap.size (T6 c0 c1 l0 l1 w0 w1) 33) := by rw [← hW0]; exact (Blk.new _ _ _).alloc _
  have KR0 : Hid (Blk W0 (w.heap.size + 1) (T6 (.slice none 0 0) (.slice none 0 0) 0 0 (.slice none 0 0) (.slice none 0 0)) 33) := by rw [← hW0]; exact Blk.newAt _ (w.heap.size + 1) _ 33 (by simp)
  have HR : Hid (Rk w c0 c1 w0 w1 z0 z1 n0 n1) := h
  obtain ⟨a0, p0, hv0, -⟩ := h.r0
  obtain ⟨a1, p1, hv1, -⟩ := h.r1
  obtain ⟨a2, p2, hv2, -⟩ := h.r2
  obtain ⟨a3, p3, hv3, -⟩ := h.r3
  obtain ⟨m0, hm0⟩ : ∃ m, z0.length = m := ⟨_, rfl⟩
  obtain ⟨m1, hm1⟩ : ∃ m, z1.length = m := ⟨_, rfl⟩
  obtain ⟨m2, hm2⟩ : ∃ m, n0.length = m := ⟨_, rfl⟩
  obtain ⟨m3, hm3⟩ : ∃ m, n1.length = m := ⟨_, rfl⟩
  have HM0 : Hid (z0.length = m0) := hm0
  have HM1 : Hid (z1.length = m1) := hm1
  have HM2 : Hid (n0.length = m2) := hm2
  have HM3 : Hid (n1.length = m3) := hm3
  have HLL : Hid (z0.length ≤ 1048576 ∧ z1.length ≤ 1048576 ∧ n0.length ≤ 1048576 ∧ n1.length ≤ 1048576) := ⟨by omega, by omega, by omega, by omega⟩
  rw [hm0] at hv0
  rw [hm1] at hv1
  rw [hm2] at hv2
  rw [hm3] at hv3
  subst hv0 hv1 hv2 hv3
  clear h hm0 hm1 hm2 hm3 hl
  have x0 := KP0.out.cell 0
  have xf0 := KP0.out.frozen 0
  have x1 := KP0.out.cell 1
  have xf1 := KP0.out.frozen 1
  have x2 := KP0.out.cell 2
  have xf2 := KP0.out.frozen 2
  have x3 := KP0.out.cell 3
  have xf3 := KP0.out.frozen 3
  have x4 := KP0.out.cell 4
  have xf4 := KP0.out.frozen 4
  have x5 := KP0.out.cell 5
  have xf5 := KP0.out.frozen 5
  have xl := KP0.out.lt
  simp at x0 x1 x2 x3 x4 x5
  go_enter Try.func38, Try.ntmps38
  go_wp2
  refine wp_loop_rounds 3 ?_
  rw [rounds_succ]
  clear hW0
  go_wp2_with (fail)
  refine (cloneI_c _ z0 W0 (HR.out.r0.below HB0.out) HLL.out.1).mono ?_
  rintro e u0 ⟨vx, rfl, oo, bb⟩
  obtain ⟨e0, f0, hfx, -⟩ := own_form oo
  rw [HM0.out] at hfx
  subst hfx
  have kp := KP0.out.below bb KP0.out.lt
  have kr := KR0.out.below bb KR0.out.lt
  have hs0 := HS.out
  have szk : W0.heap.size ≤ W0.heap.size := Nat.le_refl _
  have hI0 : ∀ j, (Value.slice e0 m0 f0).ownBlock = some j → W0.heap.size ≤ j ∧ j < u0.heap.size := fun j e => World.ownsRow.lt oo j e
  have hf : Fr (fun j => j = w.heap.size) u0 (u0.setCell ⟨w.heap.size, 0, none⟩ (.slice e0 m0 f0)) := by
    refine (Fr.refl _ _).set ?_ _ _
    rfl
  have O0 : Hid (Ow .i64 3 W0.heap.size (u0.setCell ⟨w.heap.size, 0, none⟩ (.slice e0 m0 f0)) (.slice e0 m0 f0) z0) := ownsRow_fr oo hf (fun j e h => by have := hI0 j e; omega)
  have KP1 : Hid (Blk (u0.setCell ⟨w.heap.size, 0, none⟩ (.slice e0 m0 f0)) w.heap.size (T6 (.slice e0 m0 f0) (.slice a1 m1 p1) l0 l1 (.slice a2 m2 p2) (.slice a3 m3 p3)) 33) := kp.set 0 _
  have KR1 : Hid (Blk (u0.setCell ⟨w.heap.size, 0, none⟩ (.slice e0 m0 f0)) (w.heap.size + 1) (T6 (.slice none 0 0) (.slice none 0 0) 0 0 (.slice none 0 0) (.slice none 0 0)) 33) := kr.other _ _ (by simp)
  have bw := belowCall HB0.out bb HB0.out.size
  have HB1 : Hid (Below w.heap.size w (u0.setCell ⟨w.heap.size, 0, none⟩ (.slice e0 m0 f0))) := bw.setCell (by dsimp only; omega) _
  have szu : W0.heap.size ≤ u0.heap.size := bb.size
  have HI0 : Hid (∀ j, (Value.slice e0 m0 f0).ownBlock = some j → (W0.heap.size ≤ j ∧ w.heap.size + 2 ≤ j) ∧ j < u0.heap.size) := fun j e => by have := hI0 j e; omega
  clear x0 xf0 x1 xf1 x2 xf2 x3 xf3 x4 xf4 x5 xf5 xl
  have x0 := kp.cell 0
  have x1 := kp.cell 1
  have x2 := kp.cell 2
  have x3 := kp.cell 3
  have x4 := kp.cell 4
  have x5 := kp.cell 5
  have xf0 := kp.frozen 0
  have xl := kp.lt
  simp at x0 x1 x2 x3 x4 x5
  obtain ⟨W1, hWn⟩ : ∃ W, u0.setCell ⟨w.heap.size, 0, none⟩ (.slice e0 m0 f0) = W := ⟨_, rfl⟩
  have HU0 : Hid (W1.heap.size = u0.heap.size) := by rw [← hWn]; simp [Hid]
  have HZ1 : Hid (W0.heap.size ≤ W1.heap.size) := by rw [← hWn]; show _ ≤ _; simp; omega
  have HC0 : Hid (W0.heap.size ≤ W1.heap.size) := by rw [← hWn]; show _ ≤ _; simp; omega
  rw [hWn] at O0 KP1 KR1 HB1
  clear oo bb kp kr hs0 szk hI0 hf bw szu KP0 KR0 HB0
  have t0 := KP1.out.cell 0
  have t1 := KP1.out.cell 1
  have t2 := KP1.out.cell 2
  have t3 := KP1.out.cell 3
  have t4 := KP1.out.cell 4
  have t5 := KP1.out.cell 5
  have tl := KP1.out.lt
  simp at t0 t1 t2 t3 t4 t5
  go_wp2_with (fail)
  refine (cloneN_c _ n0 W1 (HR.out.r2.below HB1.out) HLL.out.2.2.1).mono ?_
  rintro e u1 ⟨vx, rfl, oo, bb⟩
  obtain ⟨e1, f1, hfx, -⟩ := own_form oo
  rw [HM2.out] at hfx
  subst hfx
  have kp := KP1.out.below bb KP1.out.lt
  have kr := KR1.out.below bb KR1.out.lt
  have hs0 := HS.out
  have szk : W0.heap.size ≤ W1.heap.size := HZ1.out
  have hI1 : ∀ j, (Value.slice e1 m2 f1).ownBlock = some j → W1.heap.size ≤ j ∧ j < u1.heap.size := fun j e => World.ownsRow.lt oo j e
  have hf : Fr (fun j => j = w.heap.size) u1 (u1.setCell ⟨w.heap.size, 4, none⟩ (.slice e1 m2 f1)) := by
    refine (Fr.refl _ _).set ?_ _ _
    rfl
  have O1 : Hid (Op mf mg 68 W1.heap.size (u1.setCell ⟨w.heap.size, 4, none⟩ (.slice e1 m2 f1)) (.slice e1 m2 f1) n0) := ownsRow_fr oo hf (fun j e h => by have := hI1 j e; omega)
  have O0' : Hid (Ow .i64 3 W0.heap.size (u1.setCell ⟨w.heap.size, 4, none⟩ (.slice e1 m2 f1)) (.slice e0 m0 f0) z0) := ownsRow_fr (O0.out.below bb) hf (fun j e h => by have := HI0.out j e; omega)
  have KP2 : Hid (Blk (u1.setCell ⟨w.heap.size, 4, none⟩ (.slice e1 m2 f1)) w.heap.size (T6 (.slice e0 m0 f0) (.slice a1 m1 p1) l0 l1 (.slice e1 m2 f1) (.slice a3 m3 p3)) 33) := kp.set 4 _
  have KR2 : Hid (Blk (u1.setCell ⟨w.heap.size, 4, none⟩ (.slice e1 m2 f1)) (w.heap.size + 1) (T6 (.slice none 0 0) (.slice none 0 0) 0 0 (.slice none 0 0) (.slice none 0 0)) 33) := kr.other _ _ (by simp)
  have bw := belowCall HB1.out bb HB1.out.size
  have HB2 : Hid (Below w.heap.size w (u1.setCell ⟨w.heap.size, 4, none⟩ (.slice e1 m2 f1))) := bw.setCell (by dsimp only; omega) _
  have szu : W1.heap.size ≤ u1.heap.size := bb.size
  have HI1 : Hid (∀ j, (Value.slice e1 m2 f1).ownBlock = some j → (W1.heap.size ≤ j ∧ w.heap.size + 2 ≤ j) ∧ j < u1.heap.size) := fun j e => by have := hI1 j e; omega
  clear x0 x1 x2 x3 x4 x5 xf0 xl hWn t0 t1 t2 t3 t4 t5 tl
  have x0 := kp.cell 0
  have x1 := kp.cell 1
  have x2 := kp.cell 2
  have x3 := kp.cell 3
  have x4 := kp.cell 4
  have x5 := kp.cell 5
  have xf4 := kp.frozen 4
  have xl := kp.lt
  simp at x0 x1 x2 x3 x4 x5
  obtain ⟨W2, hWn⟩ : ∃ W, u1.setCell ⟨w.heap.size, 4, none⟩ (.slice e1 m2 f1) = W := ⟨_, rfl⟩
  have HU1 : Hid (W2.heap.size = u1.heap.size) := by rw [← hWn]; simp [Hid]
  have HZ2 : Hid (W0.heap.size ≤ W2.heap.size) := by rw [← hWn]; show _ ≤ _; simp; omega
  have HC1 : Hid (W1.heap.size ≤ W2.heap.size) := by rw [← hWn]; show _ ≤ _; simp; omega
  rw [hWn] at O1 KP2 KR2 HB2 O0'
  clear O0
  have O0 := O0'
  clear O0'
  clear oo bb kp kr hs0 szk hI1 hf bw szu KP1 KR1 HB1
  go_wp2
  clear hWn x0 x1 x2 x3 x4 x5 xf4 xl
  have x0 := KP2.out.cell 0
  have xf0 := KP2.out.frozen 0
  have x1 := KP2.out.cell 1
  have xf1 := KP2.out.frozen 1
  have x2 := KP2.out.cell 2
  have xf2 := KP2.out.frozen 2
  have x3 := KP2.out.cell 3
  have xf3 := KP2.out.frozen 3
  have x4 := KP2.out.cell 4
  have xf4 := KP2.out.frozen 4
  have x5 := KP2.out.cell 5
  have xf5 := KP2.out.frozen 5
  have xl := KP2.out.lt
  simp at x0 x1 x2 x3 x4 x5
  rw [rounds_succ]
  go_wp2_with (fail)
  refine (cloneI_c _ z1 W2 (HR.out.r1.below HB2.out) HLL.out.2.1).mono ?_
  rintro e u2 ⟨vx, rfl, oo, bb⟩
  obtain ⟨e2, f2, hfx, -⟩ := own_form oo
  rw [HM1.out] at hfx
  subst hfx
  have kp := KP2.out.below bb KP2.out.lt
  have kr := KR2.out.below bb KR2.out.lt
  have hs0 := HS.out
  have szk : W0.heap.size ≤ W2.heap.size := HZ2.out
  have hI2 : ∀ j, (Value.slice e2 m1 f2).ownBlock = some j → W2.heap.size ≤ j ∧ j < u2.heap.size := fun j e => World.ownsRow.lt oo j e
  have hf : Fr (fun j => j = w.heap.size) u2 (u2.setCell ⟨w.heap.size, 1, none⟩ (.slice e2 m1 f2)) := by
    refine (Fr.refl _ _).set ?_ _ _
    rfl
  have O2 : Hid (Ow .i64 3 W2.heap.size (u2.setCell ⟨w.heap.size, 1, none⟩ (.slice e2 m1 f2)) (.slice e2 m1 f2) z1) := ownsRow_fr oo hf (fun j e h => by have := hI2 j e; omega)
  have O0' : Hid (Ow .i64 3 W0.heap.size (u2.setCell ⟨w.heap.size, 1, none⟩ (.slice e2 m1 f2)) (.slice e0 m0 f0) z0) := ownsRow_fr (O0.out.below bb) hf (fun j e h => by have := HI0.out j e; omega)
  have O1' : Hid (Op mf mg 68 W1.heap.size (u2.setCell ⟨w.heap.size, 1, none⟩ (.slice e2 m1 f2)) (.slice e1 m2 f1) n0) := ownsRow_fr (O1.out.below bb) hf (fun j e h => by have := HI1.out j e; omega)
  have KP3 : Hid (Blk (u2.setCell ⟨w.heap.size, 1, none⟩ (.slice e2 m1 f2)) w.heap.size (T6 (.slice e0 m0 f0) (.slice e2 m1 f2) l0 l1 (.slice e1 m2 f1) (.slice a3 m3 p3)) 33) := kp.set 1 _
  have KR3 : Hid (Blk (u2.setCell ⟨w.heap.size, 1, none⟩ (.slice e2 m1 f2)) (w.heap.size + 1) (T6 (.slice none 0 0) (.slice none 0 0) 0 0 (.slice none 0 0) (.slice none 0 0)) 33) := kr.other _ _ (by simp)
  have bw := belowCall HB2.out bb HB2.out.size
  have HB3 : Hid (Below w.heap.size w (u2.setCell ⟨w.heap.size, 1, none⟩ (.slice e2 m1 f2))) := bw.setCell (by dsimp only; omega) _
  have szu : W2.heap.size ≤ u2.heap.size := bb.size
  have HI2 : Hid (∀ j, (Value.slice e2 m1 f2).ownBlock = some j → (W2.heap.size ≤ j ∧ w.heap.size + 2 ≤ j) ∧ j < u2.heap.size) := fun j e => by have := hI2 j e; omega
  clear x0 xf0 x1 xf1 x2 xf2 x3 xf3 x4 xf4 x5 xf5 xl
  have x0 := kp.cell 0
  have x1 := kp.cell 1
  have x2 := kp.cell 2
  have x3 := kp.cell 3
  have x4 := kp.cell 4
  have x5 := kp.cell 5
  have xf1 := kp.frozen 1
  have xl := kp.lt
  simp at x0 x1 x2 x3 x4 x5
  obtain ⟨W3, hWn⟩ : ∃ W, u2.setCell ⟨w.heap.size, 1, none⟩ (.slice e2 m1 f2) = W := ⟨_, rfl⟩
  have HU2 : Hid (W3.heap.size = u2.heap.size) := by rw [← hWn]; simp [Hid]
  have HZ3 : Hid (W0.heap.size ≤ W3.heap.size) := by rw [← hWn]; show _ ≤ _; simp; omega
  have HC2 : Hid (W2.heap.size ≤ W3.heap.size) := by rw [← hWn]; show _ ≤ _; simp; omega
  rw [hWn] at O2 KP3 KR3 HB3 O0' O1'
  clear O0
  have O0 := O0'
  clear O0'
  clear O1
  have O1 := O1'
  clear O1'
  clear oo bb kp kr hs0 szk hI2 hf bw szu KP2 KR2 HB2
  have t0 := KP3.out.cell 0
  have t1 := KP3.out.cell 1
  have t2 := KP3.out.cell 2
  have t3 := KP3.out.cell 3
  have t4 := KP3.out.cell 4
  have t5 := KP3.out.cell 5
  have tl := KP3.out.lt
  simp at t0 t1 t2 t3 t4 t5
  go_wp2_with (fail)
  refine (cloneN_c _ n1 W3 (HR.out.r3.below HB3.out) HLL.out.2.2.2).mono ?_
  rintro e u3 ⟨vx, rfl, oo, bb⟩
  obtain ⟨e3, f3, hfx, -⟩ := own_form oo
  rw [HM3.out] at hfx
  subst hfx
  have kp := KP3.out.below bb KP3.out.lt
  have kr := KR3.out.below bb KR3.out.lt
  have hs0 := HS.out
  have szk : W0.heap.size ≤ W3.heap.size := HZ3.out
  have hI3 : ∀ j, (Value.slice e3 m3 f3).ownBlock = some j → W3.heap.size ≤ j ∧ j < u3.heap.size := fun j e => World.ownsRow.lt oo j e
  have hf : Fr (fun j => j = w.heap.size) u3 (u3.setCell ⟨w.heap.size, 5, none⟩ (.slice e3 m3 f3)) := by
    refine (Fr.refl _ _).set ?_ _ _
    rfl
  have O3 : Hid (Op mf mg 68 W3.heap.size (u3.setCell ⟨w.heap.size, 5, none⟩ (.slice e3 m3 f3)) (.slice e3 m3 f3) n1) := ownsRow_fr oo hf (fun j e h => by have := hI3 j e; omega)
  have O0' : Hid (Ow .i64 3 W0.heap.size (u3.setCell ⟨w.heap.size, 5, none⟩ (.slice e3 m3 f3)) (.slice e0 m0 f0) z0) := ownsRow_fr (O0.out.below bb) hf (fun j e h => by have := HI0.out j e; omega)
  have O1' : Hid (Op mf mg 68 W1.heap.size (u3.setCell ⟨w.heap.size, 5, none⟩ (.slice e3 m3 f3)) (.slice e1 m2 f1) n0) := ownsRow_fr (O1.out.below bb) hf (fun j e h => by have := HI1.out j e; omega)
  have O2' : Hid (Ow .i64 3 W2.heap.size (u3.setCell ⟨w.heap.size, 5, none⟩ (.slice e3 m3 f3)) (.slice e2 m1 f2) z1) := ownsRow_fr (O2.out.below bb) hf (fun j e h => by have := HI2.out j e; omega)
  have KP4 : Hid (Blk (u3.setCell ⟨w.heap.size, 5, none⟩ (.slice e3 m3 f3)) w.heap.size (T6 (.slice e0 m0 f0) (.slice e2 m1 f2) l0 l1 (.slice e1 m2 f1) (.slice e3 m3 f3)) 33) := kp.set 5 _
  have KR4 : Hid (Blk (u3.setCell ⟨w.heap.size, 5, none⟩ (.slice e3 m3 f3)) (w.heap.size + 1) (T6 (.slice none 0 0) (.slice none 0 0) 0 0 (.slice none 0 0) (.slice none 0 0)) 33) := kr.other _ _ (by simp)
  have bw := belowCall HB3.out bb HB3.out.size
  have HB4 : Hid (Below w.heap.size w (u3.setCell ⟨w.heap.size, 5, none⟩ (.slice e3 m3 f3))) := bw.setCell (by dsimp only; omega) _
  have szu : W3.heap.size ≤ u3.heap.size := bb.size
  have HI3 : Hid (∀ j, (Value.slice e3 m3 f3).ownBlock = some j → (W3.heap.size ≤ j ∧ w.heap.size + 2 ≤ j) ∧ j < u3.heap.size) := fun j e => by have := hI3 j e; omega
  clear x0 x1 x2 x3 x4 x5 xf1 xl hWn t0 t1 t2 t3 t4 t5 tl
  have x0 := kp.cell 0
  have x1 := kp.cell 1
  have x2 := kp.cell 2
  have x3 := kp.cell 3
  have x4 := kp.cell 4
  have x5 := kp.cell 5
  have xf5 := kp.frozen 5
  have xl := kp.lt
  simp at x0 x1 x2 x3 x4 x5
  obtain ⟨W4, hWn⟩ : ∃ W, u3.setCell ⟨w.heap.size, 5, none⟩ (.slice e3 m3 f3) = W := ⟨_, rfl⟩
  have HU3 : Hid (W4.heap.size = u3.heap.size) := by rw [← hWn]; simp [Hid]
  have HZ4 : Hid (W0.heap.size ≤ W4.heap.size) := by rw [← hWn]; show _ ≤ _; simp; omega
  have HC3 : Hid (W3.heap.size ≤ W4.heap.size) := by rw [← hWn]; show _ ≤ _; simp; omega
  rw [hWn] at O3 KP4 KR4 HB4 O0' O1' O2'
  clear O0
  have O0 := O0'
  clear O0'
  clear O1
  have O1 := O1'
  clear O1'
  clear O2
  have O2 := O2'
  clear O2'
  clear oo bb kp kr hs0 szk hI3 hf bw szu KP3 KR3 HB3
  go_wp2
  clear hWn x0 x1 x2 x3 x4 x5 xf5 xl
  have x0 := KP4.out.cell 0
  have xf0 := KP4.out.frozen 0
  have x1 := KP4.out.cell 1
  have xf1 := KP4.out.frozen 1
  have x2 := KP4.out.cell 2
  have xf2 := KP4.out.frozen 2
  have x3 := KP4.out.cell 3
  have xf3 := KP4.out.frozen 3
  have x4 := KP4.out.cell 4
  have xf4 := KP4.out.frozen 4
  have x5 := KP4.out.cell 5
  have xf5 := KP4.out.frozen 5
  have xl := KP4.out.lt
  simp at x0 x1 x2 x3 x4 x5
  rw [rounds_succ]
  have HF : Hid (∀ W, ((((((W4.setCell ⟨w.heap.size + 1, 0, none⟩ (.slice e0 m0 f0)).setCell ⟨w.heap.size + 1, 1, none⟩ (.slice e2 m1 f2)).setCell ⟨w.heap.size + 1, 2, none⟩ (.int .i64 l0)).setCell ⟨w.heap.size + 1, 3, none⟩ (.int .i64 l1)).setCell ⟨w.heap.size + 1, 4, none⟩ (.slice e1 m2 f1)).setCell ⟨w.heap.size + 1, 5, none⟩ (.slice e3 m3 f3)) = W → Blk W (w.heap.size + 1) (T6 (.slice e0 m0 f0) (.slice e2 m1 f2) l0 l1 (.slice e1 m2 f1) (.slice e3 m3 f3)) 33 ∧ TcR l0 l1 z0 z1 n0 n1 w (.returned (.agg (T6 (.slice e0 m0 f0) (.slice e2 m1 f2) l0 l1 (.slice e1 m2 f1) (.slice e3 m3 f3)))) W) := by
    rintro _ rfl
    have hf : Fr (fun j => j = w.heap.size + 1) W4 ((((((W4.setCell ⟨w.heap.size + 1, 0, none⟩ (.slice e0 m0 f0)).setCell ⟨w.heap.size + 1, 1, none⟩ (.slice e2 m1 f2)).setCell ⟨w.heap.size + 1, 2, none⟩ (.int .i64 l0)).setCell ⟨w.heap.size + 1, 3, none⟩ (.int .i64 l1)).setCell ⟨w.heap.size + 1, 4, none⟩ (.slice e1 m2 f1)).setCell ⟨w.heap.size + 1, 5, none⟩ (.slice e3 m3 f3)) := by
      refine ((((((Fr.refl _ _).set ?_ _ _).set ?_ _ _).set ?_ _ _).set ?_ _ _).set ?_ _ _).set ?_ _ _
      all_goals rfl
    have hs0 := HS.out
    have z1' := HZ1.out
    have z2' := HZ2.out
    have z3' := HZ3.out
    have d0 := HU0.out
    have d1 := HU1.out
    have d2 := HU2.out
    have d3 := HU3.out
    have e0' := HC0.out
    have e1' := HC1.out
    have e2' := HC2.out
    have e3' := HC3.out
    have hsz : W4.heap.size ≤ (((((((W4.setCell ⟨w.heap.size + 1, 0, none⟩ (.slice e0 m0 f0)).setCell ⟨w.heap.size + 1, 1, none⟩ (.slice e2 m1 f2)).setCell ⟨w.heap.size + 1, 2, none⟩ (.int .i64 l0)).setCell ⟨w.heap.size + 1, 3, none⟩ (.int .i64 l1)).setCell ⟨w.heap.size + 1, 4, none⟩ (.slice e1 m2 f1)).setCell ⟨w.heap.size + 1, 5, none⟩ (.slice e3 m3 f3))).heap.size := hf.size
    refine ⟨(((((KR4.out.set 0 _).set 1 _).set 2 _).set 3 _).set 4 _).set 5 _, _, _, _, _, rfl, ⟨?_, ?_, ?_, ?_, ?_, ?_, ?_, ?_⟩, HB4.out.trans (hf.below (by have := HB4.out.size; omega) (fun j e => by omega))⟩
    · exact (show Ow .i64 3 W0.heap.size _ _ _ from ownsRow_fr O0.out hf (fun j e h => by have := HI0.out j e; omega)).mono (by omega)
    · exact (show Ow .i64 3 W2.heap.size _ _ _ from ownsRow_fr O2.out hf (fun j e h => by have := HI2.out j e; omega)).mono (by omega)
    · exact (show Op mf mg 68 W1.heap.size _ _ _ from ownsRow_fr O1.out hf (fun j e h => by have := HI1.out j e; omega)).mono (by omega)
    · exact (show Op mf mg 68 W3.heap.size _ _ _ from ownsRow_fr O3.out hf (fun j e h => by have := HI3.out j e; omega)).mono (by omega)
    · intro j hj
      refine Nat.lt_of_lt_of_le ?_ hsz
      rcases hj with (e | e) | (e | e)
      · have := HI0.out j e; omega
      · have := HI2.out j e; omega
      · have := HI1.out j e; omega
      · have := HI3.out j e; omega
    · intro j e f; have := HI0.out j e; have := HI2.out j f; omega
    · intro j e f; have := HI1.out j e; have := HI3.out j f; omega
    · intro j e f
      rcases e with e | e <;> rcases f with f | f
      · have := HI0.out j e; have := HI1.out j f; omega
      · have := HI0.out j e; have := HI3.out j f; omega
      · have := HI2.out j e; have := HI1.out j f; omega
      · have := HI2.out j e; have := HI3.out j f; omega
  have y0 := KR4.out.cell 0
  have yf0 := KR4.out.frozen 0
  have y1 := KR4.out.cell 1
  have yf1 := KR4.out.frozen 1
  have y2 := KR4.out.cell 2
  have yf2 := KR4.out.frozen 2
  have y3 := KR4.out.cell 3
  have yf3 := KR4.out.frozen 3
  have y4 := KR4.out.cell 4
  have yf4 := KR4.out.frozen 4
  have y5 := KR4.out.cell 5
  have yf5 := KR4.out.frozen 5
  have yl := KR4.out.lt
  simp at y0 y1 y2 y3 y4 y5
  go_wp2
  exact bodyPost_ret (v := .agg (T6 (.slice e0 m0 f0) (.slice e2 m1 f2) l0 l1 (.slice e1 m2 f1) (.slice e3 m3 f3))) (results_cell_row rfl _ _ _ 33 _ (0, 0) _ rfl (HF.out _ rfl).1 Try.underlying33 rfl size33) rfl (HF.out _ rfl).2

set_option maxHeartbeats 6400000 in
theorem copyM_c (c0 c1 w0 w1 : Value) (l0 l1 : Int) (z0 z1 : List Int) (n0 n1 : Mvs) (w : World) (h : Rk w c0 c1 w0 w1 z0 z1 n0 n1) (hl : (z0.length : Int) + z1.length + (n0.length + n1.length) ≤ 1048576) :
    Calls Try.prog 43 #[.agg (T6 c0 c1 l0 l1 w0 w1)] w (TcR l0 l1 z0 z1 n0 n1 w) := by
  obtain ⟨W0, hW0⟩ : ∃ W0, (w.alloc (Obj.cells (T6 c0 c1 l0 l1 w0 w1) 33)).alloc (Obj.cells (T6 (.slice none 0 0) (.slice none 0 0) 0 0 (.slice none 0 0) (.slice none 0 0)) 33) = W0 := ⟨_, rfl⟩
  have HS : Hid (W0.heap.size = w.heap.size + 2) := by rw [← hW0]; simp [Hid]
  have HB0 : Hid (Below w.heap.size w W0) := by rw [← hW0]; exact ((Below.refl _ _).alloc (Nat.le_refl _) _).alloc (by simp) _
  have KP0 : Hid (Blk W0 w.heap.size (T6 c0 c1 l0 l1 w0 w1) 33) := by rw [← hW0]; exact (Blk.new _ _ _).alloc _
  have KR0 : Hid (Blk W0 (w.heap.size + 1) (T6 (.slice none 0 0) (.slice none 0 0) 0 0 (.slice none 0 0) (.slice none 0 0)) 33) := by rw [← hW0]; exact Blk.newAt _ (w.heap.size + 1) _ 33 (by simp)
  have HR : Hid (Rk w c0 c1 w0 w1 z0 z1 n0 n1) := h
  obtain ⟨a0, p0, hv0, -⟩ := h.r0
  obtain ⟨a1, p1, hv1, -⟩ := h.r1
  obtain ⟨a2, p2, hv2, -⟩ := h.r2
  obtain ⟨a3, p3, hv3, -⟩ := h.r3
  obtain ⟨m0, hm0⟩ : ∃ m, z0.length = m := ⟨_, rfl⟩
  obtain ⟨m1, hm1⟩ : ∃ m, z1.length = m := ⟨_, rfl⟩
  obtain ⟨m2, hm2⟩ : ∃ m, n0.length = m := ⟨_, rfl⟩
  obtain ⟨m3, hm3⟩ : ∃ m, n1.length = m := ⟨_, rfl⟩
  have HM0 : Hid (z0.length = m0) := hm0
  have HM1 : Hid (z1.length = m1) := hm1
  have HM2 : Hid (n0.length = m2) := hm2
  have HM3 : Hid (n1.length = m3) := hm3
  have HLL : Hid (z0.length ≤ 1048576 ∧ z1.length ≤ 1048576 ∧ n0.length ≤ 1048576 ∧ n1.length ≤ 1048576) := ⟨by omega, by omega, by omega, by omega⟩
  rw [hm0] at hv0
  rw [hm1] at hv1
  rw [hm2] at hv2
  rw [hm3] at hv3
  subst hv0 hv1 hv2 hv3
  clear h hm0 hm1 hm2 hm3 hl
  have x0 := KP0.out.cell 0
  have xf0 := KP0.out.frozen 0
  have x1 := KP0.out.cell 1
  have xf1 := KP0.out.frozen 1
  have x2 := KP0.out.cell 2
  have xf2 := KP0.out.frozen 2
  have x3 := KP0.out.cell 3
  have xf3 := KP0.out.frozen 3
  have x4 := KP0.out.cell 4
  have xf4 := KP0.out.frozen 4
  have x5 := KP0.out.cell 5
  have xf5 := KP0.out.frozen 5
  have xl := KP0.out.lt
  simp at x0 x1 x2 x3 x4 x5
  go_enter Try.func43, Try.ntmps43
  go_wp2
  refine wp_loop_rounds 3 ?_
  rw [rounds_succ]
  clear hW0
  have HE : Hid (Ow .i64 3 W0.heap.size (W0.alloc (Obj.cells #[] 3)) (.slice (some ⟨W0.heap.size, 0, none⟩) 0 0) []) := World.ownsRow_lit (e := 3) (size := 1) (base := W0.heap.size) W0 #[] 0 (by omega) (by simp) (by simp)
  have HBE : Hid (Below W0.heap.size W0 (W0.alloc (Obj.cells #[] 3))) := (Below.refl _ _).alloc (Nat.le_refl _) _
  have HRE := (HR.out.r0.below HB0.out).below HBE.out
  have HRE' : Hid (Rd .i64 (W0.alloc (Obj.cells #[] 3)) (.slice a0 m0 p0) z0) := HRE
  clear HRE
  go_wp2_with (at_builtin; refine appIs rfl _ _ rfl W0.heap.size _ [] rfl HE.out _ z0 rfl HRE'.out (by have := HLL.out; simp; omega) (by simp) ?_)
  intro vx u0 oo' gg nn
  have oo : Ow .i64 3 W0.heap.size u0 vx z0 := by simpa using oo'
  have bb : Below W0.heap.size W0 u0 := HBE.out.trans (grown_below gg (by simp) (fun k e => by simp [Value.ownBlock] at e; omega))
  clear oo' gg nn HE HBE HRE'
  obtain ⟨e0, f0, hfx, -⟩ := own_form oo
  rw [HM0.out] at hfx
  subst hfx
  have kp := KP0.out.below bb KP0.out.lt
  have kr := KR0.out.below bb KR0.out.lt
  have hs0 := HS.out
  have szk : W0.heap.size ≤ W0.heap.size := Nat.le_refl _
  have hI0 : ∀ j, (Value.slice e0 m0 f0).ownBlock = some j → W0.heap.size ≤ j ∧ j < u0.heap.size := fun j e => World.ownsRow.lt oo j e
  have hf : Fr (fun j => j = w.heap.size) u0 (u0.setCell ⟨w.heap.size, 0, none⟩ (.slice e0 m0 f0)) := by
    refine (Fr.refl _ _).set ?_ _ _
    rfl
  have O0 : Hid (Ow .i64 3 W0.heap.size (u0.setCell ⟨w.heap.size, 0, none⟩ (.slice e0 m0 f0)) (.slice e0 m0 f0) z0) := ownsRow_fr oo hf (fun j e h => by have := hI0 j e; omega)
  have KP1 : Hid (Blk (u0.setCell ⟨w.heap.size, 0, none⟩ (.slice e0 m0 f0)) w.heap.size (T6 (.slice e0 m0 f0) (.slice a1 m1 p1) l0 l1 (.slice a2 m2 p2) (.slice a3 m3 p3)) 33) := kp.set 0 _
  have KR1 : Hid (Blk (u0.setCell ⟨w.heap.size, 0, none⟩ (.slice e0 m0 f0)) (w.heap.size + 1) (T6 (.slice none 0 0) (.slice none 0 0) 0 0 (.slice none 0 0) (.slice none 0 0)) 33) := kr.other _ _ (by simp)
  have bw := belowCall HB0.out bb HB0.out.size
  have HB1 : Hid (Below w.heap.size w (u0.setCell ⟨w.heap.size, 0, none⟩ (.slice e0 m0 f0))) := bw.setCell (by dsimp only; omega) _
  have szu : W0.heap.size ≤ u0.heap.size := bb.size
  have HI0 : Hid (∀ j, (Value.slice e0 m0 f0).ownBlock = some j → (W0.heap.size ≤ j ∧ w.heap.size + 2 ≤ j) ∧ j < u0.heap.size) := fun j e => by have := hI0 j e; omega
  clear x0 xf0 x1 xf1 x2 xf2 x3 xf3 x4 xf4 x5 xf5 xl
  have x0 := kp.cell 0
  have x1 := kp.cell 1
  have x2 := kp.cell 2
  have x3 := kp.cell 3
  have x4 := kp.cell 4
  have x5 := kp.cell 5
  have xf0 := kp.frozen 0
  have xl := kp.lt
  simp at x0 x1 x2 x3 x4 x5
  obtain ⟨W1, hWn⟩ : ∃ W, u0.setCell ⟨w.heap.size, 0, none⟩ (.slice e0 m0 f0) = W := ⟨_, rfl⟩
  have HU0 : Hid (W1.heap.size = u0.heap.size) := by rw [← hWn]; simp [Hid]
  have HZ1 : Hid (W0.heap.size ≤ W1.heap.size) := by rw [← hWn]; show _ ≤ _; simp; omega
  have HC0 : Hid (W0.heap.size ≤ W1.heap.size) := by rw [← hWn]; show _ ≤ _; simp; omega
  rw [hWn] at O0 KP1 KR1 HB1
  clear oo bb kp kr hs0 szk hI0 hf bw szu KP0 KR0 HB0
  have t0 := KP1.out.cell 0
  have t1 := KP1.out.cell 1
  have t2 := KP1.out.cell 2
  have t3 := KP1.out.cell 3
  have t4 := KP1.out.cell 4
  have t5 := KP1.out.cell 5
  have tl := KP1.out.lt
  simp at t0 t1 t2 t3 t4 t5
  have HE : Hid (Op mf mg 68 W1.heap.size (W1.alloc (Obj.cells #[] 68)) (.slice (some ⟨W1.heap.size, 0, none⟩) 0 0) []) := World.ownsRow_lit (e := 68) (size := 2) (base := W1.heap.size) W1 #[] 0 (by omega) (by simp) (by simp)
  have HBE : Hid (Below W1.heap.size W1 (W1.alloc (Obj.cells #[] 68))) := (Below.refl _ _).alloc (Nat.le_refl _) _
  have HRE := (HR.out.r2.below HB1.out).below HBE.out
  have HRE' : Hid (Rp mf mg (W1.alloc (Obj.cells #[] 68)) (.slice a2 m2 p2) n0) := HRE
  clear HRE
  go_wp2_with (at_builtin; refine appNt rfl _ _ rfl W1.heap.size _ [] rfl HE.out _ n0 rfl HRE'.out (by have := HLL.out; simp; omega) (by simp) ?_)
  intro vx u1 oo' gg nn
  have oo : Op mf mg 68 W1.heap.size u1 vx n0 := by simpa using oo'
  have bb : Below W1.heap.size W1 u1 := HBE.out.trans (grown_below gg (by simp) (fun k e => by simp [Value.ownBlock] at e; omega))
  clear oo' gg nn HE HBE HRE'
  obtain ⟨e1, f1, hfx, -⟩ := own_form oo
  rw [HM2.out] at hfx
  subst hfx
  have kp := KP1.out.below bb KP1.out.lt
  have kr := KR1.out.below bb KR1.out.lt
  have hs0 := HS.out
  have szk : W0.heap.size ≤ W1.heap.size := HZ1.out
  have hI1 : ∀ j, (Value.slice e1 m2 f1).ownBlock = some j → W1.heap.size ≤ j ∧ j < u1.heap.size := fun j e => World.ownsRow.lt oo j e
  have hf : Fr (fun j => j = w.heap.size) u1 (u1.setCell ⟨w.heap.size, 4, none⟩ (.slice e1 m2 f1)) := by
    refine (Fr.refl _ _).set ?_ _ _
    rfl
  have O1 : Hid (Op mf mg 68 W1.heap.size (u1.setCell ⟨w.heap.size, 4, none⟩ (.slice e1 m2 f1)) (.slice e1 m2 f1) n0) := ownsRow_fr oo hf (fun j e h => by have := hI1 j e; omega)
  have O0' : Hid (Ow .i64 3 W0.heap.size (u1.setCell ⟨w.heap.size, 4, none⟩ (.slice e1 m2 f1)) (.slice e0 m0 f0) z0) := ownsRow_fr (O0.out.below bb) hf (fun j e h => by have := HI0.out j e; omega)
  have KP2 : Hid (Blk (u1.setCell ⟨w.heap.size, 4, none⟩ (.slice e1 m2 f1)) w.heap.size (T6 (.slice e0 m0 f0) (.slice a1 m1 p1) l0 l1 (.slice e1 m2 f1) (.slice a3 m3 p3)) 33) := kp.set 4 _
  have KR2 : Hid (Blk (u1.setCell ⟨w.heap.size, 4, none⟩ (.slice e1 m2 f1)) (w.heap.size + 1) (T6 (.slice none 0 0) (.slice none 0 0) 0 0 (.slice none 0 0) (.slice none 0 0)) 33) := kr.other _ _ (by simp)
  have bw := belowCall HB1.out bb HB1.out.size
  have HB2 : Hid (Below w.heap.size w (u1.setCell ⟨w.heap.size, 4, none⟩ (.slice e1 m2 f1))) := bw.setCell (by dsimp only; omega) _
  have szu : W1.heap.size ≤ u1.heap.size := bb.size
  have HI1 : Hid (∀ j, (Value.slice e1 m2 f1).ownBlock = some j → (W1.heap.size ≤ j ∧ w.heap.size + 2 ≤ j) ∧ j < u1.heap.size) := fun j e => by have := hI1 j e; omega
  clear x0 x1 x2 x3 x4 x5 xf0 xl hWn t0 t1 t2 t3 t4 t5 tl
  have x0 := kp.cell 0
  have x1 := kp.cell 1
  have x2 := kp.cell 2
  have x3 := kp.cell 3
  have x4 := kp.cell 4
  have x5 := kp.cell 5
  have xf4 := kp.frozen 4
  have xl := kp.lt
  simp at x0 x1 x2 x3 x4 x5
  obtain ⟨W2, hWn⟩ : ∃ W, u1.setCell ⟨w.heap.size, 4, none⟩ (.slice e1 m2 f1) = W := ⟨_, rfl⟩
  have HU1 : Hid (W2.heap.size = u1.heap.size) := by rw [← hWn]; simp [Hid]
  have HZ2 : Hid (W0.heap.size ≤ W2.heap.size) := by rw [← hWn]; show _ ≤ _; simp; omega
  have HC1 : Hid (W1.heap.size ≤ W2.heap.size) := by rw [← hWn]; show _ ≤ _; simp; omega
  rw [hWn] at O1 KP2 KR2 HB2 O0'
  clear O0
  have O0 := O0'
  clear O0'
  clear oo bb kp kr hs0 szk hI1 hf bw szu KP1 KR1 HB1
  go_wp2
  clear hWn x0 x1 x2 x3 x4 x5 xf4 xl
  have x0 := KP2.out.cell 0
  have xf0 := KP2.out.frozen 0
  have x1 := KP2.out.cell 1
  have xf1 := KP2.out.frozen 1
  have x2 := KP2.out.cell 2
  have xf2 := KP2.out.frozen 2
  have x3 := KP2.out.cell 3
  have xf3 := KP2.out.frozen 3
  have x4 := KP2.out.cell 4
  have xf4 := KP2.out.frozen 4
  have x5 := KP2.out.cell 5
  have xf5 := KP2.out.frozen 5
  have xl := KP2.out.lt
  simp at x0 x1 x2 x3 x4 x5
  rw [rounds_succ]
  have HE : Hid (Ow .i64 3 W2.heap.size (W2.alloc (Obj.cells #[] 3)) (.slice (some ⟨W2.heap.size, 0, none⟩) 0 0) []) := World.ownsRow_lit (e := 3) (size := 1) (base := W2.heap.size) W2 #[] 0 (by omega) (by simp) (by simp)
  have HBE : Hid (Below W2.heap.size W2 (W2.alloc (Obj.cells #[] 3))) := (Below.refl _ _).alloc (Nat.le_refl _) _
  have HRE := (HR.out.r1.below HB2.out).below HBE.out
  have HRE' : Hid (Rd .i64 (W2.alloc (Obj.cells #[] 3)) (.slice a1 m1 p1) z1) := HRE
  clear HRE
  go_wp2_with (at_builtin; refine appIs rfl _ _ rfl W2.heap.size _ [] rfl HE.out _ z1 rfl HRE'.out (by have := HLL.out; simp; omega) (by simp) ?_)
  intro vx u2 oo' gg nn
  have oo : Ow .i64 3 W2.heap.size u2 vx z1 := by simpa using oo'
  have bb : Below W2.heap.size W2 u2 := HBE.out.trans (grown_below gg (by simp) (fun k e => by simp [Value.ownBlock] at e; omega))
  clear oo' gg nn HE HBE HRE'
  obtain ⟨e2, f2, hfx, -⟩ := own_form oo
  rw [HM1.out] at hfx
  subst hfx
  have kp := KP2.out.below bb KP2.out.lt
  have kr := KR2.out.below bb KR2.out.lt
  have hs0 := HS.out
  have szk : W0.heap.size ≤ W2.heap.size := HZ2.out
  have hI2 : ∀ j, (Value.slice e2 m1 f2).ownBlock = some j → W2.heap.size ≤ j ∧ j < u2.heap.size := fun j e => World.ownsRow.lt oo j e
  have hf : Fr (fun j => j = w.heap.size) u2 (u2.setCell ⟨w.heap.size, 1, none⟩ (.slice e2 m1 f2)) := by
    refine (Fr.refl _ _).set ?_ _ _
    rfl
  have O2 : Hid (Ow .i64 3 W2.heap.size (u2.setCell ⟨w.heap.size, 1, none⟩ (.slice e2 m1 f2)) (.slice e2 m1 f2) z1) := ownsRow_fr oo hf (fun j e h => by have := hI2 j e; omega)
  have O0' : Hid (Ow .i64 3 W0.heap.size (u2.setCell ⟨w.heap.size, 1, none⟩ (.slice e2 m1 f2)) (.slice e0 m0 f0) z0) := ownsRow_fr (O0.out.below bb) hf (fun j e h => by have := HI0.out j e; omega)
  have O1' : Hid (Op mf mg 68 W1.heap.size (u2.setCell ⟨w.heap.size, 1, none⟩ (.slice e2 m1 f2)) (.slice e1 m2 f1) n0) := ownsRow_fr (O1.out.below bb) hf (fun j e h => by have := HI1.out j e; omega)
  have KP3 : Hid (Blk (u2.setCell ⟨w.heap.size, 1, none⟩ (.slice e2 m1 f2)) w.heap.size (T6 (.slice e0 m0 f0) (.slice e2 m1 f2) l0 l1 (.slice e1 m2 f1) (.slice a3 m3 p3)) 33) := kp.set 1 _
  have KR3 : Hid (Blk (u2.setCell ⟨w.heap.size, 1, none⟩ (.slice e2 m1 f2)) (w.heap.size + 1) (T6 (.slice none 0 0) (.slice none 0 0) 0 0 (.slice none 0 0) (.slice none 0 0)) 33) := kr.other _ _ (by simp)
  have bw := belowCall HB2.out bb HB2.out.size
  have HB3 : Hid (Below w.heap.size w (u2.setCell ⟨w.heap.size, 1, none⟩ (.slice e2 m1 f2))) := bw.setCell (by dsimp only; omega) _
  have szu : W2.heap.size ≤ u2.heap.size := bb.size
  have HI2 : Hid (∀ j, (Value.slice e2 m1 f2).ownBlock = some j → (W2.heap.size ≤ j ∧ w.heap.size + 2 ≤ j) ∧ j < u2.heap.size) := fun j e => by have := hI2 j e; omega
  clear x0 xf0 x1 xf1 x2 xf2 x3 xf3 x4 xf4 x5 xf5 xl
  have x0 := kp.cell 0
  have x1 := kp.cell 1
  have x2 := kp.cell 2
  have x3 := kp.cell 3
  have x4 := kp.cell 4
  have x5 := kp.cell 5
  have xf1 := kp.frozen 1
  have xl := kp.lt
  simp at x0 x1 x2 x3 x4 x5
  obtain ⟨W3, hWn⟩ : ∃ W, u2.setCell ⟨w.heap.size, 1, none⟩ (.slice e2 m1 f2) = W := ⟨_, rfl⟩
  have HU2 : Hid (W3.heap.size = u2.heap.size) := by rw [← hWn]; simp [Hid]
  have HZ3 : Hid (W0.heap.size ≤ W3.heap.size) := by rw [← hWn]; show _ ≤ _; simp; omega
  have HC2 : Hid (W2.heap.size ≤ W3.heap.size) := by rw [← hWn]; show _ ≤ _; simp; omega
  rw [hWn] at O2 KP3 KR3 HB3 O0' O1'
  clear O0
  have O0 := O0'
  clear O0'
  clear O1
  have O1 := O1'
  clear O1'
  clear oo bb kp kr hs0 szk hI2 hf bw szu KP2 KR2 HB2
  have t0 := KP3.out.cell 0
  have t1 := KP3.out.cell 1
  have t2 := KP3.out.cell 2
  have t3 := KP3.out.cell 3
  have t4 := KP3.out.cell 4
  have t5 := KP3.out.cell 5
  have tl := KP3.out.lt
  simp at t0 t1 t2 t3 t4 t5
  have HE : Hid (Op mf mg 68 W3.heap.size (W3.alloc (Obj.cells #[] 68)) (.slice (some ⟨W3.heap.size, 0, none⟩) 0 0) []) := World.ownsRow_lit (e := 68) (size := 2) (base := W3.heap.size) W3 #[] 0 (by omega) (by simp) (by simp)
  have HBE : Hid (Below W3.heap.size W3 (W3.alloc (Obj.cells #[] 68))) := (Below.refl _ _).alloc (Nat.le_refl _) _
  have HRE := (HR.out.r3.below HB3.out).below HBE.out
  have HRE' : Hid (Rp mf mg (W3.alloc (Obj.cells #[] 68)) (.slice a3 m3 p3) n1) := HRE
  clear HRE
  go_wp2_with (at_builtin; refine appNt rfl _ _ rfl W3.heap.size _ [] rfl HE.out _ n1 rfl HRE'.out (by have := HLL.out; simp; omega) (by simp) ?_)
  intro vx u3 oo' gg nn
  have oo : Op mf mg 68 W3.heap.size u3 vx n1 := by simpa using oo'
  have bb : Below W3.heap.size W3 u3 := HBE.out.trans (grown_below gg (by simp) (fun k e => by simp [Value.ownBlock] at e; omega))
  clear oo' gg nn HE HBE HRE'
  obtain ⟨e3, f3, hfx, -⟩ := own_form oo
  rw [HM3.out] at hfx
  subst hfx
  have kp := KP3.out.below bb KP3.out.lt
  have kr := KR3.out.below bb KR3.out.lt
  have hs0 := HS.out
  have szk : W0.heap.size ≤ W3.heap.size := HZ3.out
  have hI3 : ∀ j, (Value.slice e3 m3 f3).ownBlock = some j → W3.heap.size ≤ j ∧ j < u3.heap.size := fun j e => World.ownsRow.lt oo j e
  have hf : Fr (fun j => j = w.heap.size) u3 (u3.setCell ⟨w.heap.size, 5, none⟩ (.slice e3 m3 f3)) := by
    refine (Fr.refl _ _).set ?_ _ _
    rfl
  have O3 : Hid (Op mf mg 68 W3.heap.size (u3.setCell ⟨w.heap.size, 5, none⟩ (.slice e3 m3 f3)) (.slice e3 m3 f3) n1) := ownsRow_fr oo hf (fun j e h => by have := hI3 j e; omega)
  have O0' : Hid (Ow .i64 3 W0.heap.size (u3.setCell ⟨w.heap.size, 5, none⟩ (.slice e3 m3 f3)) (.slice e0 m0 f0) z0) := ownsRow_fr (O0.out.below bb) hf (fun j e h => by have := HI0.out j e; omega)
  have O1' : Hid (Op mf mg 68 W1.heap.size (u3.setCell ⟨w.heap.size, 5, none⟩ (.slice e3 m3 f3)) (.slice e1 m2 f1) n0) := ownsRow_fr (O1.out.below bb) hf (fun j e h => by have := HI1.out j e; omega)
  have O2' : Hid (Ow .i64 3 W2.heap.size (u3.setCell ⟨w.heap.size, 5, none⟩ (.slice e3 m3 f3)) (.slice e2 m1 f2) z1) := ownsRow_fr (O2.out.below bb) hf (fun j e h => by have := HI2.out j e; omega)
  have KP4 : Hid (Blk (u3.setCell ⟨w.heap.size, 5, none⟩ (.slice e3 m3 f3)) w.heap.size (T6 (.slice e0 m0 f0) (.slice e2 m1 f2) l0 l1 (.slice e1 m2 f1) (.slice e3 m3 f3)) 33) := kp.set 5 _
  have KR4 : Hid (Blk (u3.setCell ⟨w.heap.size, 5, none⟩ (.slice e3 m3 f3)) (w.heap.size + 1) (T6 (.slice none 0 0) (.slice none 0 0) 0 0 (.slice none 0 0) (.slice none 0 0)) 33) := kr.other _ _ (by simp)
  have bw := belowCall HB3.out bb HB3.out.size
  have HB4 : Hid (Below w.heap.size w (u3.setCell ⟨w.heap.size, 5, none⟩ (.slice e3 m3 f3))) := bw.setCell (by dsimp only; omega) _
  have szu : W3.heap.size ≤ u3.heap.size := bb.size
  have HI3 : Hid (∀ j, (Value.slice e3 m3 f3).ownBlock = some j → (W3.heap.size ≤ j ∧ w.heap.size + 2 ≤ j) ∧ j < u3.heap.size) := fun j e => by have := hI3 j e; omega
  clear x0 x1 x2 x3 x4 x5 xf1 xl hWn t0 t1 t2 t3 t4 t5 tl
  have x0 := kp.cell 0
  have x1 := kp.cell 1
  have x2 := kp.cell 2
  have x3 := kp.cell 3
  have x4 := kp.cell 4
  have x5 := kp.cell 5
  have xf5 := kp.frozen 5
  have xl := kp.lt
  simp at x0 x1 x2 x3 x4 x5
  obtain ⟨W4, hWn⟩ : ∃ W, u3.setCell ⟨w.heap.size, 5, none⟩ (.slice e3 m3 f3) = W := ⟨_, rfl⟩
  have HU3 : Hid (W4.heap.size = u3.heap.size) := by rw [← hWn]; simp [Hid]
  have HZ4 : Hid (W0.heap.size ≤ W4.heap.size) := by rw [← hWn]; show _ ≤ _; simp; omega
  have HC3 : Hid (W3.heap.size ≤ W4.heap.size) := by rw [← hWn]; show _ ≤ _; simp; omega
  rw [hWn] at O3 KP4 KR4 HB4 O0' O1' O2'
  clear O0
  have O0 := O0'
  clear O0'
  clear O1
  have O1 := O1'
  clear O1'
  clear O2
  have O2 := O2'
  clear O2'
  clear oo bb kp kr hs0 szk hI3 hf bw szu KP3 KR3 HB3
  go_wp2
  clear hWn x0 x1 x2 x3 x4 x5 xf5 xl
  have x0 := KP4.out.cell 0
  have xf0 := KP4.out.frozen 0
  have x1 := KP4.out.cell 1
  have xf1 := KP4.out.frozen 1
  have x2 := KP4.out.cell 2
  have xf2 := KP4.out.frozen 2
  have x3 := KP4.out.cell 3
  have xf3 := KP4.out.frozen 3
  have x4 := KP4.out.cell 4
  have xf4 := KP4.out.frozen 4
  have x5 := KP4.out.cell 5
  have xf5 := KP4.out.frozen 5
  have xl := KP4.out.lt
  simp at x0 x1 x2 x3 x4 x5
  rw [rounds_succ]
  have HF : Hid (∀ W, ((((((W4.setCell ⟨w.heap.size + 1, 0, none⟩ (.slice e0 m0 f0)).setCell ⟨w.heap.size + 1, 1, none⟩ (.slice e2 m1 f2)).setCell ⟨w.heap.size + 1, 2, none⟩ (.int .i64 l0)).setCell ⟨w.heap.size + 1, 3, none⟩ (.int .i64 l1)).setCell ⟨w.heap.size + 1, 4, none⟩ (.slice e1 m2 f1)).setCell ⟨w.heap.size + 1, 5, none⟩ (.slice e3 m3 f3)) = W → Blk W (w.heap.size + 1) (T6 (.slice e0 m0 f0) (.slice e2 m1 f2) l0 l1 (.slice e1 m2 f1) (.slice e3 m3 f3)) 33 ∧ TcR l0 l1 z0 z1 n0 n1 w (.returned (.agg (T6 (.slice e0 m0 f0) (.slice e2 m1 f2) l0 l1 (.slice e1 m2 f1) (.slice e3 m3 f3)))) W) := by
    rintro _ rfl
    have hf : Fr (fun j => j = w.heap.size + 1) W4 ((((((W4.setCell ⟨w.heap.size + 1, 0, none⟩ (.slice e0 m0 f0)).setCell ⟨w.heap.size + 1, 1, none⟩ (.slice e2 m1 f2)).setCell ⟨w.heap.size + 1, 2, none⟩ (.int .i64 l0)).setCell ⟨w.heap.size + 1, 3, none⟩ (.int .i64 l1)).setCell ⟨w.heap.size + 1, 4, none⟩ (.slice e1 m2 f1)).setCell ⟨w.heap.size + 1, 5, none⟩ (.slice e3 m3 f3)) := by
      refine ((((((Fr.refl _ _).set ?_ _ _).set ?_ _ _).set ?_ _ _).set ?_ _ _).set ?_ _ _).set ?_ _ _
      all_goals rfl
    have hs0 := HS.out
    have z1' := HZ1.out
    have z2' := HZ2.out
    have z3' := HZ3.out
    have d0 := HU0.out
    have d1 := HU1.out
    have d2 := HU2.out
    have d3 := HU3.out
    have e0' := HC0.out
    have e1' := HC1.out
    have e2' := HC2.out
    have e3' := HC3.out
    have hsz : W4.heap.size ≤ (((((((W4.setCell ⟨w.heap.size + 1, 0, none⟩ (.slice e0 m0 f0)).setCell ⟨w.heap.size + 1, 1, none⟩ (.slice e2 m1 f2)).setCell ⟨w.heap.size + 1, 2, none⟩ (.int .i64 l0)).setCell ⟨w.heap.size + 1, 3, none⟩ (.int .i64 l1)).setCell ⟨w.heap.size + 1, 4, none⟩ (.slice e1 m2 f1)).setCell ⟨w.heap.size + 1, 5, none⟩ (.slice e3 m3 f3))).heap.size := hf.size
    refine ⟨(((((KR4.out.set 0 _).set 1 _).set 2 _).set 3 _).set 4 _).set 5 _, _, _, _, _, rfl, ⟨?_, ?_, ?_, ?_, ?_, ?_, ?_, ?_⟩, HB4.out.trans (hf.below (by have := HB4.out.size; omega) (fun j e => by omega))⟩
    · exact (show Ow .i64 3 W0.heap.size _ _ _ from ownsRow_fr O0.out hf (fun j e h => by have := HI0.out j e; omega)).mono (by omega)
    · exact (show Ow .i64 3 W2.heap.size _ _ _ from ownsRow_fr O2.out hf (fun j e h => by have := HI2.out j e; omega)).mono (by omega)
    · exact (show Op mf mg 68 W1.heap.size _ _ _ from ownsRow_fr O1.out hf (fun j e h => by have := HI1.out j e; omega)).mono (by omega)
    · exact (show Op mf mg 68 W3.heap.size _ _ _ from ownsRow_fr O3.out hf (fun j e h => by have := HI3.out j e; omega)).mono (by omega)
    · intro j hj
      refine Nat.lt_of_lt_of_le ?_ hsz
      rcases hj with (e | e) | (e | e)
      · have := HI0.out j e; omega
      · have := HI2.out j e; omega
      · have := HI1.out j e; omega
      · have := HI3.out j e; omega
    · intro j e f; have := HI0.out j e; have := HI2.out j f; omega
    · intro j e f; have := HI1.out j e; have := HI3.out j f; omega
    · intro j e f
      rcases e with e | e <;> rcases f with f | f
      · have := HI0.out j e; have := HI1.out j f; omega
      · have := HI0.out j e; have := HI3.out j f; omega
      · have := HI2.out j e; have := HI1.out j f; omega
      · have := HI2.out j e; have := HI3.out j f; omega
  have y0 := KR4.out.cell 0
  have yf0 := KR4.out.frozen 0
  have y1 := KR4.out.cell 1
  have yf1 := KR4.out.frozen 1
  have y2 := KR4.out.cell 2
  have yf2 := KR4.out.frozen 2
  have y3 := KR4.out.cell 3
  have yf3 := KR4.out.frozen 3
  have y4 := KR4.out.cell 4
  have yf4 := KR4.out.frozen 4
  have y5 := KR4.out.cell 5
  have yf5 := KR4.out.frozen 5
  have yl := KR4.out.lt
  simp at y0 y1 y2 y3 y4 y5
  go_wp2
  exact bodyPost_ret (v := .agg (T6 (.slice e0 m0 f0) (.slice e2 m1 f2) l0 l1 (.slice e1 m2 f1) (.slice e3 m3 f3))) (results_cell_row rfl _ _ _ 33 _ (0, 0) _ rfl (HF.out _ rfl).1 Try.underlying33 rfl size33) rfl (HF.out _ rfl).2
end Go.Proofs.Ytkehcalijamhjaa

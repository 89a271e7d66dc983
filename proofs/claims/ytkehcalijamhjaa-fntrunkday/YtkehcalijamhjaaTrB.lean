/- Trunks: what is owned; a trunk copied; no condition. -/
import Derived.Test.YtkehcalijamhjaaTrA
namespace Go.Proofs.Ytkehcalijamhjaa
open Go.RowKit Go.ChangeShapes Go.WideShapes Go.ChangeAt
set_option linter.unusedVariables false
set_option linter.unusedSimpArgs false
set_option maxRecDepth 8000
theorem Fr.set {X : Nat → Prop} {w W : World} (h : Fr X w W) {g : Nat} (hg : X g) (o : Nat) (x : Value) : Fr X w (W.setCell ⟨g, o, none⟩ x) := h.trans (Fr.ofGrown (grown_set _ _ _ _) (fun k e => by have := Option.some.inj e; exact this ▸ hg))
/-- a trunk's cells -/
abbrev T6 (c0 c1 : Value) (l0 l1 : Int) (w0 w1 : Value) : Array Value := #[c0, c1, .int .i64 l0, .int .i64 l1, w0, w1]
/-- the four slices of a trunk read as these lists -/
structure Rk (W : World) (c0 c1 w0 w1 : Value) (z0 z1 : List Int) (n0 n1 : Mvs) : Prop where
  r0 : Rd .i64 W c0 z0
  r1 : Rd .i64 W c1 z1
  r2 : Rp mf mg W w0 n0
  r3 : Rp mf mg W w1 n1
theorem Rk.below {W W' : World} {c0 c1 w0 w1 : Value} {z0 z1 : List Int} {n0 n1 : Mvs} (h : Rk W c0 c1 w0 w1 z0 z1 n0 n1) (hb : Below W.heap.size W W') : Rk W' c0 c1 w0 w1 z0 z1 n0 n1 := ⟨h.r0.below hb, h.r1.below hb, h.r2.below hb, h.r3.below hb⟩
/-- a block of the trunk -/
def InT (c0 c1 w0 w1 : Value) (k : Nat) : Prop := (c0.ownBlock = some k ∨ c1.ownBlock = some k) ∨ (w0.ownBlock = some k ∨ w1.ownBlock = some k)
/-- a trunk owns its four slices, in blocks from b on and below h, each its own -/
structure Ok6 (b h : Nat) (W : World) (c0 c1 w0 w1 : Value) (z0 z1 : List Int) (n0 n1 : Mvs) : Prop where
  o0 : Ow .i64 3 b W c0 z0
  o1 : Ow .i64 3 b W c1 z1
  o2 : Op mf mg 68 b W w0 n0
  o3 : Op mf mg 68 b W w1 n1
  lt : ∀ k, InT c0 c1 w0 w1 k → k < h
  a01 : Apart c0 c1
  a23 : Apart w0 w1
  ax : ∀ k, (c0.ownBlock = some k ∨ c1.ownBlock = some k) → ¬ (w0.ownBlock = some k ∨ w1.ownBlock = some k)
section
variable {b h : Nat} {W W' : World} {c0 c1 w0 w1 : Value} {z0 z1 : List Int} {n0 n1 : Mvs}
theorem Ok6.rd (x : Ok6 b h W c0 c1 w0 w1 z0 z1 n0 n1) : Rk W c0 c1 w0 w1 z0 z1 n0 n1 := ⟨x.o0.rd, x.o1.rd, x.o2.rd, x.o3.rd⟩
theorem Ok6.below (x : Ok6 b h W c0 c1 w0 w1 z0 z1 n0 n1) (hb : Below W.heap.size W W') : Ok6 b h W' c0 c1 w0 w1 z0 z1 n0 n1 := ⟨x.o0.below hb, x.o1.below hb, x.o2.below hb, x.o3.below hb, x.lt, x.a01, x.a23, x.ax⟩
theorem Ok6.ge (x : Ok6 b h W c0 c1 w0 w1 z0 z1 n0 n1) (k : Nat) (hk : InT c0 c1 w0 w1 k) : b ≤ k ∧ k < h := by
  refine ⟨?_, x.lt k hk⟩
  rcases hk with (e | e) | (e | e)
  · exact (World.ownsRow.lt x.o0 k e).1
  · exact (World.ownsRow.lt x.o1 k e).1
  · exact (World.ownsRow.lt x.o2 k e).1
  · exact (World.ownsRow.lt x.o3 k e).1
theorem Ok6.fr {X : Nat → Prop} (x : Ok6 b h W c0 c1 w0 w1 z0 z1 n0 n1) (hf : Fr X W W') (hx : ∀ k, InT c0 c1 w0 w1 k → ¬ X k) : Ok6 b h W' c0 c1 w0 w1 z0 z1 n0 n1 :=
  ⟨ownsRow_fr x.o0 hf (fun k e => hx k (.inl (.inl e))), ownsRow_fr x.o1 hf (fun k e => hx k (.inl (.inr e))), ownsRow_fr x.o2 hf (fun k e => hx k (.inr (.inl e))), ownsRow_fr x.o3 hf (fun k e => hx k (.inr (.inr e))), x.lt, x.a01, x.a23, x.ax⟩
theorem Ok6.mono {b' h' : Nat} (x : Ok6 b h W c0 c1 w0 w1 z0 z1 n0 n1) (hb : b' ≤ b) (hh : h ≤ h') : Ok6 b' h' W c0 c1 w0 w1 z0 z1 n0 n1 :=
  ⟨x.o0.mono hb, x.o1.mono hb, x.o2.mono hb, x.o3.mono hb, fun k e => Nat.lt_of_lt_of_le (x.lt k e) hh, x.a01, x.a23, x.ax⟩
end
theorem toIntA2_c (x y : Int) (w : World) : Calls Try.prog 55 #[.agg (H2 x y)] w fun e w' => e = .returned (.agg (H2 x y)) ∧ Below w.heap.size w w' := by
  obtain ⟨W0, hW0⟩ : ∃ W0, ((w.alloc (Obj.cells (H2 x y) 29)).alloc (Obj.cells (H2 0 0) 29)).alloc (Obj.cells (H2 0 0) 29) = W0 := ⟨_, rfl⟩
  have K0 : Blk W0 w.heap.size (H2 x y) 29 := by rw [← hW0]; exact ((Blk.new _ _ _).alloc _).alloc _
  have K1 : Blk W0 (w.heap.size + 1) (H2 0 0) 29 := by rw [← hW0]; exact (Blk.newAt _ (w.heap.size + 1) _ 29 (by simp)).alloc _
  have K2 : Blk W0 (w.heap.size + 1 + 1) (H2 0 0) 29 := by rw [← hW0]; exact Blk.newAt _ (w.heap.size + 1 + 1) _ 29 (by simp)
  have kb : Below w.heap.size w W0 := by rw [← hW0]; exact (((Below.refl _ _).alloc (Nat.le_refl _) _).alloc (by simp) _).alloc (by simp; omega) _
  have HF : Hid (∀ W, (((W0.setCell ⟨w.heap.size + 1 + 1, 0, none⟩ (.int .i64 x)).setCell ⟨w.heap.size + 1 + 1, 1, none⟩ (.int .i64 y)).setCell ⟨w.heap.size + 1, 0, none⟩ (.int .i64 x)).setCell ⟨w.heap.size + 1, 1, none⟩ (.int .i64 y) = W → Blk W (w.heap.size + 1) (H2 x y) 29 ∧ Below w.heap.size w W) := by
    rintro _ rfl
    exact ⟨(((K1.other _ _ (by simp)).other _ _ (by simp)).set 0 (.int .i64 x)).set 1 (.int .i64 y), (((kb.setCell (by dsimp only; omega) _).setCell (by dsimp only; omega) _).setCell (by dsimp only; omega) _).setCell (by dsimp only; omega) _⟩
  have a0 := K0.cell 0
  have a1 := K0.cell 1
  have b0 := K1.cell 0
  have b1 := K1.cell 1
  have bf0 := K1.frozen 0
  have bf1 := K1.frozen 1
  have d0 := K2.cell 0
  have d1 := K2.cell 1
  have df0 := K2.frozen 0
  have df1 := K2.frozen 1
  have l0 := K0.lt
  have l1 := K1.lt
  have l2 := K2.lt
  simp at a0 a1 b0 b1 d0 d1
  clear K0 K1 K2 kb
  go_enter Try.func55, Try.ntmps55
  go_wp2
  refine wp_loop_rounds 3 ?_
  rw [rounds_succ]
  go_wp2
  rw [rounds_succ]
  go_wp2
  rw [rounds_succ]
  go_wp2
  exact bodyPost_ret (v := .agg (H2 x y)) (results_cell_row rfl _ _ _ 29 _ (0, 0) _ rfl (HF.out _ rfl).1 Try.underlying29 rfl size29) rfl ⟨rfl, (HF.out _ rfl).2⟩
theorem belowDrewN {B : Nat} {a w : World} (h : Below B a w) (n : Nat) : Below B a (w.drewN n) := ⟨h.os, h.tape, h.output, h.size, h.block⟩
theorem eqIntA2_t (x y : Int) (w : World) : Calls Try.prog 60 #[.agg (H2 x y), .agg (H2 x y)] w fun e w' => e = .returned (.bool true) ∧ Below w.heap.size w w' := by
  have HB : Hid (Below w.heap.size w ((w.alloc (Obj.cells (H2 x y) 29)).alloc (Obj.cells (H2 x y) 29))) := ((Below.refl _ _).alloc (Nat.le_refl _) _).alloc (by simp) _
  have e0 : (x != x) = false := by simp
  have e1 : (y != y) = false := by simp
  go_enter Try.func60, Try.ntmps60
  go_wp2
  refine wp_loop_rounds 3 ?_
  rw [rounds_succ]
  go_wp2
  go_quiet (fail)
  go_wp2
  rw [rounds_succ]
  go_wp2
  go_quiet (fail)
  go_wp2
  rw [rounds_succ]
  go_wp2
  go_ret
  exact ⟨rfl, belowDrewN HB.out _⟩
set_option maxHeartbeats 3200000 in
theorem toTrunk_c (c0 c1 w0 w1 : Value) (l0 l1 : Int) (z0 z1 : List Int) (n0 n1 : Mvs) (w : World) (h : Rk w c0 c1 w0 w1 z0 z1 n0 n1) (hl : (z0.length : Int) + z1.length + (n0.length + n1.length) ≤ 1048576) :
    Calls Try.prog 25 #[.agg (T6 c0 c1 l0 l1 w0 w1)] w fun e w' => ∃ c0' c1' w0' w1', e = .returned (.agg (T6 c0' c1' l0 l1 w0' w1')) ∧ Ok6 w.heap.size w'.heap.size w' c0' c1' w0' w1' z0 z1 n0 n1 ∧ Below w.heap.size w w' := by
  obtain ⟨W0, hW0⟩ : ∃ W0, ((w.alloc (Obj.cells (T6 c0 c1 l0 l1 w0 w1) 45)).alloc (Obj.cells (T6 (.slice none 0 0) (.slice none 0 0) 0 0 (.slice none 0 0) (.slice none 0 0)) 33)).alloc (Obj.cells (T6 (.slice none 0 0) (.slice none 0 0) 0 0 (.slice none 0 0) (.slice none 0 0)) 33) = W0 := ⟨_, rfl⟩
  have zs : W0.heap.size = w.heap.size + 3 := by rw [← hW0]; simp
  have HB : Hid (Below w.heap.size w W0) := by rw [← hW0]; exact (((Below.refl _ _).alloc (Nat.le_refl _) _).alloc (by simp) _).alloc (by simp; omega) _
  have K0 : Hid (Blk W0 w.heap.size (T6 c0 c1 l0 l1 w0 w1) 45) := by rw [← hW0]; exact ((Blk.new _ _ _).alloc _).alloc _
  have K1 : Hid (Blk W0 (w.heap.size + 1) (T6 (.slice none 0 0) (.slice none 0 0) 0 0 (.slice none 0 0) (.slice none 0 0)) 33) := by rw [← hW0]; exact (Blk.newAt _ (w.heap.size + 1) _ 33 (by simp)).alloc _
  have K2 : Hid (Blk W0 (w.heap.size + 1 + 1) (T6 (.slice none 0 0) (.slice none 0 0) 0 0 (.slice none 0 0) (.slice none 0 0)) 33) := by rw [← hW0]; exact Blk.newAt _ (w.heap.size + 1 + 1) _ 33 (by simp)
  have HR : Hid (Rk w c0 c1 w0 w1 z0 z1 n0 n1) := h
  obtain ⟨a0, p0, hv0, -⟩ := h.r0
  obtain ⟨a1, p1, hv1, -⟩ := h.r1
  obtain ⟨a2, p2, hv2, -⟩ := h.r2
  obtain ⟨a3, p3, hv3, -⟩ := h.r3
  subst hv0 hv1 hv2 hv3
  have x0 := K0.out.cell 0
  have x1 := K0.out.cell 1
  simp at x0 x1
  clear h
  go_enter Try.func25, Try.ntmps25
  go_wp2_with (fail)
  clear hW0
  refine (toIntSA2_c _ _ z0 z1 W0 (HR.out.r0.below HB.out) (HR.out.r1.below HB.out) (by omega) (by omega)).mono ?_
  rintro e w1 ⟨u0, u1, rfl, o0, o1, ap, b1⟩
  obtain ⟨e0, f0, hu0, -⟩ := own_form o0
  obtain ⟨e1, f1, hu1, -⟩ := own_form o1
  subst hu0 hu1
  have i0 : ∀ k, (Value.slice e0 z0.length f0).ownBlock = some k → W0.heap.size ≤ k ∧ k < w1.heap.size := fun k e => World.ownsRow.lt o0 k e
  have i1 : ∀ k, (Value.slice e1 z1.length f1).ownBlock = some k → W0.heap.size ≤ k ∧ k < w1.heap.size := fun k e => World.ownsRow.lt o1 k e
  have k0 := K0.out.below b1 K0.out.lt
  have k1 := K1.out.below b1 K1.out.lt
  have k2 := K2.out.below b1 K2.out.lt
  have hf : Fr (fun k => k = w.heap.size + 1 + 1) w1 ((w1.setCell ⟨w.heap.size + 1 + 1, 0, none⟩ (.slice e0 z0.length f0)).setCell ⟨w.heap.size + 1 + 1, 1, none⟩ (.slice e1 z1.length f1)) := (Fr.ofGrown (grown_set _ _ _ _) (fun k e => (Option.some.inj e).symm)).trans (Fr.ofGrown (grown_set _ _ _ _) (fun k e => (Option.some.inj e).symm))
  have bb : Below w.heap.size w w1 := belowCall HB.out b1 HB.out.size
  have bz : W0.heap.size ≤ w1.heap.size := b1.size
  have HO0 : Hid (Ow .i64 3 W0.heap.size ((w1.setCell ⟨w.heap.size + 1 + 1, 0, none⟩ (.slice e0 z0.length f0)).setCell ⟨w.heap.size + 1 + 1, 1, none⟩ (.slice e1 z1.length f1)) (.slice e0 z0.length f0) z0) := ownsRow_fr o0 hf (fun k e h => by have := i0 k e; omega)
  have HO1 : Hid (Ow .i64 3 W0.heap.size ((w1.setCell ⟨w.heap.size + 1 + 1, 0, none⟩ (.slice e0 z0.length f0)).setCell ⟨w.heap.size + 1 + 1, 1, none⟩ (.slice e1 z1.length f1)) (.slice e1 z1.length f1) z1) := ownsRow_fr o1 hf (fun k e h => by have := i1 k e; omega)
  have HAP : Hid (Apart (.slice e0 z0.length f0) (.slice e1 z1.length f1)) := ap
  have HI : Hid ((∀ k, (Value.slice e0 z0.length f0).ownBlock = some k → W0.heap.size ≤ k ∧ k < w1.heap.size) ∧ (∀ k, (Value.slice e1 z1.length f1).ownBlock = some k → W0.heap.size ≤ k ∧ k < w1.heap.size)) := ⟨i0, i1⟩
  have HBB : Hid (Below w.heap.size w ((w1.setCell ⟨w.heap.size + 1 + 1, 0, none⟩ (.slice e0 z0.length f0)).setCell ⟨w.heap.size + 1 + 1, 1, none⟩ (.slice e1 z1.length f1))) := (bb.setCell (by dsimp only; omega) _).setCell (by dsimp only; omega) _
  have Q0 : Hid (Blk ((w1.setCell ⟨w.heap.size + 1 + 1, 0, none⟩ (.slice e0 z0.length f0)).setCell ⟨w.heap.size + 1 + 1, 1, none⟩ (.slice e1 z1.length f1)) w.heap.size (T6 (.slice a0 z0.length p0) (.slice a1 z1.length p1) l0 l1 (.slice a2 n0.length p2) (.slice a3 n1.length p3)) 45) := (k0.other _ _ (by simp; omega)).other _ _ (by simp; omega)
  have Q1 : Hid (Blk ((w1.setCell ⟨w.heap.size + 1 + 1, 0, none⟩ (.slice e0 z0.length f0)).setCell ⟨w.heap.size + 1 + 1, 1, none⟩ (.slice e1 z1.length f1)) (w.heap.size + 1) (T6 (.slice none 0 0) (.slice none 0 0) 0 0 (.slice none 0 0) (.slice none 0 0)) 33) := (k1.other _ _ (by simp)).other _ _ (by simp)
  have Q2 : Hid (Blk ((w1.setCell ⟨w.heap.size + 1 + 1, 0, none⟩ (.slice e0 z0.length f0)).setCell ⟨w.heap.size + 1 + 1, 1, none⟩ (.slice e1 z1.length f1)) (w.heap.size + 1 + 1) (T6 (.slice e0 z0.length f0) (.slice e1 z1.length f1) 0 0 (.slice none 0 0) (.slice none 0 0)) 33) := (k2.set 0 _).set 1 _
  have d0 := k2.cell 0
  have d1 := k2.cell 1
  have df0 := k2.frozen 0
  have df1 := k2.frozen 1
  simp at d0 d1
  obtain ⟨W2, hW2⟩ : ∃ W, (w1.setCell ⟨w.heap.size + 1 + 1, 0, none⟩ (.slice e0 z0.length f0)).setCell ⟨w.heap.size + 1 + 1, 1, none⟩ (.slice e1 z1.length f1) = W := ⟨_, rfl⟩
  have HZ2 : Hid (W2.heap.size = w1.heap.size) := by rw [← hW2]; simp [Hid]
  rw [hW2] at HO0 HO1 HBB Q0 Q1 Q2
  have x2 := Q0.out.cell 2
  have x3 := Q0.out.cell 3
  have q0l := Q0.out.lt
  simp at x2 x3
  clear k0 k1 k2 hf bb i0 i1 o0 o1 ap b1 HB K0 K1 K2 x0 x1
  go_wp2_with (fail)
  refine (toIntA2_c l0 l1 W2).mono ?_
  rintro e w3 ⟨rfl, b3⟩
  have k0 := Q0.out.below b3 Q0.out.lt
  have k1 := Q1.out.below b3 Q1.out.lt
  have k2 := Q2.out.below b3 Q2.out.lt
  have s3 : W2.heap.size ≤ w3.heap.size := b3.size
  have hf : Fr (fun k => k = w.heap.size + 1 + 1) w3 ((w3.setCell ⟨w.heap.size + 1 + 1, 2, none⟩ (.int .i64 l0)).setCell ⟨w.heap.size + 1 + 1, 3, none⟩ (.int .i64 l1)) := (Fr.ofGrown (grown_set _ _ _ _) (fun k e => (Option.some.inj e).symm)).trans (Fr.ofGrown (grown_set _ _ _ _) (fun k e => (Option.some.inj e).symm))
  have bb : Below w.heap.size w w3 := belowCall HBB.out b3 HBB.out.size
  have P0 : Hid (Ow .i64 3 W0.heap.size ((w3.setCell ⟨w.heap.size + 1 + 1, 2, none⟩ (.int .i64 l0)).setCell ⟨w.heap.size + 1 + 1, 3, none⟩ (.int .i64 l1)) (.slice e0 z0.length f0) z0) := ownsRow_fr (HO0.out.below b3) hf (fun k e h => by have := HI.out.1 k e; omega)
  have P1 : Hid (Ow .i64 3 W0.heap.size ((w3.setCell ⟨w.heap.size + 1 + 1, 2, none⟩ (.int .i64 l0)).setCell ⟨w.heap.size + 1 + 1, 3, none⟩ (.int .i64 l1)) (.slice e1 z1.length f1) z1) := ownsRow_fr (HO1.out.below b3) hf (fun k e h => by have := HI.out.2 k e; omega)
  have HB4 : Hid (Below w.heap.size w ((w3.setCell ⟨w.heap.size + 1 + 1, 2, none⟩ (.int .i64 l0)).setCell ⟨w.heap.size + 1 + 1, 3, none⟩ (.int .i64 l1))) := (bb.setCell (by dsimp only; omega) _).setCell (by dsimp only; omega) _
  have R0 : Hid (Blk ((w3.setCell ⟨w.heap.size + 1 + 1, 2, none⟩ (.int .i64 l0)).setCell ⟨w.heap.size + 1 + 1, 3, none⟩ (.int .i64 l1)) w.heap.size (T6 (.slice a0 z0.length p0) (.slice a1 z1.length p1) l0 l1 (.slice a2 n0.length p2) (.slice a3 n1.length p3)) 45) := (k0.other _ _ (by simp; omega)).other _ _ (by simp; omega)
  have R1 : Hid (Blk ((w3.setCell ⟨w.heap.size + 1 + 1, 2, none⟩ (.int .i64 l0)).setCell ⟨w.heap.size + 1 + 1, 3, none⟩ (.int .i64 l1)) (w.heap.size + 1) (T6 (.slice none 0 0) (.slice none 0 0) 0 0 (.slice none 0 0) (.slice none 0 0)) 33) := (k1.other _ _ (by simp)).other _ _ (by simp)
  have R2 : Hid (Blk ((w3.setCell ⟨w.heap.size + 1 + 1, 2, none⟩ (.int .i64 l0)).setCell ⟨w.heap.size + 1 + 1, 3, none⟩ (.int .i64 l1)) (w.heap.size + 1 + 1) (T6 (.slice e0 z0.length f0) (.slice e1 z1.length f1) l0 l1 (.slice none 0 0) (.slice none 0 0)) 33) := (k2.set 2 _).set 3 _
  have d2 := k2.cell 2
  have d3 := k2.cell 3
  have df2 := k2.frozen 2
  have df3 := k2.frozen 3
  simp at d2 d3
  obtain ⟨W4, hW4⟩ : ∃ W, (w3.setCell ⟨w.heap.size + 1 + 1, 2, none⟩ (.int .i64 l0)).setCell ⟨w.heap.size + 1 + 1, 3, none⟩ (.int .i64 l1) = W := ⟨_, rfl⟩
  have HZ4 : Hid (W4.heap.size = w3.heap.size) := by rw [← hW4]; simp [Hid]
  rw [hW4] at P0 P1 HB4 R0 R1 R2
  have x4 := R0.out.cell 4
  have x5 := R0.out.cell 5
  have r0l := R0.out.lt
  simp at x4 x5
  clear k0 k1 k2 hf bb b3 HO0 HO1 HBB Q0 Q1 Q2 x2 x3 d0 d1 df0 df1 q0l
  go_wp2_with (fail)
  refine (toNoteSA2_c _ _ n0 n1 W4 (HR.out.r2.below HB4.out) (HR.out.r3.below HB4.out) (by omega) (by omega)).mono ?_
  rintro e w5 ⟨u2, u3, rfl, o2, o3, ap2, b5⟩
  obtain ⟨e2, f2, hu2, -⟩ := own_form o2
  obtain ⟨e3, f3, hu3, -⟩ := own_form o3
  subst hu2 hu3
  have i2 : ∀ k, (Value.slice e2 n0.length f2).ownBlock = some k → W4.heap.size ≤ k ∧ k < w5.heap.size := fun k e => World.ownsRow.lt o2 k e
  have i3 : ∀ k, (Value.slice e3 n1.length f3).ownBlock = some k → W4.heap.size ≤ k ∧ k < w5.heap.size := fun k e => World.ownsRow.lt o3 k e
  have k1 := R1.out.below b5 R1.out.lt
  have k2 := R2.out.below b5 R2.out.lt
  have s5 : W4.heap.size ≤ w5.heap.size := b5.size
  have bb : Below w.heap.size w w5 := belowCall HB4.out b5 HB4.out.size
  have z2 := HZ2.out
  have z4 := HZ4.out
  have hz1 : W0.heap.size ≤ w1.heap.size := bz
  have HF : Hid (∀ W, (((((((w5.setCell ⟨w.heap.size + 1 + 1, 4, none⟩ (.slice e2 n0.length f2)).setCell ⟨w.heap.size + 1 + 1, 5, none⟩ (.slice e3 n1.length f3)).setCell ⟨w.heap.size + 1, 0, none⟩ (.slice e0 z0.length f0)).setCell ⟨w.heap.size + 1, 1, none⟩ (.slice e1 z1.length f1)).setCell ⟨w.heap.size + 1, 2, none⟩ (.int .i64 l0)).setCell ⟨w.heap.size + 1, 3, none⟩ (.int .i64 l1)).setCell ⟨w.heap.size + 1, 4, none⟩ (.slice e2 n0.length f2)).setCell ⟨w.heap.size + 1, 5, none⟩ (.slice e3 n1.length f3) = W →
      Blk W (w.heap.size + 1) (T6 (.slice e0 z0.length f0) (.slice e1 z1.length f1) l0 l1 (.slice e2 n0.length f2) (.slice e3 n1.length f3)) 33 ∧ Ok6 w.heap.size W.heap.size W (.slice e0 z0.length f0) (.slice e1 z1.length f1) (.slice e2 n0.length f2) (.slice e3 n1.length f3) z0 z1 n0 n1 ∧ Below w.heap.size w W) := by
    rintro _ rfl
    have hf : Fr (fun k => k = w.heap.size + 1 + 1 ∨ k = w.heap.size + 1) w5 ((((((((w5.setCell ⟨w.heap.size + 1 + 1, 4, none⟩ (.slice e2 n0.length f2)).setCell ⟨w.heap.size + 1 + 1, 5, none⟩ (.slice e3 n1.length f3)).setCell ⟨w.heap.size + 1, 0, none⟩ (.slice e0 z0.length f0)).setCell ⟨w.heap.size + 1, 1, none⟩ (.slice e1 z1.length f1)).setCell ⟨w.heap.size + 1, 2, none⟩ (.int .i64 l0)).setCell ⟨w.heap.size + 1, 3, none⟩ (.int .i64 l1)).setCell ⟨w.heap.size + 1, 4, none⟩ (.slice e2 n0.length f2)).setCell ⟨w.heap.size + 1, 5, none⟩ (.slice e3 n1.length f3)) := by
      refine ((((((((Fr.refl _ _).set ?_ _ _).set ?_ _ _).set ?_ _ _).set ?_ _ _).set ?_ _ _).set ?_ _ _).set ?_ _ _).set ?_ _ _
      all_goals first | exact .inl rfl | exact .inr rfl
    refine ⟨(((((((k1.other _ _ (by simp)).other _ _ (by simp)).set 0 _).set 1 _).set 2 _).set 3 _).set 4 _).set 5 _, ⟨?_, ?_, ?_, ?_, ?_, HAP.out, ap2, ?_⟩, ?_⟩
    · exact (show Ow .i64 3 W0.heap.size _ _ _ from ownsRow_fr (P0.out.below b5) hf (fun k e h => by have := HI.out.1 k e; omega)).mono (by omega)
    · exact (show Ow .i64 3 W0.heap.size _ _ _ from ownsRow_fr (P1.out.below b5) hf (fun k e h => by have := HI.out.2 k e; omega)).mono (by omega)
    · exact (show Op mf mg 68 W4.heap.size _ _ _ from ownsRow_fr o2 hf (fun k e h => by have := i2 k e; omega)).mono (by omega)
    · exact (show Op mf mg 68 W4.heap.size _ _ _ from ownsRow_fr o3 hf (fun k e h => by have := i3 k e; omega)).mono (by omega)
    · intro k hk
      have hz : w5.heap.size ≤ ((((((((w5.setCell ⟨w.heap.size + 1 + 1, 4, none⟩ (.slice e2 n0.length f2)).setCell ⟨w.heap.size + 1 + 1, 5, none⟩ (.slice e3 n1.length f3)).setCell ⟨w.heap.size + 1, 0, none⟩ (.slice e0 z0.length f0)).setCell ⟨w.heap.size + 1, 1, none⟩ (.slice e1 z1.length f1)).setCell ⟨w.heap.size + 1, 2, none⟩ (.int .i64 l0)).setCell ⟨w.heap.size + 1, 3, none⟩ (.int .i64 l1)).setCell ⟨w.heap.size + 1, 4, none⟩ (.slice e2 n0.length f2)).setCell ⟨w.heap.size + 1, 5, none⟩ (.slice e3 n1.length f3)).heap.size := hf.size
      refine Nat.lt_of_lt_of_le ?_ hz
      rcases hk with (e | e) | (e | e)
      · have := HI.out.1 k e; omega
      · have := HI.out.2 k e; omega
      · exact (i2 k e).2
      · exact (i3 k e).2
    · intro k hk hn
      rcases hk with e | e <;> rcases hn with f | f
      · have := HI.out.1 k e; have := i2 k f; omega
      · have := HI.out.1 k e; have := i3 k f; omega
      · have := HI.out.2 k e; have := i2 k f; omega
      · have := HI.out.2 k e; have := i3 k f; omega
    · exact bb.trans (hf.below (by omega) (fun k e => by omega))
  have d0 := k2.cell 0
  have d1 := k2.cell 1
  have d4 := k2.cell 4
  have d5 := k2.cell 5
  have e2' := k2.cell 2
  have e3' := k2.cell 3
  have df4 := k2.frozen 4
  have df5 := k2.frozen 5
  have g0 := k1.cell 0
  have g1 := k1.cell 1
  have g2 := k1.cell 2
  have g3 := k1.cell 3
  have g4 := k1.cell 4
  have g5 := k1.cell 5
  have gf0 := k1.frozen 0
  have gf1 := k1.frozen 1
  have gf2 := k1.frozen 2
  have gf3 := k1.frozen 3
  have gf4 := k1.frozen 4
  have gf5 := k1.frozen 5
  have k1l := k1.lt
  have k2l := k2.lt
  simp at d0 d1 d4 d5 e2' e3' g0 g1 g2 g3 g4 g5
  clear k1 k2 i2 i3 bb o2 o3 ap2 b5 P0 P1 HB4 R0 R1 R2 x4 x5 d2 d3 df2 df3
  go_wp2
  exact bodyPost_ret (v := .agg (T6 (.slice e0 z0.length f0) (.slice e1 z1.length f1) l0 l1 (.slice e2 n0.length f2) (.slice e3 n1.length f3))) (results_cell_row rfl _ _ _ 33 _ (0, 0) _ rfl (HF.out _ rfl).1 Try.underlying33 rfl size33) rfl ⟨_, _, _, _, rfl, (HF.out _ rfl).2⟩
end Go.Proofs.Ytkehcalijamhjaa

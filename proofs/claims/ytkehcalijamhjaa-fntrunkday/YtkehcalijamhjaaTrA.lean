/- Two slices at once: counted, copied, compared, marked, held; no condition. -/
import Derived.Test.YtkehcalijamhjaaNts
import Derived.Test.YtkehcalijamhjaaSlI
namespace Go.Proofs.Ytkehcalijamhjaa
open Go.RowKit Go.ChangeShapes Go.WideShapes Go.ChangeAt
set_option linter.unusedVariables false
set_option linter.unusedSimpArgs false
set_option maxRecDepth 8000

/-- nothing was written but blocks of X, and new blocks -/
structure Fr (X : Nat → Prop) (w w' : World) : Prop where
  os : w'.os = w.os
  tape : w'.tape = w.tape
  output : w'.output = w.output
  size : w.heap.size ≤ w'.heap.size
  block : ∀ k, k < w.heap.size → ¬ X k → w'.heap[k]? = w.heap[k]?
theorem Fr.refl (X : Nat → Prop) (w : World) : Fr X w w := ⟨rfl, rfl, rfl, Nat.le_refl _, fun _ _ _ => rfl⟩
theorem Fr.trans {X : Nat → Prop} {a b c : World} (h : Fr X a b) (h' : Fr X b c) : Fr X a c :=
  ⟨h'.os.trans h.os, h'.tape.trans h.tape, h'.output.trans h.output, Nat.le_trans h.size h'.size, fun k hk ho => (h'.block k (Nat.lt_of_lt_of_le hk h.size) ho).trans (h.block k hk ho)⟩
theorem Fr.mono {X Y : Nat → Prop} {w w' : World} (h : Fr X w w') (hx : ∀ k, k < w.heap.size → X k → Y k) : Fr Y w w' := ⟨h.os, h.tape, h.output, h.size, fun k hk ho => h.block k hk (fun e => ho (hx k hk e))⟩
theorem Fr.ofGrown {X : Nat → Prop} {w w' : World} {row : Option Nat} (h : w.grownBy w' row) (hr : ∀ k, row = some k → X k) : Fr X w w' :=
  ⟨h.os, h.tape, h.output, h.size, fun k hk ho => h.block k hk (fun e => ho (hr k e.symm))⟩
theorem Fr.ofBelow {X : Nat → Prop} {w w' : World} (h : Below w.heap.size w w') : Fr X w w' := ⟨h.os, h.tape, h.output, h.size, fun k hk _ => h.block k hk⟩
theorem Fr.below {X : Nat → Prop} {B : Nat} {w w' : World} (h : Fr X w w') (hB : B ≤ w.heap.size) (hx : ∀ k, X k → B ≤ k) : Below B w w' := ⟨h.os, h.tape, h.output, h.size, fun k hk => h.block k (by omega) (fun e => by have := hx k e; omega)⟩
theorem ownsRow_fr {X : Nat → Prop} {base : Nat} {w w' : World} {e : TypeId} {s : Nat} {v : Value} {n : Nat} {xs : List Value} (h : w.ownsRow base e s v n xs) (hm : Fr X w w') (ho : ∀ k, v.ownBlock = some k → ¬ X k) : w'.ownsRow base e s v n xs := by
  refine ⟨h.1, ?_⟩
  rcases h.2 with h2 | ⟨g, cap, cur, hv, hg, hb, r⟩
  · exact .inl h2
  · subst hv
    exact .inr ⟨g, cap, cur, rfl, hg, by rw [hm.block g (Blk.lt hb) (ho g rfl)]; exact hb, r⟩
theorem Blk.fr {X : Nat → Prop} {w w' : World} {g : Nat} {cs : Array Value} {t : TypeId} (h : Blk w g cs t) (hm : Fr X w w') (ho : ¬ X g) : Blk w' g cs t := by
  rw [Blk, hm.block g h.lt ho]; exact h
/-- two slices that share no block -/
def Apart (v v' : Value) : Prop := ∀ k, v.ownBlock = some k → v'.ownBlock ≠ some k
abbrev A2 (v v' : Value) : Array Value := #[v, v']
theorem size28 : (Try.prog.info? 28).map (·.size) = some 2 := by kernel_rfl
theorem size29 : (Try.prog.info? 29).map (·.size) = some 2 := by kernel_rfl
theorem size31 : (Try.prog.info? 31).map (·.size) = some 2 := by kernel_rfl
theorem size33 : (Try.prog.info? 33).map (·.size) = some 6 := by kernel_rfl
theorem szIntS_c (v : Value) (ls : List Int) (left : Int) (w : World) (h : Rd .i64 w v ls) (h0 : 0 ≤ left) (hl : left ≤ 1048576) :
    Calls Try.prog 71 #[v, .int .i64 left] w fun e w' => e = .returned (.int .i64 (if left < (ls.length : Int) then -1 else left - ls.length)) ∧ w' = w := by
  obtain ⟨a, cap, rfl, h1, h2, h3⟩ := h
  unfold maxLen at h2
  clear h3
  by_cases hc : left < (ls.length : Int)
  · have hn : left - (ls.length : Int) < 0 := by omega
    rw [if_pos hc]
    go_enter Try.func71, Try.ntmps71
    go_wp2
    go_ret
    exact ⟨rfl, rfl⟩
  · have hn : (left - (ls.length : Int) < 0) = False := eq_false (by omega)
    rw [if_neg hc]
    go_enter Try.func71, Try.ntmps71
    go_wp2
    go_ret
    exact ⟨rfl, rfl⟩

set_option maxHeartbeats 1600000 in
theorem szIntSA2_c (v0 v1 : Value) (z0 z1 : List Int) (left : Int) (w : World) (h0 : Rd .i64 w v0 z0) (h1 : Rd .i64 w v1 z1) (hl0 : 0 ≤ left) (hl : left ≤ 1048576) :
    Calls Try.prog 52 #[.agg (A2 v0 v1), .int .i64 left] w fun e w' => ∃ z : Int, e = .returned (.int .i64 z) ∧ z ≤ left ∧ (0 ≤ z → (z0.length : Int) + z1.length + z = left) ∧ Below w.heap.size w w' := by
  obtain ⟨W0, hW0⟩ : ∃ W0, w.alloc (Obj.cells (A2 v0 v1) 28) = W0 := ⟨_, rfl⟩
  have HB : Hid (Below w.heap.size w W0) := by rw [← hW0]; exact (Below.refl _ _).alloc (Nat.le_refl _) _
  have K0 : Hid (Blk W0 w.heap.size (A2 v0 v1) 28) := by rw [← hW0]; exact Blk.new _ _ _
  have C0 : Hid (Calls Try.prog 71 #[v0, .int .i64 left] W0 fun e w' => e = .returned (.int .i64 (if left < (z0.length : Int) then -1 else left - z0.length)) ∧ w' = W0) := szIntS_c v0 z0 left W0 (h0.below HB.out) hl0 hl
  have C1 : Hid (¬ left < (z0.length : Int) → Calls Try.prog 71 #[v1, .int .i64 (left - z0.length)] W0 fun e w' => e = .returned (.int .i64 (if left - z0.length < (z1.length : Int) then -1 else left - z0.length - z1.length)) ∧ w' = W0) := fun hh => szIntS_c v1 z1 (left - z0.length) W0 (h1.below HB.out) (by omega) (by omega)
  obtain ⟨a0, cap0, hv0, -⟩ := id h0
  obtain ⟨m0, hm0⟩ : ∃ m, z0.length = m := ⟨_, rfl⟩
  have HM0 : Hid (z0.length = m0) := hm0
  rw [hm0] at hv0
  subst hv0
  obtain ⟨a1, cap1, hv1, -⟩ := id h1
  obtain ⟨m1, hm1⟩ : ∃ m, z1.length = m := ⟨_, rfl⟩
  have HM1 : Hid (z1.length = m1) := hm1
  rw [hm1] at hv1
  subst hv1
  rw [hm0] at C0 C1
  rw [hm1] at C1
  rw [hm0, hm1]
  have c0 := K0.out.cell 0
  have c1 := K0.out.cell 1
  have kl := K0.out.lt
  simp at c0 c1
  clear h0 h1 hm0 hm1 HM0 HM1
  go_enter Try.func52, Try.ntmps52
  go_wp2
  refine wp_loop_rounds 3 ?_
  rw [rounds_succ]
  go_wp2_with (fail)
  refine C0.out.mono ?_
  rintro e wq ⟨rfl, hq⟩
  rw [hq]
  clear hq wq
  by_cases hc : left < (m0 : Int)
  · rw [if_pos hc]
    have hnn : ((-1 : Int) < 0) = True := by simp
    go_wp2
    go_ret
    exact ⟨-1, rfl, by omega, fun h => absurd h (by omega), HB.out⟩
  · rw [if_neg hc]
    have hnn : (left - (m0 : Int) < 0) = False := eq_false (by omega)
    go_wp2
    rw [rounds_succ]
    go_wp2_with (fail)
    refine (C1.out hc).mono ?_
    rintro e wq ⟨rfl, hq⟩
    rw [hq]
    clear hq wq
    by_cases hd : left - (m0 : Int) < (m1 : Int)
    · rw [if_pos hd]
      go_wp2
      go_ret
      exact ⟨-1, rfl, by omega, fun h => absurd h (by omega), HB.out⟩
    · rw [if_neg hd]
      have hnd : (left - (m0 : Int) - (m1 : Int) < 0) = False := eq_false (by omega)
      go_wp2
      rw [rounds_succ]
      go_wp2
      go_ret
      exact ⟨_, rfl, by omega, fun h => by omega, HB.out⟩

set_option maxHeartbeats 3200000 in
theorem toIntSA2_c (v0 v1 : Value) (z0 z1 : List Int) (w : World) (h0 : Rd .i64 w v0 z0) (h1 : Rd .i64 w v1 z1) (n0 : z0.length ≤ 1048576) (n1 : z1.length ≤ 1048576) :
    Calls Try.prog 54 #[.agg (A2 v0 v1)] w fun e w' => ∃ v0' v1', e = .returned (.agg (A2 v0' v1')) ∧ Ow .i64 3 w.heap.size w' v0' z0 ∧ Ow .i64 3 w.heap.size w' v1' z1 ∧ Apart v0' v1' ∧ Below w.heap.size w w' := by
  obtain ⟨W0, hW0⟩ : ∃ W0, ((w.alloc (Obj.cells (A2 v0 v1) 28)).alloc (Obj.cells (A2 (.slice none 0 0) (.slice none 0 0)) 28)).alloc (Obj.cells (A2 (.slice none 0 0) (.slice none 0 0)) 28) = W0 := ⟨_, rfl⟩
  have zs : W0.heap.size = w.heap.size + 3 := by rw [← hW0]; simp
  have HB : Hid (Below w.heap.size w W0) := by rw [← hW0]; exact (((Below.refl _ _).alloc (Nat.le_refl _) _).alloc (by simp) _).alloc (by simp; omega) _
  have K0 : Hid (Blk W0 w.heap.size (A2 v0 v1) 28) := by rw [← hW0]; exact ((Blk.new _ _ _).alloc _).alloc _
  have K1 : Hid (Blk W0 (w.heap.size + 1) (A2 (.slice none 0 0) (.slice none 0 0)) 28) := by rw [← hW0]; exact (Blk.newAt _ (w.heap.size + 1) _ 28 (by simp)).alloc _
  have K2 : Hid (Blk W0 (w.heap.size + 1 + 1) (A2 (.slice none 0 0) (.slice none 0 0)) 28) := by rw [← hW0]; exact Blk.newAt _ (w.heap.size + 1 + 1) _ 28 (by simp)
  have HR0 : Hid (Rd .i64 w v0 z0) := h0
  have HR1 : Hid (Rd .i64 w v1 z1) := h1
  obtain ⟨a0, cap0, hv0, -⟩ := id h0
  obtain ⟨m0, hm0⟩ : ∃ m, z0.length = m := ⟨_, rfl⟩
  have HM0 : Hid (z0.length = m0) := hm0
  rw [hm0] at hv0
  subst hv0
  obtain ⟨a1, cap1, hv1, -⟩ := id h1
  obtain ⟨m1, hm1⟩ : ∃ m, z1.length = m := ⟨_, rfl⟩
  have HM1 : Hid (z1.length = m1) := hm1
  rw [hm1] at hv1
  subst hv1
  have c0 := K0.out.cell 0
  have c1 := K0.out.cell 1
  simp at c0 c1
  clear h0 h1 hm0 hm1
  go_enter Try.func54, Try.ntmps54
  go_wp2
  clear hW0
  refine wp_loop_rounds 3 ?_
  rw [rounds_succ]
  go_wp2_with (fail)
  refine (toI _ z0 W0 (HR0.out.below HB.out) n0).mono ?_
  rintro e w1 ⟨x0, rfl, o0, b0⟩
  obtain ⟨ax0, cx0, hfx, -⟩ := own_form o0
  rw [HM0.out] at hfx
  subst hfx
  have q0 := K0.out.below b0 K0.out.lt
  have q1 := K1.out.below b0 K1.out.lt
  have q2 := K2.out.below b0 K2.out.lt
  have hx0 : ∀ k, (Value.slice ax0 m0 cx0).ownBlock = some k → w.heap.size + 3 ≤ k ∧ k < w1.heap.size := fun k e => by have := World.ownsRow.lt o0 k e; omega
  have bb : Below w.heap.size w w1 := belowCall HB.out b0 HB.out.size
  have hsz : w.heap.size + 3 ≤ w1.heap.size := by have := b0.size; omega
  have ho1 : Ow .i64 3 W0.heap.size (w1.setCell ⟨w.heap.size + 1 + 1, 0, none⟩ (Value.slice ax0 m0 cx0)) (Value.slice ax0 m0 cx0) z0 := World.ownsRow.kept o0 (grown_set w1 (w.heap.size + 1 + 1) 0 (Value.slice ax0 m0 cx0)) (by cases hv : (Value.slice ax0 m0 cx0).ownBlock with
    | none => exact .inl rfl
    | some k => exact .inr (fun e => by have := hx0 k hv; have := Option.some.inj e; omega))
  have ho0 : Ow .i64 3 w.heap.size (w1.setCell ⟨w.heap.size + 1 + 1, 0, none⟩ (Value.slice ax0 m0 cx0)) (Value.slice ax0 m0 cx0) z0 := ho1.mono (by omega)
  have HO0 : Hid (Ow .i64 3 w.heap.size (w1.setCell ⟨w.heap.size + 1 + 1, 0, none⟩ (Value.slice ax0 m0 cx0)) (Value.slice ax0 m0 cx0) z0) := ho0
  have HX0 : Hid (∀ k, (Value.slice ax0 m0 cx0).ownBlock = some k → w.heap.size + 3 ≤ k ∧ k < w1.heap.size) := hx0
  have HBB : Hid (Below w.heap.size w (w1.setCell ⟨w.heap.size + 1 + 1, 0, none⟩ (Value.slice ax0 m0 cx0))) := bb.setCell (by dsimp only; omega) _
  have p0 : Hid (Blk (w1.setCell ⟨w.heap.size + 1 + 1, 0, none⟩ (Value.slice ax0 m0 cx0)) w.heap.size (A2 (.slice a0 m0 cap0) (.slice a1 m1 cap1)) 28) := q0.other _ _ (by simp; omega)
  have p1 : Hid (Blk (w1.setCell ⟨w.heap.size + 1 + 1, 0, none⟩ (Value.slice ax0 m0 cx0)) (w.heap.size + 1) (A2 (.slice none 0 0) (.slice none 0 0)) 28) := q1.other _ _ (by simp)
  have p2 : Hid (Blk (w1.setCell ⟨w.heap.size + 1 + 1, 0, none⟩ (Value.slice ax0 m0 cx0)) (w.heap.size + 1 + 1) (A2 (Value.slice ax0 m0 cx0) (.slice none 0 0)) 28) := q2.set 0 (Value.slice ax0 m0 cx0)
  have d0 := q2.cell 0
  have f0 := q2.frozen 0
  simp at d0
  obtain ⟨W2, hW2⟩ : ∃ W, w1.setCell ⟨w.heap.size + 1 + 1, 0, none⟩ (Value.slice ax0 m0 cx0) = W := ⟨_, rfl⟩
  have HZ : Hid (W2.heap.size = w1.heap.size) := by rw [← hW2]; simp [Hid]
  rw [hW2] at HO0 HBB p0 p1 p2
  have e0 := p0.out.cell 0
  have e1 := p0.out.cell 1
  simp at e0 e1
  clear c0 c1 q0 q1 q2 b0 o0 bb ho0 ho1 hx0 HB K0 K1 K2
  go_wp2
  clear d0 f0
  try clear hW2
  rw [rounds_succ]
  go_wp2_with (fail)
  refine (toI _ z1 W2 (HR1.out.below HBB.out) n1).mono ?_
  rintro e w3 ⟨x1, rfl, o1, b1⟩
  obtain ⟨ax1, cx1, hfx, -⟩ := own_form o1
  rw [HM1.out] at hfx
  subst hfx
  have q0 := p0.out.below b1 p0.out.lt
  have q1 := p1.out.below b1 p1.out.lt
  have q2 := p2.out.below b1 p2.out.lt
  have hx1 : ∀ k, (Value.slice ax1 m1 cx1).ownBlock = some k → W2.heap.size ≤ k ∧ k < w3.heap.size := fun k e => World.ownsRow.lt o1 k e
  have hap : Apart (Value.slice ax0 m0 cx0) (Value.slice ax1 m1 cx1) := fun k e1 e2 => by have := HX0.out k e1; have := hx1 k e2; have := HZ.out; omega
  have bb : Below w.heap.size w w3 := belowCall HBB.out b1 HBB.out.size
  have oo0 : Ow .i64 3 w.heap.size w3 (Value.slice ax0 m0 cx0) z0 := HO0.out.below b1
  have hne0 : ∀ k, k ≤ w.heap.size + 1 + 1 → (Value.slice ax0 m0 cx0).ownBlock = none ∨ (Value.slice ax0 m0 cx0).ownBlock ≠ some k := fun k hk => by
    cases hv : (Value.slice ax0 m0 cx0).ownBlock with
    | none => exact .inl rfl
    | some j => exact .inr (fun e => by have := HX0.out j hv; have := Option.some.inj e; omega)
  have hne1 : ∀ k, k ≤ w.heap.size + 1 + 1 → (Value.slice ax1 m1 cx1).ownBlock = none ∨ (Value.slice ax1 m1 cx1).ownBlock ≠ some k := fun k hk => by
    cases hv : (Value.slice ax1 m1 cx1).ownBlock with
    | none => exact .inl rfl
    | some j => exact .inr (fun e => by have := hx1 j hv; have := Option.some.inj e; have := HZ.out; omega)
  have HF : Hid (∀ W, ((w3.setCell ⟨w.heap.size + 1 + 1, 1, none⟩ (Value.slice ax1 m1 cx1)).setCell ⟨w.heap.size + 1, 0, none⟩ (Value.slice ax0 m0 cx0)).setCell ⟨w.heap.size + 1, 1, none⟩ (Value.slice ax1 m1 cx1) = W → Blk W (w.heap.size + 1) (A2 (Value.slice ax0 m0 cx0) (Value.slice ax1 m1 cx1)) 28 ∧ Ow .i64 3 w.heap.size W (Value.slice ax0 m0 cx0) z0 ∧ Ow .i64 3 w.heap.size W (Value.slice ax1 m1 cx1) z1 ∧ Apart (Value.slice ax0 m0 cx0) (Value.slice ax1 m1 cx1) ∧ Below w.heap.size w W) := by
    rintro _ rfl
    refine ⟨((q1.other _ _ (by simp)).set 0 (Value.slice ax0 m0 cx0)).set 1 (Value.slice ax1 m1 cx1), ?_, ?_, hap, ?_⟩
    · exact World.ownsRow.kept (World.ownsRow.kept (World.ownsRow.kept oo0 (grown_set _ _ _ _) (hne0 _ (by omega))) (grown_set _ _ _ _) (hne0 _ (by omega))) (grown_set _ _ _ _) (hne0 _ (by omega))
    · have oo1 : Ow .i64 3 w.heap.size w3 (Value.slice ax1 m1 cx1) z1 := o1.mono HBB.out.size
      exact World.ownsRow.kept (World.ownsRow.kept (World.ownsRow.kept oo1 (grown_set _ _ _ _) (hne1 _ (by omega))) (grown_set _ _ _ _) (hne1 _ (by omega))) (grown_set _ _ _ _) (hne1 _ (by omega))
    · exact ((bb.setCell (by dsimp only; omega) _).setCell (by dsimp only; omega) _).setCell (by dsimp only; omega) _
  have d0 := q2.cell 0
  have d1 := q2.cell 1
  have f1 := q2.frozen 1
  have g0 := q1.cell 0
  have g1 := q1.cell 1
  have gf0 := q1.frozen 0
  have gf1 := q1.frozen 1
  have k1l := q1.lt
  have k2l := q2.lt
  simp at d0 d1 g0 g1
  clear q0 q1 q2 hx1 hap bb oo0 hne0 hne1 o1 b1 HO0 HX0 HBB p0 p1 p2 e0 e1
  go_wp2
  rw [rounds_succ]
  go_wp2
  exact bodyPost_ret (v := .agg (A2 (Value.slice ax0 m0 cx0) (Value.slice ax1 m1 cx1))) (results_cell_row rfl _ _ _ 28 _ (0, 0) _ rfl (HF.out _ rfl).1 Try.underlying28 rfl size28) rfl ⟨_, _, rfl, (HF.out _ rfl).2⟩

set_option maxHeartbeats 3200000 in
theorem eqIntSA2_t (v0 v1 v0' v1' : Value) (z0 z1 : List Int) (w : World) (h0 : Rd .i64 w v0 z0) (h1 : Rd .i64 w v1 z1) (h0' : Rd .i64 w v0' z0) (h1' : Rd .i64 w v1' z1) :
    Calls Try.prog 59 #[.agg (A2 v0 v1), .agg (A2 v0' v1')] w fun e w' => e = .returned (.bool true) ∧ Below w.heap.size w w' := by
  obtain ⟨W0, hW0⟩ : ∃ W0, (w.alloc (Obj.cells (A2 v0 v1) 28)).alloc (Obj.cells (A2 v0' v1') 28) = W0 := ⟨_, rfl⟩
  have HB : Hid (Below w.heap.size w W0) := by rw [← hW0]; exact ((Below.refl _ _).alloc (Nat.le_refl _) _).alloc (by simp) _
  have K0 : Hid (Blk W0 w.heap.size (A2 v0 v1) 28) := by rw [← hW0]; exact (Blk.new _ _ _).alloc _
  have K1 : Hid (Blk W0 (w.heap.size + 1) (A2 v0' v1') 28) := by rw [← hW0]; exact Blk.newAt _ (w.heap.size + 1) _ 28 (by simp)
  have C0 : Hid (∀ W, Below w.heap.size w W → Calls Try.prog 75 #[v0, v0'] W fun e w' => e = .returned (.bool true) ∧ Below W.heap.size W w') := fun W hW => eqIS v0 v0' z0 W (h0.below hW) (h0'.below hW)
  have C1 : Hid (∀ W, Below w.heap.size w W → Calls Try.prog 75 #[v1, v1'] W fun e w' => e = .returned (.bool true) ∧ Below W.heap.size W w') := fun W hW => eqIS v1 v1' z1 W (h1.below hW) (h1'.below hW)
  obtain ⟨a0, cap0, rfl, -⟩ := h0
  obtain ⟨a1, cap1, rfl, -⟩ := h1
  obtain ⟨a0', cap0', rfl, -⟩ := h0'
  obtain ⟨a1', cap1', rfl, -⟩ := h1'
  go_enter Try.func59, Try.ntmps59
  go_wp2
  clear hW0
  refine wp_loop_rounds 3 ?_
  rw [rounds_succ]
  obtain ⟨S0, hS0⟩ : ∃ S : World → Prop, ∀ W, S W ↔ Below W0.heap.size W0 W := ⟨_, fun _ => Iff.rfl⟩
  have HSI0 : Hid (∀ W, S0 W ↔ Below W0.heap.size W0 W) := hS0
  have HSD0 : Hid (S0 W0.drew) := (hS0 _).2 (Below.refl _ _).drew
  have ne0 : Nonempty (At S0) := ⟨⟨_, HSD0.out⟩⟩
  have y0 : ∀ W : At S0, W.wd.cell? ⟨w.heap.size, 0, none⟩ = some (.slice a0 z0.length cap0) := fun W => by rw [(K0.out.below ((hS0 _).1 W.ok) K0.out.lt).cell 0]; rfl
  have y1 : ∀ W : At S0, W.wd.cell? ⟨w.heap.size + 1, 0, none⟩ = some (.slice a0' z0.length cap0') := fun W => by rw [(K1.out.below ((hS0 _).1 W.ok) K1.out.lt).cell 0]; rfl
  clear hS0
  go_wp2
  refine region_call [true, true, true, true, true, true, false, false] [false, false, false, false, false, false, false, true] 6 8 S0 (by kernel_rfl) (by kernel_rfl) rfl (fun _ _ _ _ _ h => h) HSD0.out ?_
  simp only [selT]
  repeat (go_big_quiet_step (fail))
  refine wpQuiet_nil ?_
  have hb0 : Below W0.heap.size W0 W0.drew := (Below.refl _ _).drew
  have HD0 : Hid (Below w.heap.size w W0.drew) := belowCall HB.out hb0 HB.out.size
  have HE0 : Hid (Below W0.heap.size W0 W0.drew) := hb0
  clear hb0
  go_wp2_with (fail)
  refine (C0.out _ HD0.out).mono ?_
  rintro e w1 ⟨rfl, b0⟩
  have HSW0 : Hid (S0 w1) := (HSI0.out _).2 (belowCall HE0.out b0 HE0.out.size)
  have HB2 : Hid (Below w.heap.size w w1) := belowCall HD0.out b0 HD0.out.size
  have K0' : Hid (Blk w1 w.heap.size (A2 (.slice a0 z0.length cap0) (.slice a1 z1.length cap1)) 28) := K0.out.below ((HSI0.out _).1 HSW0.out) K0.out.lt
  have K1' : Hid (Blk w1 (w.heap.size + 1) (A2 (.slice a0' z0.length cap0') (.slice a1' z1.length cap1')) 28) := K1.out.below ((HSI0.out _).1 HSW0.out) K1.out.lt
  clear K0 K1 HB
  have K0 := K0'
  have K1 := K1'
  have HB := HB2
  clear K0' K1' HB2 HD0 HE0 b0
  go_wp2
  refine ⟨HSW0.out, ?_⟩
  first | simp only [selT] | skip
  repeat (go_big_quiet_step (fail))
  refine wpQuiet_nil ?_
  clear HSW0 HSI0 HSD0 ne0 y0 y1
  go_wp2
  rw [rounds_succ]
  obtain ⟨S1, hS1⟩ : ∃ S : World → Prop, ∀ W, S W ↔ Below w1.heap.size w1 W := ⟨_, fun _ => Iff.rfl⟩
  have HSI1 : Hid (∀ W, S1 W ↔ Below w1.heap.size w1 W) := hS1
  have HSD1 : Hid (S1 w1.drew) := (hS1 _).2 (Below.refl _ _).drew
  have ne1 : Nonempty (At S1) := ⟨⟨_, HSD1.out⟩⟩
  have y0 : ∀ W : At S1, W.wd.cell? ⟨w.heap.size, 1, none⟩ = some (.slice a1 z1.length cap1) := fun W => by rw [(K0.out.below ((hS1 _).1 W.ok) K0.out.lt).cell 1]; rfl
  have y1 : ∀ W : At S1, W.wd.cell? ⟨w.heap.size + 1, 1, none⟩ = some (.slice a1' z1.length cap1') := fun W => by rw [(K1.out.below ((hS1 _).1 W.ok) K1.out.lt).cell 1]; rfl
  clear hS1
  go_wp2
  refine region_call [true, true, true, true, true, true, false, false] [false, false, false, false, false, false, false, true] 6 8 S1 (by kernel_rfl) (by kernel_rfl) rfl (fun _ _ _ _ _ h => h) HSD1.out ?_
  simp only [selT]
  repeat (go_big_quiet_step (fail))
  refine wpQuiet_nil ?_
  have hb1 : Below w1.heap.size w1 w1.drew := (Below.refl _ _).drew
  have HD1 : Hid (Below w.heap.size w w1.drew) := belowCall HB.out hb1 HB.out.size
  have HE1 : Hid (Below w1.heap.size w1 w1.drew) := hb1
  clear hb1
  go_wp2_with (fail)
  refine (C1.out _ HD1.out).mono ?_
  rintro e w2 ⟨rfl, b1⟩
  have HSW1 : Hid (S1 w2) := (HSI1.out _).2 (belowCall HE1.out b1 HE1.out.size)
  have HB2 : Hid (Below w.heap.size w w2) := belowCall HD1.out b1 HD1.out.size
  have K0' : Hid (Blk w2 w.heap.size (A2 (.slice a0 z0.length cap0) (.slice a1 z1.length cap1)) 28) := K0.out.below ((HSI1.out _).1 HSW1.out) K0.out.lt
  have K1' : Hid (Blk w2 (w.heap.size + 1) (A2 (.slice a0' z0.length cap0') (.slice a1' z1.length cap1')) 28) := K1.out.below ((HSI1.out _).1 HSW1.out) K1.out.lt
  clear K0 K1 HB
  have K0 := K0'
  have K1 := K1'
  have HB := HB2
  clear K0' K1' HB2 HD1 HE1 b1
  go_wp2
  refine ⟨HSW1.out, ?_⟩
  first | simp only [selT] | skip
  repeat (go_big_quiet_step (fail))
  refine wpQuiet_nil ?_
  clear HSW1 HSI1 HSD1 ne1 y0 y1
  go_wp2
  rw [rounds_succ]
  go_wp2
  go_ret
  exact ⟨rfl, HB.out⟩

set_option maxHeartbeats 3200000 in
theorem markIntSA2_c (v0 v1 : Value) (z0 z1 : List Int) (q : Int) (b : Nat) (w : World) (h0 : Ow .i64 3 b w v0 z0) (h1 : Ow .i64 3 b w v1 z1) (hap : Apart v0 v1) (hq0 : 0 ≤ q) (hq : q + z0.length + z1.length ≤ 1048576000) :
    Calls Try.prog 62 #[.agg (A2 v0 v1), .int .i64 q] w fun e w' => e = .returned (.int .i64 (q + z0.length + z1.length)) ∧ Ow .i64 3 b w' v0 (marks .i64 (q) z0.length) ∧ Ow .i64 3 b w' v1 (marks .i64 (q + z0.length) z1.length) ∧ Fr (fun k => v0.ownBlock = some k ∨ v1.ownBlock = some k) w w' := by
  obtain ⟨W0, hW0⟩ : ∃ W0, w.alloc (Obj.cells (A2 v0 v1) 28) = W0 := ⟨_, rfl⟩
  have hb0 : Below w.heap.size w W0 := by rw [← hW0]; exact (Below.refl _ _).alloc (Nat.le_refl _) _
  have K0 : Hid (Blk W0 w.heap.size (A2 v0 v1) 28) := by rw [← hW0]; exact Blk.new _ _ _
  have O0 : Hid (Ow .i64 3 b W0 v0 z0) := h0.below hb0
  have O1 : Hid (Ow .i64 3 b W0 v1 z1) := h1.below hb0
  have HF0 : Hid (Fr (fun k => v0.ownBlock = some k ∨ v1.ownBlock = some k) w W0) := Fr.ofBelow hb0
  have HL : Hid ((∀ k, v0.ownBlock = some k → k < w.heap.size) ∧ ∀ k, v1.ownBlock = some k → k < w.heap.size) := ⟨fun k e => (World.ownsRow.lt h0 k e).2, fun k e => (World.ownsRow.lt h1 k e).2⟩
  have HAP : Hid (Apart v0 v1) := hap
  obtain ⟨a0, cap0, hv0, -⟩ := own_form h0
  obtain ⟨a1, cap1, hv1, -⟩ := own_form h1
  subst hv0 hv1
  have c0 := K0.out.cell 0
  have c1 := K0.out.cell 1
  simp at c0 c1
  clear h0 h1 hap hb0
  go_enter Try.func62, Try.ntmps62
  go_wp2
  clear hW0
  refine wp_loop_rounds 3 ?_
  rw [rounds_succ]
  go_wp2_with (fail)
  refine (markI _ z0 q b W0 O0.out hq0 (by omega)).mono ?_
  rintro e w1 ⟨rfl, o0, g0⟩
  have P0 : Hid (Ow .i64 3 b w1 (.slice a0 z0.length cap0) (marks .i64 (q) z0.length)) := o0
  have P1 : Hid (Ow .i64 3 b w1 (.slice a1 z1.length cap1) z1) := World.ownsRow.kept O1.out g0 (by
    cases hv : (Value.slice a1 z1.length cap1).ownBlock with
    | none => exact .inl rfl
    | some k => exact .inr (fun e => HAP.out k e.symm hv))
  have K0' : Hid (Blk w1 w.heap.size (A2 (.slice a0 z0.length cap0) (.slice a1 z1.length cap1)) 28) := K0.out.grown g0 (fun e => by have := HL.out.1 _ e; omega)
  have HF1 : Hid (Fr (fun k => (Value.slice a0 z0.length cap0).ownBlock = some k ∨ (Value.slice a1 z1.length cap1).ownBlock = some k) w w1) := HF0.out.trans (Fr.ofGrown g0 (fun k e => .inl e))
  clear o0 g0 O0 O1 K0 HF0 c0 c1
  have e0 := K0'.out.cell 0
  have e1 := K0'.out.cell 1
  simp at e0 e1
  go_wp2
  rw [rounds_succ]
  go_wp2_with (fail)
  refine (markI _ z1 (q + z0.length) b w1 P1.out (by omega) (by omega)).mono ?_
  rintro e w2 ⟨rfl, o1, g1⟩
  have HF : Hid (Ow .i64 3 b w2 (.slice a0 z0.length cap0) (marks .i64 (q) z0.length) ∧ Ow .i64 3 b w2 (.slice a1 z1.length cap1) (marks .i64 (q + z0.length) z1.length) ∧ Fr (fun k => (Value.slice a0 z0.length cap0).ownBlock = some k ∨ (Value.slice a1 z1.length cap1).ownBlock = some k) w w2) := ⟨World.ownsRow.kept P0.out g1 (by
    cases hv : (Value.slice a0 z0.length cap0).ownBlock with
    | none => exact .inl rfl
    | some k => exact .inr (fun e => HAP.out k hv e.symm)), o1, HF1.out.trans (Fr.ofGrown g1 (fun k e => .inr e))⟩
  clear o1 g1 P0 P1 HF1 e0 e1
  go_wp2
  rw [rounds_succ]
  go_wp2
  go_ret
  exact ⟨rfl, HF.out⟩

set_option maxHeartbeats 3200000 in
theorem heldIntSA2_c (v0 v1 : Value) (n0 n1 : Nat) (q : Int) (w : World) (h0 : Rd .i64 w v0 (marks .i64 (q) n0)) (h1 : Rd .i64 w v1 (marks .i64 (q + n0) n1)) (hq0 : 0 ≤ q) (hq : q + n0 + n1 ≤ 1048576000) :
    Calls Try.prog 64 #[.agg (A2 v0 v1), .int .i64 q] w fun e w' => e = .returned (.int .i64 (q + n0 + n1)) ∧ Below w.heap.size w w' := by
  obtain ⟨W0, hW0⟩ : ∃ W0, w.alloc (Obj.cells (A2 v0 v1) 28) = W0 := ⟨_, rfl⟩
  have HB : Hid (Below w.heap.size w W0) := by rw [← hW0]; exact (Below.refl _ _).alloc (Nat.le_refl _) _
  have K0 : Hid (Blk W0 w.heap.size (A2 v0 v1) 28) := by rw [← hW0]; exact Blk.new _ _ _
  have C0 : Hid (Calls Try.prog 79 #[v0, .int .i64 q] W0 fun e w' => e = .returned (.int .i64 (q + n0)) ∧ Below W0.heap.size W0 w') := heldI v0 q n0 W0 (h0.below HB.out) hq0 (by omega)
  have C1 : Hid (∀ W, Below w.heap.size w W → Calls Try.prog 79 #[v1, .int .i64 (q + n0)] W fun e w' => e = .returned (.int .i64 (q + n0 + n1)) ∧ Below W.heap.size W w') := fun W hW => heldI v1 (q + n0) n1 W (h1.below hW) (by omega) (by omega)
  obtain ⟨a0, cap0, hv0, -⟩ := h0
  obtain ⟨a1, cap1, hv1, -⟩ := h1
  subst hv0 hv1
  have c0 := K0.out.cell 0
  have c1 := K0.out.cell 1
  simp at c0 c1
  have hn1 : (q + (n0 : Int) < 0) = False := eq_false (by omega)
  have hn2 : (q + (n0 : Int) + (n1 : Int) < 0) = False := eq_false (by omega)
  go_enter Try.func64, Try.ntmps64
  go_wp2
  clear hW0
  refine wp_loop_rounds 3 ?_
  rw [rounds_succ]
  go_wp2_with (fail)
  refine C0.out.mono ?_
  rintro e w1 ⟨rfl, b0⟩
  have K0' := K0.out.below b0 K0.out.lt
  have e1 := K0'.cell 1
  simp at e1
  have HB1 : Hid (Below w.heap.size w w1) := belowCall HB.out b0 HB.out.size
  clear K0' b0 c0 c1 HB K0 C0
  go_wp2
  rw [rounds_succ]
  go_wp2_with (fail)
  refine (C1.out _ HB1.out).mono ?_
  rintro e w2 ⟨rfl, b1⟩
  have HB2 : Hid (Below w.heap.size w w2) := belowCall HB1.out b1 HB1.out.size
  clear b1 e1 HB1 C1
  go_wp2
  rw [rounds_succ]
  go_wp2
  go_ret
  exact ⟨rfl, HB2.out⟩

theorem eqNoteS_t (v v' : Value) (xs : Mvs) (w : World) (h : Rp mf mg w v xs) (h' : Rp mf mg w v' xs) : Calls Try.prog 76 #[v, v'] w fun e w' => e = .returned (.bool true) ∧ Below w.heap.size w w' := by
  refine (eqNoteS_c v v' xs xs w h h').mono ?_
  rintro e w' ⟨rfl, b⟩
  exact ⟨by simp, b⟩

set_option maxHeartbeats 1600000 in
theorem szNoteSA2_c (v0 v1 : Value) (z0 z1 : Mvs) (left : Int) (w : World) (h0 : Rp mf mg w v0 z0) (h1 : Rp mf mg w v1 z1) (hl0 : 0 ≤ left) (hl : left ≤ 1048576) :
    Calls Try.prog 53 #[.agg (A2 v0 v1), .int .i64 left] w fun e w' => ∃ z : Int, e = .returned (.int .i64 z) ∧ z ≤ left ∧ (0 ≤ z → (z0.length : Int) + z1.length + z = left) ∧ Below w.heap.size w w' := by
  obtain ⟨W0, hW0⟩ : ∃ W0, w.alloc (Obj.cells (A2 v0 v1) 43) = W0 := ⟨_, rfl⟩
  have HB : Hid (Below w.heap.size w W0) := by rw [← hW0]; exact (Below.refl _ _).alloc (Nat.le_refl _) _
  have K0 : Hid (Blk W0 w.heap.size (A2 v0 v1) 43) := by rw [← hW0]; exact Blk.new _ _ _
  have C0 : Hid (Calls Try.prog 72 #[v0, .int .i64 left] W0 fun e w' => e = .returned (.int .i64 (if left < (z0.length : Int) then -1 else left - z0.length)) ∧ w' = W0) := szNoteS_c v0 z0 left W0 (h0.below HB.out) hl0 hl
  have C1 : Hid (¬ left < (z0.length : Int) → Calls Try.prog 72 #[v1, .int .i64 (left - z0.length)] W0 fun e w' => e = .returned (.int .i64 (if left - z0.length < (z1.length : Int) then -1 else left - z0.length - z1.length)) ∧ w' = W0) := fun hh => szNoteS_c v1 z1 (left - z0.length) W0 (h1.below HB.out) (by omega) (by omega)
  obtain ⟨a0, cap0, hv0, -⟩ := id h0
  obtain ⟨m0, hm0⟩ : ∃ m, z0.length = m := ⟨_, rfl⟩
  have HM0 : Hid (z0.length = m0) := hm0
  rw [hm0] at hv0
  subst hv0
  obtain ⟨a1, cap1, hv1, -⟩ := id h1
  obtain ⟨m1, hm1⟩ : ∃ m, z1.length = m := ⟨_, rfl⟩
  have HM1 : Hid (z1.length = m1) := hm1
  rw [hm1] at hv1
  subst hv1
  rw [hm0] at C0 C1
  rw [hm1] at C1
  rw [hm0, hm1]
  have c0 := K0.out.cell 0
  have c1 := K0.out.cell 1
  have kl := K0.out.lt
  simp at c0 c1
  clear h0 h1 hm0 hm1 HM0 HM1
  go_enter Try.func53, Try.ntmps53
  go_wp2
  refine wp_loop_rounds 3 ?_
  rw [rounds_succ]
  go_wp2_with (fail)
  refine C0.out.mono ?_
  rintro e wq ⟨rfl, hq⟩
  rw [hq]
  clear hq wq
  by_cases hc : left < (m0 : Int)
  · rw [if_pos hc]
    have hnn : ((-1 : Int) < 0) = True := by simp
    go_wp2
    go_ret
    exact ⟨-1, rfl, by omega, fun h => absurd h (by omega), HB.out⟩
  · rw [if_neg hc]
    have hnn : (left - (m0 : Int) < 0) = False := eq_false (by omega)
    go_wp2
    rw [rounds_succ]
    go_wp2_with (fail)
    refine (C1.out hc).mono ?_
    rintro e wq ⟨rfl, hq⟩
    rw [hq]
    clear hq wq
    by_cases hd : left - (m0 : Int) < (m1 : Int)
    · rw [if_pos hd]
      go_wp2
      go_ret
      exact ⟨-1, rfl, by omega, fun h => absurd h (by omega), HB.out⟩
    · rw [if_neg hd]
      have hnd : (left - (m0 : Int) - (m1 : Int) < 0) = False := eq_false (by omega)
      go_wp2
      rw [rounds_succ]
      go_wp2
      go_ret
      exact ⟨_, rfl, by omega, fun h => by omega, HB.out⟩

set_option maxHeartbeats 3200000 in
theorem toNoteSA2_c (v0 v1 : Value) (z0 z1 : Mvs) (w : World) (h0 : Rp mf mg w v0 z0) (h1 : Rp mf mg w v1 z1) (n0 : z0.length ≤ 1048576) (n1 : z1.length ≤ 1048576) :
    Calls Try.prog 56 #[.agg (A2 v0 v1)] w fun e w' => ∃ v0' v1', e = .returned (.agg (A2 v0' v1')) ∧ Op mf mg 68 w.heap.size w' v0' z0 ∧ Op mf mg 68 w.heap.size w' v1' z1 ∧ Apart v0' v1' ∧ Below w.heap.size w w' := by
  obtain ⟨W0, hW0⟩ : ∃ W0, ((w.alloc (Obj.cells (A2 v0 v1) 43)).alloc (Obj.cells (A2 (.slice none 0 0) (.slice none 0 0)) 31)).alloc (Obj.cells (A2 (.slice none 0 0) (.slice none 0 0)) 31) = W0 := ⟨_, rfl⟩
  have zs : W0.heap.size = w.heap.size + 3 := by rw [← hW0]; simp
  have HB : Hid (Below w.heap.size w W0) := by rw [← hW0]; exact (((Below.refl _ _).alloc (Nat.le_refl _) _).alloc (by simp) _).alloc (by simp; omega) _
  have K0 : Hid (Blk W0 w.heap.size (A2 v0 v1) 43) := by rw [← hW0]; exact ((Blk.new _ _ _).alloc _).alloc _
  have K1 : Hid (Blk W0 (w.heap.size + 1) (A2 (.slice none 0 0) (.slice none 0 0)) 31) := by rw [← hW0]; exact (Blk.newAt _ (w.heap.size + 1) _ 31 (by simp)).alloc _
  have K2 : Hid (Blk W0 (w.heap.size + 1 + 1) (A2 (.slice none 0 0) (.slice none 0 0)) 31) := by rw [← hW0]; exact Blk.newAt _ (w.heap.size + 1 + 1) _ 31 (by simp)
  have HR0 : Hid (Rp mf mg w v0 z0) := h0
  have HR1 : Hid (Rp mf mg w v1 z1) := h1
  obtain ⟨a0, cap0, hv0, -⟩ := id h0
  obtain ⟨m0, hm0⟩ : ∃ m, z0.length = m := ⟨_, rfl⟩
  have HM0 : Hid (z0.length = m0) := hm0
  rw [hm0] at hv0
  subst hv0
  obtain ⟨a1, cap1, hv1, -⟩ := id h1
  obtain ⟨m1, hm1⟩ : ∃ m, z1.length = m := ⟨_, rfl⟩
  have HM1 : Hid (z1.length = m1) := hm1
  rw [hm1] at hv1
  subst hv1
  have c0 := K0.out.cell 0
  have c1 := K0.out.cell 1
  simp at c0 c1
  clear h0 h1 hm0 hm1
  go_enter Try.func56, Try.ntmps56
  go_wp2
  clear hW0
  refine wp_loop_rounds 3 ?_
  rw [rounds_succ]
  go_wp2_with (fail)
  refine (toNoteS_c _ z0 W0 (HR0.out.below HB.out) n0).mono ?_
  rintro e w1 ⟨x0, rfl, o0, b0⟩
  obtain ⟨ax0, cx0, hfx, -⟩ := own_form o0
  rw [HM0.out] at hfx
  subst hfx
  have q0 := K0.out.below b0 K0.out.lt
  have q1 := K1.out.below b0 K1.out.lt
  have q2 := K2.out.below b0 K2.out.lt
  have hx0 : ∀ k, (Value.slice ax0 m0 cx0).ownBlock = some k → w.heap.size + 3 ≤ k ∧ k < w1.heap.size := fun k e => by have := World.ownsRow.lt o0 k e; omega
  have bb : Below w.heap.size w w1 := belowCall HB.out b0 HB.out.size
  have hsz : w.heap.size + 3 ≤ w1.heap.size := by have := b0.size; omega
  have ho1 : Op mf mg 68 W0.heap.size (w1.setCell ⟨w.heap.size + 1 + 1, 0, none⟩ (Value.slice ax0 m0 cx0)) (Value.slice ax0 m0 cx0) z0 := World.ownsRow.kept o0 (grown_set w1 (w.heap.size + 1 + 1) 0 (Value.slice ax0 m0 cx0)) (by cases hv : (Value.slice ax0 m0 cx0).ownBlock with
    | none => exact .inl rfl
    | some k => exact .inr (fun e => by have := hx0 k hv; have := Option.some.inj e; omega))
  have ho0 : Op mf mg 68 w.heap.size (w1.setCell ⟨w.heap.size + 1 + 1, 0, none⟩ (Value.slice ax0 m0 cx0)) (Value.slice ax0 m0 cx0) z0 := ho1.mono (by omega)
  have HO0 : Hid (Op mf mg 68 w.heap.size (w1.setCell ⟨w.heap.size + 1 + 1, 0, none⟩ (Value.slice ax0 m0 cx0)) (Value.slice ax0 m0 cx0) z0) := ho0
  have HX0 : Hid (∀ k, (Value.slice ax0 m0 cx0).ownBlock = some k → w.heap.size + 3 ≤ k ∧ k < w1.heap.size) := hx0
  have HBB : Hid (Below w.heap.size w (w1.setCell ⟨w.heap.size + 1 + 1, 0, none⟩ (Value.slice ax0 m0 cx0))) := bb.setCell (by dsimp only; omega) _
  have p0 : Hid (Blk (w1.setCell ⟨w.heap.size + 1 + 1, 0, none⟩ (Value.slice ax0 m0 cx0)) w.heap.size (A2 (.slice a0 m0 cap0) (.slice a1 m1 cap1)) 43) := q0.other _ _ (by simp; omega)
  have p1 : Hid (Blk (w1.setCell ⟨w.heap.size + 1 + 1, 0, none⟩ (Value.slice ax0 m0 cx0)) (w.heap.size + 1) (A2 (.slice none 0 0) (.slice none 0 0)) 31) := q1.other _ _ (by simp)
  have p2 : Hid (Blk (w1.setCell ⟨w.heap.size + 1 + 1, 0, none⟩ (Value.slice ax0 m0 cx0)) (w.heap.size + 1 + 1) (A2 (Value.slice ax0 m0 cx0) (.slice none 0 0)) 31) := q2.set 0 (Value.slice ax0 m0 cx0)
  have d0 := q2.cell 0
  have f0 := q2.frozen 0
  simp at d0
  obtain ⟨W2, hW2⟩ : ∃ W, w1.setCell ⟨w.heap.size + 1 + 1, 0, none⟩ (Value.slice ax0 m0 cx0) = W := ⟨_, rfl⟩
  have HZ : Hid (W2.heap.size = w1.heap.size) := by rw [← hW2]; simp [Hid]
  rw [hW2] at HO0 HBB p0 p1 p2
  have e0 := p0.out.cell 0
  have e1 := p0.out.cell 1
  simp at e0 e1
  clear c0 c1 q0 q1 q2 b0 o0 bb ho0 ho1 hx0 HB K0 K1 K2
  go_wp2
  clear d0 f0
  try clear hW2
  rw [rounds_succ]
  go_wp2_with (fail)
  refine (toNoteS_c _ z1 W2 (HR1.out.below HBB.out) n1).mono ?_
  rintro e w3 ⟨x1, rfl, o1, b1⟩
  obtain ⟨ax1, cx1, hfx, -⟩ := own_form o1
  rw [HM1.out] at hfx
  subst hfx
  have q0 := p0.out.below b1 p0.out.lt
  have q1 := p1.out.below b1 p1.out.lt
  have q2 := p2.out.below b1 p2.out.lt
  have hx1 : ∀ k, (Value.slice ax1 m1 cx1).ownBlock = some k → W2.heap.size ≤ k ∧ k < w3.heap.size := fun k e => World.ownsRow.lt o1 k e
  have hap : Apart (Value.slice ax0 m0 cx0) (Value.slice ax1 m1 cx1) := fun k e1 e2 => by have := HX0.out k e1; have := hx1 k e2; have := HZ.out; omega
  have bb : Below w.heap.size w w3 := belowCall HBB.out b1 HBB.out.size
  have oo0 : Op mf mg 68 w.heap.size w3 (Value.slice ax0 m0 cx0) z0 := HO0.out.below b1
  have hne0 : ∀ k, k ≤ w.heap.size + 1 + 1 → (Value.slice ax0 m0 cx0).ownBlock = none ∨ (Value.slice ax0 m0 cx0).ownBlock ≠ some k := fun k hk => by
    cases hv : (Value.slice ax0 m0 cx0).ownBlock with
    | none => exact .inl rfl
    | some j => exact .inr (fun e => by have := HX0.out j hv; have := Option.some.inj e; omega)
  have hne1 : ∀ k, k ≤ w.heap.size + 1 + 1 → (Value.slice ax1 m1 cx1).ownBlock = none ∨ (Value.slice ax1 m1 cx1).ownBlock ≠ some k := fun k hk => by
    cases hv : (Value.slice ax1 m1 cx1).ownBlock with
    | none => exact .inl rfl
    | some j => exact .inr (fun e => by have := hx1 j hv; have := Option.some.inj e; have := HZ.out; omega)
  have HF : Hid (∀ W, ((w3.setCell ⟨w.heap.size + 1 + 1, 1, none⟩ (Value.slice ax1 m1 cx1)).setCell ⟨w.heap.size + 1, 0, none⟩ (Value.slice ax0 m0 cx0)).setCell ⟨w.heap.size + 1, 1, none⟩ (Value.slice ax1 m1 cx1) = W → Blk W (w.heap.size + 1) (A2 (Value.slice ax0 m0 cx0) (Value.slice ax1 m1 cx1)) 31 ∧ Op mf mg 68 w.heap.size W (Value.slice ax0 m0 cx0) z0 ∧ Op mf mg 68 w.heap.size W (Value.slice ax1 m1 cx1) z1 ∧ Apart (Value.slice ax0 m0 cx0) (Value.slice ax1 m1 cx1) ∧ Below w.heap.size w W) := by
    rintro _ rfl
    refine ⟨((q1.other _ _ (by simp)).set 0 (Value.slice ax0 m0 cx0)).set 1 (Value.slice ax1 m1 cx1), ?_, ?_, hap, ?_⟩
    · exact World.ownsRow.kept (World.ownsRow.kept (World.ownsRow.kept oo0 (grown_set _ _ _ _) (hne0 _ (by omega))) (grown_set _ _ _ _) (hne0 _ (by omega))) (grown_set _ _ _ _) (hne0 _ (by omega))
    · have oo1 : Op mf mg 68 w.heap.size w3 (Value.slice ax1 m1 cx1) z1 := o1.mono HBB.out.size
      exact World.ownsRow.kept (World.ownsRow.kept (World.ownsRow.kept oo1 (grown_set _ _ _ _) (hne1 _ (by omega))) (grown_set _ _ _ _) (hne1 _ (by omega))) (grown_set _ _ _ _) (hne1 _ (by omega))
    · exact ((bb.setCell (by dsimp only; omega) _).setCell (by dsimp only; omega) _).setCell (by dsimp only; omega) _
  have d0 := q2.cell 0
  have d1 := q2.cell 1
  have f1 := q2.frozen 1
  have g0 := q1.cell 0
  have g1 := q1.cell 1
  have gf0 := q1.frozen 0
  have gf1 := q1.frozen 1
  have k1l := q1.lt
  have k2l := q2.lt
  simp at d0 d1 g0 g1
  clear q0 q1 q2 hx1 hap bb oo0 hne0 hne1 o1 b1 HO0 HX0 HBB p0 p1 p2 e0 e1
  go_wp2
  rw [rounds_succ]
  go_wp2
  exact bodyPost_ret (v := .agg (A2 (Value.slice ax0 m0 cx0) (Value.slice ax1 m1 cx1))) (results_cell_row rfl _ _ _ 31 _ (0, 0) _ rfl (HF.out _ rfl).1 Try.underlying31 rfl size31) rfl ⟨_, _, rfl, (HF.out _ rfl).2⟩

set_option maxHeartbeats 3200000 in
theorem eqNoteSA2_t (v0 v1 v0' v1' : Value) (z0 z1 : Mvs) (w : World) (h0 : Rp mf mg w v0 z0) (h1 : Rp mf mg w v1 z1) (h0' : Rp mf mg w v0' z0) (h1' : Rp mf mg w v1' z1) :
    Calls Try.prog 61 #[.agg (A2 v0 v1), .agg (A2 v0' v1')] w fun e w' => e = .returned (.bool true) ∧ Below w.heap.size w w' := by
  obtain ⟨W0, hW0⟩ : ∃ W0, (w.alloc (Obj.cells (A2 v0 v1) 31)).alloc (Obj.cells (A2 v0' v1') 31) = W0 := ⟨_, rfl⟩
  have HB : Hid (Below w.heap.size w W0) := by rw [← hW0]; exact ((Below.refl _ _).alloc (Nat.le_refl _) _).alloc (by simp) _
  have K0 : Hid (Blk W0 w.heap.size (A2 v0 v1) 31) := by rw [← hW0]; exact (Blk.new _ _ _).alloc _
  have K1 : Hid (Blk W0 (w.heap.size + 1) (A2 v0' v1') 31) := by rw [← hW0]; exact Blk.newAt _ (w.heap.size + 1) _ 31 (by simp)
  have C0 : Hid (∀ W, Below w.heap.size w W → Calls Try.prog 76 #[v0, v0'] W fun e w' => e = .returned (.bool true) ∧ Below W.heap.size W w') := fun W hW => eqNoteS_t v0 v0' z0 W (h0.below hW) (h0'.below hW)
  have C1 : Hid (∀ W, Below w.heap.size w W → Calls Try.prog 76 #[v1, v1'] W fun e w' => e = .returned (.bool true) ∧ Below W.heap.size W w') := fun W hW => eqNoteS_t v1 v1' z1 W (h1.below hW) (h1'.below hW)
  obtain ⟨a0, cap0, rfl, -⟩ := h0
  obtain ⟨a1, cap1, rfl, -⟩ := h1
  obtain ⟨a0', cap0', rfl, -⟩ := h0'
  obtain ⟨a1', cap1', rfl, -⟩ := h1'
  go_enter Try.func61, Try.ntmps61
  go_wp2
  clear hW0
  refine wp_loop_rounds 3 ?_
  rw [rounds_succ]
  obtain ⟨S0, hS0⟩ : ∃ S : World → Prop, ∀ W, S W ↔ Below W0.heap.size W0 W := ⟨_, fun _ => Iff.rfl⟩
  have HSI0 : Hid (∀ W, S0 W ↔ Below W0.heap.size W0 W) := hS0
  have HSD0 : Hid (S0 W0.drew) := (hS0 _).2 (Below.refl _ _).drew
  have ne0 : Nonempty (At S0) := ⟨⟨_, HSD0.out⟩⟩
  have y0 : ∀ W : At S0, W.wd.cell? ⟨w.heap.size, 0, none⟩ = some (.slice a0 z0.length cap0) := fun W => by rw [(K0.out.below ((hS0 _).1 W.ok) K0.out.lt).cell 0]; rfl
  have y1 : ∀ W : At S0, W.wd.cell? ⟨w.heap.size + 1, 0, none⟩ = some (.slice a0' z0.length cap0') := fun W => by rw [(K1.out.below ((hS0 _).1 W.ok) K1.out.lt).cell 0]; rfl
  clear hS0
  go_wp2
  refine region_call [true, true, true, true, true, true, false, false] [false, false, false, false, false, false, false, true] 6 8 S0 (by kernel_rfl) (by kernel_rfl) rfl (fun _ _ _ _ _ h => h) HSD0.out ?_
  simp only [selT]
  repeat (go_big_quiet_step (fail))
  refine wpQuiet_nil ?_
  have hb0 : Below W0.heap.size W0 W0.drew := (Below.refl _ _).drew
  have HD0 : Hid (Below w.heap.size w W0.drew) := belowCall HB.out hb0 HB.out.size
  have HE0 : Hid (Below W0.heap.size W0 W0.drew) := hb0
  clear hb0
  go_wp2_with (fail)
  refine (C0.out _ HD0.out).mono ?_
  rintro e w1 ⟨rfl, b0⟩
  have HSW0 : Hid (S0 w1) := (HSI0.out _).2 (belowCall HE0.out b0 HE0.out.size)
  have HB2 : Hid (Below w.heap.size w w1) := belowCall HD0.out b0 HD0.out.size
  have K0' : Hid (Blk w1 w.heap.size (A2 (.slice a0 z0.length cap0) (.slice a1 z1.length cap1)) 31) := K0.out.below ((HSI0.out _).1 HSW0.out) K0.out.lt
  have K1' : Hid (Blk w1 (w.heap.size + 1) (A2 (.slice a0' z0.length cap0') (.slice a1' z1.length cap1')) 31) := K1.out.below ((HSI0.out _).1 HSW0.out) K1.out.lt
  clear K0 K1 HB
  have K0 := K0'
  have K1 := K1'
  have HB := HB2
  clear K0' K1' HB2 HD0 HE0 b0
  go_wp2
  refine ⟨HSW0.out, ?_⟩
  first | simp only [selT] | skip
  repeat (go_big_quiet_step (fail))
  refine wpQuiet_nil ?_
  clear HSW0 HSI0 HSD0 ne0 y0 y1
  go_wp2
  rw [rounds_succ]
  obtain ⟨S1, hS1⟩ : ∃ S : World → Prop, ∀ W, S W ↔ Below w1.heap.size w1 W := ⟨_, fun _ => Iff.rfl⟩
  have HSI1 : Hid (∀ W, S1 W ↔ Below w1.heap.size w1 W) := hS1
  have HSD1 : Hid (S1 w1.drew) := (hS1 _).2 (Below.refl _ _).drew
  have ne1 : Nonempty (At S1) := ⟨⟨_, HSD1.out⟩⟩
  have y0 : ∀ W : At S1, W.wd.cell? ⟨w.heap.size, 1, none⟩ = some (.slice a1 z1.length cap1) := fun W => by rw [(K0.out.below ((hS1 _).1 W.ok) K0.out.lt).cell 1]; rfl
  have y1 : ∀ W : At S1, W.wd.cell? ⟨w.heap.size + 1, 1, none⟩ = some (.slice a1' z1.length cap1') := fun W => by rw [(K1.out.below ((hS1 _).1 W.ok) K1.out.lt).cell 1]; rfl
  clear hS1
  go_wp2
  refine region_call [true, true, true, true, true, true, false, false] [false, false, false, false, false, false, false, true] 6 8 S1 (by kernel_rfl) (by kernel_rfl) rfl (fun _ _ _ _ _ h => h) HSD1.out ?_
  simp only [selT]
  repeat (go_big_quiet_step (fail))
  refine wpQuiet_nil ?_
  have hb1 : Below w1.heap.size w1 w1.drew := (Below.refl _ _).drew
  have HD1 : Hid (Below w.heap.size w w1.drew) := belowCall HB.out hb1 HB.out.size
  have HE1 : Hid (Below w1.heap.size w1 w1.drew) := hb1
  clear hb1
  go_wp2_with (fail)
  refine (C1.out _ HD1.out).mono ?_
  rintro e w2 ⟨rfl, b1⟩
  have HSW1 : Hid (S1 w2) := (HSI1.out _).2 (belowCall HE1.out b1 HE1.out.size)
  have HB2 : Hid (Below w.heap.size w w2) := belowCall HD1.out b1 HD1.out.size
  have K0' : Hid (Blk w2 w.heap.size (A2 (.slice a0 z0.length cap0) (.slice a1 z1.length cap1)) 31) := K0.out.below ((HSI1.out _).1 HSW1.out) K0.out.lt
  have K1' : Hid (Blk w2 (w.heap.size + 1) (A2 (.slice a0' z0.length cap0') (.slice a1' z1.length cap1')) 31) := K1.out.below ((HSI1.out _).1 HSW1.out) K1.out.lt
  clear K0 K1 HB
  have K0 := K0'
  have K1 := K1'
  have HB := HB2
  clear K0' K1' HB2 HD1 HE1 b1
  go_wp2
  refine ⟨HSW1.out, ?_⟩
  first | simp only [selT] | skip
  repeat (go_big_quiet_step (fail))
  refine wpQuiet_nil ?_
  clear HSW1 HSI1 HSD1 ne1 y0 y1
  go_wp2
  rw [rounds_succ]
  go_wp2
  go_ret
  exact ⟨rfl, HB.out⟩

set_option maxHeartbeats 3200000 in
theorem markNoteSA2_c (v0 v1 : Value) (z0 z1 : Mvs) (q : Int) (b : Nat) (w : World) (h0 : Op mf mg 68 b w v0 z0) (h1 : Op mf mg 68 b w v1 z1) (hap : Apart v0 v1) (hq0 : 0 ≤ q) (hq : q + 2 * z0.length + 2 * z1.length ≤ 1048576000) :
    Calls Try.prog 63 #[.agg (A2 v0 v1), .int .i64 q] w fun e w' => e = .returned (.int .i64 (q + 2 * z0.length + 2 * z1.length)) ∧ Op mf mg 68 b w' v0 (mkM (q) z0.length) ∧ Op mf mg 68 b w' v1 (mkM (q + 2 * z0.length) z1.length) ∧ Fr (fun k => v0.ownBlock = some k ∨ v1.ownBlock = some k) w w' := by
  obtain ⟨W0, hW0⟩ : ∃ W0, w.alloc (Obj.cells (A2 v0 v1) 31) = W0 := ⟨_, rfl⟩
  have hb0 : Below w.heap.size w W0 := by rw [← hW0]; exact (Below.refl _ _).alloc (Nat.le_refl _) _
  have K0 : Hid (Blk W0 w.heap.size (A2 v0 v1) 31) := by rw [← hW0]; exact Blk.new _ _ _
  have O0 : Hid (Op mf mg 68 b W0 v0 z0) := h0.below hb0
  have O1 : Hid (Op mf mg 68 b W0 v1 z1) := h1.below hb0
  have HF0 : Hid (Fr (fun k => v0.ownBlock = some k ∨ v1.ownBlock = some k) w W0) := Fr.ofBelow hb0
  have HL : Hid ((∀ k, v0.ownBlock = some k → k < w.heap.size) ∧ ∀ k, v1.ownBlock = some k → k < w.heap.size) := ⟨fun k e => (World.ownsRow.lt h0 k e).2, fun k e => (World.ownsRow.lt h1 k e).2⟩
  have HAP : Hid (Apart v0 v1) := hap
  obtain ⟨a0, cap0, hv0, -⟩ := own_form h0
  obtain ⟨a1, cap1, hv1, -⟩ := own_form h1
  subst hv0 hv1
  have c0 := K0.out.cell 0
  have c1 := K0.out.cell 1
  simp at c0 c1
  clear h0 h1 hap hb0
  go_enter Try.func63, Try.ntmps63
  go_wp2
  clear hW0
  refine wp_loop_rounds 3 ?_
  rw [rounds_succ]
  go_wp2_with (fail)
  refine (markNoteS_c _ z0 q b W0 O0.out hq0 (by omega)).mono ?_
  rintro e w1 ⟨rfl, o0, g0⟩
  have P0 : Hid (Op mf mg 68 b w1 (.slice a0 z0.length cap0) (mkM (q) z0.length)) := o0
  have P1 : Hid (Op mf mg 68 b w1 (.slice a1 z1.length cap1) z1) := World.ownsRow.kept O1.out g0 (by
    cases hv : (Value.slice a1 z1.length cap1).ownBlock with
    | none => exact .inl rfl
    | some k => exact .inr (fun e => HAP.out k e.symm hv))
  have K0' : Hid (Blk w1 w.heap.size (A2 (.slice a0 z0.length cap0) (.slice a1 z1.length cap1)) 31) := K0.out.grown g0 (fun e => by have := HL.out.1 _ e; omega)
  have HF1 : Hid (Fr (fun k => (Value.slice a0 z0.length cap0).ownBlock = some k ∨ (Value.slice a1 z1.length cap1).ownBlock = some k) w w1) := HF0.out.trans (Fr.ofGrown g0 (fun k e => .inl e))
  clear o0 g0 O0 O1 K0 HF0 c0 c1
  have e0 := K0'.out.cell 0
  have e1 := K0'.out.cell 1
  simp at e0 e1
  go_wp2
  rw [rounds_succ]
  go_wp2_with (fail)
  refine (markNoteS_c _ z1 (q + 2 * z0.length) b w1 P1.out (by omega) (by omega)).mono ?_
  rintro e w2 ⟨rfl, o1, g1⟩
  have HF : Hid (Op mf mg 68 b w2 (.slice a0 z0.length cap0) (mkM (q) z0.length) ∧ Op mf mg 68 b w2 (.slice a1 z1.length cap1) (mkM (q + 2 * z0.length) z1.length) ∧ Fr (fun k => (Value.slice a0 z0.length cap0).ownBlock = some k ∨ (Value.slice a1 z1.length cap1).ownBlock = some k) w w2) := ⟨World.ownsRow.kept P0.out g1 (by
    cases hv : (Value.slice a0 z0.length cap0).ownBlock with
    | none => exact .inl rfl
    | some k => exact .inr (fun e => HAP.out k hv e.symm)), o1, HF1.out.trans (Fr.ofGrown g1 (fun k e => .inr e))⟩
  clear o1 g1 P0 P1 HF1 e0 e1
  go_wp2
  rw [rounds_succ]
  go_wp2
  go_ret
  exact ⟨rfl, HF.out⟩

set_option maxHeartbeats 3200000 in
theorem heldNoteSA2_c (v0 v1 : Value) (n0 n1 : Nat) (q : Int) (w : World) (h0 : Rp mf mg w v0 (mkM (q) n0)) (h1 : Rp mf mg w v1 (mkM (q + 2 * n0) n1)) (hq0 : 0 ≤ q) (hq : q + 2 * n0 + 2 * n1 ≤ 1048576000) :
    Calls Try.prog 65 #[.agg (A2 v0 v1), .int .i64 q] w fun e w' => e = .returned (.int .i64 (q + 2 * n0 + 2 * n1)) ∧ Below w.heap.size w w' := by
  obtain ⟨W0, hW0⟩ : ∃ W0, w.alloc (Obj.cells (A2 v0 v1) 31) = W0 := ⟨_, rfl⟩
  have HB : Hid (Below w.heap.size w W0) := by rw [← hW0]; exact (Below.refl _ _).alloc (Nat.le_refl _) _
  have K0 : Hid (Blk W0 w.heap.size (A2 v0 v1) 31) := by rw [← hW0]; exact Blk.new _ _ _
  have C0 : Hid (Calls Try.prog 80 #[v0, .int .i64 q] W0 fun e w' => e = .returned (.int .i64 (q + 2 * n0)) ∧ Below W0.heap.size W0 w') := heldNoteS_c v0 q n0 W0 (h0.below HB.out) hq0 (by omega)
  have C1 : Hid (∀ W, Below w.heap.size w W → Calls Try.prog 80 #[v1, .int .i64 (q + 2 * n0)] W fun e w' => e = .returned (.int .i64 (q + 2 * n0 + 2 * n1)) ∧ Below W.heap.size W w') := fun W hW => heldNoteS_c v1 (q + 2 * n0) n1 W (h1.below hW) (by omega) (by omega)
  obtain ⟨a0, cap0, hv0, -⟩ := h0
  obtain ⟨a1, cap1, hv1, -⟩ := h1
  subst hv0 hv1
  have c0 := K0.out.cell 0
  have c1 := K0.out.cell 1
  simp at c0 c1
  have hn1 : (q + 2 * (n0 : Int) < 0) = False := eq_false (by omega)
  have hn2 : (q + 2 * (n0 : Int) + 2 * (n1 : Int) < 0) = False := eq_false (by omega)
  go_enter Try.func65, Try.ntmps65
  go_wp2
  clear hW0
  refine wp_loop_rounds 3 ?_
  rw [rounds_succ]
  go_wp2_with (fail)
  refine C0.out.mono ?_
  rintro e w1 ⟨rfl, b0⟩
  have K0' := K0.out.below b0 K0.out.lt
  have e1 := K0'.cell 1
  simp at e1
  have HB1 : Hid (Below w.heap.size w w1) := belowCall HB.out b0 HB.out.size
  clear K0' b0 c0 c1 HB K0 C0
  go_wp2
  rw [rounds_succ]
  go_wp2_with (fail)
  refine (C1.out _ HB1.out).mono ?_
  rintro e w2 ⟨rfl, b1⟩
  have HB2 : Hid (Below w.heap.size w w2) := belowCall HB1.out b1 HB1.out.size
  clear b1 e1 HB1 C1
  go_wp2
  rw [rounds_succ]
  go_wp2
  go_ret
  exact ⟨rfl, HB2.out⟩
end Go.Proofs.Ytkehcalijamhjaa

/- FnExactDoEvent's body answers true at every duo and event; no condition. -/
import Derived.Test.YtljejjfhlpjlfaaEvT
namespace Go.Proofs.Ytljejjfhlpjlfaa
open Go.RowKit Go.ChangeShapes Go.WideShapes Go.ChangeAt
set_option linter.unusedVariables false
set_option linter.unusedSimpArgs false
set_option maxRecDepth 8000
theorem eqDuo_t (s c s' c' : Int) (v v' : Value) (xs : Tri) (w : World) (h : Rt w v xs) (h' : Rt w v' xs) : Calls Try.prog 24 #[.agg (D5 s c s' c' v), .agg (D5 s c s' c' v')] w fun e w' => e = .returned (.bool true) ∧ Below w.heap.size w w' := by
  refine (eqDuo_c s c s' c' s c s' c' v v' xs xs w h h').mono ?_
  rintro e w' ⟨rfl, b⟩
  exact ⟨by simp, b⟩
set_option maxHeartbeats 25600000 in
theorem eventLaw (s c s' c' : Int) (v : Value) (cs : Tri) (k i : Int) (w : World) (h : Rt w v cs) :
   Calls Try.prog 6 #[.agg (D5 s c s' c' v), .agg (H2 k i)] w fun e w' => e = .returned (.bool true) ∧ Below w.heap.size w w' := by
  have bel0 : Below w.heap.size w ((w.alloc (Obj.cells (D5 s c s' c' v) 44)).alloc (Obj.cells (H2 k i) 49)) := ((Below.refl _ _).alloc (Nat.le_refl _) _).alloc (by simp) _
  have HLb0 : Hid (Lb w ((w.alloc (Obj.cells (D5 s c s' c' v) 44)).alloc (Obj.cells (H2 k i) 49)) s c s' c' k i v) := ⟨bel0, (Blk.new _ _ _).alloc _, Blk.newAt _ (w.heap.size + 1) _ 49 (by simp)⟩
  have HZ : Hid (Calls Try.prog 21 #[.agg (D5 s c s' c' v), .int .i64 1048576] ((w.alloc (Obj.cells (D5 s c s' c' v) 44)).alloc (Obj.cells (H2 k i) 49)) fun e w' => e = .returned (.int .i64 (lft 1048576 cs.length)) ∧ Below ((w.alloc (Obj.cells (D5 s c s' c' v) 44)).alloc (Obj.cells (H2 k i) 49)).heap.size ((w.alloc (Obj.cells (D5 s c s' c' v) 44)).alloc (Obj.cells (H2 k i) 49)) w') := szDuo_c s c s' c' v cs 1048576 _ (h.below bel0) (by decide) (by decide)
  have HH : Hid (Rt w v cs) := h
  obtain ⟨a, cap, rfl, -⟩ := h
  obtain ⟨ln, hln⟩ : ∃ ln, cs.length = ln := ⟨_, rfl⟩
  have HLL : Hid (cs.length = ln) := hln
  rw [hln] at HH HZ HLb0 ⊢
  obtain ⟨z, hz⟩ : ∃ z, lft 1048576 ln = z := ⟨_, rfl⟩
  rw [hz] at HZ
  have HZ2 : Hid (0 ≤ z → cs.length ≤ 1048576) := fun h0 => (by rw [hln]; rw [← hz] at h0; unfold lft at h0; split at h0 <;> omega)
  clear bel0 hz hln
  go_enter Try.func6, Try.ntmps6
  go_wp2_with (fail)
  refine HZ.out.mono ?_
  rintro e w1 ⟨rfl, b1⟩
  have HLb : Hid (Lb w w1 s c s' c' k i (.slice a ln cap)) := HLb0.out.below b1
  clear b1 HZ HLb0
  by_cases hneg : z < 0
  · have HBB : Hid (Below w.heap.size w w1) := HLb.out.bel
    go_wp2
    go_ret
    exact ⟨rfl, HBB.out⟩
  have hl := HZ2.out (by omega)
  have HLN : Hid (cs.length ≤ 1048576) := hl
  obtain ⟨t1, t2, t3, t4, tl, ok, ht1, ht2, htl⟩ := ev_told s c s' c' cs k i hl
  have HT1 : Hid (DOk s c s' c' cs → ((t1, t2, t3, t4, tl), ok) = doE (s, c, s', c', cs) k i) := ht1
  have HT2 : Hid (¬ DOk s c s' c' cs → ((t1, t2, t3, t4, tl), ok) = ((s, c, s', c', cs), false)) := ht2
  obtain ⟨Ln, hLn⟩ : ∃ n, tl.length = n := ⟨_, rfl⟩
  have HLT : Hid (tl.length = Ln) := hLn
  have hLb : Ln ≤ 1048576 := by omega
  have hlnb : ln ≤ 1048576 := by have := HLL.out; omega
  have hokk : (ok != ok) = false := by simp
  clear hl HZ2 ht1 ht2 htl hLn
  obtain ⟨nwa, hnwa⟩ : ∃ n, w1.heap.size = n := ⟨_, rfl⟩
  have HN0 : Hid (w.heap.size + 1 < nwa) := by rw [← hnwa]; exact HLb.out.ke.lt
  have hlowa : w.heap.size + 1 < nwa := HN0.out
  have kd0 := HLb.out.kd.cell 0
  have kd1 := HLb.out.kd.cell 1
  have kd2 := HLb.out.kd.cell 2
  have kd3 := HLb.out.kd.cell 3
  have kd4 := HLb.out.kd.cell 4
  have ke0 := HLb.out.ke.cell 0
  have ke1 := HLb.out.ke.cell 1
  have ldl := HLb.out.kd.lt
  have lel := HLb.out.ke.lt
  simp at kd0 kd1 kd2 kd3 kd4 ke0 ke1
  obtain ⟨S, hS⟩ : ∃ S : World → Prop, ∀ W, S W ↔ (Lb w W s c s' c' k i (.slice a ln cap)) := ⟨_, fun _ => Iff.rfl⟩
  have HSI : Hid (∀ W, S W ↔ (Lb w W s c s' c' k i (.slice a ln cap))) := hS
  have HSD : Hid (S w1.drew) := (hS _).2 (HLb.out.below (Below.refl _ _).drew)
  have ne1 : Nonempty (At S) := ⟨⟨_, HSD.out⟩⟩
  have y0 : ∀ W : At S, W.wd.cell? ⟨w.heap.size, 0, none⟩ = some (.int .i64 s) := fun W => by rw [((hS _).1 W.ok).kd.cell 0]; rfl
  have y1 : ∀ W : At S, W.wd.cell? ⟨w.heap.size, 1, none⟩ = some (.int .i64 c) := fun W => by rw [((hS _).1 W.ok).kd.cell 1]; rfl
  have y2 : ∀ W : At S, W.wd.cell? ⟨w.heap.size, 2, none⟩ = some (.int .i64 s') := fun W => by rw [((hS _).1 W.ok).kd.cell 2]; rfl
  have y3 : ∀ W : At S, W.wd.cell? ⟨w.heap.size, 3, none⟩ = some (.int .i64 c') := fun W => by rw [((hS _).1 W.ok).kd.cell 3]; rfl
  have y4 : ∀ W : At S, W.wd.cell? ⟨w.heap.size, 4, none⟩ = some (.slice a ln cap) := fun W => by rw [((hS _).1 W.ok).kd.cell 4]; rfl
  have x0 : ∀ W : At S, W.wd.cell? ⟨w.heap.size + 1, 0, none⟩ = some (.int .i64 k) := fun W => by rw [((hS _).1 W.ok).ke.cell 0]; rfl
  have x1 : ∀ W : At S, W.wd.cell? ⟨w.heap.size + 1, 1, none⟩ = some (.int .i64 i) := fun W => by rw [((hS _).1 W.ok).ke.cell 1]; rfl
  clear hS
  go_wp2
  apply reg_cut (F := fun g a2 c2 a3 c3 W => Hid (Lb w W s c s' c' k i (.slice a ln cap)) ∧ nwa ≤ W.heap.size ∧ Hid (Rw nwa W.heap.size W g t1 t2 t3 t4 (.slice a3 Ln c3) tl) )
  · refine region_anyS S (by kernel_rfl) ?_
    refine anyS_quiet [true, false, true, false, false, false, false, false, false, false, false] 9 rfl (by kernel_rfl) (fun _ _ _ _ _ h => by cases h.1) HSD.out ?_
    simp only [selT]
    repeat (go_big_quiet_step (fail))
    refine wpQuiet_nil ?_
    obtain ⟨u0, hu0⟩ : ∃ W, w1.drew = W := ⟨_, rfl⟩
    have HL0 : Hid (Lb w u0 s c s' c' k i (.slice a ln cap)) := hu0 ▸ HLb.out.below (Below.refl _ _).drew
    have HZ0 : Hid (nwa ≤ u0.heap.size) := by rw [← hu0, ← hnwa]; exact Nat.le_refl _
    rw [hu0]
    clear hu0
    refine anyS_two 1 8 (by kernel_rfl) rfl rfl ?_ ?_
    · go_wp2_with (fail)
      refine (toDuo_c s c s' c' (.slice a ln cap) cs u0 (HH.out.below HL0.out.bel) HLN.out).mono ?_
      rintro e u1 ⟨v2, rfl, o2, b2⟩
      obtain ⟨a2, c2, hv2, -⟩ := own_form o2
      rw [HLL.out] at hv2
      subst hv2
      have HR1 : Hid (Rt u1 (.slice a2 ln c2) cs) := o2.rd
      have HL1 : Hid (Lb w u1 s c s' c' k i (.slice a ln cap)) := HL0.out.below b2
      have HZ1 : Hid (nwa ≤ u1.heap.size) := by have := HZ0.out; have := b2.size; show nwa ≤ _; omega
      clear o2 b2
      go_wp2
      refine ⟨((HSI.out _).2 HL1.out), ?_⟩
      refine anyS_two 3 8 (by kernel_rfl) rfl rfl ?_ ?_
      · go_wp2_with (fail)
        refine (toEvent_c k i u1).mono ?_
        rintro e u2 ⟨rfl, b2⟩
        have HL2 : Hid (Lb w u2 s c s' c' k i (.slice a ln cap)) := HL1.out.below b2
        have HZ2 : Hid (nwa ≤ u2.heap.size) := by have := HZ1.out; have := b2.size; show nwa ≤ _; omega
        have HR2 : Hid (Rt u2 (.slice a2 ln c2) cs) := HR1.out.below b2
        clear b2
        go_wp2
        refine ⟨((HSI.out _).2 HL2.out), ?_⟩
        refine anyS_two 4 8 (by kernel_rfl) rfl rfl ?_ ?_
        · go_wp2_with (fail)
          refine (evM_t s c s' c' (.slice a2 ln c2) cs k i u2 HR2.out HLN.out (t1, t2, t3, t4, tl) ok HT1.out HT2.out).mono ?_
          rintro e u3 ⟨v3, rfl, o3, g3, -⟩
          obtain ⟨a3, c3, hv3, -⟩ := own_form o3
          simp only at hv3 o3
          rw [HLT.out] at hv3
          subst hv3
          have b2 : Below u2.heap.size u2 u3 := ⟨g3.os, g3.tape, g3.output, g3.size, fun j hj => g3.block j hj (by simp [Value.ownBlock])⟩
          have HO3 : Hid (OtH u2.heap.size u3.heap.size u3 (.slice a3 Ln c3) tl) := ⟨o3, fun k e => (World.ownsRow.lt o3 k e).2⟩
          have HNB : Hid (nwa ≤ u2.heap.size ∧ u2.heap.size ≤ u3.heap.size) := ⟨HZ2.out, b2.size⟩
          have HL3 : Hid (Lb w u3 s c s' c' k i (.slice a ln cap)) := HL2.out.below b2
          have HZ3 : Hid (nwa ≤ u3.heap.size) := by have := HZ2.out; have := b2.size; show nwa ≤ _; omega
          clear o3 g3 b2
          go_wp2
          refine ⟨((HSI.out _).2 HL3.out), ?_⟩
          refine anyS_quiet [false, false, false, false, false, true, true, true, false, false, false] 3 rfl (by kernel_rfl) (fun _ _ _ _ _ h => by cases h.1) ((HSI.out _).2 HL3.out) ?_
          simp only [selT]
          have ne2 : Nonempty (At S) := ⟨⟨_, ((HSI.out _).2 HL3.out)⟩⟩
          repeat (go_big_quiet_step (fail))
          refine wpQuiet_nil ?_
          clear ne2
          have HF1 : Hid (Lb w (u3.alloc (Obj.cells (D5 t1 t2 t3 t4 (.slice a3 Ln c3)) 31)) s c s' c' k i (.slice a ln cap) ∧ Rw nwa (u3.alloc (Obj.cells (D5 t1 t2 t3 t4 (.slice a3 Ln c3)) 31)).heap.size (u3.alloc (Obj.cells (D5 t1 t2 t3 t4 (.slice a3 Ln c3)) 31)) u3.heap.size t1 t2 t3 t4 (.slice a3 Ln c3) tl) := ⟨HL3.out.alloc _, _, _, HO3.out.below ((Below.refl _ _).alloc (Nat.le_refl _) _), HNB.out.1, HNB.out.2, by simp, by have := HNB.out; omega, by simp, .inr (Nat.le_refl _), Blk.new _ _ _⟩
          refine anyS_one 8 (by kernel_rfl) rfl ?_
          go_wp2
          refine ⟨((HSI.out _).2 (HL3.out.alloc _)), ?_⟩
          refine anyS_one 9 (by kernel_rfl) rfl ?_
          go_wp2
          refine ⟨((HSI.out _).2 (HL3.out.alloc _)), ?_⟩
          refine anyS_one 10 (by kernel_rfl) rfl ?_
          go_wp2
          refine ⟨((HSI.out _).2 (HL3.out.alloc _)), ?_⟩
          refine anyS_end (by kernel_rfl) ?_
          obtain ⟨gn, hgn⟩ : ∃ g, u3.heap.size = g := ⟨_, rfl⟩
          rw [hgn] at HF1 ⊢
          exact ⟨rfl, gn, a2, c2, a3, c3, rfl, HF1.out.1, by have := HNB.out; simp; omega, HF1.out.2⟩
        · have HA1 : Hid (Lb w (u2.alloc (Obj.cells (D5 0 0 0 0 (.slice none 0 0)) 31)) s c s' c' k i (.slice a ln cap)) := HL2.out.alloc _
          have HA2 : Hid (Blk (u2.alloc (Obj.cells (D5 0 0 0 0 (.slice none 0 0)) 31)) u2.heap.size (D5 0 0 0 0 (.slice none 0 0)) 31) := Blk.new _ _ _
          have HA3 : Hid (nwa ≤ u2.heap.size ∧ nwa ≤ (u2.alloc (Obj.cells (D5 0 0 0 0 (.slice none 0 0)) 31)).heap.size) := ⟨HZ2.out, by have := HZ2.out; simp; omega⟩
          have HA4 : Hid (Rt (u2.alloc (Obj.cells (D5 0 0 0 0 (.slice none 0 0)) 31)) (.slice a2 ln c2) cs) := HR2.out.below ((Below.refl _ _).alloc (Nat.le_refl _) _)
          go_wp2
          refine ⟨(HSI.out _).2 HA1.out, ?_⟩
          obtain ⟨gn, hgn⟩ : ∃ g, u2.heap.size = g := ⟨_, rfl⟩
          obtain ⟨u3, hu3⟩ : ∃ W, u2.alloc (Obj.cells (D5 0 0 0 0 (.slice none 0 0)) 31) = W := ⟨_, rfl⟩
          rw [hu3] at HA1 HA2 HA3 HA4 ⊢
          rw [hgn] at HA2 HA3 ⊢
          have HL3 := HA1
          have HZZ3 := HA2
          have HZ3 : Hid (nwa ≤ u3.heap.size) := HA3.out.2
          have HNG : Hid (nwa ≤ gn) := HA3.out.1
          have HR3 := HA4
          clear HA1 HA2 HA3 HA4 hu3 hgn
          refine anyS_one 4 (by kernel_rfl) rfl ?_
          go_wp2_with (fail)
          refine (evM_t s c s' c' (.slice a2 ln c2) cs k i u3 HR3.out HLN.out (t1, t2, t3, t4, tl) ok HT1.out HT2.out).mono ?_
          rintro e u4 ⟨v3, rfl, o3, g3, -⟩
          obtain ⟨a3, c3, hv3, -⟩ := own_form o3
          simp only at hv3 o3
          rw [HLT.out] at hv3
          subst hv3
          have b2 : Below u3.heap.size u3 u4 := ⟨g3.os, g3.tape, g3.output, g3.size, fun j hj => g3.block j hj (by simp [Value.ownBlock])⟩
          have HO3 : Hid (OtH u3.heap.size u4.heap.size u4 (.slice a3 Ln c3) tl) := ⟨o3, fun k e => (World.ownsRow.lt o3 k e).2⟩
          have HNB : Hid (nwa ≤ u3.heap.size ∧ u3.heap.size ≤ u4.heap.size) := ⟨HZ3.out, b2.size⟩
          have HL4 : Hid (Lb w u4 s c s' c' k i (.slice a ln cap)) := HL3.out.below b2
          have HZ4 : Hid (nwa ≤ u4.heap.size) := by have := HZ3.out; have := b2.size; show nwa ≤ _; omega
          have HZZ4 : Hid (Blk u4 gn (D5 0 0 0 0 (.slice none 0 0)) 31) := HZZ3.out.below b2 HZZ3.out.lt
          have HGL : Hid (gn < u3.heap.size) := HZZ3.out.lt
          clear o3 g3 b2
          go_wp2
          refine ⟨((HSI.out _).2 HL4.out), ?_⟩
          refine anyS_quiet [false, false, false, false, false, true, true, true, false, false, false] 2 rfl (by kernel_rfl) (fun _ _ _ _ _ h => by cases h.1) ((HSI.out _).2 HL4.out) ?_
          simp only [selT]
          have ne2 : Nonempty (At S) := ⟨⟨_, ((HSI.out _).2 HL4.out)⟩⟩
          repeat (go_big_quiet_step (fail))
          refine wpQuiet_nil ?_
          clear ne2
          have HW1 : Hid (w.heap.size + 1 < gn) := by have := HNG.out; have := HN0.out; show _ < gn; omega
          have HST : Hid (Mid gn (gn + 1) u4 (st5 u4 gn t1 t2 t3 t4 (.slice a3 Ln c3))) := Mid.ofGrown (grown_put5 ..) (fun k e => by cases e; omega)
          have HF1 : Hid (Lb w (st5 u4 gn t1 t2 t3 t4 (.slice a3 Ln c3)) s c s' c' k i (.slice a ln cap) ∧ Rw nwa (st5 u4 gn t1 t2 t3 t4 (.slice a3 Ln c3)).heap.size (st5 u4 gn t1 t2 t3 t4 (.slice a3 Ln c3)) gn t1 t2 t3 t4 (.slice a3 Ln c3) tl) := ⟨HL4.out.st HW1.out _ _ _ _ _, _, _, HO3.out.mid HST.out (.inr (by have := HGL.out; omega)), HNB.out.1, HNB.out.2, by simp, HNG.out, by have := HZZ4.out.lt; simp; omega, .inl HGL.out, put5 HZZ4.out _ _ _ _ _⟩
          have z0 := HZZ4.out.cell 0
          have zf0 := HZZ4.out.frozen 0
          have z1 := HZZ4.out.cell 1
          have zf1 := HZZ4.out.frozen 1
          have z2 := HZZ4.out.cell 2
          have zf2 := HZZ4.out.frozen 2
          have z3 := HZZ4.out.cell 3
          have zf3 := HZZ4.out.frozen 3
          have z4 := HZZ4.out.cell 4
          have zf4 := HZZ4.out.frozen 4
          simp at z0 z1 z2 z3 z4
          refine anyS_one 9 (by kernel_rfl) rfl ?_
          go_wp2
          refine ⟨((HSI.out _).2 (HL4.out.st HW1.out _ _ _ _ _)), ?_⟩
          refine anyS_one 10 (by kernel_rfl) rfl ?_
          go_wp2
          refine ⟨((HSI.out _).2 (HL4.out.st HW1.out _ _ _ _ _)), ?_⟩
          refine anyS_end (by kernel_rfl) ?_
          exact ⟨rfl, gn, a2, c2, a3, c3, rfl, HF1.out.1, by have := HNB.out; simp; omega, HF1.out.2⟩
      · have HA1 : Hid (Lb w (u1.alloc (Obj.cells (D5 0 0 0 0 (.slice none 0 0)) 31)) s c s' c' k i (.slice a ln cap)) := HL1.out.alloc _
        have HA2 : Hid (Blk (u1.alloc (Obj.cells (D5 0 0 0 0 (.slice none 0 0)) 31)) u1.heap.size (D5 0 0 0 0 (.slice none 0 0)) 31) := Blk.new _ _ _
        have HA3 : Hid (nwa ≤ u1.heap.size ∧ nwa ≤ (u1.alloc (Obj.cells (D5 0 0 0 0 (.slice none 0 0)) 31)).heap.size) := ⟨HZ1.out, by have := HZ1.out; simp; omega⟩
        have HA4 : Hid (Rt (u1.alloc (Obj.cells (D5 0 0 0 0 (.slice none 0 0)) 31)) (.slice a2 ln c2) cs) := HR1.out.below ((Below.refl _ _).alloc (Nat.le_refl _) _)
        go_wp2
        refine ⟨(HSI.out _).2 HA1.out, ?_⟩
        obtain ⟨gn, hgn⟩ : ∃ g, u1.heap.size = g := ⟨_, rfl⟩
        obtain ⟨u2, hu2⟩ : ∃ W, u1.alloc (Obj.cells (D5 0 0 0 0 (.slice none 0 0)) 31) = W := ⟨_, rfl⟩
        rw [hu2] at HA1 HA2 HA3 HA4 ⊢
        rw [hgn] at HA2 HA3 ⊢
        have HL2 := HA1
        have HZZ2 := HA2
        have HZ2 : Hid (nwa ≤ u2.heap.size) := HA3.out.2
        have HNG : Hid (nwa ≤ gn) := HA3.out.1
        have HR2 := HA4
        clear HA1 HA2 HA3 HA4 hu2 hgn
        refine anyS_one 3 (by kernel_rfl) rfl ?_
        go_wp2_with (fail)
        refine (toEvent_c k i u2).mono ?_
        rintro e u3 ⟨rfl, b2⟩
        have HL3 : Hid (Lb w u3 s c s' c' k i (.slice a ln cap)) := HL2.out.below b2
        have HZ3 : Hid (nwa ≤ u3.heap.size) := by have := HZ2.out; have := b2.size; show nwa ≤ _; omega
        have HR3 : Hid (Rt u3 (.slice a2 ln c2) cs) := HR2.out.below b2
        have HZZ3 : Hid (Blk u3 gn (D5 0 0 0 0 (.slice none 0 0)) 31) := HZZ2.out.below b2 HZZ2.out.lt
        clear b2
        go_wp2
        refine ⟨((HSI.out _).2 HL3.out), ?_⟩
        refine anyS_one 4 (by kernel_rfl) rfl ?_
        go_wp2_with (fail)
        refine (evM_t s c s' c' (.slice a2 ln c2) cs k i u3 HR3.out HLN.out (t1, t2, t3, t4, tl) ok HT1.out HT2.out).mono ?_
        rintro e u4 ⟨v3, rfl, o3, g3, -⟩
        obtain ⟨a3, c3, hv3, -⟩ := own_form o3
        simp only at hv3 o3
        rw [HLT.out] at hv3
        subst hv3
        have b2 : Below u3.heap.size u3 u4 := ⟨g3.os, g3.tape, g3.output, g3.size, fun j hj => g3.block j hj (by simp [Value.ownBlock])⟩
        have HO3 : Hid (OtH u3.heap.size u4.heap.size u4 (.slice a3 Ln c3) tl) := ⟨o3, fun k e => (World.ownsRow.lt o3 k e).2⟩
        have HNB : Hid (nwa ≤ u3.heap.size ∧ u3.heap.size ≤ u4.heap.size) := ⟨HZ3.out, b2.size⟩
        have HL4 : Hid (Lb w u4 s c s' c' k i (.slice a ln cap)) := HL3.out.below b2
        have HZ4 : Hid (nwa ≤ u4.heap.size) := by have := HZ3.out; have := b2.size; show nwa ≤ _; omega
        have HZZ4 : Hid (Blk u4 gn (D5 0 0 0 0 (.slice none 0 0)) 31) := HZZ3.out.below b2 HZZ3.out.lt
        have HGL : Hid (gn < u3.heap.size) := HZZ3.out.lt
        clear o3 g3 b2
        go_wp2
        refine ⟨((HSI.out _).2 HL4.out), ?_⟩
        refine anyS_quiet [false, false, false, false, false, true, true, true, false, false, false] 2 rfl (by kernel_rfl) (fun _ _ _ _ _ h => by cases h.1) ((HSI.out _).2 HL4.out) ?_
        simp only [selT]
        have ne2 : Nonempty (At S) := ⟨⟨_, ((HSI.out _).2 HL4.out)⟩⟩
        repeat (go_big_quiet_step (fail))
        refine wpQuiet_nil ?_
        clear ne2
        have HW1 : Hid (w.heap.size + 1 < gn) := by have := HNG.out; have := HN0.out; show _ < gn; omega
        have HST : Hid (Mid gn (gn + 1) u4 (st5 u4 gn t1 t2 t3 t4 (.slice a3 Ln c3))) := Mid.ofGrown (grown_put5 ..) (fun k e => by cases e; omega)
        have HF1 : Hid (Lb w (st5 u4 gn t1 t2 t3 t4 (.slice a3 Ln c3)) s c s' c' k i (.slice a ln cap) ∧ Rw nwa (st5 u4 gn t1 t2 t3 t4 (.slice a3 Ln c3)).heap.size (st5 u4 gn t1 t2 t3 t4 (.slice a3 Ln c3)) gn t1 t2 t3 t4 (.slice a3 Ln c3) tl) := ⟨HL4.out.st HW1.out _ _ _ _ _, _, _, HO3.out.mid HST.out (.inr (by have := HGL.out; omega)), HNB.out.1, HNB.out.2, by simp, HNG.out, by have := HZZ4.out.lt; simp; omega, .inl HGL.out, put5 HZZ4.out _ _ _ _ _⟩
        have z0 := HZZ4.out.cell 0
        have zf0 := HZZ4.out.frozen 0
        have z1 := HZZ4.out.cell 1
        have zf1 := HZZ4.out.frozen 1
        have z2 := HZZ4.out.cell 2
        have zf2 := HZZ4.out.frozen 2
        have z3 := HZZ4.out.cell 3
        have zf3 := HZZ4.out.frozen 3
        have z4 := HZZ4.out.cell 4
        have zf4 := HZZ4.out.frozen 4
        simp at z0 z1 z2 z3 z4
        refine anyS_one 9 (by kernel_rfl) rfl ?_
        go_wp2
        refine ⟨((HSI.out _).2 (HL4.out.st HW1.out _ _ _ _ _)), ?_⟩
        refine anyS_one 10 (by kernel_rfl) rfl ?_
        go_wp2
        refine ⟨((HSI.out _).2 (HL4.out.st HW1.out _ _ _ _ _)), ?_⟩
        refine anyS_end (by kernel_rfl) ?_
        exact ⟨rfl, gn, a2, c2, a3, c3, rfl, HF1.out.1, by have := HNB.out; simp; omega, HF1.out.2⟩
    · have HA1 : Hid (Lb w (u0.alloc (Obj.cells (D5 0 0 0 0 (.slice none 0 0)) 31)) s c s' c' k i (.slice a ln cap)) := HL0.out.alloc _
      have HA2 : Hid (Blk (u0.alloc (Obj.cells (D5 0 0 0 0 (.slice none 0 0)) 31)) u0.heap.size (D5 0 0 0 0 (.slice none 0 0)) 31) := Blk.new _ _ _
      have HA3 : Hid (nwa ≤ u0.heap.size ∧ nwa ≤ (u0.alloc (Obj.cells (D5 0 0 0 0 (.slice none 0 0)) 31)).heap.size) := ⟨HZ0.out, by have := HZ0.out; simp; omega⟩
      go_wp2
      refine ⟨(HSI.out _).2 HA1.out, ?_⟩
      obtain ⟨gn, hgn⟩ : ∃ g, u0.heap.size = g := ⟨_, rfl⟩
      obtain ⟨u1, hu1⟩ : ∃ W, u0.alloc (Obj.cells (D5 0 0 0 0 (.slice none 0 0)) 31) = W := ⟨_, rfl⟩
      rw [hu1] at HA1 HA2 HA3 ⊢
      rw [hgn] at HA2 HA3 ⊢
      have HL1 := HA1
      have HZZ1 := HA2
      have HZ1 : Hid (nwa ≤ u1.heap.size) := HA3.out.2
      have HNG : Hid (nwa ≤ gn) := HA3.out.1
      clear HA1 HA2 HA3 hu1 hgn
      refine anyS_one 1 (by kernel_rfl) rfl ?_
      go_wp2_with (fail)
      refine (toDuo_c s c s' c' (.slice a ln cap) cs u1 (HH.out.below HL1.out.bel) HLN.out).mono ?_
      rintro e u2 ⟨v2, rfl, o2, b2⟩
      obtain ⟨a2, c2, hv2, -⟩ := own_form o2
      rw [HLL.out] at hv2
      subst hv2
      have HR2 : Hid (Rt u2 (.slice a2 ln c2) cs) := o2.rd
      have HL2 : Hid (Lb w u2 s c s' c' k i (.slice a ln cap)) := HL1.out.below b2
      have HZ2 : Hid (nwa ≤ u2.heap.size) := by have := HZ1.out; have := b2.size; show nwa ≤ _; omega
      have HZZ2 : Hid (Blk u2 gn (D5 0 0 0 0 (.slice none 0 0)) 31) := HZZ1.out.below b2 HZZ1.out.lt
      clear o2 b2
      go_wp2
      refine ⟨((HSI.out _).2 HL2.out), ?_⟩
      refine anyS_one 3 (by kernel_rfl) rfl ?_
      go_wp2_with (fail)
      refine (toEvent_c k i u2).mono ?_
      rintro e u3 ⟨rfl, b2⟩
      have HL3 : Hid (Lb w u3 s c s' c' k i (.slice a ln cap)) := HL2.out.below b2
      have HZ3 : Hid (nwa ≤ u3.heap.size) := by have := HZ2.out; have := b2.size; show nwa ≤ _; omega
      have HR3 : Hid (Rt u3 (.slice a2 ln c2) cs) := HR2.out.below b2
      have HZZ3 : Hid (Blk u3 gn (D5 0 0 0 0 (.slice none 0 0)) 31) := HZZ2.out.below b2 HZZ2.out.lt
      clear b2
      go_wp2
      refine ⟨((HSI.out _).2 HL3.out), ?_⟩
      refine anyS_one 4 (by kernel_rfl) rfl ?_
      go_wp2_with (fail)
      refine (evM_t s c s' c' (.slice a2 ln c2) cs k i u3 HR3.out HLN.out (t1, t2, t3, t4, tl) ok HT1.out HT2.out).mono ?_
      rintro e u4 ⟨v3, rfl, o3, g3, -⟩
      obtain ⟨a3, c3, hv3, -⟩ := own_form o3
      simp only at hv3 o3
      rw [HLT.out] at hv3
      subst hv3
      have b2 : Below u3.heap.size u3 u4 := ⟨g3.os, g3.tape, g3.output, g3.size, fun j hj => g3.block j hj (by simp [Value.ownBlock])⟩
      have HO3 : Hid (OtH u3.heap.size u4.heap.size u4 (.slice a3 Ln c3) tl) := ⟨o3, fun k e => (World.ownsRow.lt o3 k e).2⟩
      have HNB : Hid (nwa ≤ u3.heap.size ∧ u3.heap.size ≤ u4.heap.size) := ⟨HZ3.out, b2.size⟩
      have HL4 : Hid (Lb w u4 s c s' c' k i (.slice a ln cap)) := HL3.out.below b2
      have HZ4 : Hid (nwa ≤ u4.heap.size) := by have := HZ3.out; have := b2.size; show nwa ≤ _; omega
      have HZZ4 : Hid (Blk u4 gn (D5 0 0 0 0 (.slice none 0 0)) 31) := HZZ3.out.below b2 HZZ3.out.lt
      have HGL : Hid (gn < u3.heap.size) := HZZ3.out.lt
      clear o3 g3 b2
      go_wp2
      refine ⟨((HSI.out _).2 HL4.out), ?_⟩
      refine anyS_quiet [false, false, false, false, false, true, true, true, false, false, false] 2 rfl (by kernel_rfl) (fun _ _ _ _ _ h => by cases h.1) ((HSI.out _).2 HL4.out) ?_
      simp only [selT]
      have ne2 : Nonempty (At S) := ⟨⟨_, ((HSI.out _).2 HL4.out)⟩⟩
      repeat (go_big_quiet_step (fail))
      refine wpQuiet_nil ?_
      clear ne2
      have HW1 : Hid (w.heap.size + 1 < gn) := by have := HNG.out; have := HN0.out; show _ < gn; omega
      have HST : Hid (Mid gn (gn + 1) u4 (st5 u4 gn t1 t2 t3 t4 (.slice a3 Ln c3))) := Mid.ofGrown (grown_put5 ..) (fun k e => by cases e; omega)
      have HF1 : Hid (Lb w (st5 u4 gn t1 t2 t3 t4 (.slice a3 Ln c3)) s c s' c' k i (.slice a ln cap) ∧ Rw nwa (st5 u4 gn t1 t2 t3 t4 (.slice a3 Ln c3)).heap.size (st5 u4 gn t1 t2 t3 t4 (.slice a3 Ln c3)) gn t1 t2 t3 t4 (.slice a3 Ln c3) tl) := ⟨HL4.out.st HW1.out _ _ _ _ _, _, _, HO3.out.mid HST.out (.inr (by have := HGL.out; omega)), HNB.out.1, HNB.out.2, by simp, HNG.out, by have := HZZ4.out.lt; simp; omega, .inl HGL.out, put5 HZZ4.out _ _ _ _ _⟩
      have z0 := HZZ4.out.cell 0
      have zf0 := HZZ4.out.frozen 0
      have z1 := HZZ4.out.cell 1
      have zf1 := HZZ4.out.frozen 1
      have z2 := HZZ4.out.cell 2
      have zf2 := HZZ4.out.frozen 2
      have z3 := HZZ4.out.cell 3
      have zf3 := HZZ4.out.frozen 3
      have z4 := HZZ4.out.cell 4
      have zf4 := HZZ4.out.frozen 4
      simp at z0 z1 z2 z3 z4
      refine anyS_one 9 (by kernel_rfl) rfl ?_
      go_wp2
      refine ⟨((HSI.out _).2 (HL4.out.st HW1.out _ _ _ _ _)), ?_⟩
      refine anyS_one 10 (by kernel_rfl) rfl ?_
      go_wp2
      refine ⟨((HSI.out _).2 (HL4.out.st HW1.out _ _ _ _ _)), ?_⟩
      refine anyS_end (by kernel_rfl) ?_
      exact ⟨rfl, gn, a2, c2, a3, c3, rfl, HF1.out.1, by have := HNB.out; simp; omega, HF1.out.2⟩
  clear kd0 kd1 kd2 kd3 kd4 ke0 ke1 ldl lel
  clear y0 y1 y2 y3 y4 x0 x1 ne1 HSI HSD HN0 HLb 
  rintro gwa a2wa c2wa awa cwa w2 ⟨HLb, hznwa, Hwa⟩
  try dsimp only
  obtain ⟨Nwa, hNwa⟩ : ∃ n, w2.heap.size = n := ⟨_, rfl⟩
  rw [hNwa] at Hwa hznwa
  have hwwa := Hwa.out.rng
  have kd0 := HLb.out.kd.cell 0
  have kd1 := HLb.out.kd.cell 1
  have kd2 := HLb.out.kd.cell 2
  have kd3 := HLb.out.kd.cell 3
  have kd4 := HLb.out.kd.cell 4
  have ke0 := HLb.out.ke.cell 0
  have ke1 := HLb.out.ke.cell 1
  have ldl := HLb.out.kd.lt
  have lel := HLb.out.ke.lt
  have wab0 := Hwa.out.box.cell 0
  have wab1 := Hwa.out.box.cell 1
  have wab2 := Hwa.out.box.cell 2
  have wab3 := Hwa.out.box.cell 3
  have wab4 := Hwa.out.box.cell 4
  have wal := Hwa.out.box.lt
  simp at kd0 kd1 kd2 kd3 kd4 ke0 ke1 wab0 wab1 wab2 wab3 wab4
  go_wp2_with (fail)
  refine (toDuo_c s c s' c' (.slice a ln cap) cs w2 (HH.out.below HLb.out.bel) HLN.out).mono ?_
  rintro e w3 ⟨vx, rfl, ox, b⟩
  clear kd0 kd1 kd2 kd3 kd4 ke0 ke1 ldl lel wab0 wab1 wab2 wab3 wab4 wal
  obtain ⟨ax, cx, hvx, -⟩ := own_form ox
  rw [HLL.out] at hvx
  subst hvx
  obtain ⟨nX, hnX⟩ : ∃ n, w2.heap.size = n := ⟨_, rfl⟩
  have zX := b.size
  rw [hnX] at zX
  have hloX : w.heap.size + 1 < nX := by rw [← hnX]; exact HLb.out.ke.lt
  have HLb' : Hid (Lb w w3 s c s' c' k i (.slice a ln cap)) := HLb.out.below b
  have Hwa' : Hid (Rw nwa Nwa w3 gwa t1 t2 t3 t4 (.slice awa Ln cwa) tl) := Hwa.out.below b
  have zsw3 : w2.heap.size ≤ w3.heap.size := b.size
  clear HLb Hwa
  have HLb := HLb'
  clear HLb'
  have Hwa := Hwa'
  clear Hwa'
  have HXr : Hid (Rw nX (w3.alloc (Obj.cells (D5 s c s' c' (.slice ax ln cx)) 31)).heap.size (w3.alloc (Obj.cells (D5 s c s' c' (.slice ax ln cx)) 31)) w3.heap.size s c s' c' (.slice ax ln cx) cs) := ⟨_, _, (Ot.toH (by rw [← hnX]; exact ox)).below ((Below.refl _ _).alloc (Nat.le_refl _) _), Nat.le_refl _, zX, by simp, zX, by simp, .inr (Nat.le_refl _), Blk.new _ _ _⟩
  clear ox b
  obtain ⟨w4, hw4⟩ : ∃ W, (w3.alloc (Obj.cells (D5 s c s' c' (.slice ax ln cx)) 31)) = W := ⟨_, rfl⟩
  have bA : Below w3.heap.size w3 w4 := hw4 ▸ (Below.refl _ _).alloc (Nat.le_refl _) _
  have zW : w3.heap.size < w4.heap.size := by rw [← hw4]; simp
  have HLb' : Hid (Lb w w4 s c s' c' k i (.slice a ln cap)) := HLb.out.below bA
  have Hwa' : Hid (Rw nwa Nwa w4 gwa t1 t2 t3 t4 (.slice awa Ln cwa) tl) := Hwa.out.below bA
  have zsw4 : w3.heap.size ≤ w4.heap.size := bA.size
  clear HLb Hwa
  have HLb := HLb'
  clear HLb'
  have Hwa := Hwa'
  clear Hwa'
  rw [hw4] at HXr
  obtain ⟨NX, hNX⟩ : ∃ n, w4.heap.size = n := ⟨_, rfl⟩
  obtain ⟨gX, hgX⟩ : ∃ n, w3.heap.size = n := ⟨_, rfl⟩
  rw [hNX, hgX] at HXr
  have HX := HXr
  clear HXr bA
  rw [hNX, hgX] at zW
  rw [hgX] at zX
  have hwX := HX.out.rng
  skip
  have hNA2 : Nwa ≤ nX := by omega
  obtain ⟨nga, hnga⟩ : ∃ n, w4.heap.size = n := ⟨_, rfl⟩
  have HN0 : Hid (w.heap.size + 1 < nga) := by rw [← hnga]; exact HLb.out.ke.lt
  have hloga : w.heap.size + 1 < nga := HN0.out
  have kd0 := HLb.out.kd.cell 0
  have kd1 := HLb.out.kd.cell 1
  have kd2 := HLb.out.kd.cell 2
  have kd3 := HLb.out.kd.cell 3
  have kd4 := HLb.out.kd.cell 4
  have ke0 := HLb.out.ke.cell 0
  have ke1 := HLb.out.ke.cell 1
  have ldl := HLb.out.kd.lt
  have lel := HLb.out.ke.lt
  have wab0 := Hwa.out.box.cell 0
  have wab1 := Hwa.out.box.cell 1
  have wab2 := Hwa.out.box.cell 2
  have wab3 := Hwa.out.box.cell 3
  have wab4 := Hwa.out.box.cell 4
  have wal := Hwa.out.box.lt
  have Xb0 := HX.out.box.cell 0
  have Xb1 := HX.out.box.cell 1
  have Xb2 := HX.out.box.cell 2
  have Xb3 := HX.out.box.cell 3
  have Xb4 := HX.out.box.cell 4
  have Xl := HX.out.box.lt
  simp at kd0 kd1 kd2 kd3 kd4 ke0 ke1 wab0 wab1 wab2 wab3 wab4 Xb0 Xb1 Xb2 Xb3 Xb4
  obtain ⟨S, hS⟩ : ∃ S : World → Prop, ∀ W, S W ↔ (Lb w W s c s' c' k i (.slice a ln cap) ∧ Rw nX NX W gX s c s' c' (.slice ax ln cx) cs) := ⟨_, fun _ => Iff.rfl⟩
  have HSI : Hid (∀ W, S W ↔ (Lb w W s c s' c' k i (.slice a ln cap) ∧ Rw nX NX W gX s c s' c' (.slice ax ln cx) cs)) := hS
  have HSD : Hid (S w4.drew) := (hS _).2 ⟨HLb.out.below (Below.refl _ _).drew, HX.out.below (Below.refl _ _).drew⟩
  have ne1 : Nonempty (At S) := ⟨⟨_, HSD.out⟩⟩
  have y0 : ∀ W : At S, W.wd.cell? ⟨gX, 0, none⟩ = some (.int .i64 s) := fun W => by rw [((hS _).1 W.ok).2.box.cell 0]; rfl
  have y1 : ∀ W : At S, W.wd.cell? ⟨gX, 1, none⟩ = some (.int .i64 c) := fun W => by rw [((hS _).1 W.ok).2.box.cell 1]; rfl
  have y2 : ∀ W : At S, W.wd.cell? ⟨gX, 2, none⟩ = some (.int .i64 s') := fun W => by rw [((hS _).1 W.ok).2.box.cell 2]; rfl
  have y3 : ∀ W : At S, W.wd.cell? ⟨gX, 3, none⟩ = some (.int .i64 c') := fun W => by rw [((hS _).1 W.ok).2.box.cell 3]; rfl
  have y4 : ∀ W : At S, W.wd.cell? ⟨gX, 4, none⟩ = some (.slice ax ln cx) := fun W => by rw [((hS _).1 W.ok).2.box.cell 4]; rfl
  have x0 : ∀ W : At S, W.wd.cell? ⟨w.heap.size + 1, 0, none⟩ = some (.int .i64 k) := fun W => by rw [((hS _).1 W.ok).1.ke.cell 0]; rfl
  have x1 : ∀ W : At S, W.wd.cell? ⟨w.heap.size + 1, 1, none⟩ = some (.int .i64 i) := fun W => by rw [((hS _).1 W.ok).1.ke.cell 1]; rfl
  clear hS
  go_wp2
  apply reg_cut (F := fun g a2 c2 a3 c3 W => Hid (Lb w W s c s' c' k i (.slice a ln cap)) ∧ nga ≤ W.heap.size ∧ Hid (Rw nga W.heap.size W g t1 t2 t3 t4 (.slice a3 Ln c3) tl) ∧ Hid (Rw nwa Nwa W gwa t1 t2 t3 t4 (.slice awa Ln cwa) tl) ∧ Hid (Rw nX NX W gX s c s' c' (.slice ax ln cx) cs) )
  · refine region_anyS S (by kernel_rfl) ?_
    refine anyS_quiet [true, true, false, false, false, false, false, false, false, false] 8 rfl (by kernel_rfl) (fun _ _ _ _ _ h => by cases h.1) HSD.out ?_
    simp only [selT]
    repeat (go_big_quiet_step (fail))
    refine wpQuiet_nil ?_
    obtain ⟨u0, hu0⟩ : ∃ W, w4.drew = W := ⟨_, rfl⟩
    have HL0 : Hid (Lb w u0 s c s' c' k i (.slice a ln cap)) := hu0 ▸ HLb.out.below (Below.refl _ _).drew
    have Hwa0 : Hid (Rw nwa Nwa u0 gwa t1 t2 t3 t4 (.slice awa Ln cwa) tl) := hu0 ▸ Hwa.out.below (Below.refl _ _).drew
    have HX0 : Hid (Rw nX NX u0 gX s c s' c' (.slice ax ln cx) cs) := hu0 ▸ HX.out.below (Below.refl _ _).drew
    have HZ0 : Hid (nga ≤ u0.heap.size) := by rw [← hu0, ← hnga]; exact Nat.le_refl _
    rw [hu0]
    clear hu0
    refine anyS_two 2 7 (by kernel_rfl) rfl rfl ?_ ?_
    · go_wp2_with (fail)
      refine (toEvent_c k i u0).mono ?_
      rintro e u1 ⟨rfl, b2⟩
      have HL1 : Hid (Lb w u1 s c s' c' k i (.slice a ln cap)) := HL0.out.below b2
      have HZ1 : Hid (nga ≤ u1.heap.size) := by have := HZ0.out; have := b2.size; show nga ≤ _; omega
      have Hwa1 : Hid (Rw nwa Nwa u1 gwa t1 t2 t3 t4 (.slice awa Ln cwa) tl) := Hwa0.out.below b2
      have HX1 : Hid (Rw nX NX u1 gX s c s' c' (.slice ax ln cx) cs) := HX0.out.below b2
      clear b2
      go_wp2
      refine ⟨((HSI.out _).2 ⟨HL1.out, HX1.out⟩), ?_⟩
      refine anyS_two 3 7 (by kernel_rfl) rfl rfl ?_ ?_
      · go_wp2_with (fail)
        refine (evI_t s c s' c' (.slice ax ln cx) cs k i u1 HX1.out.rd HLN.out (t1, t2, t3, t4, tl) ok HT1.out HT2.out).mono ?_
        rintro e u2 ⟨v3, rfl, o3, g3, -⟩
        obtain ⟨a3, c3, hv3, -⟩ := own_form o3
        simp only at hv3 o3
        rw [HLT.out] at hv3
        subst hv3
        have b2 : Below u1.heap.size u1 u2 := ⟨g3.os, g3.tape, g3.output, g3.size, fun j hj => g3.block j hj (by simp [Value.ownBlock])⟩
        have HO3 : Hid (OtH u1.heap.size u2.heap.size u2 (.slice a3 Ln c3) tl) := ⟨o3, fun k e => (World.ownsRow.lt o3 k e).2⟩
        have HNB : Hid (nga ≤ u1.heap.size ∧ u1.heap.size ≤ u2.heap.size) := ⟨HZ1.out, b2.size⟩
        have HL2 : Hid (Lb w u2 s c s' c' k i (.slice a ln cap)) := HL1.out.below b2
        have HZ2 : Hid (nga ≤ u2.heap.size) := by have := HZ1.out; have := b2.size; show nga ≤ _; omega
        have Hwa2 : Hid (Rw nwa Nwa u2 gwa t1 t2 t3 t4 (.slice awa Ln cwa) tl) := Hwa1.out.below b2
        have HX2 : Hid (Rw nX NX u2 gX s c s' c' (.slice ax ln cx) cs) := HX1.out.below b2
        clear o3 g3 b2
        go_wp2
        refine ⟨((HSI.out _).2 ⟨HL2.out, HX2.out⟩), ?_⟩
        refine anyS_quiet [false, false, false, false, true, true, true, false, false, false] 3 rfl (by kernel_rfl) (fun _ _ _ _ _ h => by cases h.1) ((HSI.out _).2 ⟨HL2.out, HX2.out⟩) ?_
        simp only [selT]
        have ne2 : Nonempty (At S) := ⟨⟨_, ((HSI.out _).2 ⟨HL2.out, HX2.out⟩)⟩⟩
        repeat (go_big_quiet_step (fail))
        refine wpQuiet_nil ?_
        clear ne2
        have HF1 : Hid (Lb w (u2.alloc (Obj.cells (D5 t1 t2 t3 t4 (.slice a3 Ln c3)) 31)) s c s' c' k i (.slice a ln cap) ∧ Rw nga (u2.alloc (Obj.cells (D5 t1 t2 t3 t4 (.slice a3 Ln c3)) 31)).heap.size (u2.alloc (Obj.cells (D5 t1 t2 t3 t4 (.slice a3 Ln c3)) 31)) u2.heap.size t1 t2 t3 t4 (.slice a3 Ln c3) tl) := ⟨HL2.out.alloc _, _, _, HO3.out.below ((Below.refl _ _).alloc (Nat.le_refl _) _), HNB.out.1, HNB.out.2, by simp, by have := HNB.out; omega, by simp, .inr (Nat.le_refl _), Blk.new _ _ _⟩
        refine anyS_one 7 (by kernel_rfl) rfl ?_
        go_wp2
        refine ⟨((HSI.out _).2 ⟨HL2.out.alloc _, HX2.out.below ((Below.refl _ _).alloc (Nat.le_refl _) _)⟩), ?_⟩
        refine anyS_one 8 (by kernel_rfl) rfl ?_
        go_wp2
        refine ⟨((HSI.out _).2 ⟨HL2.out.alloc _, HX2.out.below ((Below.refl _ _).alloc (Nat.le_refl _) _)⟩), ?_⟩
        refine anyS_one 9 (by kernel_rfl) rfl ?_
        go_wp2
        refine ⟨((HSI.out _).2 ⟨HL2.out.alloc _, HX2.out.below ((Below.refl _ _).alloc (Nat.le_refl _) _)⟩), ?_⟩
        refine anyS_end (by kernel_rfl) ?_
        obtain ⟨gn, hgn⟩ : ∃ g, u2.heap.size = g := ⟨_, rfl⟩
        rw [hgn] at HF1 ⊢
        obtain ⟨a2, -⟩ : ∃ x : Option Addr, True := ⟨none, trivial⟩
        obtain ⟨c2, -⟩ : ∃ x : Nat, True := ⟨0, trivial⟩
        exact ⟨rfl, gn, a2, c2, a3, c3, rfl, HF1.out.1, by have := HNB.out; simp; omega, HF1.out.2, Hwa2.out.below ((Below.refl _ _).alloc (Nat.le_refl _) _), HX2.out.below ((Below.refl _ _).alloc (Nat.le_refl _) _)⟩
      · have HA1 : Hid (Lb w (u1.alloc (Obj.cells (D5 0 0 0 0 (.slice none 0 0)) 31)) s c s' c' k i (.slice a ln cap)) := HL1.out.alloc _
        have HA2 : Hid (Blk (u1.alloc (Obj.cells (D5 0 0 0 0 (.slice none 0 0)) 31)) u1.heap.size (D5 0 0 0 0 (.slice none 0 0)) 31) := Blk.new _ _ _
        have HA3 : Hid (nga ≤ u1.heap.size ∧ nga ≤ (u1.alloc (Obj.cells (D5 0 0 0 0 (.slice none 0 0)) 31)).heap.size) := ⟨HZ1.out, by have := HZ1.out; simp; omega⟩
        have HAxwa : Hid (Rw nwa Nwa (u1.alloc (Obj.cells (D5 0 0 0 0 (.slice none 0 0)) 31)) gwa t1 t2 t3 t4 (.slice awa Ln cwa) tl) := Hwa1.out.below ((Below.refl _ _).alloc (Nat.le_refl _) _)
        have HAxX : Hid (Rw nX NX (u1.alloc (Obj.cells (D5 0 0 0 0 (.slice none 0 0)) 31)) gX s c s' c' (.slice ax ln cx) cs) := HX1.out.below ((Below.refl _ _).alloc (Nat.le_refl _) _)
        go_wp2
        refine ⟨(HSI.out _).2 ⟨HA1.out, HAxX.out⟩, ?_⟩
        obtain ⟨gn, hgn⟩ : ∃ g, u1.heap.size = g := ⟨_, rfl⟩
        obtain ⟨u2, hu2⟩ : ∃ W, u1.alloc (Obj.cells (D5 0 0 0 0 (.slice none 0 0)) 31) = W := ⟨_, rfl⟩
        rw [hu2] at HA1 HA2 HA3 HAxwa HAxX ⊢
        rw [hgn] at HA2 HA3 ⊢
        have HL2 := HA1
        have HZZ2 := HA2
        have HZ2 : Hid (nga ≤ u2.heap.size) := HA3.out.2
        have HNG : Hid (nga ≤ gn) := HA3.out.1
        have Hwa2 := HAxwa
        have HX2 := HAxX
        clear HA1 HA2 HA3 HAxwa HAxX hu2 hgn
        refine anyS_one 3 (by kernel_rfl) rfl ?_
        go_wp2_with (fail)
        refine (evI_t s c s' c' (.slice ax ln cx) cs k i u2 HX2.out.rd HLN.out (t1, t2, t3, t4, tl) ok HT1.out HT2.out).mono ?_
        rintro e u3 ⟨v3, rfl, o3, g3, -⟩
        obtain ⟨a3, c3, hv3, -⟩ := own_form o3
        simp only at hv3 o3
        rw [HLT.out] at hv3
        subst hv3
        have b2 : Below u2.heap.size u2 u3 := ⟨g3.os, g3.tape, g3.output, g3.size, fun j hj => g3.block j hj (by simp [Value.ownBlock])⟩
        have HO3 : Hid (OtH u2.heap.size u3.heap.size u3 (.slice a3 Ln c3) tl) := ⟨o3, fun k e => (World.ownsRow.lt o3 k e).2⟩
        have HNB : Hid (nga ≤ u2.heap.size ∧ u2.heap.size ≤ u3.heap.size) := ⟨HZ2.out, b2.size⟩
        have HL3 : Hid (Lb w u3 s c s' c' k i (.slice a ln cap)) := HL2.out.below b2
        have HZ3 : Hid (nga ≤ u3.heap.size) := by have := HZ2.out; have := b2.size; show nga ≤ _; omega
        have Hwa3 : Hid (Rw nwa Nwa u3 gwa t1 t2 t3 t4 (.slice awa Ln cwa) tl) := Hwa2.out.below b2
        have HX3 : Hid (Rw nX NX u3 gX s c s' c' (.slice ax ln cx) cs) := HX2.out.below b2
        have HZZ3 : Hid (Blk u3 gn (D5 0 0 0 0 (.slice none 0 0)) 31) := HZZ2.out.below b2 HZZ2.out.lt
        have HGL : Hid (gn < u2.heap.size) := HZZ2.out.lt
        clear o3 g3 b2
        go_wp2
        refine ⟨((HSI.out _).2 ⟨HL3.out, HX3.out⟩), ?_⟩
        refine anyS_quiet [false, false, false, false, true, true, true, false, false, false] 2 rfl (by kernel_rfl) (fun _ _ _ _ _ h => by cases h.1) ((HSI.out _).2 ⟨HL3.out, HX3.out⟩) ?_
        simp only [selT]
        have ne2 : Nonempty (At S) := ⟨⟨_, ((HSI.out _).2 ⟨HL3.out, HX3.out⟩)⟩⟩
        repeat (go_big_quiet_step (fail))
        refine wpQuiet_nil ?_
        clear ne2
        have HW1 : Hid (w.heap.size + 1 < gn) := by have := HNG.out; have := HN0.out; show _ < gn; omega
        have HST : Hid (Mid gn (gn + 1) u3 (st5 u3 gn t1 t2 t3 t4 (.slice a3 Ln c3))) := Mid.ofGrown (grown_put5 ..) (fun k e => by cases e; omega)
        have HF1 : Hid (Lb w (st5 u3 gn t1 t2 t3 t4 (.slice a3 Ln c3)) s c s' c' k i (.slice a ln cap) ∧ Rw nga (st5 u3 gn t1 t2 t3 t4 (.slice a3 Ln c3)).heap.size (st5 u3 gn t1 t2 t3 t4 (.slice a3 Ln c3)) gn t1 t2 t3 t4 (.slice a3 Ln c3) tl) := ⟨HL3.out.st HW1.out _ _ _ _ _, _, _, HO3.out.mid HST.out (.inr (by have := HGL.out; omega)), HNB.out.1, HNB.out.2, by simp, HNG.out, by have := HZZ3.out.lt; simp; omega, .inl HGL.out, put5 HZZ3.out _ _ _ _ _⟩
        have z0 := HZZ3.out.cell 0
        have zf0 := HZZ3.out.frozen 0
        have z1 := HZZ3.out.cell 1
        have zf1 := HZZ3.out.frozen 1
        have z2 := HZZ3.out.cell 2
        have zf2 := HZZ3.out.frozen 2
        have z3 := HZZ3.out.cell 3
        have zf3 := HZZ3.out.frozen 3
        have z4 := HZZ3.out.cell 4
        have zf4 := HZZ3.out.frozen 4
        simp at z0 z1 z2 z3 z4
        refine anyS_one 8 (by kernel_rfl) rfl ?_
        go_wp2
        refine ⟨((HSI.out _).2 ⟨HL3.out.st HW1.out _ _ _ _ _, HX3.out.mid HST.out (.inr (by have := HNG.out; omega))⟩), ?_⟩
        refine anyS_one 9 (by kernel_rfl) rfl ?_
        go_wp2
        refine ⟨((HSI.out _).2 ⟨HL3.out.st HW1.out _ _ _ _ _, HX3.out.mid HST.out (.inr (by have := HNG.out; omega))⟩), ?_⟩
        refine anyS_end (by kernel_rfl) ?_
        obtain ⟨a2, -⟩ : ∃ x : Option Addr, True := ⟨none, trivial⟩
        obtain ⟨c2, -⟩ : ∃ x : Nat, True := ⟨0, trivial⟩
        exact ⟨rfl, gn, a2, c2, a3, c3, rfl, HF1.out.1, by have := HNB.out; simp; omega, HF1.out.2, Hwa3.out.mid HST.out (.inr (by have := HNG.out; omega)), HX3.out.mid HST.out (.inr (by have := HNG.out; omega))⟩
    · have HA1 : Hid (Lb w (u0.alloc (Obj.cells (D5 0 0 0 0 (.slice none 0 0)) 31)) s c s' c' k i (.slice a ln cap)) := HL0.out.alloc _
      have HA2 : Hid (Blk (u0.alloc (Obj.cells (D5 0 0 0 0 (.slice none 0 0)) 31)) u0.heap.size (D5 0 0 0 0 (.slice none 0 0)) 31) := Blk.new _ _ _
      have HA3 : Hid (nga ≤ u0.heap.size ∧ nga ≤ (u0.alloc (Obj.cells (D5 0 0 0 0 (.slice none 0 0)) 31)).heap.size) := ⟨HZ0.out, by have := HZ0.out; simp; omega⟩
      have HAxwa : Hid (Rw nwa Nwa (u0.alloc (Obj.cells (D5 0 0 0 0 (.slice none 0 0)) 31)) gwa t1 t2 t3 t4 (.slice awa Ln cwa) tl) := Hwa0.out.below ((Below.refl _ _).alloc (Nat.le_refl _) _)
      have HAxX : Hid (Rw nX NX (u0.alloc (Obj.cells (D5 0 0 0 0 (.slice none 0 0)) 31)) gX s c s' c' (.slice ax ln cx) cs) := HX0.out.below ((Below.refl _ _).alloc (Nat.le_refl _) _)
      go_wp2
      refine ⟨(HSI.out _).2 ⟨HA1.out, HAxX.out⟩, ?_⟩
      obtain ⟨gn, hgn⟩ : ∃ g, u0.heap.size = g := ⟨_, rfl⟩
      obtain ⟨u1, hu1⟩ : ∃ W, u0.alloc (Obj.cells (D5 0 0 0 0 (.slice none 0 0)) 31) = W := ⟨_, rfl⟩
      rw [hu1] at HA1 HA2 HA3 HAxwa HAxX ⊢
      rw [hgn] at HA2 HA3 ⊢
      have HL1 := HA1
      have HZZ1 := HA2
      have HZ1 : Hid (nga ≤ u1.heap.size) := HA3.out.2
      have HNG : Hid (nga ≤ gn) := HA3.out.1
      have Hwa1 := HAxwa
      have HX1 := HAxX
      clear HA1 HA2 HA3 HAxwa HAxX hu1 hgn
      refine anyS_one 2 (by kernel_rfl) rfl ?_
      go_wp2_with (fail)
      refine (toEvent_c k i u1).mono ?_
      rintro e u2 ⟨rfl, b2⟩
      have HL2 : Hid (Lb w u2 s c s' c' k i (.slice a ln cap)) := HL1.out.below b2
      have HZ2 : Hid (nga ≤ u2.heap.size) := by have := HZ1.out; have := b2.size; show nga ≤ _; omega
      have Hwa2 : Hid (Rw nwa Nwa u2 gwa t1 t2 t3 t4 (.slice awa Ln cwa) tl) := Hwa1.out.below b2
      have HX2 : Hid (Rw nX NX u2 gX s c s' c' (.slice ax ln cx) cs) := HX1.out.below b2
      have HZZ2 : Hid (Blk u2 gn (D5 0 0 0 0 (.slice none 0 0)) 31) := HZZ1.out.below b2 HZZ1.out.lt
      clear b2
      go_wp2
      refine ⟨((HSI.out _).2 ⟨HL2.out, HX2.out⟩), ?_⟩
      refine anyS_one 3 (by kernel_rfl) rfl ?_
      go_wp2_with (fail)
      refine (evI_t s c s' c' (.slice ax ln cx) cs k i u2 HX2.out.rd HLN.out (t1, t2, t3, t4, tl) ok HT1.out HT2.out).mono ?_
      rintro e u3 ⟨v3, rfl, o3, g3, -⟩
      obtain ⟨a3, c3, hv3, -⟩ := own_form o3
      simp only at hv3 o3
      rw [HLT.out] at hv3
      subst hv3
      have b2 : Below u2.heap.size u2 u3 := ⟨g3.os, g3.tape, g3.output, g3.size, fun j hj => g3.block j hj (by simp [Value.ownBlock])⟩
      have HO3 : Hid (OtH u2.heap.size u3.heap.size u3 (.slice a3 Ln c3) tl) := ⟨o3, fun k e => (World.ownsRow.lt o3 k e).2⟩
      have HNB : Hid (nga ≤ u2.heap.size ∧ u2.heap.size ≤ u3.heap.size) := ⟨HZ2.out, b2.size⟩
      have HL3 : Hid (Lb w u3 s c s' c' k i (.slice a ln cap)) := HL2.out.below b2
      have HZ3 : Hid (nga ≤ u3.heap.size) := by have := HZ2.out; have := b2.size; show nga ≤ _; omega
      have Hwa3 : Hid (Rw nwa Nwa u3 gwa t1 t2 t3 t4 (.slice awa Ln cwa) tl) := Hwa2.out.below b2
      have HX3 : Hid (Rw nX NX u3 gX s c s' c' (.slice ax ln cx) cs) := HX2.out.below b2
      have HZZ3 : Hid (Blk u3 gn (D5 0 0 0 0 (.slice none 0 0)) 31) := HZZ2.out.below b2 HZZ2.out.lt
      have HGL : Hid (gn < u2.heap.size) := HZZ2.out.lt
      clear o3 g3 b2
      go_wp2
      refine ⟨((HSI.out _).2 ⟨HL3.out, HX3.out⟩), ?_⟩
      refine anyS_quiet [false, false, false, false, true, true, true, false, false, false] 2 rfl (by kernel_rfl) (fun _ _ _ _ _ h => by cases h.1) ((HSI.out _).2 ⟨HL3.out, HX3.out⟩) ?_
      simp only [selT]
      have ne2 : Nonempty (At S) := ⟨⟨_, ((HSI.out _).2 ⟨HL3.out, HX3.out⟩)⟩⟩
      repeat (go_big_quiet_step (fail))
      refine wpQuiet_nil ?_
      clear ne2
      have HW1 : Hid (w.heap.size + 1 < gn) := by have := HNG.out; have := HN0.out; show _ < gn; omega
      have HST : Hid (Mid gn (gn + 1) u3 (st5 u3 gn t1 t2 t3 t4 (.slice a3 Ln c3))) := Mid.ofGrown (grown_put5 ..) (fun k e => by cases e; omega)
      have HF1 : Hid (Lb w (st5 u3 gn t1 t2 t3 t4 (.slice a3 Ln c3)) s c s' c' k i (.slice a ln cap) ∧ Rw nga (st5 u3 gn t1 t2 t3 t4 (.slice a3 Ln c3)).heap.size (st5 u3 gn t1 t2 t3 t4 (.slice a3 Ln c3)) gn t1 t2 t3 t4 (.slice a3 Ln c3) tl) := ⟨HL3.out.st HW1.out _ _ _ _ _, _, _, HO3.out.mid HST.out (.inr (by have := HGL.out; omega)), HNB.out.1, HNB.out.2, by simp, HNG.out, by have := HZZ3.out.lt; simp; omega, .inl HGL.out, put5 HZZ3.out _ _ _ _ _⟩
      have z0 := HZZ3.out.cell 0
      have zf0 := HZZ3.out.frozen 0
      have z1 := HZZ3.out.cell 1
      have zf1 := HZZ3.out.frozen 1
      have z2 := HZZ3.out.cell 2
      have zf2 := HZZ3.out.frozen 2
      have z3 := HZZ3.out.cell 3
      have zf3 := HZZ3.out.frozen 3
      have z4 := HZZ3.out.cell 4
      have zf4 := HZZ3.out.frozen 4
      simp at z0 z1 z2 z3 z4
      refine anyS_one 8 (by kernel_rfl) rfl ?_
      go_wp2
      refine ⟨((HSI.out _).2 ⟨HL3.out.st HW1.out _ _ _ _ _, HX3.out.mid HST.out (.inr (by have := HNG.out; omega))⟩), ?_⟩
      refine anyS_one 9 (by kernel_rfl) rfl ?_
      go_wp2
      refine ⟨((HSI.out _).2 ⟨HL3.out.st HW1.out _ _ _ _ _, HX3.out.mid HST.out (.inr (by have := HNG.out; omega))⟩), ?_⟩
      refine anyS_end (by kernel_rfl) ?_
      obtain ⟨a2, -⟩ : ∃ x : Option Addr, True := ⟨none, trivial⟩
      obtain ⟨c2, -⟩ : ∃ x : Nat, True := ⟨0, trivial⟩
      exact ⟨rfl, gn, a2, c2, a3, c3, rfl, HF1.out.1, by have := HNB.out; simp; omega, HF1.out.2, Hwa3.out.mid HST.out (.inr (by have := HNG.out; omega)), HX3.out.mid HST.out (.inr (by have := HNG.out; omega))⟩
  clear kd0 kd1 kd2 kd3 kd4 ke0 ke1 ldl lel wab0 wab1 wab2 wab3 wab4 wal Xb0 Xb1 Xb2 Xb3 Xb4 Xl
  clear y0 y1 y2 y3 y4 x0 x1 ne1 HSI HSD HN0 HLb Hwa HX
  rintro gga a2ga c2ga aga cga w5 ⟨HLb, hznga, Hga, Hwa', HX'⟩
  try dsimp only
  have Hwa := Hwa'
  clear Hwa'
  have HX := HX'
  clear HX'
  obtain ⟨Nga, hNga⟩ : ∃ n, w5.heap.size = n := ⟨_, rfl⟩
  rw [hNga] at Hga hznga
  have hwga := Hga.out.rng
  have kd0 := HLb.out.kd.cell 0
  have kd1 := HLb.out.kd.cell 1
  have kd2 := HLb.out.kd.cell 2
  have kd3 := HLb.out.kd.cell 3
  have kd4 := HLb.out.kd.cell 4
  have ke0 := HLb.out.ke.cell 0
  have ke1 := HLb.out.ke.cell 1
  have ldl := HLb.out.kd.lt
  have lel := HLb.out.ke.lt
  have wab0 := Hwa.out.box.cell 0
  have wab1 := Hwa.out.box.cell 1
  have wab2 := Hwa.out.box.cell 2
  have wab3 := Hwa.out.box.cell 3
  have wab4 := Hwa.out.box.cell 4
  have wal := Hwa.out.box.lt
  have Xb0 := HX.out.box.cell 0
  have Xb1 := HX.out.box.cell 1
  have Xb2 := HX.out.box.cell 2
  have Xb3 := HX.out.box.cell 3
  have Xb4 := HX.out.box.cell 4
  have Xl := HX.out.box.lt
  have gab0 := Hga.out.box.cell 0
  have gab1 := Hga.out.box.cell 1
  have gab2 := Hga.out.box.cell 2
  have gab3 := Hga.out.box.cell 3
  have gab4 := Hga.out.box.cell 4
  have gal := Hga.out.box.lt
  simp at kd0 kd1 kd2 kd3 kd4 ke0 ke1 wab0 wab1 wab2 wab3 wab4 Xb0 Xb1 Xb2 Xb3 Xb4 gab0 gab1 gab2 gab3 gab4
  go_wp2_with (fail)
  refine (eqDuo_t t1 t2 t3 t4 (.slice aga Ln cga) (.slice awa Ln cwa) tl w5 Hga.out.rd Hwa.out.rd).mono ?_
  rintro e w6 ⟨rfl, b⟩
  clear kd0 kd1 kd2 kd3 kd4 ke0 ke1 ldl lel wab0 wab1 wab2 wab3 wab4 wal Xb0 Xb1 Xb2 Xb3 Xb4 Xl gab0 gab1 gab2 gab3 gab4 gal
  have HLb' : Hid (Lb w w6 s c s' c' k i (.slice a ln cap)) := HLb.out.below b
  have Hwa' : Hid (Rw nwa Nwa w6 gwa t1 t2 t3 t4 (.slice awa Ln cwa) tl) := Hwa.out.below b
  have HX' : Hid (Rw nX NX w6 gX s c s' c' (.slice ax ln cx) cs) := HX.out.below b
  have Hga' : Hid (Rw nga Nga w6 gga t1 t2 t3 t4 (.slice aga Ln cga) tl) := Hga.out.below b
  have zsw6 : w5.heap.size ≤ w6.heap.size := b.size
  clear HLb Hwa HX Hga
  have HLb := HLb'
  clear HLb'
  have Hwa := Hwa'
  clear Hwa'
  have HX := HX'
  clear HX'
  have Hga := Hga'
  clear Hga'
  clear b
  have kd0 := HLb.out.kd.cell 0
  have kd1 := HLb.out.kd.cell 1
  have kd2 := HLb.out.kd.cell 2
  have kd3 := HLb.out.kd.cell 3
  have kd4 := HLb.out.kd.cell 4
  have ke0 := HLb.out.ke.cell 0
  have ke1 := HLb.out.ke.cell 1
  have ldl := HLb.out.kd.lt
  have lel := HLb.out.ke.lt
  have wab0 := Hwa.out.box.cell 0
  have wab1 := Hwa.out.box.cell 1
  have wab2 := Hwa.out.box.cell 2
  have wab3 := Hwa.out.box.cell 3
  have wab4 := Hwa.out.box.cell 4
  have wal := Hwa.out.box.lt
  have Xb0 := HX.out.box.cell 0
  have Xb1 := HX.out.box.cell 1
  have Xb2 := HX.out.box.cell 2
  have Xb3 := HX.out.box.cell 3
  have Xb4 := HX.out.box.cell 4
  have Xl := HX.out.box.lt
  have gab0 := Hga.out.box.cell 0
  have gab1 := Hga.out.box.cell 1
  have gab2 := Hga.out.box.cell 2
  have gab3 := Hga.out.box.cell 3
  have gab4 := Hga.out.box.cell 4
  have gal := Hga.out.box.lt
  simp at kd0 kd1 kd2 kd3 kd4 ke0 ke1 wab0 wab1 wab2 wab3 wab4 Xb0 Xb1 Xb2 Xb3 Xb4 gab0 gab1 gab2 gab3 gab4
  obtain ⟨S, hS⟩ : ∃ S : World → Prop, ∀ W, S W ↔ (Lb w W s c s' c' k i (.slice a ln cap) ∧ Rw nX NX W gX s c s' c' (.slice ax ln cx) cs) := ⟨_, fun _ => Iff.rfl⟩
  have HSI : Hid (∀ W, S W ↔ (Lb w W s c s' c' k i (.slice a ln cap) ∧ Rw nX NX W gX s c s' c' (.slice ax ln cx) cs)) := hS
  have HSD : Hid (S w6.drew) := (hS _).2 ⟨HLb.out.below (Below.refl _ _).drew, HX.out.below (Below.refl _ _).drew⟩
  have ne1 : Nonempty (At S) := ⟨⟨_, HSD.out⟩⟩
  have y0 : ∀ W : At S, W.wd.cell? ⟨w.heap.size, 0, none⟩ = some (.int .i64 s) := fun W => by rw [((hS _).1 W.ok).1.kd.cell 0]; rfl
  have y1 : ∀ W : At S, W.wd.cell? ⟨w.heap.size, 1, none⟩ = some (.int .i64 c) := fun W => by rw [((hS _).1 W.ok).1.kd.cell 1]; rfl
  have y2 : ∀ W : At S, W.wd.cell? ⟨w.heap.size, 2, none⟩ = some (.int .i64 s') := fun W => by rw [((hS _).1 W.ok).1.kd.cell 2]; rfl
  have y3 : ∀ W : At S, W.wd.cell? ⟨w.heap.size, 3, none⟩ = some (.int .i64 c') := fun W => by rw [((hS _).1 W.ok).1.kd.cell 3]; rfl
  have y4 : ∀ W : At S, W.wd.cell? ⟨w.heap.size, 4, none⟩ = some (.slice a ln cap) := fun W => by rw [((hS _).1 W.ok).1.kd.cell 4]; rfl
  have x0 : ∀ W : At S, W.wd.cell? ⟨gX, 0, none⟩ = some (.int .i64 s) := fun W => by rw [((hS _).1 W.ok).2.box.cell 0]; rfl
  have x1 : ∀ W : At S, W.wd.cell? ⟨gX, 1, none⟩ = some (.int .i64 c) := fun W => by rw [((hS _).1 W.ok).2.box.cell 1]; rfl
  have x2 : ∀ W : At S, W.wd.cell? ⟨gX, 2, none⟩ = some (.int .i64 s') := fun W => by rw [((hS _).1 W.ok).2.box.cell 2]; rfl
  have x3 : ∀ W : At S, W.wd.cell? ⟨gX, 3, none⟩ = some (.int .i64 c') := fun W => by rw [((hS _).1 W.ok).2.box.cell 3]; rfl
  have x4 : ∀ W : At S, W.wd.cell? ⟨gX, 4, none⟩ = some (.slice ax ln cx) := fun W => by rw [((hS _).1 W.ok).2.box.cell 4]; rfl
  clear hS
  go_wp2
  refine region_mixA [true, true, false, false, false] 5 3 S (by kernel_rfl) rfl (by kernel_rfl) (fun _ _ _ _ _ h => h) HSD.out ?_
  simp only [selT, selF]
  repeat (go_big_quiet_step (fail))
  refine wpQuiet_nil ?_
  clear y0 y1 y2 y3 y4 x0 x1 x2 x3 x4 ne1 HSD
  clear kd0 kd1 kd2 kd3 kd4 ke0 ke1 ldl lel wab0 wab1 wab2 wab3 wab4 wal Xb0 Xb1 Xb2 Xb3 Xb4 Xl gab0 gab1 gab2 gab3 gab4 gal
  have bd : Below w6.heap.size w6 w6.drew := (Below.refl _ _).drew
  obtain ⟨w7, hw7⟩ : ∃ W, w6.drew = W := ⟨_, rfl⟩
  rw [hw7] at bd ⊢
  clear hw7
  have HLb' : Hid (Lb w w7 s c s' c' k i (.slice a ln cap)) := HLb.out.below bd
  have Hwa' : Hid (Rw nwa Nwa w7 gwa t1 t2 t3 t4 (.slice awa Ln cwa) tl) := Hwa.out.below bd
  have HX' : Hid (Rw nX NX w7 gX s c s' c' (.slice ax ln cx) cs) := HX.out.below bd
  have Hga' : Hid (Rw nga Nga w7 gga t1 t2 t3 t4 (.slice aga Ln cga) tl) := Hga.out.below bd
  have zsw7 : w6.heap.size ≤ w7.heap.size := bd.size
  clear HLb Hwa HX Hga
  have HLb := HLb'
  clear HLb'
  have Hwa := Hwa'
  clear Hwa'
  have HX := HX'
  clear HX'
  have Hga := Hga'
  clear Hga'
  clear bd
  refine tail_step ?_
  go_wp2_with (fail)
  refine (toDuo_c s c s' c' (.slice a ln cap) cs w7 (HH.out.below HLb.out.bel) HLN.out).mono ?_
  rintro e w8 ⟨vy, rfl, oy, b⟩
  have HY : Hid (Rt w8 vy cs) := oy.rd
  obtain ⟨ay, cy, hvy, -⟩ := own_form oy
  subst hvy
  have HLb' : Hid (Lb w w8 s c s' c' k i (.slice a ln cap)) := HLb.out.below b
  have Hwa' : Hid (Rw nwa Nwa w8 gwa t1 t2 t3 t4 (.slice awa Ln cwa) tl) := Hwa.out.below b
  have HX' : Hid (Rw nX NX w8 gX s c s' c' (.slice ax ln cx) cs) := HX.out.below b
  have Hga' : Hid (Rw nga Nga w8 gga t1 t2 t3 t4 (.slice aga Ln cga) tl) := Hga.out.below b
  have zsw8 : w7.heap.size ≤ w8.heap.size := b.size
  clear HLb Hwa HX Hga
  have HLb := HLb'
  clear HLb'
  have Hwa := Hwa'
  clear Hwa'
  have HX := HX'
  clear HX'
  have Hga := Hga'
  clear Hga'
  clear oy b
  go_wp2
  refine ⟨(HSI.out _).2 ⟨HLb.out, HX.out⟩, tail_step ?_⟩
  go_wp2_with (fail)
  refine (eqDuo_t s c s' c' (.slice ax ln cx) (.slice ay cs.length cy) cs w8 HX.out.rd HY.out).mono ?_
  rintro e w9 ⟨rfl, b⟩
  have HLb' : Hid (Lb w w9 s c s' c' k i (.slice a ln cap)) := HLb.out.below b
  have Hwa' : Hid (Rw nwa Nwa w9 gwa t1 t2 t3 t4 (.slice awa Ln cwa) tl) := Hwa.out.below b
  have HX' : Hid (Rw nX NX w9 gX s c s' c' (.slice ax ln cx) cs) := HX.out.below b
  have Hga' : Hid (Rw nga Nga w9 gga t1 t2 t3 t4 (.slice aga Ln cga) tl) := Hga.out.below b
  have zsw9 : w8.heap.size ≤ w9.heap.size := b.size
  clear HLb Hwa HX Hga
  have HLb := HLb'
  clear HLb'
  have Hwa := Hwa'
  clear Hwa'
  have HX := HX'
  clear HX'
  have Hga := Hga'
  clear Hga'
  clear b HY
  go_wp2
  refine ⟨(HSI.out _).2 ⟨HLb.out, HX.out⟩, tail_step ?_⟩
  go_wp2
  refine ⟨(HSI.out _).2 ⟨HLb.out, HX.out⟩, tail_end ?_⟩
  clear HSI
  have kd0 := HLb.out.kd.cell 0
  have kd1 := HLb.out.kd.cell 1
  have kd2 := HLb.out.kd.cell 2
  have kd3 := HLb.out.kd.cell 3
  have kd4 := HLb.out.kd.cell 4
  have ke0 := HLb.out.ke.cell 0
  have ke1 := HLb.out.ke.cell 1
  have ldl := HLb.out.kd.lt
  have lel := HLb.out.ke.lt
  have wab0 := Hwa.out.box.cell 0
  have wab1 := Hwa.out.box.cell 1
  have wab2 := Hwa.out.box.cell 2
  have wab3 := Hwa.out.box.cell 3
  have wab4 := Hwa.out.box.cell 4
  have wal := Hwa.out.box.lt
  have Xb0 := HX.out.box.cell 0
  have Xb1 := HX.out.box.cell 1
  have Xb2 := HX.out.box.cell 2
  have Xb3 := HX.out.box.cell 3
  have Xb4 := HX.out.box.cell 4
  have Xl := HX.out.box.lt
  have gab0 := Hga.out.box.cell 0
  have gab1 := Hga.out.box.cell 1
  have gab2 := Hga.out.box.cell 2
  have gab3 := Hga.out.box.cell 3
  have gab4 := Hga.out.box.cell 4
  have gal := Hga.out.box.lt
  simp at kd0 kd1 kd2 kd3 kd4 ke0 ke1 wab0 wab1 wab2 wab3 wab4 Xb0 Xb1 Xb2 Xb3 Xb4 gab0 gab1 gab2 gab3 gab4
  go_wp2_with (fail)
  refine (HX.out.mark 1 (by decide) (by have := HLL.out; omega)).mono ?_
  rintro e w10 ⟨rfl, o, m⟩
  clear kd0 kd1 kd2 kd3 kd4 ke0 ke1 ldl lel wab0 wab1 wab2 wab3 wab4 wal Xb0 Xb1 Xb2 Xb3 Xb4 Xl gab0 gab1 gab2 gab3 gab4 gal
  rw [HLL.out]
  have HLb' : Hid (Lb w w10 s c s' c' k i (.slice a ln cap)) := HLb.out.mid m (by omega)
  have Hwa' : Hid (Rw nwa Nwa w10 gwa t1 t2 t3 t4 (.slice awa Ln cwa) tl) := Hwa.out.mid m (by omega)
  have Hga' : Hid (Rw nga Nga w10 gga t1 t2 t3 t4 (.slice aga Ln cga) tl) := Hga.out.mid m (by omega)
  have zsw10 : w9.heap.size ≤ w10.heap.size := m.size
  clear HLb Hwa Hga
  have HLb := HLb'
  clear HLb'
  have Hwa := Hwa'
  clear Hwa'
  have Hga := Hga'
  clear Hga'
  clear HX m
  have HX : Hid (Rw nX NX w10 gX s c s' c' (.slice ax ln cx) (mkT 1 cs.length)) := o
  clear o
  have kd0 := HLb.out.kd.cell 0
  have kd1 := HLb.out.kd.cell 1
  have kd2 := HLb.out.kd.cell 2
  have kd3 := HLb.out.kd.cell 3
  have kd4 := HLb.out.kd.cell 4
  have ke0 := HLb.out.ke.cell 0
  have ke1 := HLb.out.ke.cell 1
  have ldl := HLb.out.kd.lt
  have lel := HLb.out.ke.lt
  have wab0 := Hwa.out.box.cell 0
  have wab1 := Hwa.out.box.cell 1
  have wab2 := Hwa.out.box.cell 2
  have wab3 := Hwa.out.box.cell 3
  have wab4 := Hwa.out.box.cell 4
  have wal := Hwa.out.box.lt
  have Xb0 := HX.out.box.cell 0
  have Xb1 := HX.out.box.cell 1
  have Xb2 := HX.out.box.cell 2
  have Xb3 := HX.out.box.cell 3
  have Xb4 := HX.out.box.cell 4
  have Xl := HX.out.box.lt
  have gab0 := Hga.out.box.cell 0
  have gab1 := Hga.out.box.cell 1
  have gab2 := Hga.out.box.cell 2
  have gab3 := Hga.out.box.cell 3
  have gab4 := Hga.out.box.cell 4
  have gal := Hga.out.box.lt
  simp at kd0 kd1 kd2 kd3 kd4 ke0 ke1 wab0 wab1 wab2 wab3 wab4 Xb0 Xb1 Xb2 Xb3 Xb4 gab0 gab1 gab2 gab3 gab4
  go_wp2_with (fail)
  refine (eqDuo_t t1 t2 t3 t4 (.slice aga Ln cga) (.slice awa Ln cwa) tl w10 Hga.out.rd Hwa.out.rd).mono ?_
  rintro e w11 ⟨rfl, b⟩
  clear kd0 kd1 kd2 kd3 kd4 ke0 ke1 ldl lel wab0 wab1 wab2 wab3 wab4 wal Xb0 Xb1 Xb2 Xb3 Xb4 Xl gab0 gab1 gab2 gab3 gab4 gal
  have HLb' : Hid (Lb w w11 s c s' c' k i (.slice a ln cap)) := HLb.out.below b
  have Hwa' : Hid (Rw nwa Nwa w11 gwa t1 t2 t3 t4 (.slice awa Ln cwa) tl) := Hwa.out.below b
  have HX' : Hid (Rw nX NX w11 gX s c s' c' (.slice ax ln cx) (mkT 1 cs.length)) := HX.out.below b
  have Hga' : Hid (Rw nga Nga w11 gga t1 t2 t3 t4 (.slice aga Ln cga) tl) := Hga.out.below b
  have zsw11 : w10.heap.size ≤ w11.heap.size := b.size
  clear HLb Hwa HX Hga
  have HLb := HLb'
  clear HLb'
  have Hwa := Hwa'
  clear Hwa'
  have HX := HX'
  clear HX'
  have Hga := Hga'
  clear Hga'
  clear b
  have kd0 := HLb.out.kd.cell 0
  have kd1 := HLb.out.kd.cell 1
  have kd2 := HLb.out.kd.cell 2
  have kd3 := HLb.out.kd.cell 3
  have kd4 := HLb.out.kd.cell 4
  have ke0 := HLb.out.ke.cell 0
  have ke1 := HLb.out.ke.cell 1
  have ldl := HLb.out.kd.lt
  have lel := HLb.out.ke.lt
  have wab0 := Hwa.out.box.cell 0
  have wab1 := Hwa.out.box.cell 1
  have wab2 := Hwa.out.box.cell 2
  have wab3 := Hwa.out.box.cell 3
  have wab4 := Hwa.out.box.cell 4
  have wal := Hwa.out.box.lt
  have Xb0 := HX.out.box.cell 0
  have Xb1 := HX.out.box.cell 1
  have Xb2 := HX.out.box.cell 2
  have Xb3 := HX.out.box.cell 3
  have Xb4 := HX.out.box.cell 4
  have Xl := HX.out.box.lt
  have gab0 := Hga.out.box.cell 0
  have gab1 := Hga.out.box.cell 1
  have gab2 := Hga.out.box.cell 2
  have gab3 := Hga.out.box.cell 3
  have gab4 := Hga.out.box.cell 4
  have gal := Hga.out.box.lt
  simp at kd0 kd1 kd2 kd3 kd4 ke0 ke1 wab0 wab1 wab2 wab3 wab4 Xb0 Xb1 Xb2 Xb3 Xb4 gab0 gab1 gab2 gab3 gab4
  go_wp2_with (fail)
  refine (Hga.out.mark 1 (by decide) (by have := HLT.out; omega)).mono ?_
  rintro e w12 ⟨rfl, o, m⟩
  clear kd0 kd1 kd2 kd3 kd4 ke0 ke1 ldl lel wab0 wab1 wab2 wab3 wab4 wal Xb0 Xb1 Xb2 Xb3 Xb4 Xl gab0 gab1 gab2 gab3 gab4 gal
  rw [HLT.out]
  have HLb' : Hid (Lb w w12 s c s' c' k i (.slice a ln cap)) := HLb.out.mid m (by omega)
  have Hwa' : Hid (Rw nwa Nwa w12 gwa t1 t2 t3 t4 (.slice awa Ln cwa) tl) := Hwa.out.mid m (by omega)
  have HX' : Hid (Rw nX NX w12 gX s c s' c' (.slice ax ln cx) (mkT 1 cs.length)) := HX.out.mid m (by omega)
  have zsw12 : w11.heap.size ≤ w12.heap.size := m.size
  clear HLb Hwa HX
  have HLb := HLb'
  clear HLb'
  have Hwa := Hwa'
  clear Hwa'
  have HX := HX'
  clear HX'
  clear Hga m
  have Hga : Hid (Rw nga Nga w12 gga t1 t2 t3 t4 (.slice aga Ln cga) (mkT 1 tl.length)) := o
  clear o
  have hqq : (((1 : Int) + 3 * (Ln : Int)) != 1 + 3 * (Ln : Int)) = false := by simp
  have kd0 := HLb.out.kd.cell 0
  have kd1 := HLb.out.kd.cell 1
  have kd2 := HLb.out.kd.cell 2
  have kd3 := HLb.out.kd.cell 3
  have kd4 := HLb.out.kd.cell 4
  have ke0 := HLb.out.ke.cell 0
  have ke1 := HLb.out.ke.cell 1
  have ldl := HLb.out.kd.lt
  have lel := HLb.out.ke.lt
  have wab0 := Hwa.out.box.cell 0
  have wab1 := Hwa.out.box.cell 1
  have wab2 := Hwa.out.box.cell 2
  have wab3 := Hwa.out.box.cell 3
  have wab4 := Hwa.out.box.cell 4
  have wal := Hwa.out.box.lt
  have Xb0 := HX.out.box.cell 0
  have Xb1 := HX.out.box.cell 1
  have Xb2 := HX.out.box.cell 2
  have Xb3 := HX.out.box.cell 3
  have Xb4 := HX.out.box.cell 4
  have Xl := HX.out.box.lt
  have gab0 := Hga.out.box.cell 0
  have gab1 := Hga.out.box.cell 1
  have gab2 := Hga.out.box.cell 2
  have gab3 := Hga.out.box.cell 3
  have gab4 := Hga.out.box.cell 4
  have gal := Hga.out.box.lt
  simp at kd0 kd1 kd2 kd3 kd4 ke0 ke1 wab0 wab1 wab2 wab3 wab4 Xb0 Xb1 Xb2 Xb3 Xb4 gab0 gab1 gab2 gab3 gab4
  go_wp2_with (fail)
  refine (heldDuo_c t1 t2 t3 t4 (.slice aga Ln cga) 1 tl.length w12 Hga.out.rd (by decide) (by have := HLT.out; omega)).mono ?_
  rintro e w13 ⟨rfl, b⟩
  clear kd0 kd1 kd2 kd3 kd4 ke0 ke1 ldl lel wab0 wab1 wab2 wab3 wab4 wal Xb0 Xb1 Xb2 Xb3 Xb4 Xl gab0 gab1 gab2 gab3 gab4 gal
  rw [HLT.out]
  have HLb' : Hid (Lb w w13 s c s' c' k i (.slice a ln cap)) := HLb.out.below b
  have Hwa' : Hid (Rw nwa Nwa w13 gwa t1 t2 t3 t4 (.slice awa Ln cwa) tl) := Hwa.out.below b
  have HX' : Hid (Rw nX NX w13 gX s c s' c' (.slice ax ln cx) (mkT 1 cs.length)) := HX.out.below b
  have Hga' : Hid (Rw nga Nga w13 gga t1 t2 t3 t4 (.slice aga Ln cga) (mkT 1 tl.length)) := Hga.out.below b
  have zsw13 : w12.heap.size ≤ w13.heap.size := b.size
  clear HLb Hwa HX Hga
  have HLb := HLb'
  clear HLb'
  have Hwa := Hwa'
  clear Hwa'
  have HX := HX'
  clear HX'
  have Hga := Hga'
  clear Hga'
  clear b
  obtain ⟨nha, hnha⟩ : ∃ n, w13.heap.size = n := ⟨_, rfl⟩
  have HN0 : Hid (w.heap.size + 1 < nha) := by rw [← hnha]; exact HLb.out.ke.lt
  have hloha : w.heap.size + 1 < nha := HN0.out
  have kd0 := HLb.out.kd.cell 0
  have kd1 := HLb.out.kd.cell 1
  have kd2 := HLb.out.kd.cell 2
  have kd3 := HLb.out.kd.cell 3
  have kd4 := HLb.out.kd.cell 4
  have ke0 := HLb.out.ke.cell 0
  have ke1 := HLb.out.ke.cell 1
  have ldl := HLb.out.kd.lt
  have lel := HLb.out.ke.lt
  have wab0 := Hwa.out.box.cell 0
  have wab1 := Hwa.out.box.cell 1
  have wab2 := Hwa.out.box.cell 2
  have wab3 := Hwa.out.box.cell 3
  have wab4 := Hwa.out.box.cell 4
  have wal := Hwa.out.box.lt
  have Xb0 := HX.out.box.cell 0
  have Xb1 := HX.out.box.cell 1
  have Xb2 := HX.out.box.cell 2
  have Xb3 := HX.out.box.cell 3
  have Xb4 := HX.out.box.cell 4
  have Xl := HX.out.box.lt
  have gab0 := Hga.out.box.cell 0
  have gab1 := Hga.out.box.cell 1
  have gab2 := Hga.out.box.cell 2
  have gab3 := Hga.out.box.cell 3
  have gab4 := Hga.out.box.cell 4
  have gal := Hga.out.box.lt
  simp at kd0 kd1 kd2 kd3 kd4 ke0 ke1 wab0 wab1 wab2 wab3 wab4 Xb0 Xb1 Xb2 Xb3 Xb4 gab0 gab1 gab2 gab3 gab4
  obtain ⟨S, hS⟩ : ∃ S : World → Prop, ∀ W, S W ↔ (Lb w W s c s' c' k i (.slice a ln cap)) := ⟨_, fun _ => Iff.rfl⟩
  have HSI : Hid (∀ W, S W ↔ (Lb w W s c s' c' k i (.slice a ln cap))) := hS
  have HSD : Hid (S w13.drew) := (hS _).2 (HLb.out.below (Below.refl _ _).drew)
  have ne1 : Nonempty (At S) := ⟨⟨_, HSD.out⟩⟩
  have y0 : ∀ W : At S, W.wd.cell? ⟨w.heap.size, 0, none⟩ = some (.int .i64 s) := fun W => by rw [((hS _).1 W.ok).kd.cell 0]; rfl
  have y1 : ∀ W : At S, W.wd.cell? ⟨w.heap.size, 1, none⟩ = some (.int .i64 c) := fun W => by rw [((hS _).1 W.ok).kd.cell 1]; rfl
  have y2 : ∀ W : At S, W.wd.cell? ⟨w.heap.size, 2, none⟩ = some (.int .i64 s') := fun W => by rw [((hS _).1 W.ok).kd.cell 2]; rfl
  have y3 : ∀ W : At S, W.wd.cell? ⟨w.heap.size, 3, none⟩ = some (.int .i64 c') := fun W => by rw [((hS _).1 W.ok).kd.cell 3]; rfl
  have y4 : ∀ W : At S, W.wd.cell? ⟨w.heap.size, 4, none⟩ = some (.slice a ln cap) := fun W => by rw [((hS _).1 W.ok).kd.cell 4]; rfl
  have x0 : ∀ W : At S, W.wd.cell? ⟨w.heap.size + 1, 0, none⟩ = some (.int .i64 k) := fun W => by rw [((hS _).1 W.ok).ke.cell 0]; rfl
  have x1 : ∀ W : At S, W.wd.cell? ⟨w.heap.size + 1, 1, none⟩ = some (.int .i64 i) := fun W => by rw [((hS _).1 W.ok).ke.cell 1]; rfl
  clear hS
  go_wp2
  apply reg_cut (F := fun g a2 c2 a3 c3 W => Hid (Lb w W s c s' c' k i (.slice a ln cap)) ∧ nha ≤ W.heap.size ∧ Hid (Rw nha W.heap.size W g t1 t2 t3 t4 (.slice a3 Ln c3) tl) ∧ Hid (Rw nwa Nwa W gwa t1 t2 t3 t4 (.slice awa Ln cwa) tl) ∧ Hid (Rw nX NX W gX s c s' c' (.slice ax ln cx) (mkT 1 cs.length)) ∧ Hid (Rw nga Nga W gga t1 t2 t3 t4 (.slice aga Ln cga) (mkT 1 tl.length)) )
  · refine region_anyS S (by kernel_rfl) ?_
    refine anyS_quiet [true, false, true, false, false, false, false, false, false, false, false] 9 rfl (by kernel_rfl) (fun _ _ _ _ _ h => by cases h.1) HSD.out ?_
    simp only [selT]
    repeat (go_big_quiet_step (fail))
    refine wpQuiet_nil ?_
    obtain ⟨u0, hu0⟩ : ∃ W, w13.drew = W := ⟨_, rfl⟩
    have HL0 : Hid (Lb w u0 s c s' c' k i (.slice a ln cap)) := hu0 ▸ HLb.out.below (Below.refl _ _).drew
    have Hwa0 : Hid (Rw nwa Nwa u0 gwa t1 t2 t3 t4 (.slice awa Ln cwa) tl) := hu0 ▸ Hwa.out.below (Below.refl _ _).drew
    have HX0 : Hid (Rw nX NX u0 gX s c s' c' (.slice ax ln cx) (mkT 1 cs.length)) := hu0 ▸ HX.out.below (Below.refl _ _).drew
    have Hga0 : Hid (Rw nga Nga u0 gga t1 t2 t3 t4 (.slice aga Ln cga) (mkT 1 tl.length)) := hu0 ▸ Hga.out.below (Below.refl _ _).drew
    have HZ0 : Hid (nha ≤ u0.heap.size) := by rw [← hu0, ← hnha]; exact Nat.le_refl _
    rw [hu0]
    clear hu0
    refine anyS_two 1 8 (by kernel_rfl) rfl rfl ?_ ?_
    · go_wp2_with (fail)
      refine (toDuo_c s c s' c' (.slice a ln cap) cs u0 (HH.out.below HL0.out.bel) HLN.out).mono ?_
      rintro e u1 ⟨v2, rfl, o2, b2⟩
      obtain ⟨a2, c2, hv2, -⟩ := own_form o2
      rw [HLL.out] at hv2
      subst hv2
      have HR1 : Hid (Rt u1 (.slice a2 ln c2) cs) := o2.rd
      have HL1 : Hid (Lb w u1 s c s' c' k i (.slice a ln cap)) := HL0.out.below b2
      have HZ1 : Hid (nha ≤ u1.heap.size) := by have := HZ0.out; have := b2.size; show nha ≤ _; omega
      have Hwa1 : Hid (Rw nwa Nwa u1 gwa t1 t2 t3 t4 (.slice awa Ln cwa) tl) := Hwa0.out.below b2
      have HX1 : Hid (Rw nX NX u1 gX s c s' c' (.slice ax ln cx) (mkT 1 cs.length)) := HX0.out.below b2
      have Hga1 : Hid (Rw nga Nga u1 gga t1 t2 t3 t4 (.slice aga Ln cga) (mkT 1 tl.length)) := Hga0.out.below b2
      clear o2 b2
      go_wp2
      refine ⟨((HSI.out _).2 HL1.out), ?_⟩
      refine anyS_two 3 8 (by kernel_rfl) rfl rfl ?_ ?_
      · go_wp2_with (fail)
        refine (toEvent_c k i u1).mono ?_
        rintro e u2 ⟨rfl, b2⟩
        have HL2 : Hid (Lb w u2 s c s' c' k i (.slice a ln cap)) := HL1.out.below b2
        have HZ2 : Hid (nha ≤ u2.heap.size) := by have := HZ1.out; have := b2.size; show nha ≤ _; omega
        have Hwa2 : Hid (Rw nwa Nwa u2 gwa t1 t2 t3 t4 (.slice awa Ln cwa) tl) := Hwa1.out.below b2
        have HX2 : Hid (Rw nX NX u2 gX s c s' c' (.slice ax ln cx) (mkT 1 cs.length)) := HX1.out.below b2
        have Hga2 : Hid (Rw nga Nga u2 gga t1 t2 t3 t4 (.slice aga Ln cga) (mkT 1 tl.length)) := Hga1.out.below b2
        have HR2 : Hid (Rt u2 (.slice a2 ln c2) cs) := HR1.out.below b2
        clear b2
        go_wp2
        refine ⟨((HSI.out _).2 HL2.out), ?_⟩
        refine anyS_two 4 8 (by kernel_rfl) rfl rfl ?_ ?_
        · go_wp2_with (fail)
          refine (evI_t s c s' c' (.slice a2 ln c2) cs k i u2 HR2.out HLN.out (t1, t2, t3, t4, tl) ok HT1.out HT2.out).mono ?_
          rintro e u3 ⟨v3, rfl, o3, g3, -⟩
          obtain ⟨a3, c3, hv3, -⟩ := own_form o3
          simp only at hv3 o3
          rw [HLT.out] at hv3
          subst hv3
          have b2 : Below u2.heap.size u2 u3 := ⟨g3.os, g3.tape, g3.output, g3.size, fun j hj => g3.block j hj (by simp [Value.ownBlock])⟩
          have HO3 : Hid (OtH u2.heap.size u3.heap.size u3 (.slice a3 Ln c3) tl) := ⟨o3, fun k e => (World.ownsRow.lt o3 k e).2⟩
          have HNB : Hid (nha ≤ u2.heap.size ∧ u2.heap.size ≤ u3.heap.size) := ⟨HZ2.out, b2.size⟩
          have HL3 : Hid (Lb w u3 s c s' c' k i (.slice a ln cap)) := HL2.out.below b2
          have HZ3 : Hid (nha ≤ u3.heap.size) := by have := HZ2.out; have := b2.size; show nha ≤ _; omega
          have Hwa3 : Hid (Rw nwa Nwa u3 gwa t1 t2 t3 t4 (.slice awa Ln cwa) tl) := Hwa2.out.below b2
          have HX3 : Hid (Rw nX NX u3 gX s c s' c' (.slice ax ln cx) (mkT 1 cs.length)) := HX2.out.below b2
          have Hga3 : Hid (Rw nga Nga u3 gga t1 t2 t3 t4 (.slice aga Ln cga) (mkT 1 tl.length)) := Hga2.out.below b2
          clear o3 g3 b2
          go_wp2
          refine ⟨((HSI.out _).2 HL3.out), ?_⟩
          refine anyS_quiet [false, false, false, false, false, true, true, true, false, false, false] 3 rfl (by kernel_rfl) (fun _ _ _ _ _ h => by cases h.1) ((HSI.out _).2 HL3.out) ?_
          simp only [selT]
          have ne2 : Nonempty (At S) := ⟨⟨_, ((HSI.out _).2 HL3.out)⟩⟩
          repeat (go_big_quiet_step (fail))
          refine wpQuiet_nil ?_
          clear ne2
          have HF1 : Hid (Lb w (u3.alloc (Obj.cells (D5 t1 t2 t3 t4 (.slice a3 Ln c3)) 31)) s c s' c' k i (.slice a ln cap) ∧ Rw nha (u3.alloc (Obj.cells (D5 t1 t2 t3 t4 (.slice a3 Ln c3)) 31)).heap.size (u3.alloc (Obj.cells (D5 t1 t2 t3 t4 (.slice a3 Ln c3)) 31)) u3.heap.size t1 t2 t3 t4 (.slice a3 Ln c3) tl) := ⟨HL3.out.alloc _, _, _, HO3.out.below ((Below.refl _ _).alloc (Nat.le_refl _) _), HNB.out.1, HNB.out.2, by simp, by have := HNB.out; omega, by simp, .inr (Nat.le_refl _), Blk.new _ _ _⟩
          refine anyS_one 8 (by kernel_rfl) rfl ?_
          go_wp2
          refine ⟨((HSI.out _).2 (HL3.out.alloc _)), ?_⟩
          refine anyS_one 9 (by kernel_rfl) rfl ?_
          go_wp2
          refine ⟨((HSI.out _).2 (HL3.out.alloc _)), ?_⟩
          refine anyS_one 10 (by kernel_rfl) rfl ?_
          go_wp2
          refine ⟨((HSI.out _).2 (HL3.out.alloc _)), ?_⟩
          refine anyS_end (by kernel_rfl) ?_
          obtain ⟨gn, hgn⟩ : ∃ g, u3.heap.size = g := ⟨_, rfl⟩
          rw [hgn] at HF1 ⊢
          exact ⟨rfl, gn, a2, c2, a3, c3, rfl, HF1.out.1, by have := HNB.out; simp; omega, HF1.out.2, Hwa3.out.below ((Below.refl _ _).alloc (Nat.le_refl _) _), HX3.out.below ((Below.refl _ _).alloc (Nat.le_refl _) _), Hga3.out.below ((Below.refl _ _).alloc (Nat.le_refl _) _)⟩
        · have HA1 : Hid (Lb w (u2.alloc (Obj.cells (D5 0 0 0 0 (.slice none 0 0)) 31)) s c s' c' k i (.slice a ln cap)) := HL2.out.alloc _
          have HA2 : Hid (Blk (u2.alloc (Obj.cells (D5 0 0 0 0 (.slice none 0 0)) 31)) u2.heap.size (D5 0 0 0 0 (.slice none 0 0)) 31) := Blk.new _ _ _
          have HA3 : Hid (nha ≤ u2.heap.size ∧ nha ≤ (u2.alloc (Obj.cells (D5 0 0 0 0 (.slice none 0 0)) 31)).heap.size) := ⟨HZ2.out, by have := HZ2.out; simp; omega⟩
          have HA4 : Hid (Rt (u2.alloc (Obj.cells (D5 0 0 0 0 (.slice none 0 0)) 31)) (.slice a2 ln c2) cs) := HR2.out.below ((Below.refl _ _).alloc (Nat.le_refl _) _)
          have HAxwa : Hid (Rw nwa Nwa (u2.alloc (Obj.cells (D5 0 0 0 0 (.slice none 0 0)) 31)) gwa t1 t2 t3 t4 (.slice awa Ln cwa) tl) := Hwa2.out.below ((Below.refl _ _).alloc (Nat.le_refl _) _)
          have HAxX : Hid (Rw nX NX (u2.alloc (Obj.cells (D5 0 0 0 0 (.slice none 0 0)) 31)) gX s c s' c' (.slice ax ln cx) (mkT 1 cs.length)) := HX2.out.below ((Below.refl _ _).alloc (Nat.le_refl _) _)
          have HAxga : Hid (Rw nga Nga (u2.alloc (Obj.cells (D5 0 0 0 0 (.slice none 0 0)) 31)) gga t1 t2 t3 t4 (.slice aga Ln cga) (mkT 1 tl.length)) := Hga2.out.below ((Below.refl _ _).alloc (Nat.le_refl _) _)
          go_wp2
          refine ⟨(HSI.out _).2 HA1.out, ?_⟩
          obtain ⟨gn, hgn⟩ : ∃ g, u2.heap.size = g := ⟨_, rfl⟩
          obtain ⟨u3, hu3⟩ : ∃ W, u2.alloc (Obj.cells (D5 0 0 0 0 (.slice none 0 0)) 31) = W := ⟨_, rfl⟩
          rw [hu3] at HA1 HA2 HA3 HA4 HAxwa HAxX HAxga ⊢
          rw [hgn] at HA2 HA3 ⊢
          have HL3 := HA1
          have HZZ3 := HA2
          have HZ3 : Hid (nha ≤ u3.heap.size) := HA3.out.2
          have HNG : Hid (nha ≤ gn) := HA3.out.1
          have HR3 := HA4
          have Hwa3 := HAxwa
          have HX3 := HAxX
          have Hga3 := HAxga
          clear HA1 HA2 HA3 HA4 HAxwa HAxX HAxga hu3 hgn
          refine anyS_one 4 (by kernel_rfl) rfl ?_
          go_wp2_with (fail)
          refine (evI_t s c s' c' (.slice a2 ln c2) cs k i u3 HR3.out HLN.out (t1, t2, t3, t4, tl) ok HT1.out HT2.out).mono ?_
          rintro e u4 ⟨v3, rfl, o3, g3, -⟩
          obtain ⟨a3, c3, hv3, -⟩ := own_form o3
          simp only at hv3 o3
          rw [HLT.out] at hv3
          subst hv3
          have b2 : Below u3.heap.size u3 u4 := ⟨g3.os, g3.tape, g3.output, g3.size, fun j hj => g3.block j hj (by simp [Value.ownBlock])⟩
          have HO3 : Hid (OtH u3.heap.size u4.heap.size u4 (.slice a3 Ln c3) tl) := ⟨o3, fun k e => (World.ownsRow.lt o3 k e).2⟩
          have HNB : Hid (nha ≤ u3.heap.size ∧ u3.heap.size ≤ u4.heap.size) := ⟨HZ3.out, b2.size⟩
          have HL4 : Hid (Lb w u4 s c s' c' k i (.slice a ln cap)) := HL3.out.below b2
          have HZ4 : Hid (nha ≤ u4.heap.size) := by have := HZ3.out; have := b2.size; show nha ≤ _; omega
          have Hwa4 : Hid (Rw nwa Nwa u4 gwa t1 t2 t3 t4 (.slice awa Ln cwa) tl) := Hwa3.out.below b2
          have HX4 : Hid (Rw nX NX u4 gX s c s' c' (.slice ax ln cx) (mkT 1 cs.length)) := HX3.out.below b2
          have Hga4 : Hid (Rw nga Nga u4 gga t1 t2 t3 t4 (.slice aga Ln cga) (mkT 1 tl.length)) := Hga3.out.below b2
          have HZZ4 : Hid (Blk u4 gn (D5 0 0 0 0 (.slice none 0 0)) 31) := HZZ3.out.below b2 HZZ3.out.lt
          have HGL : Hid (gn < u3.heap.size) := HZZ3.out.lt
          clear o3 g3 b2
          go_wp2
          refine ⟨((HSI.out _).2 HL4.out), ?_⟩
          refine anyS_quiet [false, false, false, false, false, true, true, true, false, false, false] 2 rfl (by kernel_rfl) (fun _ _ _ _ _ h => by cases h.1) ((HSI.out _).2 HL4.out) ?_
          simp only [selT]
          have ne2 : Nonempty (At S) := ⟨⟨_, ((HSI.out _).2 HL4.out)⟩⟩
          repeat (go_big_quiet_step (fail))
          refine wpQuiet_nil ?_
          clear ne2
          have HW1 : Hid (w.heap.size + 1 < gn) := by have := HNG.out; have := HN0.out; show _ < gn; omega
          have HST : Hid (Mid gn (gn + 1) u4 (st5 u4 gn t1 t2 t3 t4 (.slice a3 Ln c3))) := Mid.ofGrown (grown_put5 ..) (fun k e => by cases e; omega)
          have HF1 : Hid (Lb w (st5 u4 gn t1 t2 t3 t4 (.slice a3 Ln c3)) s c s' c' k i (.slice a ln cap) ∧ Rw nha (st5 u4 gn t1 t2 t3 t4 (.slice a3 Ln c3)).heap.size (st5 u4 gn t1 t2 t3 t4 (.slice a3 Ln c3)) gn t1 t2 t3 t4 (.slice a3 Ln c3) tl) := ⟨HL4.out.st HW1.out _ _ _ _ _, _, _, HO3.out.mid HST.out (.inr (by have := HGL.out; omega)), HNB.out.1, HNB.out.2, by simp, HNG.out, by have := HZZ4.out.lt; simp; omega, .inl HGL.out, put5 HZZ4.out _ _ _ _ _⟩
          have z0 := HZZ4.out.cell 0
          have zf0 := HZZ4.out.frozen 0
          have z1 := HZZ4.out.cell 1
          have zf1 := HZZ4.out.frozen 1
          have z2 := HZZ4.out.cell 2
          have zf2 := HZZ4.out.frozen 2
          have z3 := HZZ4.out.cell 3
          have zf3 := HZZ4.out.frozen 3
          have z4 := HZZ4.out.cell 4
          have zf4 := HZZ4.out.frozen 4
          simp at z0 z1 z2 z3 z4
          refine anyS_one 9 (by kernel_rfl) rfl ?_
          go_wp2
          refine ⟨((HSI.out _).2 (HL4.out.st HW1.out _ _ _ _ _)), ?_⟩
          refine anyS_one 10 (by kernel_rfl) rfl ?_
          go_wp2
          refine ⟨((HSI.out _).2 (HL4.out.st HW1.out _ _ _ _ _)), ?_⟩
          refine anyS_end (by kernel_rfl) ?_
          exact ⟨rfl, gn, a2, c2, a3, c3, rfl, HF1.out.1, by have := HNB.out; simp; omega, HF1.out.2, Hwa4.out.mid HST.out (.inr (by have := HNG.out; omega)), HX4.out.mid HST.out (.inr (by have := HNG.out; omega)), Hga4.out.mid HST.out (.inr (by have := HNG.out; omega))⟩
      · have HA1 : Hid (Lb w (u1.alloc (Obj.cells (D5 0 0 0 0 (.slice none 0 0)) 31)) s c s' c' k i (.slice a ln cap)) := HL1.out.alloc _
        have HA2 : Hid (Blk (u1.alloc (Obj.cells (D5 0 0 0 0 (.slice none 0 0)) 31)) u1.heap.size (D5 0 0 0 0 (.slice none 0 0)) 31) := Blk.new _ _ _
        have HA3 : Hid (nha ≤ u1.heap.size ∧ nha ≤ (u1.alloc (Obj.cells (D5 0 0 0 0 (.slice none 0 0)) 31)).heap.size) := ⟨HZ1.out, by have := HZ1.out; simp; omega⟩
        have HA4 : Hid (Rt (u1.alloc (Obj.cells (D5 0 0 0 0 (.slice none 0 0)) 31)) (.slice a2 ln c2) cs) := HR1.out.below ((Below.refl _ _).alloc (Nat.le_refl _) _)
        have HAxwa : Hid (Rw nwa Nwa (u1.alloc (Obj.cells (D5 0 0 0 0 (.slice none 0 0)) 31)) gwa t1 t2 t3 t4 (.slice awa Ln cwa) tl) := Hwa1.out.below ((Below.refl _ _).alloc (Nat.le_refl _) _)
        have HAxX : Hid (Rw nX NX (u1.alloc (Obj.cells (D5 0 0 0 0 (.slice none 0 0)) 31)) gX s c s' c' (.slice ax ln cx) (mkT 1 cs.length)) := HX1.out.below ((Below.refl _ _).alloc (Nat.le_refl _) _)
        have HAxga : Hid (Rw nga Nga (u1.alloc (Obj.cells (D5 0 0 0 0 (.slice none 0 0)) 31)) gga t1 t2 t3 t4 (.slice aga Ln cga) (mkT 1 tl.length)) := Hga1.out.below ((Below.refl _ _).alloc (Nat.le_refl _) _)
        go_wp2
        refine ⟨(HSI.out _).2 HA1.out, ?_⟩
        obtain ⟨gn, hgn⟩ : ∃ g, u1.heap.size = g := ⟨_, rfl⟩
        obtain ⟨u2, hu2⟩ : ∃ W, u1.alloc (Obj.cells (D5 0 0 0 0 (.slice none 0 0)) 31) = W := ⟨_, rfl⟩
        rw [hu2] at HA1 HA2 HA3 HA4 HAxwa HAxX HAxga ⊢
        rw [hgn] at HA2 HA3 ⊢
        have HL2 := HA1
        have HZZ2 := HA2
        have HZ2 : Hid (nha ≤ u2.heap.size) := HA3.out.2
        have HNG : Hid (nha ≤ gn) := HA3.out.1
        have HR2 := HA4
        have Hwa2 := HAxwa
        have HX2 := HAxX
        have Hga2 := HAxga
        clear HA1 HA2 HA3 HA4 HAxwa HAxX HAxga hu2 hgn
        refine anyS_one 3 (by kernel_rfl) rfl ?_
        go_wp2_with (fail)
        refine (toEvent_c k i u2).mono ?_
        rintro e u3 ⟨rfl, b2⟩
        have HL3 : Hid (Lb w u3 s c s' c' k i (.slice a ln cap)) := HL2.out.below b2
        have HZ3 : Hid (nha ≤ u3.heap.size) := by have := HZ2.out; have := b2.size; show nha ≤ _; omega
        have Hwa3 : Hid (Rw nwa Nwa u3 gwa t1 t2 t3 t4 (.slice awa Ln cwa) tl) := Hwa2.out.below b2
        have HX3 : Hid (Rw nX NX u3 gX s c s' c' (.slice ax ln cx) (mkT 1 cs.length)) := HX2.out.below b2
        have Hga3 : Hid (Rw nga Nga u3 gga t1 t2 t3 t4 (.slice aga Ln cga) (mkT 1 tl.length)) := Hga2.out.below b2
        have HR3 : Hid (Rt u3 (.slice a2 ln c2) cs) := HR2.out.below b2
        have HZZ3 : Hid (Blk u3 gn (D5 0 0 0 0 (.slice none 0 0)) 31) := HZZ2.out.below b2 HZZ2.out.lt
        clear b2
        go_wp2
        refine ⟨((HSI.out _).2 HL3.out), ?_⟩
        refine anyS_one 4 (by kernel_rfl) rfl ?_
        go_wp2_with (fail)
        refine (evI_t s c s' c' (.slice a2 ln c2) cs k i u3 HR3.out HLN.out (t1, t2, t3, t4, tl) ok HT1.out HT2.out).mono ?_
        rintro e u4 ⟨v3, rfl, o3, g3, -⟩
        obtain ⟨a3, c3, hv3, -⟩ := own_form o3
        simp only at hv3 o3
        rw [HLT.out] at hv3
        subst hv3
        have b2 : Below u3.heap.size u3 u4 := ⟨g3.os, g3.tape, g3.output, g3.size, fun j hj => g3.block j hj (by simp [Value.ownBlock])⟩
        have HO3 : Hid (OtH u3.heap.size u4.heap.size u4 (.slice a3 Ln c3) tl) := ⟨o3, fun k e => (World.ownsRow.lt o3 k e).2⟩
        have HNB : Hid (nha ≤ u3.heap.size ∧ u3.heap.size ≤ u4.heap.size) := ⟨HZ3.out, b2.size⟩
        have HL4 : Hid (Lb w u4 s c s' c' k i (.slice a ln cap)) := HL3.out.below b2
        have HZ4 : Hid (nha ≤ u4.heap.size) := by have := HZ3.out; have := b2.size; show nha ≤ _; omega
        have Hwa4 : Hid (Rw nwa Nwa u4 gwa t1 t2 t3 t4 (.slice awa Ln cwa) tl) := Hwa3.out.below b2
        have HX4 : Hid (Rw nX NX u4 gX s c s' c' (.slice ax ln cx) (mkT 1 cs.length)) := HX3.out.below b2
        have Hga4 : Hid (Rw nga Nga u4 gga t1 t2 t3 t4 (.slice aga Ln cga) (mkT 1 tl.length)) := Hga3.out.below b2
        have HZZ4 : Hid (Blk u4 gn (D5 0 0 0 0 (.slice none 0 0)) 31) := HZZ3.out.below b2 HZZ3.out.lt
        have HGL : Hid (gn < u3.heap.size) := HZZ3.out.lt
        clear o3 g3 b2
        go_wp2
        refine ⟨((HSI.out _).2 HL4.out), ?_⟩
        refine anyS_quiet [false, false, false, false, false, true, true, true, false, false, false] 2 rfl (by kernel_rfl) (fun _ _ _ _ _ h => by cases h.1) ((HSI.out _).2 HL4.out) ?_
        simp only [selT]
        have ne2 : Nonempty (At S) := ⟨⟨_, ((HSI.out _).2 HL4.out)⟩⟩
        repeat (go_big_quiet_step (fail))
        refine wpQuiet_nil ?_
        clear ne2
        have HW1 : Hid (w.heap.size + 1 < gn) := by have := HNG.out; have := HN0.out; show _ < gn; omega
        have HST : Hid (Mid gn (gn + 1) u4 (st5 u4 gn t1 t2 t3 t4 (.slice a3 Ln c3))) := Mid.ofGrown (grown_put5 ..) (fun k e => by cases e; omega)
        have HF1 : Hid (Lb w (st5 u4 gn t1 t2 t3 t4 (.slice a3 Ln c3)) s c s' c' k i (.slice a ln cap) ∧ Rw nha (st5 u4 gn t1 t2 t3 t4 (.slice a3 Ln c3)).heap.size (st5 u4 gn t1 t2 t3 t4 (.slice a3 Ln c3)) gn t1 t2 t3 t4 (.slice a3 Ln c3) tl) := ⟨HL4.out.st HW1.out _ _ _ _ _, _, _, HO3.out.mid HST.out (.inr (by have := HGL.out; omega)), HNB.out.1, HNB.out.2, by simp, HNG.out, by have := HZZ4.out.lt; simp; omega, .inl HGL.out, put5 HZZ4.out _ _ _ _ _⟩
        have z0 := HZZ4.out.cell 0
        have zf0 := HZZ4.out.frozen 0
        have z1 := HZZ4.out.cell 1
        have zf1 := HZZ4.out.frozen 1
        have z2 := HZZ4.out.cell 2
        have zf2 := HZZ4.out.frozen 2
        have z3 := HZZ4.out.cell 3
        have zf3 := HZZ4.out.frozen 3
        have z4 := HZZ4.out.cell 4
        have zf4 := HZZ4.out.frozen 4
        simp at z0 z1 z2 z3 z4
        refine anyS_one 9 (by kernel_rfl) rfl ?_
        go_wp2
        refine ⟨((HSI.out _).2 (HL4.out.st HW1.out _ _ _ _ _)), ?_⟩
        refine anyS_one 10 (by kernel_rfl) rfl ?_
        go_wp2
        refine ⟨((HSI.out _).2 (HL4.out.st HW1.out _ _ _ _ _)), ?_⟩
        refine anyS_end (by kernel_rfl) ?_
        exact ⟨rfl, gn, a2, c2, a3, c3, rfl, HF1.out.1, by have := HNB.out; simp; omega, HF1.out.2, Hwa4.out.mid HST.out (.inr (by have := HNG.out; omega)), HX4.out.mid HST.out (.inr (by have := HNG.out; omega)), Hga4.out.mid HST.out (.inr (by have := HNG.out; omega))⟩
    · have HA1 : Hid (Lb w (u0.alloc (Obj.cells (D5 0 0 0 0 (.slice none 0 0)) 31)) s c s' c' k i (.slice a ln cap)) := HL0.out.alloc _
      have HA2 : Hid (Blk (u0.alloc (Obj.cells (D5 0 0 0 0 (.slice none 0 0)) 31)) u0.heap.size (D5 0 0 0 0 (.slice none 0 0)) 31) := Blk.new _ _ _
      have HA3 : Hid (nha ≤ u0.heap.size ∧ nha ≤ (u0.alloc (Obj.cells (D5 0 0 0 0 (.slice none 0 0)) 31)).heap.size) := ⟨HZ0.out, by have := HZ0.out; simp; omega⟩
      have HAxwa : Hid (Rw nwa Nwa (u0.alloc (Obj.cells (D5 0 0 0 0 (.slice none 0 0)) 31)) gwa t1 t2 t3 t4 (.slice awa Ln cwa) tl) := Hwa0.out.below ((Below.refl _ _).alloc (Nat.le_refl _) _)
      have HAxX : Hid (Rw nX NX (u0.alloc (Obj.cells (D5 0 0 0 0 (.slice none 0 0)) 31)) gX s c s' c' (.slice ax ln cx) (mkT 1 cs.length)) := HX0.out.below ((Below.refl _ _).alloc (Nat.le_refl _) _)
      have HAxga : Hid (Rw nga Nga (u0.alloc (Obj.cells (D5 0 0 0 0 (.slice none 0 0)) 31)) gga t1 t2 t3 t4 (.slice aga Ln cga) (mkT 1 tl.length)) := Hga0.out.below ((Below.refl _ _).alloc (Nat.le_refl _) _)
      go_wp2
      refine ⟨(HSI.out _).2 HA1.out, ?_⟩
      obtain ⟨gn, hgn⟩ : ∃ g, u0.heap.size = g := ⟨_, rfl⟩
      obtain ⟨u1, hu1⟩ : ∃ W, u0.alloc (Obj.cells (D5 0 0 0 0 (.slice none 0 0)) 31) = W := ⟨_, rfl⟩
      rw [hu1] at HA1 HA2 HA3 HAxwa HAxX HAxga ⊢
      rw [hgn] at HA2 HA3 ⊢
      have HL1 := HA1
      have HZZ1 := HA2
      have HZ1 : Hid (nha ≤ u1.heap.size) := HA3.out.2
      have HNG : Hid (nha ≤ gn) := HA3.out.1
      have Hwa1 := HAxwa
      have HX1 := HAxX
      have Hga1 := HAxga
      clear HA1 HA2 HA3 HAxwa HAxX HAxga hu1 hgn
      refine anyS_one 1 (by kernel_rfl) rfl ?_
      go_wp2_with (fail)
      refine (toDuo_c s c s' c' (.slice a ln cap) cs u1 (HH.out.below HL1.out.bel) HLN.out).mono ?_
      rintro e u2 ⟨v2, rfl, o2, b2⟩
      obtain ⟨a2, c2, hv2, -⟩ := own_form o2
      rw [HLL.out] at hv2
      subst hv2
      have HR2 : Hid (Rt u2 (.slice a2 ln c2) cs) := o2.rd
      have HL2 : Hid (Lb w u2 s c s' c' k i (.slice a ln cap)) := HL1.out.below b2
      have HZ2 : Hid (nha ≤ u2.heap.size) := by have := HZ1.out; have := b2.size; show nha ≤ _; omega
      have Hwa2 : Hid (Rw nwa Nwa u2 gwa t1 t2 t3 t4 (.slice awa Ln cwa) tl) := Hwa1.out.below b2
      have HX2 : Hid (Rw nX NX u2 gX s c s' c' (.slice ax ln cx) (mkT 1 cs.length)) := HX1.out.below b2
      have Hga2 : Hid (Rw nga Nga u2 gga t1 t2 t3 t4 (.slice aga Ln cga) (mkT 1 tl.length)) := Hga1.out.below b2
      have HZZ2 : Hid (Blk u2 gn (D5 0 0 0 0 (.slice none 0 0)) 31) := HZZ1.out.below b2 HZZ1.out.lt
      clear o2 b2
      go_wp2
      refine ⟨((HSI.out _).2 HL2.out), ?_⟩
      refine anyS_one 3 (by kernel_rfl) rfl ?_
      go_wp2_with (fail)
      refine (toEvent_c k i u2).mono ?_
      rintro e u3 ⟨rfl, b2⟩
      have HL3 : Hid (Lb w u3 s c s' c' k i (.slice a ln cap)) := HL2.out.below b2
      have HZ3 : Hid (nha ≤ u3.heap.size) := by have := HZ2.out; have := b2.size; show nha ≤ _; omega
      have Hwa3 : Hid (Rw nwa Nwa u3 gwa t1 t2 t3 t4 (.slice awa Ln cwa) tl) := Hwa2.out.below b2
      have HX3 : Hid (Rw nX NX u3 gX s c s' c' (.slice ax ln cx) (mkT 1 cs.length)) := HX2.out.below b2
      have Hga3 : Hid (Rw nga Nga u3 gga t1 t2 t3 t4 (.slice aga Ln cga) (mkT 1 tl.length)) := Hga2.out.below b2
      have HR3 : Hid (Rt u3 (.slice a2 ln c2) cs) := HR2.out.below b2
      have HZZ3 : Hid (Blk u3 gn (D5 0 0 0 0 (.slice none 0 0)) 31) := HZZ2.out.below b2 HZZ2.out.lt
      clear b2
      go_wp2
      refine ⟨((HSI.out _).2 HL3.out), ?_⟩
      refine anyS_one 4 (by kernel_rfl) rfl ?_
      go_wp2_with (fail)
      refine (evI_t s c s' c' (.slice a2 ln c2) cs k i u3 HR3.out HLN.out (t1, t2, t3, t4, tl) ok HT1.out HT2.out).mono ?_
      rintro e u4 ⟨v3, rfl, o3, g3, -⟩
      obtain ⟨a3, c3, hv3, -⟩ := own_form o3
      simp only at hv3 o3
      rw [HLT.out] at hv3
      subst hv3
      have b2 : Below u3.heap.size u3 u4 := ⟨g3.os, g3.tape, g3.output, g3.size, fun j hj => g3.block j hj (by simp [Value.ownBlock])⟩
      have HO3 : Hid (OtH u3.heap.size u4.heap.size u4 (.slice a3 Ln c3) tl) := ⟨o3, fun k e => (World.ownsRow.lt o3 k e).2⟩
      have HNB : Hid (nha ≤ u3.heap.size ∧ u3.heap.size ≤ u4.heap.size) := ⟨HZ3.out, b2.size⟩
      have HL4 : Hid (Lb w u4 s c s' c' k i (.slice a ln cap)) := HL3.out.below b2
      have HZ4 : Hid (nha ≤ u4.heap.size) := by have := HZ3.out; have := b2.size; show nha ≤ _; omega
      have Hwa4 : Hid (Rw nwa Nwa u4 gwa t1 t2 t3 t4 (.slice awa Ln cwa) tl) := Hwa3.out.below b2
      have HX4 : Hid (Rw nX NX u4 gX s c s' c' (.slice ax ln cx) (mkT 1 cs.length)) := HX3.out.below b2
      have Hga4 : Hid (Rw nga Nga u4 gga t1 t2 t3 t4 (.slice aga Ln cga) (mkT 1 tl.length)) := Hga3.out.below b2
      have HZZ4 : Hid (Blk u4 gn (D5 0 0 0 0 (.slice none 0 0)) 31) := HZZ3.out.below b2 HZZ3.out.lt
      have HGL : Hid (gn < u3.heap.size) := HZZ3.out.lt
      clear o3 g3 b2
      go_wp2
      refine ⟨((HSI.out _).2 HL4.out), ?_⟩
      refine anyS_quiet [false, false, false, false, false, true, true, true, false, false, false] 2 rfl (by kernel_rfl) (fun _ _ _ _ _ h => by cases h.1) ((HSI.out _).2 HL4.out) ?_
      simp only [selT]
      have ne2 : Nonempty (At S) := ⟨⟨_, ((HSI.out _).2 HL4.out)⟩⟩
      repeat (go_big_quiet_step (fail))
      refine wpQuiet_nil ?_
      clear ne2
      have HW1 : Hid (w.heap.size + 1 < gn) := by have := HNG.out; have := HN0.out; show _ < gn; omega
      have HST : Hid (Mid gn (gn + 1) u4 (st5 u4 gn t1 t2 t3 t4 (.slice a3 Ln c3))) := Mid.ofGrown (grown_put5 ..) (fun k e => by cases e; omega)
      have HF1 : Hid (Lb w (st5 u4 gn t1 t2 t3 t4 (.slice a3 Ln c3)) s c s' c' k i (.slice a ln cap) ∧ Rw nha (st5 u4 gn t1 t2 t3 t4 (.slice a3 Ln c3)).heap.size (st5 u4 gn t1 t2 t3 t4 (.slice a3 Ln c3)) gn t1 t2 t3 t4 (.slice a3 Ln c3) tl) := ⟨HL4.out.st HW1.out _ _ _ _ _, _, _, HO3.out.mid HST.out (.inr (by have := HGL.out; omega)), HNB.out.1, HNB.out.2, by simp, HNG.out, by have := HZZ4.out.lt; simp; omega, .inl HGL.out, put5 HZZ4.out _ _ _ _ _⟩
      have z0 := HZZ4.out.cell 0
      have zf0 := HZZ4.out.frozen 0
      have z1 := HZZ4.out.cell 1
      have zf1 := HZZ4.out.frozen 1
      have z2 := HZZ4.out.cell 2
      have zf2 := HZZ4.out.frozen 2
      have z3 := HZZ4.out.cell 3
      have zf3 := HZZ4.out.frozen 3
      have z4 := HZZ4.out.cell 4
      have zf4 := HZZ4.out.frozen 4
      simp at z0 z1 z2 z3 z4
      refine anyS_one 9 (by kernel_rfl) rfl ?_
      go_wp2
      refine ⟨((HSI.out _).2 (HL4.out.st HW1.out _ _ _ _ _)), ?_⟩
      refine anyS_one 10 (by kernel_rfl) rfl ?_
      go_wp2
      refine ⟨((HSI.out _).2 (HL4.out.st HW1.out _ _ _ _ _)), ?_⟩
      refine anyS_end (by kernel_rfl) ?_
      exact ⟨rfl, gn, a2, c2, a3, c3, rfl, HF1.out.1, by have := HNB.out; simp; omega, HF1.out.2, Hwa4.out.mid HST.out (.inr (by have := HNG.out; omega)), HX4.out.mid HST.out (.inr (by have := HNG.out; omega)), Hga4.out.mid HST.out (.inr (by have := HNG.out; omega))⟩
  clear kd0 kd1 kd2 kd3 kd4 ke0 ke1 ldl lel wab0 wab1 wab2 wab3 wab4 wal Xb0 Xb1 Xb2 Xb3 Xb4 Xl gab0 gab1 gab2 gab3 gab4 gal
  clear y0 y1 y2 y3 y4 x0 x1 ne1 HSI HSD HN0 HLb Hwa HX Hga
  rintro gha a2ha c2ha aha cha w14 ⟨HLb, hznha, Hha, Hwa', HX', Hga'⟩
  try dsimp only
  have Hwa := Hwa'
  clear Hwa'
  have HX := HX'
  clear HX'
  have Hga := Hga'
  clear Hga'
  obtain ⟨Nha, hNha⟩ : ∃ n, w14.heap.size = n := ⟨_, rfl⟩
  rw [hNha] at Hha hznha
  have hwha := Hha.out.rng
  have kd0 := HLb.out.kd.cell 0
  have kd1 := HLb.out.kd.cell 1
  have kd2 := HLb.out.kd.cell 2
  have kd3 := HLb.out.kd.cell 3
  have kd4 := HLb.out.kd.cell 4
  have ke0 := HLb.out.ke.cell 0
  have ke1 := HLb.out.ke.cell 1
  have ldl := HLb.out.kd.lt
  have lel := HLb.out.ke.lt
  have wab0 := Hwa.out.box.cell 0
  have wab1 := Hwa.out.box.cell 1
  have wab2 := Hwa.out.box.cell 2
  have wab3 := Hwa.out.box.cell 3
  have wab4 := Hwa.out.box.cell 4
  have wal := Hwa.out.box.lt
  have Xb0 := HX.out.box.cell 0
  have Xb1 := HX.out.box.cell 1
  have Xb2 := HX.out.box.cell 2
  have Xb3 := HX.out.box.cell 3
  have Xb4 := HX.out.box.cell 4
  have Xl := HX.out.box.lt
  have gab0 := Hga.out.box.cell 0
  have gab1 := Hga.out.box.cell 1
  have gab2 := Hga.out.box.cell 2
  have gab3 := Hga.out.box.cell 3
  have gab4 := Hga.out.box.cell 4
  have gal := Hga.out.box.lt
  have hab0 := Hha.out.box.cell 0
  have hab1 := Hha.out.box.cell 1
  have hab2 := Hha.out.box.cell 2
  have hab3 := Hha.out.box.cell 3
  have hab4 := Hha.out.box.cell 4
  have hal := Hha.out.box.lt
  simp at kd0 kd1 kd2 kd3 kd4 ke0 ke1 wab0 wab1 wab2 wab3 wab4 Xb0 Xb1 Xb2 Xb3 Xb4 gab0 gab1 gab2 gab3 gab4 hab0 hab1 hab2 hab3 hab4
  go_wp2_with (fail)
  refine (eqDuo_t t1 t2 t3 t4 (.slice aha Ln cha) (.slice awa Ln cwa) tl w14 Hha.out.rd Hwa.out.rd).mono ?_
  rintro e w15 ⟨rfl, b⟩
  clear kd0 kd1 kd2 kd3 kd4 ke0 ke1 ldl lel wab0 wab1 wab2 wab3 wab4 wal Xb0 Xb1 Xb2 Xb3 Xb4 Xl gab0 gab1 gab2 gab3 gab4 gal hab0 hab1 hab2 hab3 hab4 hal
  have HLb' : Hid (Lb w w15 s c s' c' k i (.slice a ln cap)) := HLb.out.below b
  have Hwa' : Hid (Rw nwa Nwa w15 gwa t1 t2 t3 t4 (.slice awa Ln cwa) tl) := Hwa.out.below b
  have HX' : Hid (Rw nX NX w15 gX s c s' c' (.slice ax ln cx) (mkT 1 cs.length)) := HX.out.below b
  have Hga' : Hid (Rw nga Nga w15 gga t1 t2 t3 t4 (.slice aga Ln cga) (mkT 1 tl.length)) := Hga.out.below b
  have Hha' : Hid (Rw nha Nha w15 gha t1 t2 t3 t4 (.slice aha Ln cha) tl) := Hha.out.below b
  have zsw15 : w14.heap.size ≤ w15.heap.size := b.size
  clear HLb Hwa HX Hga Hha
  have HLb := HLb'
  clear HLb'
  have Hwa := Hwa'
  clear Hwa'
  have HX := HX'
  clear HX'
  have Hga := Hga'
  clear Hga'
  have Hha := Hha'
  clear Hha'
  clear b
  have kd0 := HLb.out.kd.cell 0
  have kd1 := HLb.out.kd.cell 1
  have kd2 := HLb.out.kd.cell 2
  have kd3 := HLb.out.kd.cell 3
  have kd4 := HLb.out.kd.cell 4
  have ke0 := HLb.out.ke.cell 0
  have ke1 := HLb.out.ke.cell 1
  have ldl := HLb.out.kd.lt
  have lel := HLb.out.ke.lt
  have wab0 := Hwa.out.box.cell 0
  have wab1 := Hwa.out.box.cell 1
  have wab2 := Hwa.out.box.cell 2
  have wab3 := Hwa.out.box.cell 3
  have wab4 := Hwa.out.box.cell 4
  have wal := Hwa.out.box.lt
  have Xb0 := HX.out.box.cell 0
  have Xb1 := HX.out.box.cell 1
  have Xb2 := HX.out.box.cell 2
  have Xb3 := HX.out.box.cell 3
  have Xb4 := HX.out.box.cell 4
  have Xl := HX.out.box.lt
  have gab0 := Hga.out.box.cell 0
  have gab1 := Hga.out.box.cell 1
  have gab2 := Hga.out.box.cell 2
  have gab3 := Hga.out.box.cell 3
  have gab4 := Hga.out.box.cell 4
  have gal := Hga.out.box.lt
  have hab0 := Hha.out.box.cell 0
  have hab1 := Hha.out.box.cell 1
  have hab2 := Hha.out.box.cell 2
  have hab3 := Hha.out.box.cell 3
  have hab4 := Hha.out.box.cell 4
  have hal := Hha.out.box.lt
  simp at kd0 kd1 kd2 kd3 kd4 ke0 ke1 wab0 wab1 wab2 wab3 wab4 Xb0 Xb1 Xb2 Xb3 Xb4 gab0 gab1 gab2 gab3 gab4 hab0 hab1 hab2 hab3 hab4
  go_wp2_with (fail)
  refine (heldDuo_c t1 t2 t3 t4 (.slice aga Ln cga) 1 tl.length w15 Hga.out.rd (by decide) (by have := HLT.out; omega)).mono ?_
  rintro e w16 ⟨rfl, b⟩
  clear kd0 kd1 kd2 kd3 kd4 ke0 ke1 ldl lel wab0 wab1 wab2 wab3 wab4 wal Xb0 Xb1 Xb2 Xb3 Xb4 Xl gab0 gab1 gab2 gab3 gab4 gal hab0 hab1 hab2 hab3 hab4 hal
  rw [HLT.out]
  have HLb' : Hid (Lb w w16 s c s' c' k i (.slice a ln cap)) := HLb.out.below b
  have Hwa' : Hid (Rw nwa Nwa w16 gwa t1 t2 t3 t4 (.slice awa Ln cwa) tl) := Hwa.out.below b
  have HX' : Hid (Rw nX NX w16 gX s c s' c' (.slice ax ln cx) (mkT 1 cs.length)) := HX.out.below b
  have Hga' : Hid (Rw nga Nga w16 gga t1 t2 t3 t4 (.slice aga Ln cga) (mkT 1 tl.length)) := Hga.out.below b
  have Hha' : Hid (Rw nha Nha w16 gha t1 t2 t3 t4 (.slice aha Ln cha) tl) := Hha.out.below b
  have zsw16 : w15.heap.size ≤ w16.heap.size := b.size
  clear HLb Hwa HX Hga Hha
  have HLb := HLb'
  clear HLb'
  have Hwa := Hwa'
  clear Hwa'
  have HX := HX'
  clear HX'
  have Hga := Hga'
  clear Hga'
  have Hha := Hha'
  clear Hha'
  clear b
  have HBB : Hid (Below w.heap.size w w16) := HLb.out.bel
  go_wp2
  go_ret
  exact ⟨rfl, HBB.out⟩
end Go.Proofs.Ytljejjfhlpjlfaa

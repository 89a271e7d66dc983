/- The model's RunDesk; no condition. -/
import Derived.Test.YtpmmgbinogokfaaRnI
import Derived.Test.YtpmmgbinogokfaaInv
import Derived.Deep.DeepCutAuto
namespace Go.Proofs.Ytpmmgbinogokfaa
open Go.RowKit Go.ChangeShapes Go.WideShapes Go.ChangeAt
set_option linter.unusedVariables false
set_option linter.unusedSimpArgs false
set_option maxRecDepth 8000
structure Sm (C : Nat) (B : World) (n g : Int) (va vq : Value) (gs : List Ag) (qs : List Wt) (k t a s p : Int) (R : (Int × Int × List Ag × List Wt) × List Int × Int) (b off m oc j : Nat) (d : Nat → Bool) (W : World) (v0 v1 v2 v3 v4 v5 v6 v7 v8 v9 v10 v11 v12 v13 : Value) (u0 u1 va' vq' vc' : Value) (X : Nat) : Prop where
  bel : Below C B W
  f1 : d 1 = true → v1 = .slice (some ⟨b, off, none⟩) m oc
  f2 : d 2 = true → v2 = .int .i64 (j : Int)
  f3 : d 3 = true → v3 = .pointer (some ⟨b, off + j * 5, none⟩)
  f0 : d 0 = true → v0 = .agg (D4 n va vq g)
  f4 : d 4 = true → v4 = .agg #[.int .i64 k, .int .i64 t, .int .i64 a, .int .i64 s, .int .i64 p]
  f5 : d 5 = true → v5 = .tuple #[.agg (D4 R.1.1 va' vq' R.1.2.1), vc', .int .i64 R.2.2]
  od : d 5 = true → OwD C W va' vq' R.1.2.2.1 R.1.2.2.2 ∧ Ow .i64 3 C W vc' R.2.1 ∧ ∀ j, vc'.ownBlock = some j → ¬ InD va' vq' j
  f6 : d 6 = true → v6 = .tuple #[.agg (D4 R.1.1 va' vq' R.1.2.1), vc', .int .i64 R.2.2]
  f7 : d 7 = true → v7 = .agg (D4 R.1.1 va' vq' R.1.2.1)
  f8 : d 8 = true → v8 = vc'
  f9 : d 9 = true → v9 = .int .i64 R.2.2
  f10 : d 10 = true → v10 = .pointer (some ⟨X, 0, none⟩)
  oa : d 10 = true → C ≤ X ∧ (d 11 = false → Blk W X (D4 0 (.slice none 0 0) (.slice none 0 0) 0) 27)
  os : d 11 = true → Blk W X (D4 R.1.1 va' vq' R.1.2.1) 27
  f12 : d 12 = true → v12 = vc'
  f13 : d 13 = true → v13 = .int .i64 R.2.2
  gd : d 6 = true ∨ d 7 = true ∨ d 8 = true ∨ d 9 = true ∨ d 11 = true ∨ d 12 = true ∨ d 13 = true → d 5 = true
  ga : d 11 = true → d 10 = true
theorem Sm.below {C : Nat} {B : World} {n g : Int} {va vq : Value} {gs : List Ag} {qs : List Wt} {k t a s p : Int} {R : (Int × Int × List Ag × List Wt) × List Int × Int} {b off m oc j : Nat} {d : Nat → Bool} {W W' : World} {v0 v1 v2 v3 v4 v5 v6 v7 v8 v9 v10 v11 v12 v13 : Value} {u0 u1 va' vq' vc' : Value} {X : Nat} (h : Sm C B n g va vq gs qs k t a s p R b off m oc j d W v0 v1 v2 v3 v4 v5 v6 v7 v8 v9 v10 v11 v12 v13 u0 u1 va' vq' vc' X) (hC : C ≤ B.heap.size) (hb : Below W.heap.size W W') : Sm C B n g va vq gs qs k t a s p R b off m oc j d W' v0 v1 v2 v3 v4 v5 v6 v7 v8 v9 v10 v11 v12 v13 u0 u1 va' vq' vc' X :=
  { h with
    bel := belowCall h.bel hb (Nat.le_trans hC h.bel.size)
    od := fun e => ⟨(h.od e).1.below hb, (h.od e).2.1.below hb, (h.od e).2.2⟩
    oa := fun e => ⟨(h.oa e).1, fun e2 => ((h.oa e).2 e2).below hb ((h.oa e).2 e2).lt⟩
    os := fun e => (h.os e).below hb (h.os e).lt }
def SmS (C : Nat) (B : World) (n g : Int) (va vq : Value) (gs : List Ag) (qs : List Wt) (k t a s p : Int) (R : (Int × Int × List Ag × List Wt) × List Int × Int) (b off m oc j : Nat) (d : Nat → Bool) (vs : List Value) (W : World) : Prop :=
  ∃ v0 v1 v2 v3 v4 v5 v6 v7 v8 v9 v10 v11 v12 v13 u0 u1 va' vq' vc' X, vs = [v0, v1, v2, v3, v4, v5, v6, v7, v8, v9, v10, v11, v12, v13] ∧ Sm C B n g va vq gs qs k t a s p R b off m oc j d W v0 v1 v2 v3 v4 v5 v6 v7 v8 v9 v10 v11 v12 v13 u0 u1 va' vq' vc' X
set_option maxHeartbeats 25600000 in
theorem runM_c (n g : Int) (va vq vo : Value) (gs : List Ag) (qs : List Wt) (os : List Do) (w : World) (ha : Rg 3 agC w va gs) (hq : Rg 4 wtC w vq qs) (la : gs.length ≤ 1048576) (lq : qs.length ≤ 1048576) (ho : Rg 5 doC w vo os) :
   Calls Try.prog 29 #[.agg (D4 n va vq g), vo] w (RnR w (rnF (n, g, gs, qs) os)) := by
  obtain ⟨W0, hW0⟩ : ∃ W0, (((w.alloc (Obj.cells (D4 n va vq g) 27)).alloc (Obj.cells (D4 0 (.slice none 0 0) (.slice none 0 0) 0) 27)).alloc (Obj.cells #[] 3)).alloc (Obj.cells #[] 3) = W0 := ⟨_, rfl⟩
  have b0 : Below w.heap.size w W0 := hW0 ▸ ((((Below.refl _ _).alloc (Nat.le_refl _) _).alloc (by simp) _).alloc (by simp; omega) _).alloc (by simp; omega) _
  have hs0 : W0.heap.size = w.heap.size + 4 := by rw [← hW0]; simp
  have k0 : Blk W0 w.heap.size (D4 n va vq g) 27 := hW0 ▸ (((Blk.new _ _ _).alloc _).alloc _).alloc _
  have k1 : Blk W0 (w.heap.size + 1) (D4 0 (.slice none 0 0) (.slice none 0 0) 0) 27 := hW0 ▸ ((Blk.newAt _ (w.heap.size + 1) _ 27 (by simp)).alloc _).alloc _
  have kg : Ow .i64 3 (w.heap.size + 2) W0 (.slice (some ⟨w.heap.size + 2, 0, none⟩) 0 0) [] := by
    have h := (Ow.empty .i64 3 (w.heap.size + 2) ((w.alloc (Obj.cells (D4 n va vq g) 27)).alloc (Obj.cells (D4 0 (.slice none 0 0) (.slice none 0 0) 0) 27)) (by simp)).alloc (Obj.cells #[] 3)
    rw [hW0] at h; simpa using h
  have kc : Ow .i64 3 (w.heap.size + 2) W0 (.slice (some ⟨w.heap.size + 3, 0, none⟩) 0 0) [] := by
    have h := Ow.empty .i64 3 (w.heap.size + 2) (((w.alloc (Obj.cells (D4 n va vq g) 27)).alloc (Obj.cells (D4 0 (.slice none 0 0) (.slice none 0 0) 0) 27)).alloc (Obj.cells #[] 3)) (by simp)
    rw [hW0] at h; simpa using h
  have HC : Hid (Calls Try.prog 51 #[.agg (D4 n va vq g)] W0 fun e w' => ∃ va' vq', e = .returned (.agg (D4 n va' vq' g)) ∧ OwD W0.heap.size w' va' vq' gs qs ∧ Below W0.heap.size W0 w') := copyM_c n g va vq gs qs W0 (ha.below b0) (hq.below b0) la lq
  obtain ⟨a0, p0, rfl, -⟩ := ha
  obtain ⟨a1, p1, rfl, -⟩ := hq
  have HO : Hid (Rg 5 doC w vo os) := ho
  obtain ⟨oa, oc, hov, ol, om, oh⟩ := ho
  unfold maxLen at om
  obtain ⟨m, hm⟩ : ∃ m, os.length = m := ⟨_, rfl⟩
  have HM : Hid (os.length = m) := hm
  rw [hm] at hov ol
  subst hov
  clear hm
  obtain ⟨P, hP⟩ : ∃ P, w.heap.size = P := ⟨_, rfl⟩
  rw [hP] at k0 k1 hs0 b0 kg kc
  have HP : Hid (w.heap.size = P) := hP
  have x0 := k0.cell 0
  have x1 := k0.cell 1
  have x2 := k0.cell 2
  have x3 := k0.cell 3
  simp at x0 x1 x2 x3
  have hap : Apart (.slice (some ⟨P + 2, 0, none⟩) 0 0) (.slice (some ⟨P + 3, 0, none⟩) 0 0) := fun k e => by simp [Value.ownBlock] at e ⊢; omega
  by_cases hbig : 200 < m
  · have hbI : (200 : Int) < (m : Int) := by omega
    have HF : Hid _ := zeroR (r := rnF (n, g, gs, qs) os) hP k1 b0 kg kc hap (by rw [rnF, if_pos (by rw [HM.out]; exact hbig)])
    have r0 := k1.cell 0
    have rf0 := k1.frozen 0
    have r1 := k1.cell 1
    have rf1 := k1.frozen 1
    have r2 := k1.cell 2
    have rf2 := k1.frozen 2
    have r3 := k1.cell 3
    have rf3 := k1.frozen 3
    simp at r0 r1 r2 r3
    clear k0 k1 b0 HC oh hs0 kg kc hap HO
    go_enter Try.func29, Try.ntmps29
    go_wp2
    exact bodyPost_ret (v := .tuple #[.agg (D4 0 (.slice none 0 0) (.slice none 0 0) 0), .slice (some ⟨P + 2, 0, none⟩) 0 0, .slice (some ⟨P + 3, 0, none⟩) 0 0]) (results_D3 rfl _ _ _ _ _ _ _ _ _ rfl rfl rfl HF.out.1) rfl HF.out.2
  have hbI : ((200 : Int) < (m : Int)) = False := eq_false (by omega)
  have HBG : Hid (¬ 200 < os.length) := by show ¬ _; rw [HM.out]; exact hbig
  have HB0 : Hid (Below P w W0) := b0
  have hm2 : m ≤ 200 := by omega
  clear hbig b0
  have HK : Hid ((Blk W0 P (D4 n (.slice a0 gs.length p0) (.slice a1 qs.length p1) g) 27 ∧ Blk W0 (P + 1) (D4 0 (.slice none 0 0) (.slice none 0 0) 0) 27) ∧ Ow .i64 3 (P + 2) W0 (.slice (some ⟨P + 2, 0, none⟩) 0 0) [] ∧ Ow .i64 3 (P + 2) W0 (.slice (some ⟨P + 3, 0, none⟩) 0 0) []) := ⟨⟨k0, k1⟩, kg, kc⟩
  have HS0 : Hid (W0.heap.size = P + 4) := hs0
  have HAP : Hid (Apart (.slice (some ⟨P + 2, 0, none⟩) 0 0) (.slice (some ⟨P + 3, 0, none⟩) 0 0)) := hap
  clear k0 k1 hs0 kg kc hap
  go_enter Try.func29, Try.ntmps29
  go_wp2_with (fail)
  refine HC.out.mono ?_
  rintro e w1 ⟨va1, vq1, rfl, o1, b1⟩
  have q0 := HK.out.1.1.below b1 HK.out.1.1.lt
  have q1 := HK.out.1.2.below b1 HK.out.1.2.lt
  rw [HS0.out] at o1
  have gf := grow4 w1 P (.int .i64 n) va1 vq1 (.int .i64 g)
  have S1 : Hid (Rs P w ((((w1.setCell ⟨P, 0, none⟩ (.int .i64 n)).setCell ⟨P, 1, none⟩ va1).setCell ⟨P, 2, none⟩ vq1).setCell ⟨P, 3, none⟩ (.int .i64 g)) n g va1 vq1 gs qs (.slice (some ⟨P + 2, 0, none⟩) 0 0) (.slice (some ⟨P + 3, 0, none⟩) 0 0) [] []) := by
    refine ⟨hP, (((q0.set 0 _).set 1 _).set 2 _).set 3 _, ?_, (o1.off q0 gf).mono (by omega), (HK.out.2.1.below b1).off q0 (by decide) gf, (HK.out.2.2.below b1).off q0 (by decide) gf, HAP.out, ?_⟩
    · rw [Blk, gf.block _ q1.lt (by simp)]; exact q1
    · exact (HB0.out.trans (b1.mono (by have := HS0.out; omega))).trans (grown_below gf (by have := q0.lt; omega) (fun k e => by cases e; exact Nat.le_refl _))
  clear x0 x1 x2 x3
  have x0 := q0.cell 0
  have x1 := q0.cell 1
  have x2 := q0.cell 2
  have x3 := q0.cell 3
  have f0 := q0.frozen 0
  have f1 := q0.frozen 1
  have f2 := q0.frozen 2
  have f3 := q0.frozen 3
  simp at x0 x1 x2 x3
  obtain ⟨c1, d1, rfl⟩ := o1.1.form
  obtain ⟨c2, d2, rfl⟩ := o1.2.1.form
  clear q0 q1 o1 gf b1 HC HK HB0 hW0 HAP
  go_wp2
  clear x0 x1 x2 x3 f0 f1 f2 f3
  go_loopw [7, 8, 9] (fun gvv cdv i wr => ∃ j : Nat, j ≤ m ∧ i = .int .i64 j ∧ Hid (∃ va' vq', Rs P w wr (rnT (n, g, gs, qs) os j).1.1 (rnT (n, g, gs, qs) os j).1.2.1 va' vq' (rnT (n, g, gs, qs) os j).1.2.2.1 (rnT (n, g, gs, qs) os j).1.2.2.2 gvv cdv (rnT (n, g, gs, qs) os j).2.1 (rnT (n, g, gs, qs) os j).2.2)) (fun _ _ i _ => m - (intOf i).toNat)
  case atStart => exact ⟨0, Nat.zero_le _, rfl, _, _, S1.out⟩
  case round =>
    obtain ⟨j, hj, rfl, hrest⟩ := hrel
    obtain ⟨va3, vq3, hR⟩ := hrest.out
    clear hrest S1
    have hbd := rnT_bd (n, g, gs, qs) os j (by rw [HM.out]; exact hj)
    have HBD : Hid ((rnT (n, g, gs, qs) os j).1.2.2.1.length ≤ 1048576 ∧ (rnT (n, g, gs, qs) os j).1.2.2.2.length ≤ 1048576 ∧ (rnT (n, g, gs, qs) os j).2.1.length ≤ 12 * m ∧ (rnT (n, g, gs, qs) os j).2.2.length = j) := by
      refine ⟨?_, ?_, ?_, hbd.2.2.2⟩
      · rw [hbd.1]; exact la
      · rcases hbd.2.1 with h | h
        · exact Nat.le_trans h lq
        · omega
      · have := hbd.2.2.1; omega
    clear hbd
    by_cases hlt : j < m
    · have hje : j < os.length := by rw [HM.out]; exact hlt
      have hsu := rnT_succ (n, g, gs, qs) os j hje
      obtain ⟨⟨⟨n1, g1, gs1, qs1⟩, gv1, cs1⟩, hT⟩ : ∃ T, rnT (n, g, gs, qs) os j = T := ⟨_, rfl⟩
      rw [hT] at hR HBD hsu
      dsimp only at hR HBD hsu
      obtain ⟨k, t, a, s, p, hop⟩ : ∃ k t a s p, os[j] = (k, t, a, s, p) := ⟨_, _, _, _, _, rfl⟩
      rw [hop] at hsu
      obtain ⟨R, hRR⟩ : ∃ R, doF n1 g1 gs1 qs1 k t a s p = R := ⟨_, rfl⟩
      have HRR : Hid (doF n1 g1 gs1 qs1 k t a s p = R) := hRR
      have HSU : Hid (rnT (n, g, gs, qs) os (j + 1) = (R.1, gv1 ++ R.2.1, cs1 ++ [R.2.2])) := by rw [Hid, hsu]; unfold stp; dsimp only; rw [hRR]
      rcases oh with oh | ⟨b, off, rfl, h4⟩
      · rw [oh] at hje; simp at hje
      have h5 : wr.rangeAt b (off + j * 5) (doC (k, t, a, s, p)) := by
        have := h4 j hje
        rw [hop] at this
        refine rangeAt_below this (B := P) hR.bel ?_
        rw [← hP]; exact block_lt_of_cell (this 0 _ rfl)
      have HRG : Hid (∀ W, Below wr.heap.size wr W → W.rangeAt b (off + j * 5) (doC (k, t, a, s, p))) := fun W h => rangeAt_below h5 (B := wr.heap.size) h (block_lt_of_cell (h5 0 _ rfl))
      have S3 : Hid (Rs P w wr n1 g1 va3 vq3 gs1 qs1 u7 u8 gv1 cs1) := hR
      obtain ⟨c3, d3, rfl⟩ := hR.own.1.form
      obtain ⟨c4, d4, rfl⟩ := hR.own.2.1.form
      have HBX : Hid (Blk wr P (D4 n1 (.slice c3 gs1.length d3) (.slice c4 qs1.length d4) g1) 27) := hR.box
      have HRD : Hid (∀ W, Below wr.heap.size wr W → Rg 3 agC W (.slice c3 gs1.length d3) gs1 ∧ Rg 4 wtC W (.slice c4 qs1.length d4) qs1) := fun W h => ⟨(hR.own.1.rd agC_len).below h, (hR.own.2.1.rd wtC_len).below h⟩
      have hjI : (j : Int) < (m : Int) := by omega
      clear hR h4 h5 hsu hT hRR hop HO
      go_upto_region 8 with (fail)
      refine region_vals [undef, undef, undef, undef, undef, undef, undef, undef, undef, undef, undef, undef, undef, undef]
        (SmS wr.heap.size wr n1 g1 (.slice c3 gs1.length d3) (.slice c4 qs1.length d4) gs1 qs1 k t a s p R b off m oc j)
        (by kernel_rfl) (by kernel_rfl) ?_ ⟨?_, ?_, ?_, ?_, ?_, ?_, ?_, ?_, ?_, ?_, ?_, ?_, ?_, ?_, trivial⟩ ?_
      · refine ⟨_, _, _, _, _, _, _, _, _, _, _, _, _, _, undef, undef, undef, undef, undef, 0, rfl, ⟨(Below.refl _ _).drew, ?_, ?_, ?_, ?_, ?_, ?_, ?_, ?_, ?_, ?_, ?_, ?_, ?_, ?_, ?_, ?_, ?_, ?_⟩⟩ <;> simp
      · rintro d vs W ⟨v0, v1, v2, v3, v4, v5, v6, v7, v8, v9, v10, v11, v12, v13, u0, u1, va', vq', vc', X, rfl, H⟩ hn hd
        simp only [putAll, Act.put, List.setIfInBounds_toArray, List.set_cons_succ, List.set_cons_zero]
        have kk := HBX.out.below H.bel HBX.out.lt
        have x0 := kk.cell 0
        have x1 := kk.cell 1
        have x2 := kk.cell 2
        have x3 := kk.cell 3
        simp at x0 x1 x2 x3
        have HH1 : Hid _ := H
        clear H
        clear hd kk
        go_wp2
        have H := HH1.out
        refine ⟨rfl, [.agg (D4 n1 (.slice c3 gs1.length d3) (.slice c4 qs1.length d4) g1), v1, v2, v3, v4, v5, v6, v7, v8, v9, v10, v11, v12, v13], ?_, .agg (D4 n1 (.slice c3 gs1.length d3) (.slice c4 qs1.length d4) g1), v1, v2, v3, v4, v5, v6, v7, v8, v9, v10, v11, v12, v13, u0, u1, va', vq', vc', X, rfl, ⟨H.bel, (by have h := H.f1; simpa [doneSet] using h), (by have h := H.f2; simpa [doneSet] using h), (by have h := H.f3; simpa [doneSet] using h), (fun _ => rfl), (by have h := H.f4; simpa [doneSet] using h), (by have h := H.f5; simpa [doneSet] using h), (by have h := H.od; simpa [doneSet] using h), (by have h := H.f6; simpa [doneSet] using h), (by have h := H.f7; simpa [doneSet] using h), (by have h := H.f8; simpa [doneSet] using h), (by have h := H.f9; simpa [doneSet] using h), (by have h := H.f10; simpa [doneSet] using h), (by have h := H.oa; simpa [doneSet] using h), (by have h := H.os; simpa [doneSet] using h), (by have h := H.f12; simpa [doneSet] using h), (by have h := H.f13; simpa [doneSet] using h), (by have h := H.gd; simpa [doneSet] using h), (by have h := H.ga; simpa [doneSet] using h)⟩⟩
        simp only [putAll, Act.put, List.setIfInBounds_toArray, List.set_cons_succ, List.set_cons_zero]
      · rintro d vs W ⟨v0, v1, v2, v3, v4, v5, v6, v7, v8, v9, v10, v11, v12, v13, u0, u1, va', vq', vc', X, rfl, H⟩ hn hd
        simp only [putAll, Act.put, List.setIfInBounds_toArray, List.set_cons_succ, List.set_cons_zero]
        have HH1 : Hid _ := H
        clear H
        clear hd
        go_wp2
        have H := HH1.out
        refine ⟨rfl, [v0, .slice (some ⟨b, off, none⟩) m oc, v2, v3, v4, v5, v6, v7, v8, v9, v10, v11, v12, v13], ?_, v0, .slice (some ⟨b, off, none⟩) m oc, v2, v3, v4, v5, v6, v7, v8, v9, v10, v11, v12, v13, u0, u1, va', vq', vc', X, rfl, ⟨H.bel, (fun _ => rfl), (by have h := H.f2; simpa [doneSet] using h), (by have h := H.f3; simpa [doneSet] using h), (by have h := H.f0; simpa [doneSet] using h), (by have h := H.f4; simpa [doneSet] using h), (by have h := H.f5; simpa [doneSet] using h), (by have h := H.od; simpa [doneSet] using h), (by have h := H.f6; simpa [doneSet] using h), (by have h := H.f7; simpa [doneSet] using h), (by have h := H.f8; simpa [doneSet] using h), (by have h := H.f9; simpa [doneSet] using h), (by have h := H.f10; simpa [doneSet] using h), (by have h := H.oa; simpa [doneSet] using h), (by have h := H.os; simpa [doneSet] using h), (by have h := H.f12; simpa [doneSet] using h), (by have h := H.f13; simpa [doneSet] using h), (by have h := H.gd; simpa [doneSet] using h), (by have h := H.ga; simpa [doneSet] using h)⟩⟩
        simp only [putAll, Act.put, List.setIfInBounds_toArray, List.set_cons_succ, List.set_cons_zero]
      · rintro d vs W ⟨v0, v1, v2, v3, v4, v5, v6, v7, v8, v9, v10, v11, v12, v13, u0, u1, va', vq', vc', X, rfl, H⟩ hn hd
        simp only [putAll, Act.put, List.setIfInBounds_toArray, List.set_cons_succ, List.set_cons_zero]
        have HH1 : Hid _ := H
        clear H
        clear hd
        go_wp2
        have H := HH1.out
        refine ⟨rfl, [v0, v1, .int .i64 (j : Int), v3, v4, v5, v6, v7, v8, v9, v10, v11, v12, v13], ?_, v0, v1, .int .i64 (j : Int), v3, v4, v5, v6, v7, v8, v9, v10, v11, v12, v13, u0, u1, va', vq', vc', X, rfl, ⟨H.bel, (by have h := H.f1; simpa [doneSet] using h), (fun _ => rfl), (by have h := H.f3; simpa [doneSet] using h), (by have h := H.f0; simpa [doneSet] using h), (by have h := H.f4; simpa [doneSet] using h), (by have h := H.f5; simpa [doneSet] using h), (by have h := H.od; simpa [doneSet] using h), (by have h := H.f6; simpa [doneSet] using h), (by have h := H.f7; simpa [doneSet] using h), (by have h := H.f8; simpa [doneSet] using h), (by have h := H.f9; simpa [doneSet] using h), (by have h := H.f10; simpa [doneSet] using h), (by have h := H.oa; simpa [doneSet] using h), (by have h := H.os; simpa [doneSet] using h), (by have h := H.f12; simpa [doneSet] using h), (by have h := H.f13; simpa [doneSet] using h), (by have h := H.gd; simpa [doneSet] using h), (by have h := H.ga; simpa [doneSet] using h)⟩⟩
        simp only [putAll, Act.put, List.setIfInBounds_toArray, List.set_cons_succ, List.set_cons_zero]
      · rintro d vs W ⟨v0, v1, v2, v3, v4, v5, v6, v7, v8, v9, v10, v11, v12, v13, u0, u1, va', vq', vc', X, rfl, H⟩ hn hd
        simp only [putAll, Act.put, List.setIfInBounds_toArray, List.set_cons_succ, List.set_cons_zero]
        have h1 : d 1 = true := hd { on := 1, ground := .data } (by simp) rfl
        have h2 : d 2 = true := hd { on := 2, ground := .data } (by simp) rfl
        obtain rfl := H.f1 h1
        obtain rfl := H.f2 h2
        have HH1 : Hid _ := H
        clear H
        clear hd
        go_wp2
        have H := HH1.out
        refine ⟨rfl, [v0, .slice (some ⟨b, off, none⟩) m oc, .int .i64 (j : Int), .pointer (some ⟨b, off + j * 5, none⟩), v4, v5, v6, v7, v8, v9, v10, v11, v12, v13], ?_, v0, .slice (some ⟨b, off, none⟩) m oc, .int .i64 (j : Int), .pointer (some ⟨b, off + j * 5, none⟩), v4, v5, v6, v7, v8, v9, v10, v11, v12, v13, u0, u1, va', vq', vc', X, rfl, ⟨H.bel, (fun _ => rfl), (fun _ => rfl), (fun _ => rfl), (by have h := H.f0; simpa [doneSet] using h), (by have h := H.f4; simpa [doneSet] using h), (by have h := H.f5; simpa [doneSet] using h), (by have h := H.od; simpa [doneSet] using h), (by have h := H.f6; simpa [doneSet] using h), (by have h := H.f7; simpa [doneSet] using h), (by have h := H.f8; simpa [doneSet] using h), (by have h := H.f9; simpa [doneSet] using h), (by have h := H.f10; simpa [doneSet] using h), (by have h := H.oa; simpa [doneSet] using h), (by have h := H.os; simpa [doneSet] using h), (by have h := H.f12; simpa [doneSet] using h), (by have h := H.f13; simpa [doneSet] using h), (by have h := H.gd; simpa [doneSet] using h), (by have h := H.ga; simpa [doneSet] using h)⟩⟩
        simp only [putAll, Act.put, List.setIfInBounds_toArray, List.set_cons_succ, List.set_cons_zero]
      · rintro d vs W ⟨v0, v1, v2, v3, v4, v5, v6, v7, v8, v9, v10, v11, v12, v13, u0, u1, va', vq', vc', X, rfl, H⟩ hn hd
        simp only [putAll, Act.put, List.setIfInBounds_toArray, List.set_cons_succ, List.set_cons_zero]
        have h3 : d 3 = true := hd { on := 3, ground := .data } (by simp) rfl
        obtain rfl := H.f3 h3
        have kk := HRG.out W H.bel
        have y0 := kk 0 _ rfl
        have y1 := kk 1 _ rfl
        have y2 := kk 2 _ rfl
        have y3 := kk 3 _ rfl
        have y4 := kk 4 _ rfl
        simp at y0 y1 y2 y3 y4
        have HH1 : Hid _ := H
        clear H
        clear hd kk
        go_wp2
        have H := HH1.out
        refine ⟨rfl, [v0, v1, v2, .pointer (some ⟨b, off + j * 5, none⟩), .agg #[.int .i64 k, .int .i64 t, .int .i64 a, .int .i64 s, .int .i64 p], v5, v6, v7, v8, v9, v10, v11, v12, v13], ?_, v0, v1, v2, .pointer (some ⟨b, off + j * 5, none⟩), .agg #[.int .i64 k, .int .i64 t, .int .i64 a, .int .i64 s, .int .i64 p], v5, v6, v7, v8, v9, v10, v11, v12, v13, u0, u1, va', vq', vc', X, rfl, ⟨H.bel, (by have h := H.f1; simpa [doneSet] using h), (by have h := H.f2; simpa [doneSet] using h), (fun _ => rfl), (by have h := H.f0; simpa [doneSet] using h), (fun _ => rfl), (by have h := H.f5; simpa [doneSet] using h), (by have h := H.od; simpa [doneSet] using h), (by have h := H.f6; simpa [doneSet] using h), (by have h := H.f7; simpa [doneSet] using h), (by have h := H.f8; simpa [doneSet] using h), (by have h := H.f9; simpa [doneSet] using h), (by have h := H.f10; simpa [doneSet] using h), (by have h := H.oa; simpa [doneSet] using h), (by have h := H.os; simpa [doneSet] using h), (by have h := H.f12; simpa [doneSet] using h), (by have h := H.f13; simpa [doneSet] using h), (by have h := H.gd; simpa [doneSet] using h), (by have h := H.ga; simpa [doneSet] using h)⟩⟩
        simp only [putAll, Act.put, List.setIfInBounds_toArray, List.set_cons_succ, List.set_cons_zero]
      · rintro d vs W ⟨v0, v1, v2, v3, v4, v5, v6, v7, v8, v9, v10, v11, v12, v13, u0, u1, va', vq', vc', X, rfl, H⟩ hn hd
        simp only [putAll, Act.put, List.setIfInBounds_toArray, List.set_cons_succ, List.set_cons_zero]
        have h0 : d 0 = true := hd { on := 0, ground := .data } (by simp) rfl
        have h4 : d 4 = true := hd { on := 4, ground := .data } (by simp) rfl
        obtain rfl := H.f0 h0
        obtain rfl := H.f4 h4
        have HO : Hid (Rg 3 agC W (.slice c3 gs1.length d3) gs1 ∧ Rg 4 wtC W (.slice c4 qs1.length d4) qs1) := HRD.out W H.bel
        have HH1 : Hid _ := H
        clear H
        have HHN : Hid (d 5 = false) := hn
        clear hd hn
        go_wp2_with (fail)
        refine (doM_c n1 g1 (.slice c3 gs1.length d3) (.slice c4 qs1.length d4) gs1 qs1 k t a s p W HO.out.1 HO.out.2 HBD.out.1 HBD.out.2.1).mono ?_
        rw [HRR.out]
        rintro e W3 ⟨va3, vq3, vc3, rfl, ho, hc, hap, hb⟩
        have hsz : wr.heap.size ≤ W.heap.size := HH1.out.bel.size
        have HO2 : Hid (OwD wr.heap.size W3 va3 vq3 R.1.2.2.1 R.1.2.2.2 ∧ Ow .i64 3 wr.heap.size W3 vc3 R.2.1 ∧ ∀ j, vc3.ownBlock = some j → ¬ InD va3 vq3 j) := ⟨ho.mono hsz, hc.mono hsz, hap⟩
        have H := HH1.out.below (Nat.le_refl _) hb
        have HH2 : Hid _ := H
        clear HH1 H ho hc hap hb hsz HO
        go_wp2
        have H := HH2.out
        have hn := HHN.out
        refine ⟨rfl, [.agg (D4 n1 (.slice c3 gs1.length d3) (.slice c4 qs1.length d4) g1), v1, v2, v3, .agg #[.int .i64 k, .int .i64 t, .int .i64 a, .int .i64 s, .int .i64 p], .tuple #[.agg (D4 R.1.1 va3 vq3 R.1.2.1), vc3, .int .i64 R.2.2], v6, v7, v8, v9, v10, v11, v12, v13], ?_, .agg (D4 n1 (.slice c3 gs1.length d3) (.slice c4 qs1.length d4) g1), v1, v2, v3, .agg #[.int .i64 k, .int .i64 t, .int .i64 a, .int .i64 s, .int .i64 p], .tuple #[.agg (D4 R.1.1 va3 vq3 R.1.2.1), vc3, .int .i64 R.2.2], v6, v7, v8, v9, v10, v11, v12, v13, u0, u1, va3, vq3, vc3, X, rfl, ⟨H.bel, (by have h := H.f1; simpa [doneSet] using h), (by have h := H.f2; simpa [doneSet] using h), (by have h := H.f3; simpa [doneSet] using h), (fun _ => rfl), (fun _ => rfl), (fun _ => rfl), (fun _ => HO2.out), (fun e => absurd (H.gd ((.inl (by simpa [doneSet] using e)))) (by rw [hn]; simp)), (fun e => absurd (H.gd (.inr ((.inl (by simpa [doneSet] using e))))) (by rw [hn]; simp)), (fun e => absurd (H.gd (.inr (.inr ((.inl (by simpa [doneSet] using e)))))) (by rw [hn]; simp)), (fun e => absurd (H.gd (.inr (.inr (.inr ((.inl (by simpa [doneSet] using e))))))) (by rw [hn]; simp)), (by have h := H.f10; simpa [doneSet] using h), (by have h := H.oa; simpa [doneSet] using h), (fun e => absurd (H.gd (.inr (.inr (.inr (.inr ((.inl (by simpa [doneSet] using e)))))))) (by rw [hn]; simp)), (fun e => absurd (H.gd (.inr (.inr (.inr (.inr (.inr ((.inl (by simpa [doneSet] using e))))))))) (by rw [hn]; simp)), (fun e => absurd (H.gd (.inr (.inr (.inr (.inr (.inr (.inr ((by simpa [doneSet] using e))))))))) (by rw [hn]; simp)), (fun _ => by simp [doneSet]), (by have h := H.ga; simpa [doneSet] using h)⟩⟩
        simp only [putAll, Act.put, List.setIfInBounds_toArray, List.set_cons_succ, List.set_cons_zero]
      · rintro d vs W ⟨v0, v1, v2, v3, v4, v5, v6, v7, v8, v9, v10, v11, v12, v13, u0, u1, va', vq', vc', X, rfl, H⟩ hn hd
        simp only [putAll, Act.put, List.setIfInBounds_toArray, List.set_cons_succ, List.set_cons_zero]
        have h5 : d 5 = true := hd { on := 5, ground := .data } (by simp) rfl
        obtain rfl := H.f5 h5
        have HH1 : Hid _ := H
        clear H
        clear hd
        go_wp2
        have H := HH1.out
        refine ⟨rfl, [v0, v1, v2, v3, v4, .tuple #[.agg (D4 R.1.1 va' vq' R.1.2.1), vc', .int .i64 R.2.2], .tuple #[.agg (D4 R.1.1 va' vq' R.1.2.1), vc', .int .i64 R.2.2], v7, v8, v9, v10, v11, v12, v13], ?_, v0, v1, v2, v3, v4, .tuple #[.agg (D4 R.1.1 va' vq' R.1.2.1), vc', .int .i64 R.2.2], .tuple #[.agg (D4 R.1.1 va' vq' R.1.2.1), vc', .int .i64 R.2.2], v7, v8, v9, v10, v11, v12, v13, u0, u1, va', vq', vc', X, rfl, ⟨H.bel, (by have h := H.f1; simpa [doneSet] using h), (by have h := H.f2; simpa [doneSet] using h), (by have h := H.f3; simpa [doneSet] using h), (by have h := H.f0; simpa [doneSet] using h), (by have h := H.f4; simpa [doneSet] using h), (fun _ => rfl), (by have h := H.od; simpa [doneSet] using h), (fun _ => rfl), (by have h := H.f7; simpa [doneSet] using h), (by have h := H.f8; simpa [doneSet] using h), (by have h := H.f9; simpa [doneSet] using h), (by have h := H.f10; simpa [doneSet] using h), (by have h := H.oa; simpa [doneSet] using h), (by have h := H.os; simpa [doneSet] using h), (by have h := H.f12; simpa [doneSet] using h), (by have h := H.f13; simpa [doneSet] using h), (fun _ => by simpa [doneSet] using h5), (by have h := H.ga; simpa [doneSet] using h)⟩⟩
        simp only [putAll, Act.put, List.setIfInBounds_toArray, List.set_cons_succ, List.set_cons_zero]
      · rintro d vs W ⟨v0, v1, v2, v3, v4, v5, v6, v7, v8, v9, v10, v11, v12, v13, u0, u1, va', vq', vc', X, rfl, H⟩ hn hd
        simp only [putAll, Act.put, List.setIfInBounds_toArray, List.set_cons_succ, List.set_cons_zero]
        have h6 : d 6 = true := hd { on := 6, ground := .data } (by simp) rfl
        have h5 := H.gd (.inl h6)
        obtain rfl := H.f6 h6
        have HH1 : Hid _ := H
        clear H
        clear hd
        go_wp2
        have H := HH1.out
        refine ⟨rfl, [v0, v1, v2, v3, v4, v5, .tuple #[.agg (D4 R.1.1 va' vq' R.1.2.1), vc', .int .i64 R.2.2], .agg (D4 R.1.1 va' vq' R.1.2.1), v8, v9, v10, v11, v12, v13], ?_, v0, v1, v2, v3, v4, v5, .tuple #[.agg (D4 R.1.1 va' vq' R.1.2.1), vc', .int .i64 R.2.2], .agg (D4 R.1.1 va' vq' R.1.2.1), v8, v9, v10, v11, v12, v13, u0, u1, va', vq', vc', X, rfl, ⟨H.bel, (by have h := H.f1; simpa [doneSet] using h), (by have h := H.f2; simpa [doneSet] using h), (by have h := H.f3; simpa [doneSet] using h), (by have h := H.f0; simpa [doneSet] using h), (by have h := H.f4; simpa [doneSet] using h), (by have h := H.f5; simpa [doneSet] using h), (by have h := H.od; simpa [doneSet] using h), (fun _ => rfl), (fun _ => rfl), (by have h := H.f8; simpa [doneSet] using h), (by have h := H.f9; simpa [doneSet] using h), (by have h := H.f10; simpa [doneSet] using h), (by have h := H.oa; simpa [doneSet] using h), (by have h := H.os; simpa [doneSet] using h), (by have h := H.f12; simpa [doneSet] using h), (by have h := H.f13; simpa [doneSet] using h), (fun _ => by simpa [doneSet] using h5), (by have h := H.ga; simpa [doneSet] using h)⟩⟩
        simp only [putAll, Act.put, List.setIfInBounds_toArray, List.set_cons_succ, List.set_cons_zero]
      · rintro d vs W ⟨v0, v1, v2, v3, v4, v5, v6, v7, v8, v9, v10, v11, v12, v13, u0, u1, va', vq', vc', X, rfl, H⟩ hn hd
        simp only [putAll, Act.put, List.setIfInBounds_toArray, List.set_cons_succ, List.set_cons_zero]
        have h6 : d 6 = true := hd { on := 6, ground := .data } (by simp) rfl
        have h5 := H.gd (.inl h6)
        obtain rfl := H.f6 h6
        have HH1 : Hid _ := H
        clear H
        clear hd
        go_wp2
        have H := HH1.out
        refine ⟨rfl, [v0, v1, v2, v3, v4, v5, .tuple #[.agg (D4 R.1.1 va' vq' R.1.2.1), vc', .int .i64 R.2.2], v7, vc', v9, v10, v11, v12, v13], ?_, v0, v1, v2, v3, v4, v5, .tuple #[.agg (D4 R.1.1 va' vq' R.1.2.1), vc', .int .i64 R.2.2], v7, vc', v9, v10, v11, v12, v13, u0, u1, va', vq', vc', X, rfl, ⟨H.bel, (by have h := H.f1; simpa [doneSet] using h), (by have h := H.f2; simpa [doneSet] using h), (by have h := H.f3; simpa [doneSet] using h), (by have h := H.f0; simpa [doneSet] using h), (by have h := H.f4; simpa [doneSet] using h), (by have h := H.f5; simpa [doneSet] using h), (by have h := H.od; simpa [doneSet] using h), (fun _ => rfl), (by have h := H.f7; simpa [doneSet] using h), (fun _ => rfl), (by have h := H.f9; simpa [doneSet] using h), (by have h := H.f10; simpa [doneSet] using h), (by have h := H.oa; simpa [doneSet] using h), (by have h := H.os; simpa [doneSet] using h), (by have h := H.f12; simpa [doneSet] using h), (by have h := H.f13; simpa [doneSet] using h), (fun _ => by simpa [doneSet] using h5), (by have h := H.ga; simpa [doneSet] using h)⟩⟩
        simp only [putAll, Act.put, List.setIfInBounds_toArray, List.set_cons_succ, List.set_cons_zero]
      · rintro d vs W ⟨v0, v1, v2, v3, v4, v5, v6, v7, v8, v9, v10, v11, v12, v13, u0, u1, va', vq', vc', X, rfl, H⟩ hn hd
        simp only [putAll, Act.put, List.setIfInBounds_toArray, List.set_cons_succ, List.set_cons_zero]
        have h6 : d 6 = true := hd { on := 6, ground := .data } (by simp) rfl
        have h5 := H.gd (.inl h6)
        obtain rfl := H.f6 h6
        have HH1 : Hid _ := H
        clear H
        clear hd
        go_wp2
        have H := HH1.out
        refine ⟨rfl, [v0, v1, v2, v3, v4, v5, .tuple #[.agg (D4 R.1.1 va' vq' R.1.2.1), vc', .int .i64 R.2.2], v7, v8, .int .i64 R.2.2, v10, v11, v12, v13], ?_, v0, v1, v2, v3, v4, v5, .tuple #[.agg (D4 R.1.1 va' vq' R.1.2.1), vc', .int .i64 R.2.2], v7, v8, .int .i64 R.2.2, v10, v11, v12, v13, u0, u1, va', vq', vc', X, rfl, ⟨H.bel, (by have h := H.f1; simpa [doneSet] using h), (by have h := H.f2; simpa [doneSet] using h), (by have h := H.f3; simpa [doneSet] using h), (by have h := H.f0; simpa [doneSet] using h), (by have h := H.f4; simpa [doneSet] using h), (by have h := H.f5; simpa [doneSet] using h), (by have h := H.od; simpa [doneSet] using h), (fun _ => rfl), (by have h := H.f7; simpa [doneSet] using h), (by have h := H.f8; simpa [doneSet] using h), (fun _ => rfl), (by have h := H.f10; simpa [doneSet] using h), (by have h := H.oa; simpa [doneSet] using h), (by have h := H.os; simpa [doneSet] using h), (by have h := H.f12; simpa [doneSet] using h), (by have h := H.f13; simpa [doneSet] using h), (fun _ => by simpa [doneSet] using h5), (by have h := H.ga; simpa [doneSet] using h)⟩⟩
        simp only [putAll, Act.put, List.setIfInBounds_toArray, List.set_cons_succ, List.set_cons_zero]
      · rintro d vs W ⟨v0, v1, v2, v3, v4, v5, v6, v7, v8, v9, v10, v11, v12, v13, u0, u1, va', vq', vc', X, rfl, H⟩ hn hd
        simp only [putAll, Act.put, List.setIfInBounds_toArray, List.set_cons_succ, List.set_cons_zero]
        have HH1 : Hid _ := H
        clear H
        have HHN : Hid (d 10 = false) := hn
        clear hd hn
        go_wp2
        have H0 := HH1.out
        have hn := HHN.out
        have H := HH1.out.below (Nat.le_refl _) ((Below.refl _ W).alloc (Nat.le_refl _) (.cells (D4 0 (.slice none 0 0) (.slice none 0 0) 0) 27))
        refine ⟨rfl, [v0, v1, v2, v3, v4, v5, v6, v7, v8, v9, .pointer (some ⟨W.heap.size, 0, none⟩), v11, v12, v13], ?_, v0, v1, v2, v3, v4, v5, v6, v7, v8, v9, .pointer (some ⟨W.heap.size, 0, none⟩), v11, v12, v13, u0, u1, va', vq', vc', W.heap.size, rfl, ⟨H.bel, (by have h := H.f1; simpa [doneSet] using h), (by have h := H.f2; simpa [doneSet] using h), (by have h := H.f3; simpa [doneSet] using h), (by have h := H.f0; simpa [doneSet] using h), (by have h := H.f4; simpa [doneSet] using h), (by have h := H.f5; simpa [doneSet] using h), (by have h := H.od; simpa [doneSet] using h), (by have h := H.f6; simpa [doneSet] using h), (by have h := H.f7; simpa [doneSet] using h), (by have h := H.f8; simpa [doneSet] using h), (by have h := H.f9; simpa [doneSet] using h), (fun _ => rfl), (fun _ => ⟨H0.bel.size, fun _ => Blk.new _ _ _⟩), (fun e => absurd (H.ga (by simpa [doneSet] using e)) (by rw [hn]; simp)), (by have h := H.f12; simpa [doneSet] using h), (by have h := H.f13; simpa [doneSet] using h), (by have h := H.gd; simpa [doneSet] using h), (fun _ => by simp [doneSet])⟩⟩
        simp only [putAll, Act.put, List.setIfInBounds_toArray, List.set_cons_succ, List.set_cons_zero]
      · rintro d vs W ⟨v0, v1, v2, v3, v4, v5, v6, v7, v8, v9, v10, v11, v12, v13, u0, u1, va', vq', vc', X, rfl, H⟩ hn hd
        simp only [putAll, Act.put, List.setIfInBounds_toArray, List.set_cons_succ, List.set_cons_zero]
        have h10 : d 10 = true := hd { on := 10, ground := .data } (by simp) rfl
        have h7 : d 7 = true := hd { on := 7, ground := .data } (by simp) rfl
        have h5 := H.gd (.inr ((.inl h7)))
        obtain rfl := H.f10 h10
        obtain rfl := H.f7 h7
        obtain ⟨hCX, hb⟩ := H.oa h10
        have hb := hb hn
        have e0 := hb.cell 0
        have e1 := hb.cell 1
        have e2 := hb.cell 2
        have e3 := hb.cell 3
        have u0' := hb.frozen 0
        have u1' := hb.frozen 1
        have u2' := hb.frozen 2
        have u3' := hb.frozen 3
        simp at e0 e1 e2 e3
        have HBX2 : Hid (wr.heap.size ≤ X ∧ Blk W X (D4 0 (.slice none 0 0) (.slice none 0 0) 0) 27) := ⟨hCX, hb⟩
        obtain ⟨ma1, mc1, hm1⟩ := (H.od h5).1.1.form
        obtain ⟨ma2, mc2, hm2⟩ := (H.od h5).1.2.1.form
        obtain ⟨ml1, hml1⟩ : ∃ m, R.1.2.2.1.length = m := ⟨_, rfl⟩
        obtain ⟨ml2, hml2⟩ : ∃ m, R.1.2.2.2.length = m := ⟨_, rfl⟩
        rw [hml1] at hm1
        rw [hml2] at hm2
        subst hm1 hm2
        have HH1 : Hid _ := H
        clear H
        clear hd hn hCX hb hml1 hml2
        go_wp2
        have H := HH1.out
        obtain ⟨hCX, hb⟩ := HBX2.out
        obtain ⟨va', hva'⟩ : ∃ v, v = Value.slice ma1 ml1 mc1 := ⟨_, rfl⟩
        obtain ⟨vq', hvq'⟩ : ∃ v, v = Value.slice ma2 ml2 mc2 := ⟨_, rfl⟩
        rw [← hva', ← hvq'] at H ⊢
        have gf : W.grownBy ((((W.setCell ⟨X, 0, none⟩ (.int .i64 R.1.1)).setCell ⟨X, 1, none⟩ va').setCell ⟨X, 2, none⟩ vq').setCell ⟨X, 3, none⟩ (.int .i64 R.1.2.1)) (some X) := grown_trans (grown_trans (grown_trans (grown_set' _ _ _ _) (grown_set' _ _ _ _)) (grown_set' _ _ _ _)) (grown_set' _ _ _ _)
        refine ⟨rfl, [v0, v1, v2, v3, v4, v5, v6, .agg (D4 R.1.1 va' vq' R.1.2.1), v8, v9, .pointer (some ⟨X, 0, none⟩), undef, v12, v13], ?_, v0, v1, v2, v3, v4, v5, v6, .agg (D4 R.1.1 va' vq' R.1.2.1), v8, v9, .pointer (some ⟨X, 0, none⟩), undef, v12, v13, u0, u1, va', vq', vc', X, rfl, ⟨(H.bel.trans (grown_below gf H.bel.size (fun _ e => by cases e; exact hCX))), (by have h := H.f1; simpa [doneSet] using h), (by have h := H.f2; simpa [doneSet] using h), (by have h := H.f3; simpa [doneSet] using h), (by have h := H.f0; simpa [doneSet] using h), (by have h := H.f4; simpa [doneSet] using h), (by have h := H.f5; simpa [doneSet] using h), (fun _ => ⟨⟨World.ownsRow.kept (H.od h5).1.1 gf (.inr (row_blk (H.od h5).1.1 hb (by decide))), World.ownsRow.kept (H.od h5).1.2.1 gf (.inr (row_blk (H.od h5).1.2.1 hb (by decide))), (H.od h5).1.2.2⟩, World.ownsRow.kept (H.od h5).2.1 gf (.inr (row_blk (H.od h5).2.1 hb (by decide))), (H.od h5).2.2⟩), (by have h := H.f6; simpa [doneSet] using h), (fun _ => rfl), (by have h := H.f8; simpa [doneSet] using h), (by have h := H.f9; simpa [doneSet] using h), (fun _ => rfl), (fun _ => ⟨hCX, fun e => by simp [doneSet] at e⟩), (fun _ => (((hb.set 0 _).set 1 _).set 2 _).set 3 _), (by have h := H.f12; simpa [doneSet] using h), (by have h := H.f13; simpa [doneSet] using h), (fun _ => by simpa [doneSet] using h5), (fun _ => by simpa [doneSet] using h10)⟩⟩
        simp only [putAll, Act.put, List.setIfInBounds_toArray, List.set_cons_succ, List.set_cons_zero]
      · rintro d vs W ⟨v0, v1, v2, v3, v4, v5, v6, v7, v8, v9, v10, v11, v12, v13, u0, u1, va', vq', vc', X, rfl, H⟩ hn hd
        simp only [putAll, Act.put, List.setIfInBounds_toArray, List.set_cons_succ, List.set_cons_zero]
        have h8 : d 8 = true := hd { on := 8, ground := .data } (by simp) rfl
        have h5 := H.gd (.inr (.inr ((.inl h8))))
        obtain rfl := H.f8 h8
        have HH1 : Hid _ := H
        clear H
        clear hd
        go_wp2
        have H := HH1.out
        refine ⟨rfl, [v0, v1, v2, v3, v4, v5, v6, v7, v8, v9, v10, v11, v8, v13], ?_, v0, v1, v2, v3, v4, v5, v6, v7, v8, v9, v10, v11, v8, v13, u0, u1, va', vq', v8, X, rfl, ⟨H.bel, (by have h := H.f1; simpa [doneSet] using h), (by have h := H.f2; simpa [doneSet] using h), (by have h := H.f3; simpa [doneSet] using h), (by have h := H.f0; simpa [doneSet] using h), (by have h := H.f4; simpa [doneSet] using h), (by have h := H.f5; simpa [doneSet] using h), (by have h := H.od; simpa [doneSet] using h), (by have h := H.f6; simpa [doneSet] using h), (by have h := H.f7; simpa [doneSet] using h), (fun _ => rfl), (by have h := H.f9; simpa [doneSet] using h), (by have h := H.f10; simpa [doneSet] using h), (by have h := H.oa; simpa [doneSet] using h), (by have h := H.os; simpa [doneSet] using h), (fun _ => rfl), (by have h := H.f13; simpa [doneSet] using h), (fun _ => by simpa [doneSet] using h5), (by have h := H.ga; simpa [doneSet] using h)⟩⟩
        simp only [putAll, Act.put, List.setIfInBounds_toArray, List.set_cons_succ, List.set_cons_zero]
      · rintro d vs W ⟨v0, v1, v2, v3, v4, v5, v6, v7, v8, v9, v10, v11, v12, v13, u0, u1, va', vq', vc', X, rfl, H⟩ hn hd
        simp only [putAll, Act.put, List.setIfInBounds_toArray, List.set_cons_succ, List.set_cons_zero]
        have h9 : d 9 = true := hd { on := 9, ground := .data } (by simp) rfl
        have h5 := H.gd (.inr (.inr (.inr ((.inl h9)))))
        obtain rfl := H.f9 h9
        have HH1 : Hid _ := H
        clear H
        clear hd
        go_wp2
        have H := HH1.out
        refine ⟨rfl, [v0, v1, v2, v3, v4, v5, v6, v7, v8, .int .i64 R.2.2, v10, v11, v12, .int .i64 R.2.2], ?_, v0, v1, v2, v3, v4, v5, v6, v7, v8, .int .i64 R.2.2, v10, v11, v12, .int .i64 R.2.2, u0, u1, va', vq', vc', X, rfl, ⟨H.bel, (by have h := H.f1; simpa [doneSet] using h), (by have h := H.f2; simpa [doneSet] using h), (by have h := H.f3; simpa [doneSet] using h), (by have h := H.f0; simpa [doneSet] using h), (by have h := H.f4; simpa [doneSet] using h), (by have h := H.f5; simpa [doneSet] using h), (by have h := H.od; simpa [doneSet] using h), (by have h := H.f6; simpa [doneSet] using h), (by have h := H.f7; simpa [doneSet] using h), (by have h := H.f8; simpa [doneSet] using h), (fun _ => rfl), (by have h := H.f10; simpa [doneSet] using h), (by have h := H.oa; simpa [doneSet] using h), (by have h := H.os; simpa [doneSet] using h), (by have h := H.f12; simpa [doneSet] using h), (fun _ => rfl), (fun _ => by simpa [doneSet] using h5), (by have h := H.ga; simpa [doneSet] using h)⟩⟩
        simp only [putAll, Act.put, List.setIfInBounds_toArray, List.set_cons_succ, List.set_cons_zero]
      rintro d vs W7 ⟨v0, v1, v2, v3, v4, v5, v6, v7, v8, v9, v10, v11, v12, v13, u0, u1, va4, vq4, vcl, X, rfl, H⟩ hn
      obtain rfl := H.f10 (hn 10 (by decide))
      have hv12 := H.f12 (hn 12 (by decide))
      subst hv12
      obtain rfl := H.f13 (hn 13 (by decide))
      obtain ⟨o2, oc2, apc⟩ := H.od (hn 5 (by decide))
      have hX := H.os (hn 11 (by decide))
      have hCX := (H.oa (hn 10 (by decide))).1
      have S5 := S3.out.below H.bel
      simp only [putAll, Act.put, List.setIfInBounds_toArray, List.set_cons_succ, List.set_cons_zero]
      clear H hn HRD HRG
      obtain ⟨vcl, hvcl⟩ : ∃ v, v12 = v := ⟨_, rfl⟩
      rw [hvcl] at oc2 ⊢
      clear hvcl apc
      have hwz : P + 2 ≤ wr.heap.size := by have := S3.out.res.lt; omega
      have o2' := o2.mono (base' := P + 2) hwz
      obtain ⟨⟨n2, g2, gs2, qs2⟩, cl2, code2⟩ := R
      dsimp only at o2 oc2 o2' HSU hX ⊢
      have S6 := S5.put (n' := n2) (g' := g2) o2'
      have hPX : P ≠ X := by omega
      have hXP : X ≠ P := by omega
      have x0 := S5.box.cell 0
      have x1 := S5.box.cell 1
      have x2 := S5.box.cell 2
      have x3 := S5.box.cell 3
      have f0 := S5.box.frozen 0
      have f1 := S5.box.frozen 1
      have f2 := S5.box.frozen 2
      have f3 := S5.box.frozen 3
      have y0 := hX.cell 0
      have y1 := hX.cell 1
      have y2 := hX.cell 2
      have y3 := hX.cell 3
      simp at x0 x1 x2 x3 y0 y1 y2 y3
      have HVC : Hid (Rd .i64 ((((W7.setCell ⟨P, 0, none⟩ (.int .i64 n2)).setCell ⟨P, 1, none⟩ va4).setCell ⟨P, 2, none⟩ vq4).setCell ⟨P, 3, none⟩ (.int .i64 g2)) vcl cl2) := (oc2.off S5.box (by decide) (grow4 W7 P (.int .i64 n2) va4 vq4 (.int .i64 g2))).rd
      obtain ⟨W8, hW8⟩ : ∃ W, (((W7.setCell ⟨P, 0, none⟩ (.int .i64 n2)).setCell ⟨P, 1, none⟩ va4).setCell ⟨P, 2, none⟩ vq4).setCell ⟨P, 3, none⟩ (.int .i64 g2) = W := ⟨_, rfl⟩
      rw [hW8] at S6 HVC
      have HS8 : Hid (Rs P w W8 n2 g2 va4 vq4 gs2 qs2 u7 u8 gv1 cs1) := S6
      have HLN : Hid (gv1.length + cl2.length ≤ 1099511627776 ∧ cs1.length + 1 ≤ 1099511627776) := by
        have h1 := HBD.out.2.2.1
        have h2 : cl2.length ≤ 12 := by have := (stp_bd (n1, g1, gs1, qs1) (k, t, a, s, p)).2.2; unfold stp at this; dsimp only at this; rw [HRR.out] at this; exact this
        have h3 := HBD.out.2.2.2
        exact ⟨by omega, by omega⟩
      have HBS : Hid (P + 2 ≤ W8.heap.size) := by have := S6.res.lt; show _ ≤ _; omega
      obtain ⟨c5, d5, rfl⟩ := o2'.1.form
      obtain ⟨c6, d6, rfl⟩ := o2'.2.1.form
      have HW8 : Hid ((((W7.setCell ⟨P, 0, none⟩ (.int .i64 n2)).setCell ⟨P, 1, none⟩ (.slice c5 gs2.length d5)).setCell ⟨P, 2, none⟩ (.slice c6 qs2.length d6)).setCell ⟨P, 3, none⟩ (.int .i64 g2) = W8) := hW8
      clear S6 S5 o2 o2' oc2 hX hCX S3 hW8 HBX
      go_wp2_with (at_builtin; rw [HW8.out]; refine appIs rfl _ _ rfl (P + 2) _ gv1 rfl HS8.out.gvo _ cl2 rfl HVC.out HLN.out.1 HBS.out ?_)
      intro vg' w9 ho9 hg9 hv9
      have S9 : Hid (Rs P w w9 n2 g2 (.slice c5 gs2.length d5) (.slice c6 qs2.length d6) gs2 qs2 vg' u8 (gv1 ++ cl2) cs1) := HS8.out.calls hg9 ho9 hv9
      have ba : Below w9.heap.size w9 (w9.alloc (Obj.cells #[.int .i64 code2] 3)) := (Below.refl _ _).alloc (Nat.le_refl _) _
      have S10 := S9.out.below ba
      have HR10 : Hid (Rd .i64 (w9.alloc (Obj.cells #[.int .i64 code2] 3)) (.slice (some ⟨w9.heap.size, 0, none⟩) 1 1) [code2]) := ⟨_, _, rfl, Nat.le_refl _, by simp [maxLen], .inr ⟨_, 0, rfl, fun i hi => (by have h0 : i = 0 := (by simpa using hi); subst h0; exact (Blk.new w9 #[.int .i64 code2] 3).cell 0)⟩⟩
      have HBS2 : Hid (P + 2 ≤ (w9.alloc (Obj.cells #[.int .i64 code2] 3)).heap.size) := by have := S10.res.lt; show _ ≤ _; omega
      have HS10 : Hid (Rs P w (w9.alloc (Obj.cells #[.int .i64 code2] 3)) n2 g2 (.slice c5 gs2.length d5) (.slice c6 qs2.length d6) gs2 qs2 vg' u8 (gv1 ++ cl2) cs1) := S10
      clear ho9 hg9 hv9 HS8 HVC HW8 x0 x1 x2 x3 f0 f1 f2 f3 y0 y1 y2 y3 S10 ba S9
      go_wp2_with (at_builtin; refine appIs rfl _ _ rfl (P + 2) _ cs1 rfl HS10.out.cdo _ [code2] rfl HR10.out HLN.out.2 HBS2.out ?_)
      intro vc' w11 ho11 hg11 hv11
      have S11 : Hid (Rs P w w11 n2 g2 (.slice c5 gs2.length d5) (.slice c6 qs2.length d6) gs2 qs2 vg' vc' (gv1 ++ cl2) (cs1 ++ [code2])) := HS10.out.codes hg11 ho11 (by simpa using hv11)
      clear ho11 hg11 hv11 HS10 HR10 HBS2
      go_wp2
      go_roundw
      case rel => exact ⟨j + 1, by omega, by go_num, _, _, by rw [HSU.out]; exact S11.out⟩
      case measure => simp [intOf]; omega
    · obtain rfl : j = m := by omega
      obtain ⟨⟨⟨n1, g1, gs1, qs1⟩, gv1, cs1⟩, hT⟩ : ∃ T, rnT (n, g, gs, qs) os j = T := ⟨_, rfl⟩
      rw [hT] at hR
      dsimp only at hR
      obtain ⟨c3, d3, rfl⟩ := hR.own.1.form
      obtain ⟨c4, d4, rfl⟩ := hR.own.2.1.form
      have x0 := hR.box.cell 0
      have x1 := hR.box.cell 1
      have x2 := hR.box.cell 2
      have x3 := hR.box.cell 3
      have y0 := hR.res.cell 0
      have y1 := hR.res.cell 1
      have y2 := hR.res.cell 2
      have y3 := hR.res.cell 3
      have f0 := hR.res.frozen 0
      have f1 := hR.res.frozen 1
      have f2 := hR.res.frozen 2
      have f3 := hR.res.frozen 3
      simp at x0 x1 x2 x3 y0 y1 y2 y3
      have HF : Hid _ := hR.fin (r := rnF (n, g, gs, qs) os) (by rw [rnF, if_neg HBG.out, HM.out, hT])
      clear hR oh hT HBD HO
      go_wp2
      exact bodyPost_ret (v := .tuple #[.agg (D4 n1 (.slice c3 gs1.length d3) (.slice c4 qs1.length d4) g1), u7, u8]) (results_D3 rfl _ _ _ _ _ _ _ _ _ rfl rfl rfl HF.out.1) rfl HF.out.2
end Go.Proofs.Ytpmmgbinogokfaa

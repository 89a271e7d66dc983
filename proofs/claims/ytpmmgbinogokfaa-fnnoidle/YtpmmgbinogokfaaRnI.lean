/- The program's RunDesk; no condition. -/
import Derived.Test.YtpmmgbinogokfaaRnA
namespace Go.Proofs.Ytpmmgbinogokfaa
open Go.RowKit Go.ChangeShapes Go.WideShapes Go.ChangeAt
set_option linter.unusedVariables false
set_option linter.unusedSimpArgs false
set_option maxRecDepth 8000
theorem zeroR {P : Nat} {w W : World} (hP : w.heap.size = P) (hr : Blk W (P + 1) (D4 0 (.slice none 0 0) (.slice none 0 0) 0) 27) (hb : Below P w W) {vg vc : Value} (hg : Ow .i64 3 (P + 2) W vg []) (hc : Ow .i64 3 (P + 2) W vc []) (ha : Apart vg vc) {r : Ds × List Int × List Int} (he : r = ((0, 0, [], []), [], [])) :
    Blk ((((W.setCell ⟨P + 1, 0, none⟩ (.int .i64 0)).setCell ⟨P + 1, 1, none⟩ (.slice none 0 0)).setCell ⟨P + 1, 2, none⟩ (.slice none 0 0)).setCell ⟨P + 1, 3, none⟩ (.int .i64 0)) (P + 1) (D4 0 (.slice none 0 0) (.slice none 0 0) 0) 27 ∧
    RnR w r (.returned (.tuple #[.agg (D4 0 (.slice none 0 0) (.slice none 0 0) 0), vg, vc])) ((((W.setCell ⟨P + 1, 0, none⟩ (.int .i64 0)).setCell ⟨P + 1, 1, none⟩ (.slice none 0 0)).setCell ⟨P + 1, 2, none⟩ (.slice none 0 0)).setCell ⟨P + 1, 3, none⟩ (.int .i64 0)) := by
  subst he
  have gf := grow4 W (P + 1) (.int .i64 0) (.slice none 0 0) (.slice none 0 0) (.int .i64 0)
  refine ⟨(((hr.set 0 _).set 1 _).set 2 _).set 3 _, _, _, vg, vc, rfl, ⟨Og.nil _ _ _ _ _, Og.nil _ _ _ _ _, .inl rfl, .inl rfl⟩, ?_, ?_, ha, ?_⟩
  · exact (hg.off hr (by decide) gf).mono (by omega)
  · exact (hc.off hr (by decide) gf).mono (by omega)
  · rw [hP]; exact hb.trans (grown_below gf (by have := hr.lt; omega) (fun k e => by cases e; omega))
set_option maxHeartbeats 12800000 in
theorem runI_c (n g : Int) (va vq vo : Value) (gs : List Ag) (qs : List Wt) (os : List Do) (w : World) (ha : Rg 3 agC w va gs) (hq : Rg 4 wtC w vq qs) (la : gs.length ≤ 1048576) (lq : qs.length ≤ 1048576) (ho : Rg 5 doC w vo os) :
   Calls Try.prog 12 #[.agg (D4 n va vq g), vo] w (RnR w (rnF (n, g, gs, qs) os)) := by
  obtain ⟨W0, hW0⟩ : ∃ W0, (w.alloc (Obj.cells (D4 n va vq g) 27)).alloc (Obj.cells (D4 0 (.slice none 0 0) (.slice none 0 0) 0) 27) = W0 := ⟨_, rfl⟩
  have b0 : Below w.heap.size w W0 := hW0 ▸ ((Below.refl _ _).alloc (Nat.le_refl _) _).alloc (by simp) _
  have hs0 : W0.heap.size = w.heap.size + 2 := by rw [← hW0]; simp
  have k0 : Blk W0 w.heap.size (D4 n va vq g) 27 := hW0 ▸ (Blk.new _ _ _).alloc _
  have k1 : Blk W0 (w.heap.size + 1) (D4 0 (.slice none 0 0) (.slice none 0 0) 0) 27 := hW0 ▸ Blk.newAt _ (w.heap.size + 1) _ 27 (by simp)
  have HC : Hid (Calls Try.prog 45 #[.agg (D4 n va vq g)] W0 fun e w' => ∃ va' vq', e = .returned (.agg (D4 n va' vq' g)) ∧ OwD W0.heap.size w' va' vq' gs qs ∧ Below W0.heap.size W0 w') := copyI_c n g va vq gs qs W0 (ha.below b0) (hq.below b0) la lq
  have HO : Hid (Rg 5 doC w vo os) := ho
  obtain ⟨a0, p0, rfl, -⟩ := ha
  obtain ⟨a1, p1, rfl, -⟩ := hq
  obtain ⟨oa, oc, hov, ol, om, oh⟩ := ho
  unfold maxLen at om
  obtain ⟨m, hm⟩ : ∃ m, os.length = m := ⟨_, rfl⟩
  have HM : Hid (os.length = m) := hm
  rw [hm] at hov ol
  subst hov
  clear hm
  obtain ⟨P, hP⟩ : ∃ P, w.heap.size = P := ⟨_, rfl⟩
  rw [hP] at k0 k1 hs0 b0
  have HP : Hid (w.heap.size = P) := hP
  have x0 := k0.cell 0
  have x1 := k0.cell 1
  have x2 := k0.cell 2
  have x3 := k0.cell 3
  simp at x0 x1 x2 x3
  have HW0 : Hid ((w.alloc (Obj.cells (D4 n (.slice a0 gs.length p0) (.slice a1 qs.length p1) g) 27)).alloc (Obj.cells (D4 0 (.slice none 0 0) (.slice none 0 0) 0) 27) = W0) := hW0
  by_cases hbig : 200 < m
  · have hbI : (200 : Int) < (m : Int) := by omega
    have HF : Hid _ := zeroR (r := rnF (n, g, gs, qs) os) hP k1 b0 (Ow.nil _ _ _ _) (Ow.nil _ _ _ _) (fun k e => by simp [Value.ownBlock] at e) (by rw [rnF, if_pos (by rw [HM.out]; exact hbig)])
    have r0 := k1.cell 0
    have rf0 := k1.frozen 0
    have r1 := k1.cell 1
    have rf1 := k1.frozen 1
    have r2 := k1.cell 2
    have rf2 := k1.frozen 2
    have r3 := k1.cell 3
    have rf3 := k1.frozen 3
    simp at r0 r1 r2 r3
    clear k0 k1 b0 HC HO oh hs0
    go_enter Try.func12, Try.ntmps12
    go_wp2
    exact bodyPost_ret (v := .tuple #[.agg (D4 0 (.slice none 0 0) (.slice none 0 0) 0), .slice none 0 0, .slice none 0 0]) (results_D3 rfl _ _ _ _ _ _ _ _ _ rfl rfl rfl HF.out.1) rfl HF.out.2
  have hbI : ((200 : Int) < (m : Int)) = False := eq_false (by omega)
  have HBG : Hid (¬ 200 < os.length) := by show ¬ _; rw [HM.out]; exact hbig
  have HB0 : Hid (Below P w W0) := b0
  have hm2 : m ≤ 200 := by omega
  clear hbig b0
  have HK : Hid (Blk W0 P (D4 n (.slice a0 gs.length p0) (.slice a1 qs.length p1) g) 27 ∧ Blk W0 (P + 1) (D4 0 (.slice none 0 0) (.slice none 0 0) 0) 27) := ⟨k0, k1⟩
  have HS0 : Hid (W0.heap.size = P + 2) := hs0
  obtain ⟨i0, hi, hz0, hz1, hz2⟩ := info_parts toIInfo
  clear k0 k1 hs0
  go_enter Try.func12, Try.ntmps12
  go_wp2_with (fail)
  refine HC.out.mono ?_
  rintro e w1 ⟨va1, vq1, rfl, o1, b1⟩
  have q0 := HK.out.1.below b1 HK.out.1.lt
  have q1 := HK.out.2.below b1 HK.out.2.lt
  rw [HS0.out] at o1
  have gf := grow4 w1 P (.int .i64 n) va1 vq1 (.int .i64 g)
  have S1 : Hid (Rs P w ((((w1.setCell ⟨P, 0, none⟩ (.int .i64 n)).setCell ⟨P, 1, none⟩ va1).setCell ⟨P, 2, none⟩ vq1).setCell ⟨P, 3, none⟩ (.int .i64 g)) n g va1 vq1 gs qs (.slice none 0 0) (.slice none 0 0) [] []) := by
    refine ⟨hP, (((q0.set 0 _).set 1 _).set 2 _).set 3 _, ?_, o1.off q0 gf, Ow.nil _ _ _ _, Ow.nil _ _ _ _, fun k e => by simp [Value.ownBlock] at e, ?_⟩
    · rw [Blk, gf.block _ q1.lt (by simp)]; exact q1
    · exact (HB0.out.trans (b1.mono (by have := HS0.out; omega))).trans (grown_below gf (by have := q0.lt; omega) (fun k e => by cases e; exact Nat.le_refl _))
  clear x0 x1 x2 x3
  have x0 := q0.cell 0
  have x1 := q0.cell 1
  have x2 := q0.cell 2
  have x3 := q0.cell 3
  have f0 := q0.frozen 0
  have f1 := q0.frozen 1
  have f2 := q0.frozen 2
  have f3 := q0.frozen 3
  simp at x0 x1 x2 x3
  obtain ⟨c1, d1, rfl⟩ := o1.1.form
  obtain ⟨c2, d2, rfl⟩ := o1.2.1.form
  obtain ⟨W1, hW1⟩ : ∃ W1, (((w1.setCell ⟨P, 0, none⟩ (.int .i64 n)).setCell ⟨P, 1, none⟩ (.slice c1 gs.length d1)).setCell ⟨P, 2, none⟩ (.slice c2 qs.length d2)).setCell ⟨P, 3, none⟩ (.int .i64 g) = W1 := ⟨_, rfl⟩
  rw [hW1] at S1
  have hz : P + 2 ≤ W1.heap.size := by have := S1.out.res.lt; omega
  have HW1 : Hid ((((w1.setCell ⟨P, 0, none⟩ (.int .i64 n)).setCell ⟨P, 1, none⟩ (.slice c1 gs.length d1)).setCell ⟨P, 2, none⟩ (.slice c2 qs.length d2)).setCell ⟨P, 3, none⟩ (.int .i64 g) = W1) := hW1
  clear q0 q1 o1 gf b1 HC HK HB0 hW0 hW1
  go_wp2_with (at_make; rw [HW1.out]; refine wpList_make_full _ rfl _ _ 32 rfl (P + 2) 3 i0 (.int .i64 0) 1 Try.underlying32 hi hz0 hz1 .i64 .i64 _ _ m rfl rfl rfl rfl (by rw [hz2]; omega) (by unfold maxLen; omega) hz ?_)
  intro w2 ho hg
  obtain ⟨cb, hcb⟩ : ∃ cb, W1.heap.size = cb := ⟨_, rfl⟩
  rw [toList_madeCells_one, hcb] at ho
  have hb2 : Below W1.heap.size W1 w2 := grown_below hg (Nat.le_refl _) (by simp)
  have S2 : Hid (Rs P w w2 n g (.slice c1 gs.length d1) (.slice c2 qs.length d2) gs qs (.slice none 0 0) (.slice (some ⟨cb, 0, none⟩) m m) [] ([] ++ List.replicate (m - 0) 0)) := by
    have h := S1.out.below hb2
    exact ⟨h.hP, h.box, h.res, h.own, h.gvo, by simpa [Ow] using ho, fun k e => by simp [Value.ownBlock] at e, h.bel⟩
  have hPc : P + 2 ≤ cb := by omega
  rw [hcb]
  clear ho hg hb2 S1 hcb hz x0 x1 x2 x3 f0 f1 f2 f3 HW1
  go_wp2
  go_loopw [8, 23] (fun gvv i wr => ∃ j : Nat, j ≤ m ∧ i = .int .i64 j ∧ Hid (∃ va' vq', Rs P w wr (rnT (n, g, gs, qs) os j).1.1 (rnT (n, g, gs, qs) os j).1.2.1 va' vq' (rnT (n, g, gs, qs) os j).1.2.2.1 (rnT (n, g, gs, qs) os j).1.2.2.2 gvv (.slice (some ⟨cb, 0, none⟩) m m) (rnT (n, g, gs, qs) os j).2.1 ((rnT (n, g, gs, qs) os j).2.2 ++ List.replicate (m - j) 0))) (fun _ i _ => m - (intOf i).toNat)
  case atStart => exact ⟨0, Nat.zero_le _, rfl, _, _, S2.out⟩
  case round =>
    obtain ⟨j, hj, rfl, hrest⟩ := hrel
    obtain ⟨va3, vq3, hR⟩ := hrest.out
    clear hrest S2
    have hbd := rnT_bd (n, g, gs, qs) os j (by rw [HM.out]; exact hj)
    have HBD : Hid ((rnT (n, g, gs, qs) os j).1.2.2.1.length ≤ 1048576 ∧ (rnT (n, g, gs, qs) os j).1.2.2.2.length ≤ 1048576 ∧ (rnT (n, g, gs, qs) os j).2.1.length ≤ 12 * m ∧ (rnT (n, g, gs, qs) os j).2.2.length = j) := by
      refine ⟨?_, ?_, ?_, hbd.2.2.2⟩
      · rw [hbd.1]; exact la
      · rcases hbd.2.1 with h | h
        · exact Nat.le_trans h lq
        · omega
      · have := hbd.2.2.1; omega
    clear hbd
    by_cases hlt : j < m
    · have hje : j < os.length := by rw [HM.out]; exact hlt
      have hsu := rnT_succ (n, g, gs, qs) os j hje
      obtain ⟨⟨⟨n1, g1, gs1, qs1⟩, gv1, cs1⟩, hT⟩ : ∃ T, rnT (n, g, gs, qs) os j = T := ⟨_, rfl⟩
      rw [hT] at hR HBD hsu
      dsimp only at hR HBD hsu
      obtain ⟨k, t, a, s, p, hop⟩ : ∃ k t a s p, os[j] = (k, t, a, s, p) := ⟨_, _, _, _, _, rfl⟩
      rw [hop] at hsu
      obtain ⟨R, hRR⟩ : ∃ R, doF n1 g1 gs1 qs1 k t a s p = R := ⟨_, rfl⟩
      have HRR : Hid (doF n1 g1 gs1 qs1 k t a s p = R) := hRR
      have HSU : Hid (rnT (n, g, gs, qs) os (j + 1) = (R.1, gv1 ++ R.2.1, cs1 ++ [R.2.2])) := by rw [Hid, hsu]; unfold stp; dsimp only; rw [hRR]
      rcases oh with oh | ⟨b, off, rfl, h4⟩
      · rw [oh] at hje; simp at hje
      have h5 : wr.rangeAt b (off + j * 5) (doC os[j]) := by
        have := h4 j hje
        refine rangeAt_below this (B := P) hR.bel ?_
        rw [← hP]; exact block_lt_of_cell (this 0 _ rfl)
      rw [hop] at h5
      have y0 := h5 0 _ rfl
      have y1 := h5 1 _ rfl
      have y2 := h5 2 _ rfl
      have y3 := h5 3 _ rfl
      have y4 := h5 4 _ rfl
      have x0 := hR.box.cell 0
      have x1 := hR.box.cell 1
      have x2 := hR.box.cell 2
      have x3 := hR.box.cell 3
      simp at x0 x1 x2 x3 y0 y1 y2 y3 y4
      have hPl : P < wr.heap.size := hR.box.lt
      have S3 : Hid (Rs P w wr n1 g1 va3 vq3 gs1 qs1 u8 (.slice (some ⟨cb, 0, none⟩) m m) gv1 (cs1 ++ List.replicate (m - j) 0)) := hR
      obtain ⟨c3, d3, rfl⟩ := hR.own.1.form
      obtain ⟨c4, d4, rfl⟩ := hR.own.2.1.form
      have hjI : (j : Int) < (m : Int) := by omega
      clear hR h4 h5 hsu hT hRR hop
      have ba : Below wr.heap.size wr (wr.alloc (Obj.cells #[.int .i64 k, .int .i64 t, .int .i64 a, .int .i64 s, .int .i64 p] 38)) := (Below.refl _ _).alloc (Nat.le_refl _) _
      have S4 : Hid (Rs P w (wr.alloc (Obj.cells #[.int .i64 k, .int .i64 t, .int .i64 a, .int .i64 s, .int .i64 p] 38)) n1 g1 (.slice c3 gs1.length d3) (.slice c4 qs1.length d4) gs1 qs1 u8 (.slice (some ⟨cb, 0, none⟩) m m) gv1 (cs1 ++ List.replicate (m - j) 0)) := S3.out.below ba
      clear ba S3
      go_wp2_with (fail)
      refine (doI_c n1 g1 _ _ gs1 qs1 k t a s p _ (S4.out.own.1.rd agC_len) (S4.out.own.2.1.rd wtC_len) HBD.out.1 HBD.out.2.1).mono ?_
      rintro e w2 ⟨va4, vq4, vcl, rfl, o2, oc2, apc, b2⟩
      rw [HRR.out] at o2 oc2 ⊢
      have hzw : (wr.alloc (Obj.cells #[.int .i64 k, .int .i64 t, .int .i64 a, .int .i64 s, .int .i64 p] 38)).heap.size = wr.heap.size + 1 := by simp
      have S5 := S4.out.below b2
      have hcbl : cb < wr.heap.size + 1 := by have := (World.ownsRow.lt S4.out.cdo cb rfl).2; rw [hzw] at this; exact this
      rw [hzw] at o2 oc2
      have o2' := o2.mono (base' := P + 2) (by have := S4.out.res.lt; rw [hzw] at this; omega)
      obtain ⟨⟨n2, g2, gs2, qs2⟩, cl2, code2⟩ := R
      dsimp only at o2 oc2 o2' HSU ⊢
      have S6 := S5.put (n' := n2) (g' := g2) o2'
      have hPcb : P ≠ cb := by omega
      have hcbP : cb ≠ P := by omega
      have x0 := S5.box.cell 0
      have x1 := S5.box.cell 1
      have x2 := S5.box.cell 2
      have x3 := S5.box.cell 3
      have f0 := S5.box.frozen 0
      have f1 := S5.box.frozen 1
      have f2 := S5.box.frozen 2
      have f3 := S5.box.frozen 3
      simp at x0 x1 x2 x3
      have hlen : (cs1 ++ List.replicate (m - j) (0 : Int)).length = m := by simp [HBD.out.2.2.2]; omega
      have hcd : w2.ownsRow (P + 2) 3 1 (.slice (some ⟨cb, 0, none⟩) m m) m ((cs1 ++ List.replicate (m - j) (0 : Int)).map (Value.int .i64)) := by have h := S5.cdo; unfold Ow at h; rw [hlen] at h; exact h
      have hcd6 := S6.cdo
      unfold Ow at hcd6
      rw [hlen] at hcd6
      have hst := World.ownsRow.stored hcd6 j (.int .i64 code2)
      have hset : ((cs1 ++ List.replicate (m - j) (0 : Int)).map (Value.int .i64)).set j (.int .i64 code2) = ((cs1 ++ [code2]) ++ List.replicate (m - (j + 1)) (0 : Int)).map (Value.int .i64) := by
        rw [← List.map_set, show m - j = (m - (j + 1)) + 1 from by omega, List.replicate_succ, List.set_append_right j code2 (by rw [HBD.out.2.2.2]; exact Nat.le_refl _), HBD.out.2.2.2, Nat.sub_self, List.set_cons_zero, List.append_assoc]
        rfl
      have hlen' : ((cs1 ++ [code2]) ++ List.replicate (m - (j + 1)) (0 : Int)).length = m := by simp [HBD.out.2.2.2]; omega
      have S7 := S6.codes (vc' := .slice (some ⟨cb, 0, none⟩) m m) (cs' := (cs1 ++ [code2]) ++ List.replicate (m - (j + 1)) (0 : Int)) hst.2 (by unfold Ow; rw [hlen', ← hset]; exact hst.1) (.inl rfl)
      obtain ⟨z0, hz0'⟩ : ∃ u, w2.cell? ⟨cb, j, none⟩ = some u := by
        rw [World.ownsRow.cellAt hcd j (by omega)]
        exact ⟨_, List.getElem?_eq_getElem (by rw [List.length_map, hlen]; exact hlt)⟩
      have hf0 : w2.frozen? ⟨cb, j, none⟩ = false := World.ownsRow.frozenAt hcd j
      have HVC : Hid (Rd .i64 (((((w2.setCell ⟨P, 0, none⟩ (.int .i64 n2)).setCell ⟨P, 1, none⟩ va4).setCell ⟨P, 2, none⟩ vq4).setCell ⟨P, 3, none⟩ (.int .i64 g2)).setCell ⟨cb, j, none⟩ (.int .i64 code2)) vcl cl2) := by
        have h1 := oc2.off S5.box (by decide) (grow4 w2 P (.int .i64 n2) va4 vq4 (.int .i64 g2))
        refine Rd.grown h1.rd hst.2 ?_
        cases hx : vcl.ownBlock with
        | none => exact .inl rfl
        | some q => exact .inr (fun e => by have := (World.ownsRow.lt oc2 q hx).1; simp at e; omega)
      obtain ⟨W7, hW7⟩ : ∃ W, ((((w2.setCell ⟨P, 0, none⟩ (.int .i64 n2)).setCell ⟨P, 1, none⟩ va4).setCell ⟨P, 2, none⟩ vq4).setCell ⟨P, 3, none⟩ (.int .i64 g2)).setCell ⟨cb, j, none⟩ (.int .i64 code2) = W := ⟨_, rfl⟩
      rw [hW7] at S7 HVC
      have HS7 : Hid (Rs P w W7 n2 g2 va4 vq4 gs2 qs2 u8 (.slice (some ⟨cb, 0, none⟩) m m) gv1 ((cs1 ++ [code2]) ++ List.replicate (m - (j + 1)) (0 : Int))) := S7
      have HLN : Hid (gv1.length + cl2.length ≤ 1099511627776) := by
        have h1 := HBD.out.2.2.1
        have h2 : cl2.length ≤ 12 := by have := (stp_bd (n1, g1, gs1, qs1) (k, t, a, s, p)).2.2; unfold stp at this; dsimp only at this; rw [HRR.out] at this; exact this
        show _ ≤ _; omega
      have HBS : Hid (P + 2 ≤ W7.heap.size) := by have := S7.res.lt; show _ ≤ _; omega
      obtain ⟨c5, d5, rfl⟩ := o2'.1.form
      obtain ⟨c6, d6, rfl⟩ := o2'.2.1.form
      have HW7 : Hid (((((w2.setCell ⟨P, 0, none⟩ (.int .i64 n2)).setCell ⟨P, 1, none⟩ (.slice c5 gs2.length d5)).setCell ⟨P, 2, none⟩ (.slice c6 qs2.length d6)).setCell ⟨P, 3, none⟩ (.int .i64 g2)).setCell ⟨cb, j, none⟩ (.int .i64 code2) = W7) := hW7
      clear S7 S6 S5 hst hset hlen hlen' hcd hcd6 o2 o2' oc2 apc b2 hzw hW7 S4
      go_wp2_with (at_builtin; rw [HW7.out]; refine appIs rfl _ _ rfl (P + 2) _ gv1 rfl HS7.out.gvo _ cl2 rfl HVC.out HLN.out HBS.out ?_)
      intro vg' w5 ho5 hg5 hv5
      have S8 : Hid (Rs P w w5 n2 g2 (.slice c5 gs2.length d5) (.slice c6 qs2.length d6) gs2 qs2 vg' (.slice (some ⟨cb, 0, none⟩) m m) (gv1 ++ cl2) ((cs1 ++ [code2]) ++ List.replicate (m - (j + 1)) (0 : Int))) := HS7.out.calls hg5 ho5 hv5
      clear ho5 hg5 hv5 HS7 HVC HW7 x0 x1 x2 x3 f0 f1 f2 f3 hz0' hf0
      go_wp2
      go_roundw
      case rel => exact ⟨j + 1, by omega, by go_num, _, _, by rw [HSU.out]; exact S8.out⟩
      case measure => simp [intOf]; omega
    · obtain rfl : j = m := by omega
      obtain ⟨⟨⟨n1, g1, gs1, qs1⟩, gv1, cs1⟩, hT⟩ : ∃ T, rnT (n, g, gs, qs) os j = T := ⟨_, rfl⟩
      rw [hT] at hR
      dsimp only at hR
      obtain ⟨c3, d3, rfl⟩ := hR.own.1.form
      obtain ⟨c4, d4, rfl⟩ := hR.own.2.1.form
      have x0 := hR.box.cell 0
      have x1 := hR.box.cell 1
      have x2 := hR.box.cell 2
      have x3 := hR.box.cell 3
      have y0 := hR.res.cell 0
      have y1 := hR.res.cell 1
      have y2 := hR.res.cell 2
      have y3 := hR.res.cell 3
      have f0 := hR.res.frozen 0
      have f1 := hR.res.frozen 1
      have f2 := hR.res.frozen 2
      have f3 := hR.res.frozen 3
      simp at x0 x1 x2 x3 y0 y1 y2 y3
      have HF : Hid _ := hR.fin (r := rnF (n, g, gs, qs) os) (by rw [rnF, if_neg HBG.out, HM.out, hT]; simp)
      clear hR oh hT HBD
      go_wp2
      exact bodyPost_ret (v := .tuple #[.agg (D4 n1 (.slice c3 gs1.length d3) (.slice c4 qs1.length d4) g1), u8, .slice (some ⟨cb, 0, none⟩) j j]) (results_D3 rfl _ _ _ _ _ _ _ _ _ rfl rfl rfl HF.out.1) rfl HF.out.2
end Go.Proofs.Ytpmmgbinogokfaa

/- The program's MendBook; no condition. -/
import Derived.Test.YtmfmlbiplagmiaaDoorMbm
import Derived.Test.YtmfmlbiplagmiaaDoorEmp
import Derived.Test.YtmfmlbiplagmiaaDoorEnt
import Derived.Test.YtmfmlbiplagmiaaDoorBoi
namespace Go.Proofs.YtmfmlbiplagmiaaDoor
open Go.RowKit Go.ChangeShapes Go.WideShapes Go.ChangeAt
set_option linter.unusedVariables false
set_option linter.unusedSimpArgs false
set_option maxRecDepth 8000

set_option maxHeartbeats 12800000 in
theorem mendI_c (va vl vc : Value) (ts : List Tk) (ls cs : List Int) (w : World) (h : Rbk w va vl vc ts ls cs) :
   Calls Tryd.prog 9 #[.agg (B3 va vl vc)] w (MbR ts ls cs w) := by
  obtain ⟨P, hP⟩ : ∃ P, w.heap.size = P := ⟨_, rfl⟩
  obtain ⟨W0, hW0⟩ : ∃ W, (w.alloc (Obj.cells (B3 va vl vc) 27)).alloc (Obj.cells (B3 (.slice none 0 0) (.slice none 0 0) (.slice none 0 0)) 27) = W := ⟨_, rfl⟩
  have HB0 : Hid (Below w.heap.size w W0) := by rw [← hW0]; exact ((Below.refl _ _).alloc (Nat.le_refl _) _).alloc (by simp) _
  have HK0 : Hid (Blk W0 P (B3 va vl vc) 27 ∧ Blk W0 (P + 1) (B3 (.slice none 0 0) (.slice none 0 0) (.slice none 0 0)) 27) := ⟨by rw [← hW0, ← hP]; exact (Blk.new _ _ _).alloc _, by rw [← hW0]; exact Blk.newAt _ (P + 1) _ 27 (by simp [hP])⟩
  have HW0 : Hid (_ = W0) := hW0
  have HP : Hid (w.heap.size = P) := hP
  have HR : Hid (Rbk w va vl vc ts ls cs) := h
  have HOK : Hid (∀ W, Rbk W va vl vc ts ls cs → Calls Tryd.prog 30 #[.agg (B3 va vl vc)] W fun e w' => e = .returned (.bool (bkB ts ls cs)) ∧ Below W.heap.size W w') := fun W hr => okI_c va vl vc ts ls cs W hr
  have HEM : Hid (ls.length ≤ 30 → cs.length ≤ 30 → ∀ W, Rbk W va vl vc ts ls cs → Calls Tryd.prog 31 #[.agg (B3 va vl vc)] W (EmR ls.length cs.length W)) := fun h1 h2 W hr => emptied_c va vl vc ts ls cs W hr h1 h2
  have HBL : Hid (bkB ts ls cs = true → (ts.length ≤ 30 ∧ ls.length ≤ 30 ∧ cs.length ≤ 30) ∧ ∀ k (hk : k < ts.length), (0 ≤ ts[k].1 ∧ ts[k].1 ≤ (ls.length : Int) - 1) ∧ (0 ≤ ts[k].2.1 ∧ ts[k].2.1 ≤ (ls.length : Int) - 1) ∧ (-1 ≤ ts[k].2.2 ∧ ts[k].2.2 ≤ (cs.length : Int) - 1)) := fun h => ⟨bkB_len h, bkB_at h⟩
  have HMT : Hid (bkB ts ls cs = true → mbT ts ls cs = (mdS ts ts.length).1 ∧ mbL ts ls cs = wr18 hasL ls.length (mdS ts ts.length).1 ∧ mbC ts ls cs = wr18 hasC cs.length (mdS ts ts.length).1 ∧ mbG ts ls cs = (mdS ts ts.length).2) := fun e => by unfold mbT mbL mbC mbG; rw [e]; exact ⟨rfl, rfl, rfl, rfl⟩
  have HMF : Hid (bkB ts ls cs = false → mbT ts ls cs = [] ∧ mbL ts ls cs = [] ∧ mbC ts ls cs = [] ∧ mbG ts ls cs = []) := fun e => by unfold mbT mbL mbC mbG; rw [e]; exact ⟨rfl, rfl, rfl, rfl⟩
  obtain ⟨Q, hQ⟩ : ∃ Q, bkB ts ls cs = Q := ⟨_, rfl⟩
  rw [hQ] at HOK HBL HMT HMF
  have ha := h.1
  have hl := h.2.1
  have hc := h.2.2
  obtain ⟨a, cap, rfl, -⟩ := ha
  obtain ⟨a', cap', rfl, -⟩ := hl
  obtain ⟨a'', cap'', rfl, -⟩ := hc
  have x0 := HK0.out.1.cell 0
  have x1 := HK0.out.1.cell 1
  have x2 := HK0.out.1.cell 2
  simp at x0 x1 x2
  clear hP hW0 hQ h
  go_enter Tryd.func9, Tryd.ntmps9
  go_wp2_with (fail)
  rw [HW0.out, HP.out]
  refine (HOK.out W0 (HR.out.below HB0.out)).mono ?_
  rintro e w1 ⟨rfl, b1⟩
  have HB1 : Hid (Below w.heap.size w w1) := belowCall HB0.out b1 HB0.out.size
  have k0 := HK0.out.1.below b1 HK0.out.1.lt
  have k1 := HK0.out.2.below b1 HK0.out.2.lt
  have HK1 : Hid (Blk w1 P (B3 (.slice a ts.length cap) (.slice a' ls.length cap') (.slice a'' cs.length cap'')) 27 ∧ Blk w1 (P + 1) (B3 (.slice none 0 0) (.slice none 0 0) (.slice none 0 0)) 27) := ⟨k0, k1⟩
  clear x0 x1 x2 b1
  cases Q with
  | false =>
    have z0 := HK1.out.2.cell 0
    have z1 := HK1.out.2.cell 1
    have z2 := HK1.out.2.cell 2
    simp at z0 z1 z2
    have f0 := HK1.out.2.frozen 0
    have f1 := HK1.out.2.frozen 1
    have f2 := HK1.out.2.frozen 2
    have HFIN : Hid (MbR ts ls cs w (.returned (.tuple #[.agg (B3 (.slice none 0 0) (.slice none 0 0) (.slice none 0 0)), .slice none 0 0])) (((w1.setCell ⟨P + 1, 0, none⟩ (.slice none 0 0)).setCell ⟨P + 1, 1, none⟩ (.slice none 0 0)).setCell ⟨P + 1, 2, none⟩ (.slice none 0 0))) := by
      obtain ⟨e1, e2, e3, e4⟩ := HMF.out (by first | rfl | trivial)
      refine ⟨_, _, _, _, rfl, ?_, ?_, ?_, ?_, ?_, ?_⟩
      · rw [e1, e2, e3]
        exact ⟨Og.nil _ _ _ _ _, Ow.nil _ _ _ _, Ow.nil _ _ _ _, fun k e => by simp [Value.ownBlock] at e, fun k e => by simp [Value.ownBlock] at e, fun k e => by simp [Value.ownBlock] at e⟩
      · rw [e4]; exact Ow.nil _ _ _ _
      · exact fun k e => by simp [Value.ownBlock] at e
      · exact fun k e => by simp [Value.ownBlock] at e
      · exact fun k e => by simp [Value.ownBlock] at e
      · exact ((HB1.out.setCell (by have := HP.out; dsimp only; omega) _).setCell (by have := HP.out; dsimp only; omega) _).setCell (by have := HP.out; dsimp only; omega) _
    have HBF : Hid (Blk (((w1.setCell ⟨P + 1, 0, none⟩ (.slice none 0 0)).setCell ⟨P + 1, 1, none⟩ (.slice none 0 0)).setCell ⟨P + 1, 2, none⟩ (.slice none 0 0)) (P + 1) (B3 (.slice none 0 0) (.slice none 0 0) (.slice none 0 0)) 27) := by
      show Blk _ _ _ _
      have := ((HK1.out.2.set 0 (.slice none 0 0)).set 1 (.slice none 0 0)).set 2 (.slice none 0 0)
      simpa using this
    clear k0 k1
    go_wp2
    exact bodyPost_ret (results_BI rfl _ _ (P + 1) _ _ _ (.slice none 0 0) rfl rfl HBF.out) rfl HFIN.out
  | true =>
  obtain ⟨⟨l1, l2, l3⟩, hbat⟩ := HBL.out (by first | rfl | trivial)
  have HLN : Hid (ts.length ≤ 30 ∧ ls.length ≤ 30 ∧ cs.length ≤ 30) := ⟨l1, l2, l3⟩
  have HBA : Hid (∀ k (hk : k < ts.length), (0 ≤ ts[k].1 ∧ ts[k].1 ≤ (ls.length : Int) - 1) ∧ (0 ≤ ts[k].2.1 ∧ ts[k].2.1 ≤ (ls.length : Int) - 1) ∧ (-1 ≤ ts[k].2.2 ∧ ts[k].2.2 ≤ (cs.length : Int) - 1)) := hbat
  have x0 := k0.cell 0
  have x1 := k0.cell 1
  have x2 := k0.cell 2
  simp at x0 x1 x2
  clear l1 l2 l3 hbat HMF HBL HOK k0 k1 HK0
  go_wp2_with (fail)
  refine (HEM.out HLN.out.2.1 HLN.out.2.2 w1 (HR.out.below HB1.out)).mono ?_
  rintro e w2 ⟨ul, uc, rfl, ol, oc, hap, b2⟩
  obtain ⟨la, lL, lc, rfl⟩ : ∃ a L c, ul = .slice a L c := by obtain ⟨a, c, e⟩ := ol.form; exact ⟨a, _, c, e⟩
  obtain ⟨ca, cL, cc, rfl⟩ : ∃ a L c, uc = .slice a L c := by obtain ⟨a, c, e⟩ := oc.form; exact ⟨a, _, c, e⟩
  obtain ⟨X, hX⟩ : ∃ X, w2.heap.size = X := ⟨_, rfl⟩
  obtain ⟨W3, hW3⟩ : ∃ W, w2.alloc (Obj.cells (B3 (.slice none 0 0) (.slice la lL lc) (.slice ca cL cc)) 27) = W := ⟨_, rfl⟩
  have ba : Below w2.heap.size w2 W3 := by rw [← hW3]; exact (Below.refl _ _).alloc (Nat.le_refl _) _
  obtain ⟨BK, hBK⟩ : ∃ c : Array Value, B3 (.slice a ts.length cap) (.slice a' ls.length cap') (.slice a'' cs.length cap'') = c := ⟨_, rfl⟩
  have HBK : Hid (B3 (.slice a ts.length cap) (.slice a' ls.length cap') (.slice a'' cs.length cap'') = BK) := hBK
  have HK3 : Hid (Blk W3 P BK 27 ∧ Blk W3 (P + 1) (B3 (.slice none 0 0) (.slice none 0 0) (.slice none 0 0)) 27) := by
    rw [← hBK]
    have q1 := HK1.out.1.below b2 HK1.out.1.lt
    have q2 := HK1.out.2.below b2 HK1.out.2.lt
    exact ⟨q1.below ba q1.lt, q2.below ba q2.lt⟩
  have hsz : w.heap.size ≤ w1.heap.size := HB1.out.size
  have HO3 : Hid (Obk w.heap.size W3 (.slice none 0 0) (.slice la lL lc) (.slice ca cL cc) (mdS ts 0).1 (wr18 hasL ls.length (mdS ts 0).1) (wr18 hasC cs.length (mdS ts 0).1)) := by
    refine ⟨Og.nil _ _ _ _ _, ?_, ?_, fun k e => by simp [Value.ownBlock] at e, fun k e => by simp [Value.ownBlock] at e, hap⟩
    · show Ow _ _ _ _ _ (wr18 hasL ls.length []); rw [wr18_nil]; exact (ol.mono hsz).below ba
    · show Ow _ _ _ _ _ (wr18 hasC cs.length []); rw [wr18_nil]; exact (oc.mono hsz).below ba
  have HX3 : Hid (Blk W3 X (B3 (.slice none 0 0) (.slice la lL lc) (.slice ca cL cc)) 27) := by show Blk _ _ _ _; rw [← hW3, ← hX]; exact Blk.new _ _ _
  have HB3 : Hid (Below w.heap.size w W3) := belowCall (belowCall HB1.out b2 HB1.out.size) ba (Nat.le_trans HB1.out.size b2.size)
  have HXP : Hid (P + 1 < X ∧ w.heap.size ≤ X) := ⟨by have := (HK1.out.2.below b2 HK1.out.2.lt).lt; omega, by have := b2.size; omega⟩
  have HW3 : Hid (w2.alloc (Obj.cells (B3 (.slice none 0 0) (.slice la lL lc) (.slice ca cL cc)) 27) = W3 ∧ w2.heap.size = X) := ⟨hW3, hX⟩
  have y0 := (HK1.out.1.below b2 HK1.out.1.lt).cell 0
  simp at y0
  have hPl : P < w2.heap.size := (HK1.out.1.below b2 HK1.out.1.lt).lt
  clear x0 x1 x2 hX hW3 ba hBK hsz ol oc hap b2 HB1 HK1 HEM HB0 HW0
  go_wp2
  rw [HW3.out.1, HW3.out.2]
  clear HW3 y0 hPl
  go_loopw [5, 17] (fun gv i wr => ∃ (j : Nat) (g : Value) (ta tL tc : _), g = gv ∧ i = .int .i64 j ∧ j ≤ ts.length ∧ Hid (Blk wr X (B3 (.slice ta tL tc) (.slice la lL lc) (.slice ca cL cc)) 27) ∧ Hid (Obk w.heap.size wr (.slice ta tL tc) (.slice la lL lc) (.slice ca cL cc) (mdS ts j).1 (wr18 hasL ls.length (mdS ts j).1) (wr18 hasC cs.length (mdS ts j).1)) ∧ Hid (Ow .i64 3 w.heap.size wr g (mdS ts j).2 ∧ Apart (.slice la lL lc) g ∧ Apart (.slice ca cL cc) g) ∧ Hid (Blk wr P BK 27 ∧ Blk wr (P + 1) (B3 (.slice none 0 0) (.slice none 0 0) (.slice none 0 0)) 27) ∧ Hid (Below w.heap.size w wr)) (fun _ i _ => ts.length - (intOf i).toNat)
  case atStart => exact ⟨0, _, none, 0, 0, rfl, rfl, Nat.zero_le _, HX3.out, HO3.out, ⟨Ow.nil _ _ _ _, fun k _ e => by simp [Value.ownBlock] at e, fun k _ e => by simp [Value.ownBlock] at e⟩, HK3.out, HB3.out⟩
  case round =>
    obtain ⟨j, gv, ta, tL, tc, rfl, rfl, hj, hX, hO, hG, hK, hB⟩ := hrel
    clear HX3 HO3 HK3 HB3
    have z0 := hX.out.cell 0
    have z1 := hX.out.cell 1
    have z2 := hX.out.cell 2
    simp at z0 z1 z2
    by_cases hlt : j < ts.length
    case neg =>
      obtain rfl : ts.length = j := by omega
      clear hlt hj
      have hnl : ¬ ((ts.length : Int) < (ts.length : Int)) := by omega
      obtain ⟨ga, gL, gc, rfl⟩ : ∃ ga gL gc, gv = .slice ga gL gc := by obtain ⟨a, c, e⟩ := hG.out.1.form; exact ⟨a, _, c, e⟩
      have hq := hK.out.2
      have y0 := hq.cell 0
      have y1 := hq.cell 1
      have y2 := hq.cell 2
      simp at y0 y1 y2
      have f0 := hq.frozen 0
      have f1 := hq.frozen 1
      have f2 := hq.frozen 2
      have HFIN : Hid (MbR ts ls cs w (.returned (.tuple #[.agg (B3 (.slice ta tL tc) (.slice la lL lc) (.slice ca cL cc)), .slice ga gL gc])) (((wr.setCell ⟨P + 1, 0, none⟩ (.slice ta tL tc)).setCell ⟨P + 1, 1, none⟩ (.slice la lL lc)).setCell ⟨P + 1, 2, none⟩ (.slice ca cL cc))) := by
        have gg : wr.grownBy (((wr.setCell ⟨P + 1, 0, none⟩ (.slice ta tL tc)).setCell ⟨P + 1, 1, none⟩ (.slice la lL lc)).setCell ⟨P + 1, 2, none⟩ (.slice ca cL cc)) (some (P + 1)) := grown_trans (grown_trans (grown_set' _ _ _ _) (grown_set' _ _ _ _)) (grown_set' _ _ _ _)
        obtain ⟨e1, e2, e3, e4⟩ := HMT.out (by first | rfl | trivial)
        refine ⟨_, _, _, _, rfl, ?_, ?_, ?_, ?_, ?_, ?_⟩
        · rw [e1, e2, e3]
          exact ⟨World.ownsRow.kept hO.out.1 gg (.inr (row_blk hO.out.1 hq (by decide))), (show Ow _ _ _ _ _ _ from World.ownsRow.kept hO.out.2.1 gg (.inr (row_blk hO.out.2.1 hq (by decide)))), (show Ow _ _ _ _ _ _ from World.ownsRow.kept hO.out.2.2.1 gg (.inr (row_blk hO.out.2.2.1 hq (by decide)))), hO.out.2.2.2⟩
        · rw [e4]; exact World.ownsRow.kept hG.out.1 gg (.inr (row_blk hG.out.1 hq (by decide)))
        · exact apart_tag hO.out.1 hG.out.1 (by decide)
        · exact hG.out.2.1
        · exact hG.out.2.2
        · exact ((hB.out.setCell (by have := HP.out; dsimp only; omega) _).setCell (by have := HP.out; dsimp only; omega) _).setCell (by have := HP.out; dsimp only; omega) _
      have HBF : Hid (Blk (((wr.setCell ⟨P + 1, 0, none⟩ (.slice ta tL tc)).setCell ⟨P + 1, 1, none⟩ (.slice la lL lc)).setCell ⟨P + 1, 2, none⟩ (.slice ca cL cc)) (P + 1) (B3 (.slice ta tL tc) (.slice la lL lc) (.slice ca cL cc)) 27) := by
        show Blk _ _ _ _
        have := ((hq.set 0 (.slice ta tL tc)).set 1 (.slice la lL lc)).set 2 (.slice ca cL cc)
        simpa using this
      clear hX hO hG hK hB hq
      go_wp2
      exact bodyPost_ret (results_BI rfl _ _ (P + 1) _ _ _ (.slice ga gL gc) rfl rfl HBF.out) rfl HFIN.out
    case pos =>
    obtain ⟨b, off, cp, he, -, -, c0, c1, c2⟩ := rg_at (HR.out.below hB.out).1 hlt
    cases he
    have HTJ : Hid (ts.getD j (0, 0, 0) = ts[j]) := by show _ = _; simp [List.getD, hlt]
    have HYES : Hid (okT (mdS ts j).1 ts[j] = true → mdS ts (j + 1) = ((mdS ts j).1 ++ [ts[j]], (mdS ts j).2)) := fun e => by rw [← HTJ.out] at e ⊢; exact mdS_yes e
    have HNO : Hid (okT (mdS ts j).1 ts[j] = false → mdS ts (j + 1) = ((mdS ts j).1, (mdS ts j).2 ++ [(j : Int)])) := fun e => by rw [← HTJ.out] at e; exact mdS_no e
    have HML : Hid ((mdS ts j).1.length ≤ 30 ∧ (mdS ts j).2.length ≤ 30) := by have := mdS_len ts j; have := HLN.out; exact ⟨by omega, by omega⟩
    have HBJ : Hid ((0 ≤ ts[j].1 ∧ ts[j].1 ≤ (ls.length : Int) - 1) ∧ (0 ≤ ts[j].2.1 ∧ ts[j].2.1 ≤ (ls.length : Int) - 1) ∧ (-1 ≤ ts[j].2.2 ∧ ts[j].2.2 ≤ (cs.length : Int) - 1)) := HBA.out j hlt
    obtain ⟨tj, htj⟩ : ∃ x, ts[j] = x := ⟨_, rfl⟩
    rw [htj] at c0 c1 c2 HYES HNO HBJ
    obtain ⟨t0, t1, t2⟩ := tj
    dsimp only at c0 c1 c2
    obtain ⟨ks, hks⟩ : ∃ ks, (mdS ts j).1 = ks := ⟨_, rfl⟩
    obtain ⟨gs, hgs⟩ : ∃ gs, (mdS ts j).2 = gs := ⟨_, rfl⟩
    rw [hks, hgs] at HYES HNO HML
    rw [hks] at hO
    rw [hgs] at hG
    have HFR : Hid (frB (wr18 hasL ls.length ks) (wr18 hasC cs.length ks) (t0, t1, t2) = okT ks (t0, t1, t2)) := frB_ok ks _ _ (t0, t1, t2) HBJ.out.1 HBJ.out.2.1 HBJ.out.2.2
    have HPU : Hid (okT ks (t0, t1, t2) = true → wr18 hasL ls.length (ks ++ [(t0, t1, t2)]) = ((wr18 hasL ls.length ks).set t0.toNat ks.length).set t1.toNat ks.length ∧ wr18 hasC cs.length (ks ++ [(t0, t1, t2)]) = if t2 = -1 then wr18 hasC cs.length ks else (wr18 hasC cs.length ks).set t2.toNat ks.length) := fun e => by
      rw [okT_eq ks _ HBJ.out.2.2.1] at e
      simp only [Bool.and_eq_true, Bool.not_eq_true', decide_eq_true_eq] at e
      obtain ⟨-, e1, e2, e3⟩ := e
      refine ⟨wrL_push _ ks (t0, t1, t2) e1 e2 HBJ.out.1 HBJ.out.2.1, ?_⟩
      by_cases hc : t2 = -1
      · rw [if_pos hc]; exact wrC_none _ ks (t0, t1, t2) hc
      · rw [if_neg hc]
        rw [decide_eq_false hc, Bool.false_or] at e3
        exact wrC_push _ ks (t0, t1, t2) (by simpa using e3) ⟨by have := HBJ.out.2.2.1; dsimp only at this ⊢; omega, HBJ.out.2.2.2⟩
    have hi0 : (0 : Int) ≤ (j : Int) := by omega
    have hi1 : (j : Int) < (ts.length : Int) := by omega
    have hwj : wrap64 ((j : Int) + 1) = (j : Int) + 1 := wrap64_in (by have := HLN.out; omega)
    have hbsz : b < wr.heap.size := block_lt_of_cell c0
    have hxsz : X < wr.heap.size := hX.out.lt
    obtain ⟨Y, hY⟩ : ∃ Y, wr.heap.size = Y := ⟨_, rfl⟩
    obtain ⟨W4, hW4⟩ : ∃ W, wr.alloc (Obj.cells #[Value.int IntKind.i64 t0, Value.int IntKind.i64 t1, Value.int IntKind.i64 t2] 38) = W := ⟨_, rfl⟩
    have ba : Below wr.heap.size wr W4 := by rw [← hW4]; exact (Below.refl _ _).alloc (Nat.le_refl _) _
    have HY4 : Hid (Blk W4 Y #[Value.int IntKind.i64 t0, Value.int IntKind.i64 t1, Value.int IntKind.i64 t2] 38) := by show Blk _ _ _ _; rw [← hW4, ← hY]; exact Blk.new _ _ _
    have HX4 : Hid (Blk W4 X (B3 (.slice ta tL tc) (.slice la lL lc) (.slice ca cL cc)) 27) := hX.out.below ba hX.out.lt
    have HO4 : Hid (Obk w.heap.size W4 (.slice ta tL tc) (.slice la lL lc) (.slice ca cL cc) ks (wr18 hasL ls.length ks) (wr18 hasC cs.length ks)) := hO.out.below ba
    have HG4 : Hid (Ow .i64 3 w.heap.size W4 gv gs ∧ Apart (.slice la lL lc) gv ∧ Apart (.slice ca cL cc) gv) := ⟨hG.out.1.below ba, hG.out.2⟩
    have HP4 : Hid (Blk W4 P BK 27 ∧ Blk W4 (P + 1) (B3 (.slice none 0 0) (.slice none 0 0) (.slice none 0 0)) 27) := ⟨hK.out.1.below ba hK.out.1.lt, hK.out.2.below ba hK.out.2.lt⟩
    have HB4 : Hid (Below w.heap.size w W4) := belowCall hB.out ba hB.out.size
    have HW4 : Hid (wr.alloc (Obj.cells #[Value.int IntKind.i64 t0, Value.int IntKind.i64 t1, Value.int IntKind.i64 t2] 38) = W4 ∧ wr.heap.size = Y) := ⟨hW4, hY⟩
    obtain ⟨B, hBB⟩ : ∃ B, okT ks (t0, t1, t2) = B := ⟨_, rfl⟩
    rw [hBB] at HFR HPU HYES HNO
    clear htj hks hgs hX hO hG hB hK hW4 ba hj hY hBB HTJ
    go_wp2_with (fail)
    rw [HW4.out.1, HW4.out.2]
    refine (hasFree_c _ _ _ (wr18 hasL ls.length ks) (wr18 hasC cs.length ks) t0 t1 t2 W4 HO4.out.2.1.rd HO4.out.2.2.1.rd (by rw [wr18_len]; have := HLN.out; omega) (by rw [wr18_len]; have := HLN.out; omega)).mono ?_
    rintro e w5 ⟨rfl, b5⟩
    rw [HFR.out]
    have HY5 : Hid (Blk w5 Y #[Value.int IntKind.i64 t0, Value.int IntKind.i64 t1, Value.int IntKind.i64 t2] 38) := HY4.out.below b5 HY4.out.lt
    have HX5 : Hid (Blk w5 X (B3 (.slice ta tL tc) (.slice la lL lc) (.slice ca cL cc)) 27) := HX4.out.below b5 HX4.out.lt
    have HO5 : Hid (Obk w.heap.size w5 (.slice ta tL tc) (.slice la lL lc) (.slice ca cL cc) ks (wr18 hasL ls.length ks) (wr18 hasC cs.length ks)) := HO4.out.below b5
    have HG5 : Hid (Ow .i64 3 w.heap.size w5 gv gs ∧ Apart (.slice la lL lc) gv ∧ Apart (.slice ca cL cc) gv) := ⟨HG4.out.1.below b5, HG4.out.2⟩
    have HP5 : Hid (Blk w5 P BK 27 ∧ Blk w5 (P + 1) (B3 (.slice none 0 0) (.slice none 0 0) (.slice none 0 0)) 27) := ⟨HP4.out.1.below b5 HP4.out.1.lt, HP4.out.2.below b5 HP4.out.2.lt⟩
    have HB5 : Hid (Below w.heap.size w w5) := belowCall HB4.out b5 HB4.out.size
    clear z0 z1 z2 c0 c1 c2 hbsz hxsz b5 HW4 HY4 HX4 HO4 HG4 HP4 HB4 HFR
    cases B with
    | true =>
      have HM : Hid (mdS ts (j + 1) = (ks ++ [(t0, t1, t2)], gs)) := HYES.out (by first | rfl | trivial)
      have HPQ := HPU.out (by first | rfl | trivial)
      have HPR : Hid (wr18 hasL ls.length (ks ++ [(t0, t1, t2)]) = ((wr18 hasL ls.length ks).set t0.toNat ks.length).set t1.toNat ks.length ∧ wr18 hasC cs.length (ks ++ [(t0, t1, t2)]) = if t2 = -1 then wr18 hasC cs.length ks else (wr18 hasC cs.length ks).set t2.toNat ks.length) := HPQ
      have y0 := HY5.out.cell 0
      have y1 := HY5.out.cell 1
      have y2 := HY5.out.cell 2
      simp at y0 y1 y2
      clear HPQ HYES HNO HPU
      go_wp2_with (fail)
      refine (enter_c X w.heap.size _ _ _ ks (wr18 hasL ls.length ks) (wr18 hasC cs.length ks) t0 t1 t2 w5 HX5.out HO5.out (by rw [wr18_len]; exact HBJ.out.1) (by rw [wr18_len]; exact HBJ.out.2.1) (by rw [wr18_len]; exact HBJ.out.2.2) (by have := HML.out; omega) HB5.out.size).mono ?_
      rintro e w6 ⟨V6, rfl, hX6, hO6, hV6, hF6⟩
      obtain ⟨a6, L6, c6, rfl⟩ : ∃ a L c, V6 = .slice a L c := by obtain ⟨a, c, e⟩ := hO6.1.form; exact ⟨a, _, c, e⟩
      have HX6 : Hid (Blk w6 X (B3 (.slice a6 L6 c6) (.slice la lL lc) (.slice ca cL cc)) 27) := hX6
      have HO6 : Hid (Obk w.heap.size w6 (.slice a6 L6 c6) (.slice la lL lc) (.slice ca cL cc) (mdS ts (j + 1)).1 (wr18 hasL ls.length (mdS ts (j + 1)).1) (wr18 hasC cs.length (mdS ts (j + 1)).1)) := by
        show Obk _ _ _ _ _ _ _ _
        rw [HM.out]
        dsimp only
        rw [HPR.out.1, HPR.out.2]
        exact hO6
      have HG6 : Hid (Ow .i64 3 w.heap.size w6 gv (mdS ts (j + 1)).2 ∧ Apart (.slice la lL lc) gv ∧ Apart (.slice ca cL cc) gv) := by
        refine ⟨?_, HG5.out.2⟩
        show Ow _ _ _ _ _ _
        rw [HM.out]
        refine ownsRow_fr HG5.out.1 hF6 fun k e q => ?_
        rcases q with q | q | q | q
        · exact row_blk HG5.out.1 HX5.out (by decide) (by rw [e, q])
        · exact (apart_tag HO5.out.1 HG5.out.1 (by decide)) k q e
        · exact HG5.out.2.1 k q e
        · exact HG5.out.2.2 k q e
      have HP6 : Hid (Blk w6 P BK 27 ∧ Blk w6 (P + 1) (B3 (.slice none 0 0) (.slice none 0 0) (.slice none 0 0)) 27) := by
        have hne : ∀ q, q = P ∨ q = P + 1 → ∀ {c : Array Value}, Blk w5 q c 27 → ¬ (q = X ∨ InB (.slice ta tL tc) (.slice la lL lc) (.slice ca cL cc) q) := fun q hq c hb h => by
          rcases h with h | h | h | h
          · have := HXP.out; omega
          · exact row_blk HO5.out.1 hb (by decide) h
          · exact row_blk HO5.out.2.1 hb (by decide) h
          · exact row_blk HO5.out.2.2.1 hb (by decide) h
        exact ⟨HP5.out.1.fr hF6 (hne _ (.inl rfl) HP5.out.1), HP5.out.2.fr hF6 (hne _ (.inr rfl) HP5.out.2)⟩
      have HB6 : Hid (Below w.heap.size w w6) := HB5.out.trans (hF6.below HB5.out.size fun k q => by
        rcases q with q | q
        · rw [q]; exact HXP.out.2
        · exact (HO5.out.lt k q).1)
      clear hX6 hO6 hV6 hF6 y0 y1 y2 HX5 HO5 HG5 HP5 HB5 HY5
      go_wp2
      go_roundw
      case rel => exact ⟨j + 1, _, _, _, _, rfl, by go_num, by omega, HX6.out, HO6.out, HG6.out, HP6.out, HB6.out⟩
      case measure => (rw [hwj]; exact meas18 hlt)
    | false =>
      have HM : Hid (mdS ts (j + 1) = (ks, gs ++ [(j : Int)])) := HNO.out (by first | rfl | trivial)
      obtain ⟨W6, hW6⟩ : ∃ W, w5.alloc (Obj.cells #[Value.int IntKind.i64 (j : Int)] 3) = W := ⟨_, rfl⟩
      have ba : Below w5.heap.size w5 W6 := by rw [← hW6]; exact (Below.refl _ _).alloc (Nat.le_refl _) _
      have HC6 : Hid (W6.cell? ⟨w5.heap.size, 0, none⟩ = some (.int .i64 (j : Int))) := by show _ = _; rw [← hW6, cell_box]; rfl
      have HX6 : Hid (Blk W6 X (B3 (.slice ta tL tc) (.slice la lL lc) (.slice ca cL cc)) 27) := HX5.out.below ba HX5.out.lt
      have HO6 : Hid (Obk w.heap.size W6 (.slice ta tL tc) (.slice la lL lc) (.slice ca cL cc) ks (wr18 hasL ls.length ks) (wr18 hasC cs.length ks)) := HO5.out.below ba
      have HG6 : Hid (Ow .i64 3 w.heap.size W6 gv gs ∧ Apart (.slice la lL lc) gv ∧ Apart (.slice ca cL cc) gv) := ⟨HG5.out.1.below ba, HG5.out.2⟩
      have HP6 : Hid (Blk W6 P BK 27 ∧ Blk W6 (P + 1) (B3 (.slice none 0 0) (.slice none 0 0) (.slice none 0 0)) 27) := ⟨HP5.out.1.below ba HP5.out.1.lt, HP5.out.2.below ba HP5.out.2.lt⟩
      have HB6 : Hid (Below w.heap.size w W6) := belowCall HB5.out ba HB5.out.size
      have HW6 : Hid (w5.alloc (Obj.cells #[Value.int IntKind.i64 (j : Int)] 3) = W6) := hW6
      have hi64 : IntKind.i64.wrap (j : Int) = (j : Int) := wrap_i64 (by have := HLN.out; omega)
      clear hW6 ba HX5 HO5 HG5 HP5 HB5 HY5 HYES HNO HPU
      go_wp2_with (at_builtin; rw [HW6.out]; refine appN rfl _ _ rfl w.heap.size _ gs rfl HG6.out.1 w5.heap.size (j : Int) rfl HC6.out (by have := HML.out; omega) HB6.out.size ?_)
      intro v7 w7 o7 g7 p7
      have HG7 : Hid (Ow .i64 3 w.heap.size w7 v7 (mdS ts (j + 1)).2 ∧ Apart (.slice la lL lc) v7 ∧ Apart (.slice ca cL cc) v7) := by
        refine ⟨by rw [HM.out]; exact o7, ?_, ?_⟩
        · intro k e e'
          rcases p7 with h | h
          · exact HG6.out.2.1 k e (h.symm.trans e')
          · rw [h] at e'; cases e'
            have := (World.ownsRow.lt HO6.out.2.1 _ e).2
            omega
        · intro k e e'
          rcases p7 with h | h
          · exact HG6.out.2.2 k e (h.symm.trans e')
          · rw [h] at e'; cases e'
            have := (World.ownsRow.lt HO6.out.2.2.1 _ e).2
            omega
      have HO7 : Hid (Obk w.heap.size w7 (.slice ta tL tc) (.slice la lL lc) (.slice ca cL cc) (mdS ts (j + 1)).1 (wr18 hasL ls.length (mdS ts (j + 1)).1) (wr18 hasC cs.length (mdS ts (j + 1)).1)) := by
        show Obk _ _ _ _ _ _ _ _
        rw [HM.out]
        exact ⟨World.ownsRow.kept HO6.out.1 g7 (own_tag HO6.out.1 HG6.out.1 (by decide)), World.ownsRow.kept HO6.out.2.1 g7 HG6.out.2.1.or, World.ownsRow.kept HO6.out.2.2.1 g7 HG6.out.2.2.or, HO6.out.2.2.2⟩
      have HX7 : Hid (Blk w7 X (B3 (.slice ta tL tc) (.slice la lL lc) (.slice ca cL cc)) 27) := HX6.out.grown g7 (row_blk HG6.out.1 HX6.out (by decide))
      have HP7 : Hid (Blk w7 P BK 27 ∧ Blk w7 (P + 1) (B3 (.slice none 0 0) (.slice none 0 0) (.slice none 0 0)) 27) := ⟨HP6.out.1.grown g7 (row_blk HG6.out.1 HP6.out.1 (by decide)), HP6.out.2.grown g7 (row_blk HG6.out.1 HP6.out.2 (by decide))⟩
      have HB7 : Hid (Below w.heap.size w w7) := HB6.out.trans (grown_below g7 HB6.out.size (fun k e => (World.ownsRow.lt HG6.out.1 k e).1))
      clear o7 g7 p7
      go_wp2
      go_roundw
      case rel => exact ⟨j + 1, _, _, _, _, rfl, by go_num, by omega, HX7.out, HO7.out, HG7.out, HP7.out, HB7.out⟩
      case measure => (rw [hwj]; exact meas18 hlt)

end Go.Proofs.YtmfmlbiplagmiaaDoor

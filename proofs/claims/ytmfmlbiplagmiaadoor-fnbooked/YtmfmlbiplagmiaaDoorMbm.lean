/- The model's MendBook; no condition. -/
import Derived.Test.YtmfmlbiplagmiaaDoorWrt
namespace Go.Proofs.YtmfmlbiplagmiaaDoor
open Go.RowKit Go.ChangeShapes Go.WideShapes Go.ChangeAt
set_option linter.unusedVariables false
set_option linter.unusedSimpArgs false
set_option maxRecDepth 8000

/-- what MendBook answers -/
def MbR (ts : List Tk) (ls cs : List Int) (w : World) (e : Ending) (w' : World) : Prop := ∃ va vl vc vg, e = .returned (.tuple #[.agg (B3 va vl vc), vg]) ∧ Obk w.heap.size w' va vl vc (mbT ts ls cs) (mbL ts ls cs) (mbC ts ls cs) ∧ Ow .i64 3 w.heap.size w' vg (mbG ts ls cs) ∧ Apart va vg ∧ Apart vl vg ∧ Apart vc vg ∧ Below w.heap.size w w'
theorem mdS_yes {ts : List Tk} {j : Nat} (h : okT (mdS ts j).1 (ts.getD j (0, 0, 0)) = true) : mdS ts (j + 1) = ((mdS ts j).1 ++ [ts.getD j (0, 0, 0)], (mdS ts j).2) := by
  show (if okT (mdS ts j).1 (ts.getD j (0, 0, 0)) = true then _ else _) = _
  rw [if_pos h]
theorem mdS_no {ts : List Tk} {j : Nat} (h : okT (mdS ts j).1 (ts.getD j (0, 0, 0)) = false) : mdS ts (j + 1) = ((mdS ts j).1, (mdS ts j).2 ++ [(j : Int)]) := by
  show (if okT (mdS ts j).1 (ts.getD j (0, 0, 0)) = true then _ else _) = _
  rw [if_neg (by rw [h]; simp)]
/-- what the inner loop has of ok behind k rounds -/
def okK (ks : List Tk) (t : Tk) (k : Nat) : Bool := decide (t.1 ≠ t.2.1) && (ks.take k).all (fun x => !shB t x)
theorem okK_zero (ks : List Tk) (t : Tk) : okK ks t 0 = decide (t.1 ≠ t.2.1) := by simp [okK]
theorem okK_full (ks : List Tk) (t : Tk) : okK ks t ks.length = okT ks t := by simp [okK, okT]
theorem okK_succ (ks : List Tk) (t : Tk) (k : Nat) (h : k < ks.length) : okK ks t (k + 1) = (okK ks t k && !shB t ks[k]) := by
  unfold okK
  rw [← List.take_append_getElem h, List.all_append]
  simp [Bool.and_assoc]
theorem results_BI {fn : Func} {u q : Tmp} (h : fn.results = #[.cell q 27, .tmp u]) (tmps : Array Value) (w : World) (g : Nat) (va vl vc b : Value)
    (hu : tmps.getD u undef = b) (hq : tmps.getD q undef = .pointer (some ⟨g, 0, none⟩)) (hg : Blk w g (B3 va vl vc) 27) :
    (results fn tmps).run Tryd.prog w = .ok (.tuple #[.agg (B3 va vl vc), b]) w := by
  have hq' : tmps[q]?.getD undef = .pointer (some ⟨g, 0, none⟩) := by simpa using hq
  have hu' : tmps[u]?.getD undef = b := by simpa using hu
  have hr := run_loadVar_row (P := Tryd.prog) w g 27 27 (B3 va vl vc) (0, 0) _ hg Tryd.underlying27 rfl sizeBk
  simp [results, h, hq', hu', asAddr, hr]
set_option maxHeartbeats 12800000 in
theorem mendM_c (va vl vc : Value) (ts : List Tk) (ls cs : List Int) (w : World) (h : Rbk w va vl vc ts ls cs) :
   Calls Tryd.prog 10 #[.agg (B3 va vl vc)] w (MbR ts ls cs w) := by
  obtain ⟨P, hP⟩ : ∃ P, w.heap.size = P := ⟨_, rfl⟩
  obtain ⟨W0, hW0⟩ : ∃ W, ((w.alloc (Obj.cells (B3 va vl vc) 27)).alloc (Obj.cells (B3 (.slice none 0 0) (.slice none 0 0) (.slice none 0 0)) 27)).alloc (Obj.cells #[] 3) = W := ⟨_, rfl⟩
  have HB0 : Hid (Below w.heap.size w W0) := by rw [← hW0]; exact (((Below.refl _ _).alloc (Nat.le_refl _) _).alloc (by simp) _).alloc (by simp; omega) _
  have HS0 : Hid (W0.heap.size = P + 3) := by show _ = _; rw [← hW0, ← hP]; simp
  have HK0 : Hid (Blk W0 P (B3 va vl vc) 27 ∧ Blk W0 (P + 1) (B3 (.slice none 0 0) (.slice none 0 0) (.slice none 0 0)) 27) := ⟨by rw [← hW0, ← hP]; exact ((Blk.new _ _ _).alloc _).alloc _, by rw [← hW0]; exact (Blk.newAt _ (P + 1) _ 27 (by simp [hP])).alloc _⟩
  have HG0 : Hid (Ow .i64 3 w.heap.size W0 (.slice (some ⟨P + 2, 0, none⟩) 0 0) []) := by
    show Ow _ _ _ _ _ _
    have := Ow.empty .i64 3 w.heap.size ((w.alloc (Obj.cells (B3 va vl vc) 27)).alloc (Obj.cells (B3 (.slice none 0 0) (.slice none 0 0) (.slice none 0 0)) 27)) (by simp; omega)
    rw [hW0] at this; simpa [hP] using this
  have HW0 : Hid (_ = W0) := hW0
  have HP : Hid (w.heap.size = P) := hP
  have HR : Hid (Rbk w va vl vc ts ls cs) := h
  have HOK : Hid (∀ W, Rbk W va vl vc ts ls cs → Calls Tryd.prog 14 #[.agg (B3 va vl vc)] W fun e w' => e = .returned (.bool (bkB ts ls cs)) ∧ Below W.heap.size W w') := fun W hr => okM_c va vl vc ts ls cs W hr
  have HBL : Hid (bkB ts ls cs = true → ts.length ≤ 30 ∧ ls.length ≤ 30 ∧ cs.length ≤ 30) := bkB_len
  have HMT : Hid (bkB ts ls cs = true → mbT ts ls cs = (mdS ts ts.length).1 ∧ mbL ts ls cs = wr18 hasL ls.length (mdS ts ts.length).1 ∧ mbC ts ls cs = wr18 hasC cs.length (mdS ts ts.length).1 ∧ mbG ts ls cs = (mdS ts ts.length).2) := fun e => by unfold mbT mbL mbC mbG; rw [e]; exact ⟨rfl, rfl, rfl, rfl⟩
  have HMF : Hid (bkB ts ls cs = false → mbT ts ls cs = [] ∧ mbL ts ls cs = [] ∧ mbC ts ls cs = [] ∧ mbG ts ls cs = []) := fun e => by unfold mbT mbL mbC mbG; rw [e]; exact ⟨rfl, rfl, rfl, rfl⟩
  obtain ⟨Q, hQ⟩ : ∃ Q, bkB ts ls cs = Q := ⟨_, rfl⟩
  rw [hQ] at HOK HBL HMT HMF
  have ha := h.1
  have hl := h.2.1
  have hc := h.2.2
  obtain ⟨a, cap, rfl, -⟩ := ha
  obtain ⟨a', cap', rfl, -⟩ := hl
  obtain ⟨a'', cap'', rfl, -⟩ := hc
  have x0 := HK0.out.1.cell 0
  have x1 := HK0.out.1.cell 1
  have x2 := HK0.out.1.cell 2
  simp at x0 x1 x2
  clear hP hW0 hQ h
  go_enter Tryd.func10, Tryd.ntmps10
  go_wp2_with (fail)
  rw [HW0.out, HP.out]
  refine (HOK.out W0 (HR.out.below HB0.out)).mono ?_
  rintro e w1 ⟨rfl, b1⟩
  have HB1 : Hid (Below w.heap.size w w1) := belowCall HB0.out b1 HB0.out.size
  have k0 := HK0.out.1.below b1 HK0.out.1.lt
  have k1 := HK0.out.2.below b1 HK0.out.2.lt
  have HK1 : Hid (Blk w1 P (B3 (.slice a ts.length cap) (.slice a' ls.length cap') (.slice a'' cs.length cap'')) 27 ∧ Blk w1 (P + 1) (B3 (.slice none 0 0) (.slice none 0 0) (.slice none 0 0)) 27) := ⟨k0, k1⟩
  have HG1 : Hid (Ow .i64 3 w.heap.size w1 (.slice (some ⟨P + 2, 0, none⟩) 0 0) []) := HG0.out.below b1
  clear x0 x1 x2 b1 k0 k1
  cases Q with
  | false =>
    have z0 := HK1.out.2.cell 0
    have z1 := HK1.out.2.cell 1
    have z2 := HK1.out.2.cell 2
    simp at z0 z1 z2
    have f0 := HK1.out.2.frozen 0
    have f1 := HK1.out.2.frozen 1
    have f2 := HK1.out.2.frozen 2
    have HFIN : Hid (MbR ts ls cs w (.returned (.tuple #[.agg (B3 (.slice none 0 0) (.slice none 0 0) (.slice none 0 0)), .slice (some ⟨P + 2, 0, none⟩) 0 0])) (((w1.setCell ⟨P + 1, 0, none⟩ (.slice none 0 0)).setCell ⟨P + 1, 1, none⟩ (.slice none 0 0)).setCell ⟨P + 1, 2, none⟩ (.slice none 0 0))) := by
      have gg : w1.grownBy (((w1.setCell ⟨P + 1, 0, none⟩ (.slice none 0 0)).setCell ⟨P + 1, 1, none⟩ (.slice none 0 0)).setCell ⟨P + 1, 2, none⟩ (.slice none 0 0)) (some (P + 1)) := grown_trans (grown_trans (grown_set' _ _ _ _) (grown_set' _ _ _ _)) (grown_set' _ _ _ _)
      obtain ⟨e1, e2, e3, e4⟩ := HMF.out rfl
      refine ⟨_, _, _, _, rfl, ?_, ?_, ?_, ?_, ?_, ?_⟩
      · rw [e1, e2, e3]
        exact ⟨Og.nil _ _ _ _ _, Ow.nil _ _ _ _, Ow.nil _ _ _ _, fun k e => by simp [Value.ownBlock] at e, fun k e => by simp [Value.ownBlock] at e, fun k e => by simp [Value.ownBlock] at e⟩
      · rw [e4]; exact World.ownsRow.kept HG1.out gg (.inr (by simp [Value.ownBlock]))
      · exact fun k e => by simp [Value.ownBlock] at e
      · exact fun k e => by simp [Value.ownBlock] at e
      · exact fun k e => by simp [Value.ownBlock] at e
      · exact ((HB1.out.setCell (by have := HP.out; dsimp only; omega) _).setCell (by have := HP.out; dsimp only; omega) _).setCell (by have := HP.out; dsimp only; omega) _
    have HBF : Hid (Blk (((w1.setCell ⟨P + 1, 0, none⟩ (.slice none 0 0)).setCell ⟨P + 1, 1, none⟩ (.slice none 0 0)).setCell ⟨P + 1, 2, none⟩ (.slice none 0 0)) (P + 1) (B3 (.slice none 0 0) (.slice none 0 0) (.slice none 0 0)) 27) := by
      show Blk _ _ _ _
      have := ((HK1.out.2.set 0 (.slice none 0 0)).set 1 (.slice none 0 0)).set 2 (.slice none 0 0)
      simpa using this
    have c0 := HBF.out.cell 0
    have c1 := HBF.out.cell 1
    have c2 := HBF.out.cell 2
    simp at c0 c1 c2
    go_wp2
    exact bodyPost_ret (results_BI rfl _ _ (P + 1) _ _ _ (.slice (some ⟨P + 2, 0, none⟩) 0 0) rfl rfl HBF.out) rfl HFIN.out
  | true =>
  obtain ⟨l1, l2, l3⟩ := HBL.out rfl
  have HLN : Hid (ts.length ≤ 30 ∧ ls.length ≤ 30 ∧ cs.length ≤ 30) := ⟨l1, l2, l3⟩
  obtain ⟨W2, hW2⟩ : ∃ W, w1.alloc (Obj.cells #[] 38) = W := ⟨_, rfl⟩
  obtain ⟨v2, hv2⟩ : ∃ v, Value.slice (some ⟨w1.heap.size, 0, none⟩) 0 0 = v := ⟨_, rfl⟩
  obtain ⟨g2, hg2⟩ : ∃ v, Value.slice (some ⟨P + 2, 0, none⟩) 0 0 = v := ⟨_, rfl⟩
  have ba : Below w1.heap.size w1 W2 := by rw [← hW2]; exact (Below.refl _ _).alloc (Nat.le_refl _) _
  have HT2 : Hid (Og 3 tkC 38 w.heap.size W2 v2 (mdS ts 0).1) := by show Og _ _ _ _ _ _ _; rw [← hW2, ← hv2]; exact World.ownsRow_lit w1 #[] 0 HB1.out.size (by simp) (by simp)
  have HG2 : Hid (Ow .i64 3 w.heap.size W2 g2 (mdS ts 0).2) := by rw [hg2] at HG1; exact HG1.out.below ba
  have HB2 : Hid (Below w.heap.size w W2) := belowCall HB1.out ba HB1.out.size
  have HK2 : Hid (Blk W2 P (B3 (.slice a ts.length cap) (.slice a' ls.length cap') (.slice a'' cs.length cap'')) 27 ∧ Blk W2 (P + 1) (B3 (.slice none 0 0) (.slice none 0 0) (.slice none 0 0)) 27) := ⟨HK1.out.1.below ba HK1.out.1.lt, HK1.out.2.below ba HK1.out.2.lt⟩
  obtain ⟨BK, hBK⟩ : ∃ c : Array Value, B3 (.slice a ts.length cap) (.slice a' ls.length cap') (.slice a'' cs.length cap'') = c := ⟨_, rfl⟩
  have HBK : Hid (B3 (.slice a ts.length cap) (.slice a' ls.length cap') (.slice a'' cs.length cap'') = BK) := hBK
  rw [hBK] at HK2
  have HW2 : Hid (w1.alloc (Obj.cells #[] 38) = W2 ∧ Value.slice (some ⟨w1.heap.size, 0, none⟩) 0 0 = v2) := ⟨hW2, hv2⟩
  clear ba hW2 hv2 hBK l1 l2 l3 HMF HBL HOK
  rw [hg2]
  clear hg2 HG1 HB1 HK1 HG0 HB0 HK0 HS0 HW0
  go_wp2
  rw [HW2.out.1, HW2.out.2]
  clear HW2
  go_loopw [4, 5, 6] (fun gv tv i wr => ∃ (j : Nat) (g t : Value), g = gv ∧ t = tv ∧ i = .int .i64 j ∧ j ≤ ts.length ∧ Hid (Og 3 tkC 38 w.heap.size wr t (mdS ts j).1) ∧ Hid (Ow .i64 3 w.heap.size wr g (mdS ts j).2) ∧ Hid (Blk wr P BK 27 ∧ Blk wr (P + 1) (B3 (.slice none 0 0) (.slice none 0 0) (.slice none 0 0)) 27) ∧ Hid (Below w.heap.size w wr)) (fun _ _ i _ => ts.length - (intOf i).toNat)
  case atStart => exact ⟨0, _, _, rfl, rfl, rfl, Nat.zero_le _, HT2.out, HG2.out, HK2.out, HB2.out⟩
  case round =>
    obtain ⟨j, gv, tv, rfl, rfl, rfl, hj, hT, hG, hK, hB⟩ := hrel
    clear HT2 HG2 HK2 HB2
    have x0 := hK.out.1.cell 0
    have x1 := hK.out.1.cell 1
    have x2 := hK.out.1.cell 2
    rw [← HBK.out] at x0 x1 x2
    simp at x0 x1 x2
    obtain ⟨wz, hwz⟩ : ∃ W, W = wr := ⟨_, rfl⟩
    subst hwz
    obtain ⟨ta, tL, tc, htv⟩ : ∃ ta tL tc, tv = .slice ta tL tc := by obtain ⟨a, c, e⟩ := hT.out.form; exact ⟨a, _, c, e⟩
    have HTL : Hid ((mdS ts j).1.length = tL) := by obtain ⟨a, c, e⟩ := hT.out.form; rw [htv] at e; cases e; rfl
    subst htv
    by_cases hlt : j < ts.length
    case neg =>
      obtain rfl : ts.length = j := by omega
      clear hlt hj
      have hnl : ¬ ((ts.length : Int) < (ts.length : Int)) := by omega
      have HCW : Hid (Calls Tryd.prog 35 #[.slice ta tL tc, .int .i64 (ls.length : Int), .int .i64 (cs.length : Int)] wz (WrR (.slice ta tL tc) (mdS ts ts.length).1 ls.length cs.length wz)) := write_c _ _ _ _ wz (hT.out.rd tkC_len) (by have := mdS_len ts ts.length; have := HLN.out; omega) (by have := HLN.out; omega) (by have := HLN.out; omega)
      obtain ⟨ga, gL, gc, rfl⟩ : ∃ ga gL gc, gv = .slice ga gL gc := by obtain ⟨a, c, e⟩ := hG.out.form; exact ⟨a, _, c, e⟩
      have HT3 : Hid (Og 3 tkC 38 w.heap.size wz (.slice ta tL tc) (mdS ts ts.length).1) := hT.out
      have HG3 : Hid (Ow .i64 3 w.heap.size wz (.slice ga gL gc) (mdS ts ts.length).2) := hG.out
      have HK3 : Hid (Blk wz (P + 1) (B3 (.slice none 0 0) (.slice none 0 0) (.slice none 0 0)) 27) := hK.out.2
      have HB3 : Hid (Below w.heap.size w wz) := hB.out
      clear hT hG hK hB
      go_wp2_with (fail)
      refine HCW.out.mono ?_
      rintro e w3 ⟨ul, uc, rfl, ol, oc, hap, b3⟩
      obtain ⟨la, lL, lc, rfl⟩ : ∃ a L c, ul = .slice a L c := by obtain ⟨a, c, e⟩ := ol.form; exact ⟨a, _, c, e⟩
      obtain ⟨ca, cL, cc, rfl⟩ : ∃ a L c, uc = .slice a L c := by obtain ⟨a, c, e⟩ := oc.form; exact ⟨a, _, c, e⟩
      have hq := HK3.out.below b3 HK3.out.lt
      have z0 := hq.cell 0
      have z1 := hq.cell 1
      have z2 := hq.cell 2
      simp at z0 z1 z2
      have f0 := hq.frozen 0
      have f1 := hq.frozen 1
      have f2 := hq.frozen 2
      have HFIN : Hid (MbR ts ls cs w (.returned (.tuple #[.agg (B3 (.slice ta tL tc) (.slice la lL lc) (.slice ca cL cc)), .slice ga gL gc])) (((w3.setCell ⟨P + 1, 0, none⟩ (.slice ta tL tc)).setCell ⟨P + 1, 1, none⟩ (.slice la lL lc)).setCell ⟨P + 1, 2, none⟩ (.slice ca cL cc))) := by
        have gg : w3.grownBy (((w3.setCell ⟨P + 1, 0, none⟩ (.slice ta tL tc)).setCell ⟨P + 1, 1, none⟩ (.slice la lL lc)).setCell ⟨P + 1, 2, none⟩ (.slice ca cL cc)) (some (P + 1)) := grown_trans (grown_trans (grown_set' _ _ _ _) (grown_set' _ _ _ _)) (grown_set' _ _ _ _)
        obtain ⟨e1, e2, e3, e4⟩ := HMT.out (by first | rfl | trivial)
        have oT := HT3.out.below b3
        have oG := HG3.out.below b3
        have hsz : w.heap.size ≤ wz.heap.size := HB3.out.size
        refine ⟨_, _, _, _, rfl, ?_, ?_, ?_, ?_, ?_, ?_⟩
        · rw [e1, e2, e3]
          refine ⟨World.ownsRow.kept oT gg (.inr (row_blk oT hq (by decide))), (show Ow _ _ _ _ _ _ from World.ownsRow.kept (ol.mono hsz) gg (.inr (row_blk ol hq (by decide)))), (show Ow _ _ _ _ _ _ from World.ownsRow.kept (oc.mono hsz) gg (.inr (row_blk oc hq (by decide)))), apart_tag oT ol (by decide), apart_tag oT oc (by decide), hap⟩
        · rw [e4]; exact World.ownsRow.kept oG gg (.inr (row_blk oG hq (by decide)))
        · exact apart_tag oT oG (by decide)
        · exact (Apart.at (P := wz.heap.size) (fun k e => (World.ownsRow.lt HG3.out k e).2) (fun k e => (World.ownsRow.lt ol k e).1)).symm
        · exact (Apart.at (P := wz.heap.size) (fun k e => (World.ownsRow.lt HG3.out k e).2) (fun k e => (World.ownsRow.lt oc k e).1)).symm
        · exact (((belowCall HB3.out b3 HB3.out.size).setCell (by have := HP.out; dsimp only; omega) _).setCell (by have := HP.out; dsimp only; omega) _).setCell (by have := HP.out; dsimp only; omega) _
      have HBF : Hid (Blk (((w3.setCell ⟨P + 1, 0, none⟩ (.slice ta tL tc)).setCell ⟨P + 1, 1, none⟩ (.slice la lL lc)).setCell ⟨P + 1, 2, none⟩ (.slice ca cL cc)) (P + 1) (B3 (.slice ta tL tc) (.slice la lL lc) (.slice ca cL cc)) 27) := by
        show Blk _ _ _ _
        have := ((hq.set 0 (.slice ta tL tc)).set 1 (.slice la lL lc)).set 2 (.slice ca cL cc)
        simpa using this
      have c0 := HBF.out.cell 0
      have c1 := HBF.out.cell 1
      have c2 := HBF.out.cell 2
      simp at c0 c1 c2
      clear ol oc hap b3 hq HT3 HG3 HK3 HB3 HCW x0 x1 x2
      go_wp2
      exact bodyPost_ret (results_BI rfl _ _ (P + 1) _ _ _ (.slice ga gL gc) rfl rfl HBF.out) rfl HFIN.out
    case pos =>
    obtain ⟨b, off, cp, he, -, -, c0, c1, c2⟩ := rg_at (HR.out.below hB.out).1 hlt
    cases he
    have HTJ : Hid (ts.getD j (0, 0, 0) = ts[j]) := by show _ = _; simp [List.getD, hlt]
    have HYES : Hid (okT (mdS ts j).1 ts[j] = true → mdS ts (j + 1) = ((mdS ts j).1 ++ [ts[j]], (mdS ts j).2)) := fun e => by rw [← HTJ.out] at e ⊢; exact mdS_yes e
    have HNO : Hid (okT (mdS ts j).1 ts[j] = false → mdS ts (j + 1) = ((mdS ts j).1, (mdS ts j).2 ++ [(j : Int)])) := fun e => by rw [← HTJ.out] at e; exact mdS_no e
    have HML : Hid ((mdS ts j).1.length ≤ 30 ∧ (mdS ts j).2.length ≤ 30) := by have := mdS_len ts j; have := HLN.out; exact ⟨by omega, by omega⟩
    obtain ⟨tj, htj⟩ : ∃ x, ts[j] = x := ⟨_, rfl⟩
    rw [htj] at c0 c1 c2 HYES HNO
    obtain ⟨t0, t1, t2⟩ := tj
    dsimp only at c0 c1 c2
    obtain ⟨ks, hks⟩ : ∃ ks, (mdS ts j).1 = ks := ⟨_, rfl⟩
    obtain ⟨gs, hgs⟩ : ∃ gs, (mdS ts j).2 = gs := ⟨_, rfl⟩
    rw [hks, hgs] at HYES HNO HML
    rw [hks] at hT HTL
    rw [hgs] at hG
    have hi0 : (0 : Int) ≤ (j : Int) := by omega
    have hi1 : (j : Int) < (ts.length : Int) := by omega
    have hwj : wrap64 ((j : Int) + 1) = (j : Int) + 1 := wrap64_in (by have := HLN.out; omega)
    have hszr : P < wz.heap.size := hK.out.1.lt
    have hbsz : b < wz.heap.size := block_lt_of_cell c0
    obtain ⟨X, hX⟩ : ∃ X, wz.heap.size = X := ⟨_, rfl⟩
    obtain ⟨W4, hW4⟩ : ∃ W, wz.alloc (Obj.cells #[Value.int IntKind.i64 t0, Value.int IntKind.i64 t1, Value.int IntKind.i64 t2] 38) = W := ⟨_, rfl⟩
    have ba : Below wz.heap.size wz W4 := by rw [← hW4]; exact (Below.refl _ _).alloc (Nat.le_refl _) _
    have HK4 : Hid (Blk W4 X #[Value.int IntKind.i64 t0, Value.int IntKind.i64 t1, Value.int IntKind.i64 t2] 38) := by show Blk _ _ _ _; rw [← hW4, ← hX]; exact Blk.new _ _ _
    have HP4 : Hid (Blk W4 P BK 27 ∧ Blk W4 (P + 1) (B3 (.slice none 0 0) (.slice none 0 0) (.slice none 0 0)) 27) := ⟨hK.out.1.below ba hK.out.1.lt, hK.out.2.below ba hK.out.2.lt⟩
    have HT4 : Hid (Og 3 tkC 38 w.heap.size W4 (.slice ta tL tc) ks) := hT.out.below ba
    have HG4 : Hid (Ow .i64 3 w.heap.size W4 gv gs) := hG.out.below ba
    have HB4 : Hid (Below w.heap.size w W4) := belowCall hB.out ba hB.out.size
    have HW4 : Hid (wz.alloc (Obj.cells #[Value.int IntKind.i64 t0, Value.int IntKind.i64 t1, Value.int IntKind.i64 t2] 38) = W4 ∧ wz.heap.size = X) := ⟨hW4, hX⟩
    have HXP : Hid (P + 1 < X ∧ w.heap.size ≤ X) := ⟨by have := hK.out.2.lt; omega, by have := hB.out.size; omega⟩
    have HSH : Hid (∀ (k : Nat) (hk : k < ks.length) W, Calls Tryd.prog 34 #[.agg #[.int .i64 t0, .int .i64 t1, .int .i64 t2], .agg #[.int .i64 ks[k].1, .int .i64 ks[k].2.1, .int .i64 ks[k].2.2]] W fun e w' => e = .returned (.bool (shB (t0, t1, t2) ks[k])) ∧ Below W.heap.size W w') := fun k hk W => shares_c _ _ _ _ _ _ W
    have HKS : Hid (∀ k (hk : k < ks.length), okK ks (t0, t1, t2) (k + 1) = (okK ks (t0, t1, t2) k && !shB (t0, t1, t2) ks[k])) := fun k hk => okK_succ _ _ _ hk
    have HKF : Hid (okK ks (t0, t1, t2) ks.length = okT ks (t0, t1, t2)) := okK_full _ _
    have y0 := HK4.out.cell 0
    have y1 := HK4.out.cell 1
    simp at y0 y1
    have HNE : Hid ((t0 != t1) = okK ks (t0, t1, t2) 0) := by show _ = _; rw [okK_zero]; simp [bne, Bool.beq_eq_decide_eq]
    clear htj hks hgs hT hG hB hK hW4 ba hj
    rw [hX] at hszr hbsz
    clear hX
    go_wp2
    rw [HW4.out.1, HW4.out.2]
    clear x0 x1 x2 c0 c1 c2 hszr hbsz
    clear HW4
    rw [HNE.out]
    clear HNE y0 y1
    obtain ⟨q0, hq0⟩ : ∃ q, okK ks (t0, t1, t2) 0 = q := ⟨_, rfl⟩
    have HQ0 : Hid (q0 = okK ks (t0, t1, t2) 0) := hq0.symm
    rw [hq0]
    clear hq0
    go_loopw [8, 9] (fun q i wr => ∃ (k : Nat) (ok : Bool), q = .bool ok ∧ i = .int .i64 k ∧ k ≤ ks.length ∧ Hid (ok = okK ks (t0, t1, t2) k) ∧ Hid (Below W4.heap.size W4 wr)) (fun _ i _ => ks.length - (intOf i).toNat)
    case atStart => exact ⟨0, q0, rfl, rfl, Nat.zero_le _, HQ0.out, Below.refl _ _⟩
    case round =>
      obtain ⟨k, ok, rfl, rfl, hk, hQ, hC⟩ := hrel
      clear HQ0
      have HTR : Hid (Rg 3 tkC wr (.slice ta tL tc) ks) := (HT4.out.below hC.out).rd tkC_len
      obtain rfl : ks.length = tL := HTL.out
      by_cases hkt : k < ks.length
      case pos =>
        obtain ⟨tb, tof, tcp, he, -, -, d0, d1, d2⟩ := rg_at HTR.out hkt
        cases he
        have hk4 := HK4.out.below hC.out HK4.out.lt
        have hk0 : (0 : Int) ≤ (k : Int) := by omega
        have hk1 : (k : Int) < (ks.length : Int) := by omega
        have hwk : wrap64 ((k : Int) + 1) = (k : Int) + 1 := wrap64_in (by have := HML.out; omega)
        have HS1 : Hid (∀ b, ok = true → shB (t0, t1, t2) ks[k] = b → (!b) = okK ks (t0, t1, t2) (k + 1)) := fun b e1 e2 => by rw [HKS.out k hkt, ← hQ.out, e1, e2]; rfl
        have HS0 : Hid (ok = false → false = okK ks (t0, t1, t2) (k + 1)) := fun e1 => by rw [HKS.out k hkt, ← hQ.out, e1]; rfl
        have HCR : Hid (∀ W : Ov wr, Below W4.heap.size W4 W.wd) := fun W => belowCall hC.out W.ok hC.out.size
        have ne : Nonempty (Ov wr) := ⟨⟨_, Below.refl _ _⟩⟩
        cases ok with
        | false =>
          have HE : Hid (false = okK ks (t0, t1, t2) (k + 1)) := HS0.out rfl
          clear hQ hC hk4 d0 d1 d2 HS1 HS0
          go_wp2
          refine region_over (by kernel_rfl) (by kernel_rfl) ?_
          repeat (go_big_quiet_step (fail))
          refine wpQuiet_nil ?_
          rintro _ ⟨W, rfl⟩
          go_wp2
          go_roundw
          case rel => exact ⟨k + 1, false, rfl, by go_num, by omega, HE.out, HCR.out W⟩
          case measure => (rw [hwk]; exact meas18 hkt)
        | true =>
          obtain ⟨bq, hbq⟩ : ∃ b, shB (t0, t1, t2) ks[k] = b := ⟨_, rfl⟩
          have HE : Hid ((!bq) = okK ks (t0, t1, t2) (k + 1)) := HS1.out bq rfl hbq
          have HCA : Hid (∀ W : Ov wr, Calls Tryd.prog 34 #[.agg #[.int .i64 t0, .int .i64 t1, .int .i64 t2], .agg #[.int .i64 ks[k].1, .int .i64 ks[k].2.1, .int .i64 ks[k].2.2]] W.wd fun e w'' => e = .returned (.bool bq) ∧ ∃ W' : Ov wr, w'' = W'.wd) := fun W => ov_call (by have := HSH.out k hkt W.wd; rw [hbq] at this; exact this)
          have y0 : ∀ W : Ov wr, W.wd.cell? ⟨X, 0, none⟩ = some (.int .i64 t0) := fun W => (W.ok.cell hk4.lt).trans (by have := hk4.cell 0; simpa using this)
          have y1 : ∀ W : Ov wr, W.wd.cell? ⟨X, 1, none⟩ = some (.int .i64 t1) := fun W => (W.ok.cell hk4.lt).trans (by have := hk4.cell 1; simpa using this)
          have y2 : ∀ W : Ov wr, W.wd.cell? ⟨X, 2, none⟩ = some (.int .i64 t2) := fun W => (W.ok.cell hk4.lt).trans (by have := hk4.cell 2; simpa using this)
          have z0 : ∀ W : Ov wr, W.wd.cell? ⟨tb, tof + k * 3, none⟩ = some (.int .i64 ks[k].1) := ov_cell d0
          have z1 : ∀ W : Ov wr, W.wd.cell? ⟨tb, tof + k * 3 + 1, none⟩ = some (.int .i64 ks[k].2.1) := ov_cell d1
          have z2 : ∀ W : Ov wr, W.wd.cell? ⟨tb, tof + k * 3 + 2, none⟩ = some (.int .i64 ks[k].2.2) := ov_cell d2
          obtain ⟨kk, hkk⟩ : ∃ x, ks[k] = x := ⟨_, rfl⟩
          rw [hkk] at HCA z0 z1 z2
          obtain ⟨k0, k1, k2⟩ := kk
          dsimp only at HCA z0 z1 z2
          clear hkk hbq hQ hC hk4 d0 d1 d2 HS1 HS0
          go_wp2
          refine region_over (by kernel_rfl) (by kernel_rfl) ?_
          repeat (go_big_quiet_step (first | (go_at_call 34; exact HCA.out _)))
          refine wpQuiet_nil ?_
          rintro _ ⟨W, rfl⟩
          go_wp2
          go_roundw
          case rel => exact ⟨k + 1, !bq, rfl, by go_num, by omega, HE.out, HCR.out W⟩
          case measure => (rw [hwk]; exact meas18 hkt)
      case neg =>
      obtain rfl : ks.length = k := by omega
      have HQ : Hid (ok = okT ks (t0, t1, t2)) := by show _ = _; rw [hQ.out, HKF.out]
      have HK5 : Hid (Blk wr X #[Value.int IntKind.i64 t0, Value.int IntKind.i64 t1, Value.int IntKind.i64 t2] 38) := HK4.out.below hC.out HK4.out.lt
      have HP5 : Hid (Blk wr P BK 27 ∧ Blk wr (P + 1) (B3 (.slice none 0 0) (.slice none 0 0) (.slice none 0 0)) 27) := ⟨HP4.out.1.below hC.out HP4.out.1.lt, HP4.out.2.below hC.out HP4.out.2.lt⟩
      have HT5 : Hid (Og 3 tkC 38 w.heap.size wr (.slice ta ks.length tc) ks) := HT4.out.below hC.out
      have HG5 : Hid (Ow .i64 3 w.heap.size wr gv gs) := HG4.out.below hC.out
      have HB5 : Hid (Below w.heap.size w wr) := belowCall HB4.out hC.out HB4.out.size
      have hnl : ¬ ((ks.length : Int) < (ks.length : Int)) := by omega
      clear hQ hC hkt hk HTR HK4 HP4 HT4 HG4 HB4
      cases ok with
      | true =>
        have HM : Hid (mdS ts (j + 1) = (ks ++ [(t0, t1, t2)], gs)) := HYES.out HQ.out.symm
        have y0 := HK5.out.cell 0
        have y1 := HK5.out.cell 1
        have y2 := HK5.out.cell 2
        simp at y0 y1 y2
        obtain ⟨W6, hW6⟩ : ∃ W, wr.alloc (Obj.cells #[Value.int IntKind.i64 t0, Value.int IntKind.i64 t1, Value.int IntKind.i64 t2] 38) = W := ⟨_, rfl⟩
        have ba : Below wr.heap.size wr W6 := by rw [← hW6]; exact (Below.refl _ _).alloc (Nat.le_refl _) _
        have HC6 : Hid (Blk W6 wr.heap.size #[.int .i64 t0, .int .i64 t1, .int .i64 t2] 38) := by show Blk _ _ _ _; rw [← hW6]; exact Blk.new _ _ _
        have HT6 : Hid (Og 3 tkC 38 w.heap.size W6 (.slice ta ks.length tc) ks) := HT5.out.below ba
        have HG6 : Hid (Ow .i64 3 w.heap.size W6 gv gs) := HG5.out.below ba
        have HP6 : Hid (Blk W6 P BK 27 ∧ Blk W6 (P + 1) (B3 (.slice none 0 0) (.slice none 0 0) (.slice none 0 0)) 27) := ⟨HP5.out.1.below ba HP5.out.1.lt, HP5.out.2.below ba HP5.out.2.lt⟩
        have HB6 : Hid (Below w.heap.size w W6) := belowCall HB5.out ba HB5.out.size
        have HW6 : Hid (_ = W6) := hW6
        clear hW6 ba HT5 HG5 HP5 HB5
        go_wp2_with (at_builtin; rw [HW6.out]; refine appT rfl _ _ rfl w.heap.size _ ks rfl HT6.out wr.heap.size (t0, t1, t2) rfl HC6.out (by have := HML.out; omega) HB6.out.size ?_)
        intro v7 w7 o7 g7 p7
        have HT7 : Hid (Og 3 tkC 38 w.heap.size w7 v7 (mdS ts (j + 1)).1) := by show Og _ _ _ _ _ _ _; rw [HM.out]; exact o7
        have HG7 : Hid (Ow .i64 3 w.heap.size w7 gv (mdS ts (j + 1)).2) := by show Ow _ _ _ _ _ _; rw [HM.out]; exact World.ownsRow.kept HG6.out g7 (own_tag HG6.out HT6.out (by decide))
        have HP7 : Hid (Blk w7 P BK 27 ∧ Blk w7 (P + 1) (B3 (.slice none 0 0) (.slice none 0 0) (.slice none 0 0)) 27) := ⟨HP6.out.1.grown g7 (row_blk HT6.out HP6.out.1 (by decide)), HP6.out.2.grown g7 (row_blk HT6.out HP6.out.2 (by decide))⟩
        have HB7 : Hid (Below w.heap.size w w7) := HB6.out.trans (grown_below g7 HB6.out.size (fun k e => (World.ownsRow.lt HT6.out k e).1))
        clear o7 g7 p7
        go_wp2
        go_roundw
        case rel => exact ⟨j + 1, _, _, rfl, rfl, by go_num, by omega, HT7.out, HG7.out, HP7.out, HB7.out⟩
        case measure => (rw [hwj]; exact meas18 hlt)
      | false =>
        have HM : Hid (mdS ts (j + 1) = (ks, gs ++ [(j : Int)])) := HNO.out HQ.out.symm
        obtain ⟨W6, hW6⟩ : ∃ W, wr.alloc (Obj.cells #[Value.int IntKind.i64 (j : Int)] 3) = W := ⟨_, rfl⟩
        have ba : Below wr.heap.size wr W6 := by rw [← hW6]; exact (Below.refl _ _).alloc (Nat.le_refl _) _
        have HC6 : Hid (W6.cell? ⟨wr.heap.size, 0, none⟩ = some (.int .i64 (j : Int))) := by show _ = _; rw [← hW6, cell_box]; rfl
        have HT6 : Hid (Og 3 tkC 38 w.heap.size W6 (.slice ta ks.length tc) ks) := HT5.out.below ba
        have HG6 : Hid (Ow .i64 3 w.heap.size W6 gv gs) := HG5.out.below ba
        have HP6 : Hid (Blk W6 P BK 27 ∧ Blk W6 (P + 1) (B3 (.slice none 0 0) (.slice none 0 0) (.slice none 0 0)) 27) := ⟨HP5.out.1.below ba HP5.out.1.lt, HP5.out.2.below ba HP5.out.2.lt⟩
        have HB6 : Hid (Below w.heap.size w W6) := belowCall HB5.out ba HB5.out.size
        have HW6 : Hid (_ = W6) := hW6
        clear hW6 ba HT5 HG5 HP5 HB5
        go_wp2_with (at_builtin; rw [HW6.out]; refine appN rfl _ _ rfl w.heap.size _ gs rfl HG6.out wr.heap.size (j : Int) rfl HC6.out (by have := HML.out; omega) HB6.out.size ?_)
        intro v7 w7 o7 g7 p7
        have HG7 : Hid (Ow .i64 3 w.heap.size w7 v7 (mdS ts (j + 1)).2) := by show Ow _ _ _ _ _ _; rw [HM.out]; exact o7
        have HT7 : Hid (Og 3 tkC 38 w.heap.size w7 (.slice ta ks.length tc) (mdS ts (j + 1)).1) := by show Og _ _ _ _ _ _ _; rw [HM.out]; exact World.ownsRow.kept HT6.out g7 (own_tag HT6.out HG6.out (by decide))
        have HP7 : Hid (Blk w7 P BK 27 ∧ Blk w7 (P + 1) (B3 (.slice none 0 0) (.slice none 0 0) (.slice none 0 0)) 27) := ⟨HP6.out.1.grown g7 (row_blk HG6.out HP6.out.1 (by decide)), HP6.out.2.grown g7 (row_blk HG6.out HP6.out.2 (by decide))⟩
        have HB7 : Hid (Below w.heap.size w w7) := HB6.out.trans (grown_below g7 HB6.out.size (fun k e => (World.ownsRow.lt HG6.out k e).1))
        clear o7 g7 p7
        go_wp2
        go_roundw
        case rel => exact ⟨j + 1, _, _, rfl, rfl, by go_num, by omega, HT7.out, HG7.out, HP7.out, HB7.out⟩
        case measure => (rw [hwj]; exact meas18 hlt)

end Go.Proofs.YtmfmlbiplagmiaaDoor

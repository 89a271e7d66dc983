/- First talks of lines and circuits; no condition. -/
import Derived.Test.YtmfmlbiplagmiaaDoorFmx
import Derived.Test.YtmfmlbiplagmiaaDoorEnt
import Derived.Test.YtmfmlbiplagmiaaDoorEmp
namespace Go.Proofs.YtmfmlbiplagmiaaDoor
open Go.RowKit Go.ChangeShapes Go.WideShapes Go.ChangeAt
set_option linter.unusedVariables false
set_option linter.unusedSimpArgs false
set_option maxRecDepth 8000

set_option maxHeartbeats 1600000 in
theorem claim_c (v : Value) (zs : List Int) (x p : Int) (base : Nat) (w : World) (h : Ow .i64 3 base w v zs) (hx : 0 ≤ x ∧ x ≤ (zs.length : Int) - 1) :
   Calls Tryd.prog 83 #[v, .int .i64 x, .int .i64 p] w fun e w' => e = .returned (.tuple #[]) ∧ Ow .i64 3 base w' v (cl zs x p) ∧ w.grownBy w' v.ownBlock := by
  obtain ⟨q, rfl⟩ : ∃ q : Nat, x = (q : Int) := ⟨x.toNat, by omega⟩
  have hq : q < zs.length := by omega
  obtain ⟨b, cp, rfl⟩ := ow_some h (by omega)
  obtain ⟨c0, f0⟩ := ow_at h q hq
  have HP : Hid (Ow .i64 3 base (w.setCell ⟨b, q, none⟩ (.int .i64 p)) (.slice (some ⟨b, 0, none⟩) zs.length cp) (zs.set q p)) := ow_put h q p
  have HO : Hid (Ow .i64 3 base w (.slice (some ⟨b, 0, none⟩) zs.length cp) zs) := h
  have HE : Hid (cl zs (q : Int) p = if zs[q] = -1 then zs.set q p else zs) := by
    show _ = _
    unfold cl
    rw [Int.toNat_natCast]
    have : zs.getD q 0 = zs[q] := by simp [List.getD, hq]
    rw [this]
  have hi0 : (0 : Int) ≤ (q : Int) := hx.1
  have hi1 : (q : Int) < (zs.length : Int) := by omega
  obtain ⟨z, hz⟩ : ∃ z, zs[q] = z := ⟨_, rfl⟩
  rw [hz] at c0 HE
  clear h hx hq hz
  go_enter Tryd.func83, Tryd.ntmps83
  by_cases g : z = -1
  · have e1 : (z == -1) = true := by simp [g]
    have HF : Hid (Ow .i64 3 base (w.setCell ⟨b, q, none⟩ (.int .i64 p)) (.slice (some ⟨b, 0, none⟩) zs.length cp) (cl zs (q : Int) p)) := by show Ow _ _ _ _ _ _; rw [HE.out, if_pos g]; exact HP.out
    clear g HP HO HE
    go_wp2
    go_end0
    exact ⟨rfl, HF.out, grown_set' _ _ _ _⟩
  · have e1 : (z == -1) = false := by simp [g]
    have HF : Hid (Ow .i64 3 base w (.slice (some ⟨b, 0, none⟩) zs.length cp) (cl zs (q : Int) p)) := by show Ow _ _ _ _ _ _; rw [HE.out, if_neg g]; exact HO.out
    clear g HP HO HE
    go_wp2
    go_end0
    exact ⟨rfl, HF.out, grown_refl _ _⟩
/-- the first talks of lines and circuits -/
def FtR (n m : Nat) (ts : List Tk) (w : World) (e : Ending) (w' : World) : Prop := ∃ vl vc, e = .returned (.agg (B3 (.slice none 0 0) vl vc)) ∧ Ow .i64 3 w.heap.size w' vl (wr18 hasL n ts) ∧ Ow .i64 3 w.heap.size w' vc (wr18 hasC m ts) ∧ Apart vl vc ∧ Below w.heap.size w w'
set_option maxHeartbeats 12800000 in
theorem firsts_c (va vl vc : Value) (ts : List Tk) (ls cs : List Int) (w : World) (h : Rbk w va vl vc ts ls cs) (hok : bkB ts ls cs = true) :
   Calls Tryd.prog 68 #[.agg (B3 va vl vc)] w (FtR ls.length cs.length ts w) := by
  obtain ⟨P, hP⟩ : ∃ P, w.heap.size = P := ⟨_, rfl⟩
  obtain ⟨W0, hW0⟩ : ∃ W, (w.alloc (Obj.cells (B3 va vl vc) 27)).alloc (Obj.cells (B3 (.slice none 0 0) (.slice none 0 0) (.slice none 0 0)) 27) = W := ⟨_, rfl⟩
  have HB0 : Hid (Below w.heap.size w W0) := by rw [← hW0]; exact ((Below.refl _ _).alloc (Nat.le_refl _) _).alloc (by simp) _
  have HK0 : Hid (Blk W0 P (B3 va vl vc) 27 ∧ Blk W0 (P + 1) (B3 (.slice none 0 0) (.slice none 0 0) (.slice none 0 0)) 27) := ⟨by rw [← hW0, ← hP]; exact (Blk.new _ _ _).alloc _, by rw [← hW0]; exact Blk.newAt _ (P + 1) _ 27 (by simp [hP])⟩
  have HW0 : Hid (_ = W0) := hW0
  have HP : Hid (w.heap.size = P) := hP
  have HLN : Hid (ts.length ≤ 30 ∧ ls.length ≤ 30 ∧ cs.length ≤ 30) := bkB_len hok
  have HBA : Hid (∀ k (hk : k < ts.length), (0 ≤ ts[k].1 ∧ ts[k].1 ≤ (ls.length : Int) - 1) ∧ (0 ≤ ts[k].2.1 ∧ ts[k].2.1 ≤ (ls.length : Int) - 1) ∧ (-1 ≤ ts[k].2.2 ∧ ts[k].2.2 ≤ (cs.length : Int) - 1)) := bkB_at hok
  have HR : Hid (Rbk w va vl vc ts ls cs) := h
  have HEM : Hid (∀ W, Rbk W va vl vc ts ls cs → Calls Tryd.prog 31 #[.agg (B3 va vl vc)] W (EmR ls.length cs.length W)) := fun W hr => emptied_c va vl vc ts ls cs W hr HLN.out.2.1 HLN.out.2.2
  have ha := h.1
  have hl := h.2.1
  have hc := h.2.2
  obtain ⟨a, cap, rfl, -⟩ := ha
  obtain ⟨a', cap', rfl, -⟩ := hl
  obtain ⟨a'', cap'', rfl, -⟩ := hc
  have x0 := HK0.out.1.cell 0
  have x1 := HK0.out.1.cell 1
  have x2 := HK0.out.1.cell 2
  simp at x0 x1 x2
  clear hP hW0 h hok
  go_enter Tryd.func68, Tryd.ntmps68
  go_wp2_with (fail)
  rw [HW0.out, HP.out]
  refine (HEM.out W0 (HR.out.below HB0.out)).mono ?_
  rintro e w2 ⟨ul, uc, rfl, ol, oc, hap, b2⟩
  obtain ⟨la, lL, lc, rfl⟩ : ∃ a L c, ul = .slice a L c := by obtain ⟨a, c, e⟩ := ol.form; exact ⟨a, _, c, e⟩
  obtain ⟨ca, cL, cc, rfl⟩ : ∃ a L c, uc = .slice a L c := by obtain ⟨a, c, e⟩ := oc.form; exact ⟨a, _, c, e⟩
  obtain ⟨X, hX⟩ : ∃ X, w2.heap.size = X := ⟨_, rfl⟩
  obtain ⟨W3, hW3⟩ : ∃ W, w2.alloc (Obj.cells (B3 (.slice none 0 0) (.slice la lL lc) (.slice ca cL cc)) 27) = W := ⟨_, rfl⟩
  have ba : Below w2.heap.size w2 W3 := by rw [← hW3]; exact (Below.refl _ _).alloc (Nat.le_refl _) _
  have hsz : w.heap.size ≤ W0.heap.size := HB0.out.size
  have q0 := HK0.out.1.below b2 HK0.out.1.lt
  have q1 := HK0.out.2.below b2 HK0.out.2.lt
  have HKR : Hid (Blk W3 (P + 1) (B3 (.slice none 0 0) (.slice none 0 0) (.slice none 0 0)) 27) := q1.below ba q1.lt
  have HX3 : Hid (Blk W3 X (B3 (.slice none 0 0) (.slice la lL lc) (.slice ca cL cc)) 27) := by show Blk _ _ _ _; rw [← hW3, ← hX]; exact Blk.new _ _ _
  have HL3 : Hid (Ow .i64 3 w.heap.size W3 (.slice la lL lc) (wr18 hasL ls.length (ts.take 0))) := by show Ow _ _ _ _ _ (wr18 hasL ls.length []); rw [wr18_nil]; exact (ol.mono hsz).below ba
  have HC3 : Hid (Ow .i64 3 w.heap.size W3 (.slice ca cL cc) (wr18 hasC cs.length (ts.take 0))) := by show Ow _ _ _ _ _ (wr18 hasC cs.length []); rw [wr18_nil]; exact (oc.mono hsz).below ba
  have HAP : Hid (Apart (.slice la lL lc) (.slice ca cL cc)) := hap
  have HB3 : Hid (Below w.heap.size w W3) := belowCall (belowCall HB0.out b2 HB0.out.size) ba (Nat.le_trans HB0.out.size b2.size)
  have HXP : Hid (P + 1 < X) := by have := q1.lt; show _ < _; omega
  have HW3 : Hid (w2.alloc (Obj.cells (B3 (.slice none 0 0) (.slice la lL lc) (.slice ca cL cc)) 27) = W3 ∧ w2.heap.size = X) := ⟨hW3, hX⟩
  have y0 := q0.cell 0
  simp at y0
  have hPl := q0.lt
  clear x0 x1 x2 hX hW3 ba hsz ol oc hap b2 q0 q1 HB0 HK0 HEM HW0
  go_wp2
  rw [HW3.out.1, HW3.out.2]
  clear HW3 y0 hPl
  go_loopw [11] (fun i wr => ∃ (j : Nat), i = .int .i64 j ∧ j ≤ ts.length ∧ Hid (Blk wr X (B3 (.slice none 0 0) (.slice la lL lc) (.slice ca cL cc)) 27 ∧ Blk wr (P + 1) (B3 (.slice none 0 0) (.slice none 0 0) (.slice none 0 0)) 27) ∧ Hid (Ow .i64 3 w.heap.size wr (.slice la lL lc) (wr18 hasL ls.length (ts.take j)) ∧ Ow .i64 3 w.heap.size wr (.slice ca cL cc) (wr18 hasC cs.length (ts.take j))) ∧ Hid (Below w.heap.size w wr)) (fun i _ => ts.length - (intOf i).toNat)
  case atStart => exact ⟨0, rfl, Nat.zero_le _, ⟨HX3.out, HKR.out⟩, ⟨HL3.out, HC3.out⟩, HB3.out⟩
  case round =>
    obtain ⟨j, rfl, hj, hX, hO, hB⟩ := hrel
    clear HX3 HKR HL3 HC3 HB3
    by_cases hlt : j < ts.length
    case neg =>
      obtain rfl : ts.length = j := by omega
      clear hlt hj
      have hnl : ¬ ((ts.length : Int) < (ts.length : Int)) := by omega
      have z0 := hX.out.1.cell 0
      have z1 := hX.out.1.cell 1
      have z2 := hX.out.1.cell 2
      have y0 := hX.out.2.cell 0
      have y1 := hX.out.2.cell 1
      have y2 := hX.out.2.cell 2
      simp at z0 z1 z2 y0 y1 y2
      have f0 := hX.out.2.frozen 0
      have f1 := hX.out.2.frozen 1
      have f2 := hX.out.2.frozen 2
      have HFIN : Hid (FtR ls.length cs.length ts w (.returned (.agg (B3 (.slice none 0 0) (.slice la lL lc) (.slice ca cL cc)))) (((wr.setCell ⟨P + 1, 0, none⟩ (.slice none 0 0)).setCell ⟨P + 1, 1, none⟩ (.slice la lL lc)).setCell ⟨P + 1, 2, none⟩ (.slice ca cL cc))) := by
        have gg : wr.grownBy (((wr.setCell ⟨P + 1, 0, none⟩ (.slice none 0 0)).setCell ⟨P + 1, 1, none⟩ (.slice la lL lc)).setCell ⟨P + 1, 2, none⟩ (.slice ca cL cc)) (some (P + 1)) := grown_trans (grown_trans (grown_set' _ _ _ _) (grown_set' _ _ _ _)) (grown_set' _ _ _ _)
        have e1 := hO.out.1
        have e2 := hO.out.2
        rw [List.take_length] at e1 e2
        exact ⟨_, _, rfl, (show Ow _ _ _ _ _ _ from World.ownsRow.kept e1 gg (.inr (row_blk e1 hX.out.2 (by decide)))), (show Ow _ _ _ _ _ _ from World.ownsRow.kept e2 gg (.inr (row_blk e2 hX.out.2 (by decide)))), HAP.out, ((hB.out.setCell (by have := HP.out; dsimp only; omega) _).setCell (by have := HP.out; dsimp only; omega) _).setCell (by have := HP.out; dsimp only; omega) _⟩
      have HBF : Hid (Blk (((wr.setCell ⟨P + 1, 0, none⟩ (.slice none 0 0)).setCell ⟨P + 1, 1, none⟩ (.slice la lL lc)).setCell ⟨P + 1, 2, none⟩ (.slice ca cL cc)) (P + 1) (B3 (.slice none 0 0) (.slice la lL lc) (.slice ca cL cc)) 27) := by
        show Blk _ _ _ _
        have := ((hX.out.2.set 0 (.slice none 0 0)).set 1 (.slice la lL lc)).set 2 (.slice ca cL cc)
        simpa using this
      clear hX hO hB
      go_wp2
      exact bodyPost_ret (v := .agg (B3 (.slice none 0 0) (.slice la lL lc) (.slice ca cL cc))) (results_cell_row rfl _ _ _ 27 _ (0, 0) _ rfl HBF.out Tryd.underlying27 rfl sizeBk) rfl HFIN.out
    case pos =>
    obtain ⟨b, off, cp, he, -, -, c0, c1, c2⟩ := rg_at (HR.out.below hB.out).1 hlt
    cases he
    have HBJ : Hid ((0 ≤ ts[j].1 ∧ ts[j].1 ≤ (ls.length : Int) - 1) ∧ (0 ≤ ts[j].2.1 ∧ ts[j].2.1 ≤ (ls.length : Int) - 1) ∧ (-1 ≤ ts[j].2.2 ∧ ts[j].2.2 ≤ (cs.length : Int) - 1)) := HBA.out j hlt
    have HTK : Hid (ts.take (j + 1) = ts.take j ++ [ts[j]] ∧ (ts.take j).length = j) := ⟨(List.take_append_getElem hlt).symm, by rw [List.length_take]; omega⟩
    obtain ⟨tj, htj⟩ : ∃ x, ts[j] = x := ⟨_, rfl⟩
    rw [htj] at c0 c1 c2 HBJ HTK
    obtain ⟨t0, t1, t2⟩ := tj
    dsimp only at c0 c1 c2
    obtain ⟨ks, hks⟩ : ∃ ks, ts.take j = ks := ⟨_, rfl⟩
    rw [hks] at HTK hO
    have HCL : Hid (cl (cl (wr18 hasL ls.length ks) t0 (j : Int)) t1 (j : Int) = wr18 hasL ls.length (ts.take (j + 1))) := by
      show _ = _
      rw [HTK.out.1]
      have := clL ls.length ks (t0, t1, t2) HBJ.out.1 HBJ.out.2.1
      rw [HTK.out.2] at this
      exact this
    have HCC : Hid (if t2 = -1 then wr18 hasC cs.length ks = wr18 hasC cs.length (ts.take (j + 1)) else cl (wr18 hasC cs.length ks) t2 (j : Int) = wr18 hasC cs.length (ts.take (j + 1))) := by
      show if _ then _ else _
      rw [HTK.out.1]
      split
      · rename_i h; exact (wrC_none _ ks (t0, t1, t2) h).symm
      · rename_i h
        have := clC cs.length ks (t0, t1, t2) ⟨by have := HBJ.out.2.2.1; dsimp only at this ⊢; omega, HBJ.out.2.2.2⟩
        rw [HTK.out.2] at this
        exact this
    have hi0 : (0 : Int) ≤ (j : Int) := by omega
    have hi1 : (j : Int) < (ts.length : Int) := by omega
    have hwj : wrap64 ((j : Int) + 1) = (j : Int) + 1 := wrap64_in (by have := HLN.out; omega)
    have hbsz : b < wr.heap.size := block_lt_of_cell c0
    have hxsz : X < wr.heap.size := hX.out.1.lt
    have z1 := hX.out.1.cell 1
    simp at z1
    obtain ⟨Y, hY⟩ : ∃ Y, wr.heap.size = Y := ⟨_, rfl⟩
    obtain ⟨W4, hW4⟩ : ∃ W, wr.alloc (Obj.cells #[Value.int IntKind.i64 t0, Value.int IntKind.i64 t1, Value.int IntKind.i64 t2] 38) = W := ⟨_, rfl⟩
    have ba : Below wr.heap.size wr W4 := by rw [← hW4]; exact (Below.refl _ _).alloc (Nat.le_refl _) _
    have HX4 : Hid (Blk W4 X (B3 (.slice none 0 0) (.slice la lL lc) (.slice ca cL cc)) 27 ∧ Blk W4 (P + 1) (B3 (.slice none 0 0) (.slice none 0 0) (.slice none 0 0)) 27 ∧ Blk W4 Y #[Value.int IntKind.i64 t0, Value.int IntKind.i64 t1, Value.int IntKind.i64 t2] 38) := ⟨hX.out.1.below ba hX.out.1.lt, hX.out.2.below ba hX.out.2.lt, by rw [← hW4, ← hY]; exact Blk.new _ _ _⟩
    have HL4 : Hid (Ow .i64 3 w.heap.size W4 (.slice la lL lc) (wr18 hasL ls.length ks)) := hO.out.1.below ba
    have HC4 : Hid (Ow .i64 3 w.heap.size W4 (.slice ca cL cc) (wr18 hasC cs.length ks)) := hO.out.2.below ba
    have HB4 : Hid (Below w.heap.size w W4) := belowCall hB.out ba hB.out.size
    have HW4 : Hid (wr.alloc (Obj.cells #[Value.int IntKind.i64 t0, Value.int IntKind.i64 t1, Value.int IntKind.i64 t2] 38) = W4 ∧ wr.heap.size = Y) := ⟨hW4, hY⟩
    clear htj hks hX hO hB hW4 ba hj hY HTK
    go_wp2_with (fail)
    rw [HW4.out.1, HW4.out.2]
    clear c0 c1 c2 hbsz hxsz z1 HW4
    refine (claim_c _ (wr18 hasL ls.length ks) t0 (j : Int) w.heap.size W4 HL4.out (by simp only [cl_len, wr18_len]; exact HBJ.out.1)).mono ?_
    rintro e w5 ⟨rfl, o, g⟩
    have HL5' : Hid (Ow .i64 3 w.heap.size w5 (.slice la lL lc) (cl (wr18 hasL ls.length ks) t0 (j : Int))) := o
    have HC5' : Hid (Ow .i64 3 w.heap.size w5 (.slice ca cL cc) (wr18 hasC cs.length ks)) := World.ownsRow.kept HC4.out g HAP.out.symm.or
    have HX5 : Hid (Blk w5 X (B3 (.slice none 0 0) (.slice la lL lc) (.slice ca cL cc)) 27 ∧ Blk w5 (P + 1) (B3 (.slice none 0 0) (.slice none 0 0) (.slice none 0 0)) 27 ∧ Blk w5 Y #[Value.int IntKind.i64 t0, Value.int IntKind.i64 t1, Value.int IntKind.i64 t2] 38) := ⟨HX4.out.1.grown g (row_blk HL4.out HX4.out.1 (by decide)), HX4.out.2.1.grown g (row_blk HL4.out HX4.out.2.1 (by decide)), HX4.out.2.2.grown g (row_blk HL4.out HX4.out.2.2 (by decide))⟩
    have HB5 : Hid (Below w.heap.size w w5) := HB4.out.trans (grown_below g HB4.out.size (fun k e => (World.ownsRow.lt HL4.out k e).1))
    clear o g HL4 HC4 HX4 HB4
    have y1 := HX5.out.2.2.cell 1
    have z1 := HX5.out.1.cell 1
    simp at y1 z1
    go_wp2_with (fail)
    refine (claim_c _ (cl (wr18 hasL ls.length ks) t0 (j : Int)) t1 (j : Int) w.heap.size w5 HL5'.out (by simp only [cl_len, wr18_len]; exact HBJ.out.2.1)).mono ?_
    rintro e w6 ⟨rfl, o, g⟩
    have HL6' : Hid (Ow .i64 3 w.heap.size w6 (.slice la lL lc) (cl (cl (wr18 hasL ls.length ks) t0 (j : Int)) t1 (j : Int))) := o
    have HC6' : Hid (Ow .i64 3 w.heap.size w6 (.slice ca cL cc) (wr18 hasC cs.length ks)) := World.ownsRow.kept HC5'.out g HAP.out.symm.or
    have HX6 : Hid (Blk w6 X (B3 (.slice none 0 0) (.slice la lL lc) (.slice ca cL cc)) 27 ∧ Blk w6 (P + 1) (B3 (.slice none 0 0) (.slice none 0 0) (.slice none 0 0)) 27 ∧ Blk w6 Y #[Value.int IntKind.i64 t0, Value.int IntKind.i64 t1, Value.int IntKind.i64 t2] 38) := ⟨HX5.out.1.grown g (row_blk HL5'.out HX5.out.1 (by decide)), HX5.out.2.1.grown g (row_blk HL5'.out HX5.out.2.1 (by decide)), HX5.out.2.2.grown g (row_blk HL5'.out HX5.out.2.2 (by decide))⟩
    have HB6 : Hid (Below w.heap.size w w6) := HB5.out.trans (grown_below g HB5.out.size (fun k e => (World.ownsRow.lt HL5'.out k e).1))
    clear o g HL5' HC5' HX5 HB5 y1 z1
    by_cases hx : t2 = -1
    case pos =>
      subst hx
      have hne : ((-1 : Int) != -1) = false := rfl
      have HC6 : Hid (Ow .i64 3 w.heap.size w6 (.slice ca cL cc) (wr18 hasC cs.length (ts.take (j + 1)))) := by show Ow _ _ _ _ _ _; have := HCC.out; rw [if_pos rfl] at this; rw [← this]; exact HC6'.out
      have HL6 : Hid (Ow .i64 3 w.heap.size w6 (.slice la lL lc) (wr18 hasL ls.length (ts.take (j + 1)))) := by show Ow _ _ _ _ _ _; rw [← HCL.out]; exact HL6'.out
      have y2 := HX6.out.2.2.cell 2
      simp at y2
      clear HC6' HL6' HCC HCL
      go_wp2
      go_roundw
      case rel => exact ⟨j + 1, by go_num, by omega, ⟨HX6.out.1, HX6.out.2.1⟩, ⟨HL6.out, HC6.out⟩, HB6.out⟩
      case measure => (rw [hwj]; exact meas18 hlt)
    case neg =>
    have hne : (t2 != -1) = true := bne_iff_ne.2 hx
    have HCX : Hid (cl (wr18 hasC cs.length ks) t2 (j : Int) = wr18 hasC cs.length (ts.take (j + 1))) := by show _ = _; have := HCC.out; rw [if_neg hx] at this; exact this
    have HX2 : Hid (0 ≤ t2 ∧ t2 ≤ (cs.length : Int) - 1) := ⟨by have := HBJ.out.2.2.1; omega, HBJ.out.2.2.2⟩
    have HL6 : Hid (Ow .i64 3 w.heap.size w6 (.slice la lL lc) (wr18 hasL ls.length (ts.take (j + 1)))) := by show Ow _ _ _ _ _ _; rw [← HCL.out]; exact HL6'.out
    have y2 := HX6.out.2.2.cell 2
    have z2 := HX6.out.1.cell 2
    simp at y2 z2
    clear hx HL6' HCC HCL
    go_wp2_with (fail)
    refine (claim_c _ (wr18 hasC cs.length ks) t2 (j : Int) w.heap.size w6 HC6'.out (by rw [wr18_len]; exact HX2.out)).mono ?_
    rintro e w7 ⟨rfl, o, g⟩
    have HC7 : Hid (Ow .i64 3 w.heap.size w7 (.slice ca cL cc) (wr18 hasC cs.length (ts.take (j + 1)))) := by show Ow _ _ _ _ _ _; rw [← HCX.out]; exact o
    have HL7 : Hid (Ow .i64 3 w.heap.size w7 (.slice la lL lc) (wr18 hasL ls.length (ts.take (j + 1)))) := World.ownsRow.kept HL6.out g HAP.out.or
    have HX7 : Hid (Blk w7 X (B3 (.slice none 0 0) (.slice la lL lc) (.slice ca cL cc)) 27 ∧ Blk w7 (P + 1) (B3 (.slice none 0 0) (.slice none 0 0) (.slice none 0 0)) 27) := ⟨HX6.out.1.grown g (row_blk HC6'.out HX6.out.1 (by decide)), HX6.out.2.1.grown g (row_blk HC6'.out HX6.out.2.1 (by decide))⟩
    have HB7 : Hid (Below w.heap.size w w7) := HB6.out.trans (grown_below g HB6.out.size (fun k e => (World.ownsRow.lt HC6'.out k e).1))
    clear o g y2 z2 HC6' HL6 HX6 HB6 HCX
    go_wp2
    go_roundw
    case rel => exact ⟨j + 1, by go_num, by omega, HX7.out, ⟨HL7.out, HC7.out⟩, HB7.out⟩
    case measure => (rw [hwj]; exact meas18 hlt)

end Go.Proofs.YtmfmlbiplagmiaaDoor

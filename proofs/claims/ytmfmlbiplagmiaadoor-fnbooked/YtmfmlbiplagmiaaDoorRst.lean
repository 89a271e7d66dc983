/- Restart, by the program; no condition. -/
import Derived.Test.YtmfmlbiplagmiaaDoorMbi
import Derived.Test.YtmfmlbiplagmiaaDoorCpb
import Derived.Deep.Cut
namespace Go.Proofs.YtmfmlbiplagmiaaDoor
open Go.RowKit Go.ChangeShapes Go.WideShapes Go.ChangeAt
set_option linter.unusedVariables false
set_option linter.unusedSimpArgs false
set_option maxRecDepth 8000

def RsQ (T : List Tk) (L C : List Int) (B : Bool) (w : World) (e : Ending) (w' : World) : Prop := ∃ va vl vc, e = .returned (.tuple #[.agg (B3 va vl vc), .bool B]) ∧ Obk w.heap.size w' va vl vc T L C ∧ Below w.heap.size w w'
/-- what Restart answers -/
def rsT (ts : List Tk) (ls cs : List Int) (d : Int) : List Tk := if bkB ts ls cs then (if d = 1 then ts else if d = 2 then mbT ts ls cs else []) else []
def rsL (ts : List Tk) (ls cs : List Int) (d : Int) : List Int := if bkB ts ls cs then (if d = 1 then ls else if d = 2 then mbL ts ls cs else if d = 3 then List.replicate ls.length (-1) else []) else []
def rsC (ts : List Tk) (ls cs : List Int) (d : Int) : List Int := if bkB ts ls cs then (if d = 1 then cs else if d = 2 then mbC ts ls cs else if d = 3 then List.replicate cs.length (-1) else []) else []
def rsB (ts : List Tk) (ls cs : List Int) (d : Int) : Bool := bkB ts ls cs && decide (1 ≤ d ∧ d ≤ 3)
def RsR (ts : List Tk) (ls cs : List Int) (d : Int) (w : World) := RsQ (rsT ts ls cs d) (rsL ts ls cs d) (rsC ts ls cs d) (rsB ts ls cs d) w
theorem rs_no {ts : List Tk} {ls cs : List Int} {d : Int} (h : bkB ts ls cs = false) : rsT ts ls cs d = [] ∧ rsL ts ls cs d = [] ∧ rsC ts ls cs d = [] ∧ rsB ts ls cs d = false := by unfold rsT rsL rsC rsB; rw [h]; simp
theorem rs_1 {ts : List Tk} {ls cs : List Int} (h : bkB ts ls cs = true) : rsT ts ls cs 1 = ts ∧ rsL ts ls cs 1 = ls ∧ rsC ts ls cs 1 = cs ∧ rsB ts ls cs 1 = true := by unfold rsT rsL rsC rsB; rw [h]; simp
theorem rs_2 {ts : List Tk} {ls cs : List Int} (h : bkB ts ls cs = true) : rsT ts ls cs 2 = mbT ts ls cs ∧ rsL ts ls cs 2 = mbL ts ls cs ∧ rsC ts ls cs 2 = mbC ts ls cs ∧ rsB ts ls cs 2 = true := by unfold rsT rsL rsC rsB; rw [h]; simp
theorem rs_3 {ts : List Tk} {ls cs : List Int} (h : bkB ts ls cs = true) : rsT ts ls cs 3 = [] ∧ rsL ts ls cs 3 = List.replicate ls.length (-1) ∧ rsC ts ls cs 3 = List.replicate cs.length (-1) ∧ rsB ts ls cs 3 = true := by unfold rsT rsL rsC rsB; rw [h]; simp
theorem rs_o {ts : List Tk} {ls cs : List Int} {d : Int} (h1 : d ≠ 1) (h2 : d ≠ 2) (h3 : d ≠ 3) : rsT ts ls cs d = [] ∧ rsL ts ls cs d = [] ∧ rsC ts ls cs d = [] ∧ rsB ts ls cs d = false := by
  unfold rsT rsL rsC rsB
  simp only [h1, h2, h3, if_false]
  refine ⟨by simp, by simp, by simp, ?_⟩
  rw [decide_eq_false (by omega)]; simp
theorem obk_nil (base : Nat) (w : World) : Obk base w (.slice none 0 0) (.slice none 0 0) (.slice none 0 0) [] [] [] := ⟨Og.nil _ _ _ _ _, Ow.nil _ _ _ _, Ow.nil _ _ _ _, fun k e => by simp [Value.ownBlock] at e, fun k e => by simp [Value.ownBlock] at e, fun k e => by simp [Value.ownBlock] at e⟩

set_option maxHeartbeats 12800000 in
theorem restartI_c (va vl vc : Value) (ts : List Tk) (ls cs : List Int) (d : Int) (w : World) (h : Rbk w va vl vc ts ls cs) :
   Calls Tryd.prog 15 #[.agg (B3 va vl vc), .int .i64 d] w (RsR ts ls cs d w) := by
  obtain ⟨P, hP⟩ : ∃ P, w.heap.size = P := ⟨_, rfl⟩
  obtain ⟨W0, hW0⟩ : ∃ W, (w.alloc (Obj.cells (B3 va vl vc) 27)).alloc (Obj.cells (B3 (.slice none 0 0) (.slice none 0 0) (.slice none 0 0)) 27) = W := ⟨_, rfl⟩
  have HB0 : Hid (Below w.heap.size w W0) := by rw [← hW0]; exact ((Below.refl _ _).alloc (Nat.le_refl _) _).alloc (by simp) _
  have HK0 : Hid (Blk W0 P (B3 va vl vc) 27 ∧ Blk W0 (P + 1) (B3 (.slice none 0 0) (.slice none 0 0) (.slice none 0 0)) 27) := ⟨by rw [← hW0, ← hP]; exact (Blk.new _ _ _).alloc _, by rw [← hW0]; exact Blk.newAt _ (P + 1) _ 27 (by simp [hP])⟩
  have HP : Hid (w.heap.size = P) := hP
  have HW0 : Hid (_ = W0) := hW0
  have HRD : Hid (∀ W, Below w.heap.size w W → Rbk W va vl vc ts ls cs) := fun W hb => h.below hb
  have HOK : Hid (∀ W, Below w.heap.size w W → Calls Tryd.prog 30 #[.agg (B3 va vl vc)] W fun e w' => e = .returned (.bool (bkB ts ls cs)) ∧ Below W.heap.size W w') := fun W hb => okI_c _ _ _ ts ls cs W (h.below hb)
  have HNO : Hid (bkB ts ls cs = false → rsT ts ls cs d = [] ∧ rsL ts ls cs d = [] ∧ rsC ts ls cs d = [] ∧ rsB ts ls cs d = false) := rs_no
  have HYE : Hid (bkB ts ls cs = true → (ts.length ≤ 30 ∧ ls.length ≤ 30 ∧ cs.length ≤ 30) ∧ bkB ts ls cs = true) := fun e => ⟨bkB_len e, e⟩
  have HFIN : Hid (∀ W V0 L0 c0 V1 L1 c1 V2 L2 c2 T L C B, Below w.heap.size w W → Blk W (P + 1) (B3 (.slice none 0 0) (.slice none 0 0) (.slice none 0 0)) 27 → Obk w.heap.size W (.slice V0 L0 c0) (.slice V1 L1 c1) (.slice V2 L2 c2) T L C → (rsT ts ls cs d = T ∧ rsL ts ls cs d = L ∧ rsC ts ls cs d = C ∧ rsB ts ls cs d = B) →
      RsR ts ls cs d w (.returned (.tuple #[.agg (B3 (.slice V0 L0 c0) (.slice V1 L1 c1) (.slice V2 L2 c2)), .bool B])) (((W.setCell ⟨P + 1, 0, none⟩ (.slice V0 L0 c0)).setCell ⟨P + 1, 1, none⟩ (.slice V1 L1 c1)).setCell ⟨P + 1, 2, none⟩ (.slice V2 L2 c2)) ∧ Blk (((W.setCell ⟨P + 1, 0, none⟩ (.slice V0 L0 c0)).setCell ⟨P + 1, 1, none⟩ (.slice V1 L1 c1)).setCell ⟨P + 1, 2, none⟩ (.slice V2 L2 c2)) (P + 1) (B3 (.slice V0 L0 c0) (.slice V1 L1 c1) (.slice V2 L2 c2)) 27) := by
    rintro W V0 L0 c0 V1 L1 c1 V2 L2 c2 T L C B hb hk o ⟨e1, e2, e3, e4⟩
    have gg : W.grownBy (((W.setCell ⟨P + 1, 0, none⟩ (.slice V0 L0 c0)).setCell ⟨P + 1, 1, none⟩ (.slice V1 L1 c1)).setCell ⟨P + 1, 2, none⟩ (.slice V2 L2 c2)) (some (P + 1)) := grown_trans (grown_trans (grown_set' _ _ _ _) (grown_set' _ _ _ _)) (grown_set' _ _ _ _)
    constructor
    · show RsQ _ _ _ _ _ _ _
      rw [e1, e2, e3, e4]
      exact ⟨_, _, _, rfl, ⟨World.ownsRow.kept o.1 gg (.inr (row_blk o.1 hk (by decide))), (show Ow _ _ _ _ _ _ from World.ownsRow.kept o.2.1 gg (.inr (row_blk o.2.1 hk (by decide)))), (show Ow _ _ _ _ _ _ from World.ownsRow.kept o.2.2.1 gg (.inr (row_blk o.2.2.1 hk (by decide)))), o.2.2.2⟩, ((hb.setCell (by have := HP.out; dsimp only; omega) _).setCell (by have := HP.out; dsimp only; omega) _).setCell (by have := HP.out; dsimp only; omega) _⟩
    · have := ((hk.set 0 (.slice V0 L0 c0)).set 1 (.slice V1 L1 c1)).set 2 (.slice V2 L2 c2)
      simpa using this
  obtain ⟨Q, hQ⟩ : ∃ Q, bkB ts ls cs = Q := ⟨_, rfl⟩
  have HQ : Hid (bkB ts ls cs = Q) := hQ
  rw [hQ] at HOK HNO HYE
  obtain ⟨⟨a, cap, rfl, -⟩, ⟨a', cap', rfl, -⟩, ⟨a'', cap'', rfl, -⟩⟩ := h
  have x0 := HK0.out.1.cell 0
  have x1 := HK0.out.1.cell 1
  have x2 := HK0.out.1.cell 2
  simp at x0 x1 x2
  clear hP hW0 hQ
  go_enter Tryd.func15, Tryd.ntmps15
  go_wp2_with (fail)
  rw [HW0.out, HP.out]
  refine (HOK.out W0 HB0.out).mono ?_
  rintro e w1 ⟨rfl, b1⟩
  have HB1 : Hid (Below w.heap.size w w1) := belowCall HB0.out b1 HB0.out.size
  have HK1 : Hid (Blk w1 P (B3 (.slice a ts.length cap) (.slice a' ls.length cap') (.slice a'' cs.length cap'')) 27 ∧ Blk w1 (P + 1) (B3 (.slice none 0 0) (.slice none 0 0) (.slice none 0 0)) 27) := ⟨HK0.out.1.below b1 HK0.out.1.lt, HK0.out.2.below b1 HK0.out.2.lt⟩
  clear x0 x1 x2 b1 HK0 HB0 HW0
  cases Q with
  | false =>
    have HBF : Hid (Below w.heap.size w w1) := HB1.out
    have z0 := HK1.out.2.cell 0
    have z1 := HK1.out.2.cell 1
    have z2 := HK1.out.2.cell 2
    simp at z0 z1 z2
    have f0 := HK1.out.2.frozen 0
    have f1 := HK1.out.2.frozen 1
    have f2 := HK1.out.2.frozen 2
    obtain ⟨hf1, hf2⟩ := HFIN.out w1 none 0 0 none 0 0 none 0 0 [] [] [] false HBF.out HK1.out.2 (obk_nil _ _) (HNO.out (by first | rfl | trivial))
    have HF1 : Hid (RsR ts ls cs d w _ _) := hf1
    have HF2 : Hid (Blk _ (P + 1) (B3 (.slice none 0 0) (.slice none 0 0) (.slice none 0 0)) 27) := hf2
    clear hf1 hf2 HBF
    go_wp2
    exact bodyPost_ret (results_BI rfl _ _ (P + 1) _ _ _ (.bool false) rfl rfl HF2.out) rfl HF1.out
  | true =>
  obtain ⟨hln, -⟩ := HYE.out (by first | rfl | trivial)
  have HLN : Hid (ts.length ≤ 30 ∧ ls.length ≤ 30 ∧ cs.length ≤ 30) := hln
  have x0 := HK1.out.1.cell 0
  have x1 := HK1.out.1.cell 1
  have x2 := HK1.out.1.cell 2
  simp at x0 x1 x2
  clear hln HOK HNO HYE
  by_cases h1 : d = 1
  case pos =>
    subst h1
    go_wp2_with (fail)
    refine (copyBook_c _ _ _ ts ls cs w1 (HRD.out _ HB1.out) (by have := HLN.out; omega) (by have := HLN.out; omega) (by have := HLN.out; omega)).mono ?_
    rintro e w2 ⟨v0, v1, v2, rfl, o, b⟩
    obtain ⟨y0, n0, q0, rfl⟩ : ∃ a L c, v0 = .slice a L c := by obtain ⟨a, c, e⟩ := o.1.form; exact ⟨a, _, c, e⟩
    obtain ⟨y1, n1, q1, rfl⟩ : ∃ a L c, v1 = .slice a L c := by obtain ⟨a, c, e⟩ := o.2.1.form; exact ⟨a, _, c, e⟩
    obtain ⟨y2, n2, q2, rfl⟩ : ∃ a L c, v2 = .slice a L c := by obtain ⟨a, c, e⟩ := o.2.2.1.form; exact ⟨a, _, c, e⟩
    have HBF : Hid (Below w.heap.size w w2) := belowCall HB1.out b HB1.out.size
    have HO : Hid (Obk w.heap.size w2 (.slice y0 n0 q0) (.slice y1 n1 q1) (.slice y2 n2 q2) ts ls cs) := o.mono HB1.out.size
    have HK2 : Hid (Blk w2 (P + 1) (B3 (.slice none 0 0) (.slice none 0 0) (.slice none 0 0)) 27) := HK1.out.2.below b HK1.out.2.lt
    clear o b x0 x1 x2 HB1 HK1
    have z0 := HK2.out.cell 0
    have z1 := HK2.out.cell 1
    have z2 := HK2.out.cell 2
    simp at z0 z1 z2
    have f0 := HK2.out.frozen 0
    have f1 := HK2.out.frozen 1
    have f2 := HK2.out.frozen 2
    obtain ⟨hf1, hf2⟩ := HFIN.out w2 y0 n0 q0 y1 n1 q1 y2 n2 q2 ts ls cs true HBF.out HK2.out HO.out (rs_1 HQ.out)
    have HF1 : Hid (RsR ts ls cs 1 w _ _) := hf1
    have HF2 : Hid (Blk _ (P + 1) (B3 (.slice y0 n0 q0) (.slice y1 n1 q1) (.slice y2 n2 q2)) 27) := hf2
    clear hf1 hf2 HBF HO HK2
    go_wp2
    exact bodyPost_ret (results_BI rfl _ _ (P + 1) _ _ _ (.bool true) rfl rfl HF2.out) rfl HF1.out
  have e1 : (d == 1) = false := by simp [h1]
  by_cases h2 : d = 2
  case pos =>
    subst h2
    go_wp2_with (fail)
    refine (mendI_c _ _ _ ts ls cs w1 (HRD.out _ HB1.out)).mono ?_
    rintro e w2 ⟨v0, v1, v2, vg, rfl, o, og, -, -, -, b⟩
    obtain ⟨g0, gn, gq, rfl⟩ : ∃ a L c, vg = .slice a L c := by obtain ⟨a, c, e⟩ := og.form; exact ⟨a, _, c, e⟩
    obtain ⟨y0, n0, q0, rfl⟩ : ∃ a L c, v0 = .slice a L c := by obtain ⟨a, c, e⟩ := o.1.form; exact ⟨a, _, c, e⟩
    obtain ⟨y1, n1, q1, rfl⟩ : ∃ a L c, v1 = .slice a L c := by obtain ⟨a, c, e⟩ := o.2.1.form; exact ⟨a, _, c, e⟩
    obtain ⟨y2, n2, q2, rfl⟩ : ∃ a L c, v2 = .slice a L c := by obtain ⟨a, c, e⟩ := o.2.2.1.form; exact ⟨a, _, c, e⟩
    obtain ⟨W3, hW3⟩ : ∃ W, w2.alloc (Obj.cells (B3 (.slice y0 n0 q0) (.slice y1 n1 q1) (.slice y2 n2 q2)) 27) = W := ⟨_, rfl⟩
    have ba : Below w2.heap.size w2 W3 := by rw [← hW3]; exact (Below.refl _ _).alloc (Nat.le_refl _) _
    have HBF : Hid (Below w.heap.size w W3) := belowCall (belowCall HB1.out b HB1.out.size) ba (Nat.le_trans HB1.out.size b.size)
    have HO : Hid (Obk w.heap.size W3 (.slice y0 n0 q0) (.slice y1 n1 q1) (.slice y2 n2 q2) (mbT ts ls cs) (mbL ts ls cs) (mbC ts ls cs)) := (o.mono HB1.out.size).below ba
    have k2 := HK1.out.2.below b HK1.out.2.lt
    have HK2 : Hid (Blk W3 (P + 1) (B3 (.slice none 0 0) (.slice none 0 0) (.slice none 0 0)) 27) := k2.below ba k2.lt
    have kx : Blk W3 w2.heap.size (B3 (.slice y0 n0 q0) (.slice y1 n1 q1) (.slice y2 n2 q2)) 27 := by rw [← hW3]; exact Blk.new _ _ _
    have t0 := kx.cell 0
    have t1 := kx.cell 1
    have t2 := kx.cell 2
    simp at t0 t1 t2
    have HW3 : Hid (w2.alloc (Obj.cells (B3 (.slice y0 n0 q0) (.slice y1 n1 q1) (.slice y2 n2 q2)) 27) = W3) := hW3
    clear o og b x0 x1 x2 HB1 HK1 ba k2 kx hW3
    go_upto_region 8 with (fail)
    rw [HW3.out]
    have z0 := HK2.out.cell 0
    have z1 := HK2.out.cell 1
    have z2 := HK2.out.cell 2
    simp at z0 z1 z2
    have f0 := HK2.out.frozen 0
    have f1 := HK2.out.frozen 1
    have f2 := HK2.out.frozen 2
    obtain ⟨hf1, hf2⟩ := HFIN.out W3 y0 n0 q0 y1 n1 q1 y2 n2 q2 (mbT ts ls cs) (mbL ts ls cs) (mbC ts ls cs) true HBF.out HK2.out HO.out (rs_2 HQ.out)
    have HF1 : Hid (RsR ts ls cs 2 w _ _) := hf1
    have HF2 : Hid (Blk _ (P + 1) (B3 (.slice y0 n0 q0) (.slice y1 n1 q1) (.slice y2 n2 q2)) 27) := hf2
    clear hf1 hf2 HBF HO HK2
    go_wp2
    exact bodyPost_ret (results_BI rfl _ _ (P + 1) _ _ _ (.bool true) rfl rfl HF2.out) rfl HF1.out
  have e2 : (d == 2) = false := by simp [h2]
  by_cases h3 : d = 3
  case pos =>
    subst h3
    go_wp2_with (fail)
    refine (emptied_c _ _ _ ts ls cs w1 (HRD.out _ HB1.out) HLN.out.2.1 HLN.out.2.2).mono ?_
    rintro e w2 ⟨v1, v2, rfl, ol, oc, hap, b⟩
    have o : Obk w1.heap.size w2 (.slice none 0 0) v1 v2 [] (List.replicate ls.length (-1)) (List.replicate cs.length (-1)) := ⟨Og.nil _ _ _ _ _, ol, oc, fun k e => by simp [Value.ownBlock] at e, fun k e => by simp [Value.ownBlock] at e, hap⟩
    obtain ⟨y1, n1, q1, rfl⟩ : ∃ a L c, v1 = .slice a L c := by obtain ⟨a, c, e⟩ := o.2.1.form; exact ⟨a, _, c, e⟩
    obtain ⟨y2, n2, q2, rfl⟩ : ∃ a L c, v2 = .slice a L c := by obtain ⟨a, c, e⟩ := o.2.2.1.form; exact ⟨a, _, c, e⟩
    have HBF : Hid (Below w.heap.size w w2) := belowCall HB1.out b HB1.out.size
    have HO : Hid (Obk w.heap.size w2 (.slice none 0 0) (.slice y1 n1 q1) (.slice y2 n2 q2) [] (List.replicate ls.length (-1)) (List.replicate cs.length (-1))) := o.mono HB1.out.size
    have HK2 : Hid (Blk w2 (P + 1) (B3 (.slice none 0 0) (.slice none 0 0) (.slice none 0 0)) 27) := HK1.out.2.below b HK1.out.2.lt
    clear o ol oc hap b x0 x1 x2 HB1 HK1
    have z0 := HK2.out.cell 0
    have z1 := HK2.out.cell 1
    have z2 := HK2.out.cell 2
    simp at z0 z1 z2
    have f0 := HK2.out.frozen 0
    have f1 := HK2.out.frozen 1
    have f2 := HK2.out.frozen 2
    obtain ⟨hf1, hf2⟩ := HFIN.out w2 none 0 0 y1 n1 q1 y2 n2 q2 [] (List.replicate ls.length (-1)) (List.replicate cs.length (-1)) true HBF.out HK2.out HO.out (rs_3 HQ.out)
    have HF1 : Hid (RsR ts ls cs 3 w _ _) := hf1
    have HF2 : Hid (Blk _ (P + 1) (B3 (.slice none 0 0) (.slice y1 n1 q1) (.slice y2 n2 q2)) 27) := hf2
    clear hf1 hf2 HBF HO HK2
    go_wp2
    exact bodyPost_ret (results_BI rfl _ _ (P + 1) _ _ _ (.bool true) rfl rfl HF2.out) rfl HF1.out
  have e3 : (d == 3) = false := by simp [h3]
  have HBF : Hid (Below w.heap.size w w1) := HB1.out
  clear x0 x1 x2
  have z0 := HK1.out.2.cell 0
  have z1 := HK1.out.2.cell 1
  have z2 := HK1.out.2.cell 2
  simp at z0 z1 z2
  have f0 := HK1.out.2.frozen 0
  have f1 := HK1.out.2.frozen 1
  have f2 := HK1.out.2.frozen 2
  obtain ⟨hf1, hf2⟩ := HFIN.out w1 none 0 0 none 0 0 none 0 0 [] [] [] false HBF.out HK1.out.2 (obk_nil _ _) (rs_o h1 h2 h3)
  have HF1 : Hid (RsR ts ls cs d w _ _) := hf1
  have HF2 : Hid (Blk _ (P + 1) (B3 (.slice none 0 0) (.slice none 0 0) (.slice none 0 0)) 27) := hf2
  clear hf1 hf2 HBF
  go_wp2
  exact bodyPost_ret (results_BI rfl _ _ (P + 1) _ _ _ (.bool false) rfl rfl HF2.out) rfl HF1.out

end Go.Proofs.YtmfmlbiplagmiaaDoor

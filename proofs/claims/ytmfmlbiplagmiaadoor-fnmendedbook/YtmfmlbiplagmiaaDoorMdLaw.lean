/- FnMendedBook returns true at all bytes, and leaves them as they were; no condition but that the library's variable is as the program's text lays it, which the card ties. -/
import Derived.Test.YtmfmlbiplagmiaaDoorIvs
import Derived.Test.YtmfmlbiplagmiaaDoorDta
import Derived.Test.YtmfmlbiplagmiaaDoorFan
import Derived.Test.YtmfmlbiplagmiaaDoorFai
import Derived.Test.YtmfmlbiplagmiaaDoorMbi
import Derived.Test.YtmfmlbiplagmiaaDoorMbm
import Derived.Test.YtmfmlbiplagmiaaDoorRst
import Derived.Test.YtmfmlbiplagmiaaDoorOpen
import Derived.Test.YtmfmlbiplagmiaaDoorHnd
import Derived.Test.YtmfmlbiplagmiaaDoorCards
import Derived.Test.YtmfmlbiplagmiaaDoorTie
import Derived.SevenTiedAt
namespace Go.Proofs.YtmfmlbiplagmiaaDoor
open Go.RowKit Go.ChangeShapes Go.WideShapes Go.ChangeAt
set_option linter.unusedVariables false
set_option linter.unusedSimpArgs false
set_option maxRecDepth 8000

set_option maxHeartbeats 800000 in
theorem sameI (v v' : Value) (xs ys : List Int) (w : World) (h : Rd .i64 w v xs) (h' : Rd .i64 w v' ys) :
   Calls Tryd.prog 12 #[v, v'] w fun e w' => e = .returned (.bool (decide (xs = ys))) ∧ Below w.heap.size w w' := by
  obtain ⟨a, cap, rfl, h1, h2, h3⟩ := h
  obtain ⟨a', cap', rfl, h1', h2', h3'⟩ := h'
  unfold maxLen at h2 h2'
  by_cases hne : xs.length = ys.length
  · have hneb : ((xs.length : Int) != (ys.length : Int)) = false := by simp [hne]
    go_enter Tryd.func12, Tryd.ntmps12
    go_wp2
    go_loopw [5] (fun i wr => ∃ j : Nat, j ≤ xs.length ∧ i = .int .i64 j ∧ Hid (∀ t, t < j → xs.getD t 0 = ys.getD t 0) ∧ Below w.heap.size w wr) (fun i _ => xs.length - (intOf i).toNat)
    case atStart => exact ⟨0, Nat.zero_le _, rfl, fun t ht => by omega, Below.refl _ _⟩
    case round =>
      obtain ⟨j, hj, rfl, hall, hbr⟩ := hrel
      by_cases hlt : j < xs.length
      · rcases h3 with h3 | ⟨b, off, rfl, h4⟩
        · subst h3; simp at hlt
        rcases h3' with h3' | ⟨b', off', rfl, h4'⟩
        · subst h3'; simp at hne; subst hne; simp at hlt
        have hc : wr.cell? ⟨b, off + j, none⟩ = some (.int .i64 (xs.getD j 0)) := by
          have := h4 j hlt
          rw [hbr.cell (block_lt_of_cell this)]; exact this
        have hc' : wr.cell? ⟨b', off' + j, none⟩ = some (.int .i64 (ys.getD j 0)) := by
          have := h4' j (by omega)
          rw [hbr.cell (block_lt_of_cell this)]; exact this
        have hi : (0 : Int) ≤ (j : Int) := by omega
        have hi2 : (j : Int) < (xs.length : Int) := by omega
        have hi3 : (j : Int) < (ys.length : Int) := by omega
        have hjy : j < ys.length := by omega
        have HN : Hid (xs.length = ys.length) := hne
        clear h4 h4' hne
        go_wp2
        go_quiet (fail)
        go_wp2
        · have hn : (xs[j] != ys[j]) = true := by assumption
          have hab : decide (xs = ys) = false := by
            simp only [decide_eq_false_iff_not]
            intro h; subst h; simp at hn
          go_ret
          exact ⟨by rw [hab]; rfl, below_drewN hbr _⟩
        · have he : (xs[j] != ys[j]) = false := by assumption
          go_roundw
          case rel =>
            refine ⟨j + 1, by omega, by go_num, fun t ht => ?_, below_drewN hbr _⟩
            by_cases hjk : t < j
            · exact hall.out t hjk
            · obtain rfl : t = j := by omega
              simpa [List.getElem?_eq_getElem hlt, List.getElem?_eq_getElem hjy] using he
          case measure => simp [intOf]; omega
      · obtain rfl : j = xs.length := by omega
        have hab : decide (xs = ys) = true := by simp only [decide_eq_true_eq]; exact ext_getD hne hall.out
        have HN : Hid (xs.length = ys.length) := hne
        clear h3 h3' hne
        go_wp2
        go_ret
        exact ⟨by rw [hab]; rfl, hbr⟩
  · have hneb : ((xs.length : Int) != (ys.length : Int)) = true := by rw [bne_iff_ne]; omega
    have hab : decide (xs = ys) = false := by
      simp only [decide_eq_false_iff_not]
      intro h; subst h; exact hne rfl
    have HN : Hid (¬ xs.length = ys.length) := hne
    clear hne h3 h3'
    go_enter Tryd.func12, Tryd.ntmps12
    go_wp2
    go_ret
    exact ⟨by rw [hab]; rfl, Below.refl _ _⟩

end Go.Proofs.YtmfmlbiplagmiaaDoor
namespace Go.Proofs.YtmfmlbiplagmiaaDoor
open Go.RowKit Go.ChangeShapes Go.WideShapes Go.ChangeAt
set_option linter.unusedVariables false
set_option linter.unusedSimpArgs false
set_option maxRecDepth 8000

def MbQ (T : List Tk) (L C G : List Int) (w : World) (e : Ending) (w' : World) : Prop := ∃ va vl vc vg, e = .returned (.tuple #[.agg (B3 va vl vc), vg]) ∧ Obk w.heap.size w' va vl vc T L C ∧ Ow .i64 3 w.heap.size w' vg G ∧ Apart va vg ∧ Apart vl vg ∧ Apart vc vg ∧ Below w.heap.size w w'
theorem fa_len' (ts : List Tk) (ls cs : List Int) : (faL ts ls cs).length ≤ 200 := by
  cases h : bkB ts ls cs with
  | false => rw [faL_no h]; simp
  | true => rw [faL_yes h]; obtain ⟨h1, h2, h3⟩ := bkB_len h; exact ftL_len h1 h2 h3
theorem mb5 : mbL [] [5] [] = [-1] ∧ mbG [] [5] [] = [] := ⟨rfl, rfl⟩
set_option maxHeartbeats 25600000 in
theorem mendLaw (v : Value) (zs : List Int) (w : World) (h : Rd .u8 w v zs) (hok : ∀ z ∈ zs, 0 ≤ z ∧ z ≤ 255) (hg : HgV w) :
    Calls Tryd.prog 3 #[v] w fun e w' => e = .returned (.bool true) ∧ Below w.heap.size w w' := by
  have HR : Hid (Rd .u8 w v zs) := h
  have HOK : Hid (∀ z ∈ zs, 0 ≤ z ∧ z ≤ 255) := hok
  have HGV : Hid (HgV w) := hg
  clear hok hg
  obtain ⟨av, capv, rfl, -⟩ := h
  go_enter Tryd.func3, Tryd.ntmps3
  go_wp2_with (fail)
  refine (big_c _ zs w HR.out).mono ?_
  rintro e w' ⟨rfl, hw⟩
  subst w'
  by_cases hbig : (1048576 : Int) < (zs.length : Int)
  case pos =>
    have hd : decide ((1048576 : Int) < (zs.length : Int)) = true := by simpa using hbig
    rw [hd]
    go_wp2
    go_ret
    exact ⟨rfl, Below.refl _ _⟩
  case neg =>
  have hd : decide ((1048576 : Int) < (zs.length : Int)) = false := by simpa using hbig
  rw [hd]
  have HLZ : Hid (zs.length ≤ 2097152) := by show _ ≤ _; omega
  clear hd hbig
  have B_w : Hid (Below w.heap.size w w) := Below.refl _ _
  have G_w : Hid (HgV w) := HGV.out
  go_wp2_with (fail)
  refine (drawMend_c _ zs w HR.out HOK.out HLZ.out).mono ?_
  rintro e w1 ⟨va, vl, vc, ts, ls, cs, rfl, o, b, n⟩
  have HN : Hid (ts.length ≤ 40 ∧ (1 ≤ ls.length ∧ ls.length ≤ 40) ∧ cs.length ≤ 40) := n
  have B_w1 : Hid (Below w.heap.size w w1) := belowCall B_w.out b B_w.out.size
  have G_w1 : Hid (HgV w1) := G_w.out.below b
  clear b B_w G_w
  obtain ⟨a0, c0, rfl⟩ := o.1.form
  obtain ⟨a1, c1, rfl⟩ := o.2.1.form
  obtain ⟨a2, c2, rfl⟩ := o.2.2.1.form
  have M_w1 : Hid (Rbk w1 (.slice a0 ts.length c0) (.slice a1 ls.length c1) (.slice a2 cs.length c2) ts ls cs) := o.rd
  clear o n HR HOK HLZ HGV
  have hci : ∀ W va vl vc, Rbk W va vl vc ts ls cs → Calls Tryd.prog 9 #[.agg (B3 va vl vc)] W (MbQ (mbT ts ls cs) (mbL ts ls cs) (mbC ts ls cs) (mbG ts ls cs) W) := fun W va vl vc h => mendI_c va vl vc ts ls cs W h
  have hcm : ∀ W va vl vc, Rbk W va vl vc ts ls cs → Calls Tryd.prog 10 #[.agg (B3 va vl vc)] W (MbQ (mbT ts ls cs) (mbL ts ls cs) (mbC ts ls cs) (mbG ts ls cs) W) := fun W va vl vc h => mendM_c va vl vc ts ls cs W h
  have hfi : ∀ W va vl vc, HgV W → Rbk W va vl vc ts ls cs → Calls Tryd.prog 11 #[.agg (B3 va vl vc)] W (FaR (faL ts ls cs) W) := fun W va vl vc hg h => faultsI_c va vl vc ts ls cs W hg h
  have hfm : ∀ W va vl vc, Rbk W va vl vc ts ls cs → Calls Tryd.prog 13 #[.agg (B3 va vl vc)] W (FaR (faL ts ls cs) W) := fun W va vl vc h => faultsM_c va vl vc ts ls cs W h
  have hfl : (faL ts ls cs).length ≤ 200 := fa_len' ts ls cs
  have hmd := @mended ts ls cs
  have hno := @no_book ts ls cs
  have hr2 := @rs_2 ts ls cs
  obtain ⟨T, hT⟩ : ∃ T, mbT ts ls cs = T := ⟨_, rfl⟩
  obtain ⟨L, hL⟩ : ∃ T, mbL ts ls cs = T := ⟨_, rfl⟩
  obtain ⟨C, hC⟩ : ∃ T, mbC ts ls cs = T := ⟨_, rfl⟩
  obtain ⟨G, hG⟩ : ∃ T, mbG ts ls cs = T := ⟨_, rfl⟩
  obtain ⟨F, hF⟩ : ∃ T, faL ts ls cs = T := ⟨_, rfl⟩
  rw [hT, hL, hC, hG] at hci hcm hmd
  rw [hF] at hfi hfm hfl hmd hno
  rw [hT] at hno
  rw [hT, hL, hC] at hr2
  have HCI : Hid (∀ W va vl vc, Rbk W va vl vc ts ls cs → Calls Tryd.prog 9 #[.agg (B3 va vl vc)] W (MbQ T L C G W)) := hci
  have HCM : Hid (∀ W va vl vc, Rbk W va vl vc ts ls cs → Calls Tryd.prog 10 #[.agg (B3 va vl vc)] W (MbQ T L C G W)) := hcm
  have HFI : Hid (∀ W va vl vc, HgV W → Rbk W va vl vc ts ls cs → Calls Tryd.prog 11 #[.agg (B3 va vl vc)] W (FaR F W)) := hfi
  have HFM : Hid (∀ W va vl vc, Rbk W va vl vc ts ls cs → Calls Tryd.prog 13 #[.agg (B3 va vl vc)] W (FaR F W)) := hfm
  have HFL : Hid (F.length ≤ 200) := hfl
  have HMD : Hid (bkB ts ls cs = true → faL T L C = [] ∧ T.length + G.length = ts.length ∧ L.length = ls.length ∧ (F = [] → G = []) ∧ mbG T L C = [] ∧ mbL T L C = L ∧ mbC T L C = C) := hmd
  have HNO : Hid (bkB ts ls cs = false → T = [] ∧ F = [(7, 0)]) := hno
  have HR2 : Hid (bkB ts ls cs = true → rsT ts ls cs 2 = T ∧ rsL ts ls cs 2 = L ∧ rsC ts ls cs 2 = C ∧ rsB ts ls cs 2 = true) := hr2
  clear hci hcm hfi hfm hfl hmd hno hr2 hT hL hC hG hF
  obtain ⟨XP, hX⟩ : ∃ X, w1.heap.size = X := ⟨_, rfl⟩
  obtain ⟨W1, hW⟩ : ∃ W, w1.alloc (Obj.cells (B3 (.slice a0 ts.length c0) (.slice a1 ls.length c1) (.slice a2 cs.length c2)) 27) = W := ⟨_, rfl⟩
  have b : Below w1.heap.size w1 W1 := by rw [← hW]; exact (Below.refl _ _).alloc (Nat.le_refl _) _
  have KP_W1 : Hid (Blk W1 XP (B3 (.slice a0 ts.length c0) (.slice a1 ls.length c1) (.slice a2 cs.length c2)) 27) := by show Blk _ _ _ _; rw [← hW, ← hX]; exact Blk.new _ _ _
  have EP : Hid (w1.alloc (Obj.cells (B3 (.slice a0 ts.length c0) (.slice a1 ls.length c1) (.slice a2 cs.length c2)) 27) = W1 ∧ w1.heap.size = XP) := ⟨hW, hX⟩
  clear hW hX
  have B_W1 : Hid (Below w.heap.size w W1) := belowCall B_w1.out b B_w1.out.size
  have G_W1 : Hid (HgV W1) := G_w1.out.below b
  have M_W1 : Hid (Rbk W1 (.slice a0 ts.length c0) (.slice a1 ls.length c1) (.slice a2 cs.length c2) ts ls cs) := M_w1.out.below b
  clear b B_w1 G_w1 M_w1
  go_upto_region 4 with fail
  rw [EP.out.1, EP.out.2]
  clear EP
  have p0 := KP_W1.out.cell 0
  have p1 := KP_W1.out.cell 1
  have p2 := KP_W1.out.cell 2
  simp at p0 p1 p2
  go_wp2_with (fail)
  refine (HCI.out W1 _ _ _ M_W1.out).mono ?_
  rintro e w2 ⟨ma, ml, mc, mg, rfl, o, og, -, -, -, b⟩
  clear p0 p1 p2
  have B_w2 : Hid (Below w.heap.size w w2) := belowCall B_W1.out b B_W1.out.size
  have G_w2 : Hid (HgV w2) := G_W1.out.below b
  have M_w2 : Hid (Rbk w2 (.slice a0 ts.length c0) (.slice a1 ls.length c1) (.slice a2 cs.length c2) ts ls cs) := M_W1.out.below b
  have KP_w2 : Hid (Blk w2 XP (B3 (.slice a0 ts.length c0) (.slice a1 ls.length c1) (.slice a2 cs.length c2)) 27) := KP_W1.out.below b KP_W1.out.lt
  clear b B_W1 G_W1 M_W1 KP_W1
  obtain ⟨d0, e0, rfl⟩ := o.1.form
  obtain ⟨d1, e1, rfl⟩ := o.2.1.form
  obtain ⟨d2, e2, rfl⟩ := o.2.2.1.form
  obtain ⟨d3, e3, rfl⟩ := og.form
  have N_w2 : Hid (Rbk w2 (.slice d0 T.length e0) (.slice d1 L.length e1) (.slice d2 C.length e2) T L C) := o.rd
  have H_w2 : Hid (Rd .i64 w2 (.slice d3 G.length e3) G) := og.rd
  clear o og
  obtain ⟨XQ, hX⟩ : ∃ X, w2.heap.size = X := ⟨_, rfl⟩
  obtain ⟨W2, hW⟩ : ∃ W, w2.alloc (Obj.cells (B3 (.slice d0 T.length e0) (.slice d1 L.length e1) (.slice d2 C.length e2)) 27) = W := ⟨_, rfl⟩
  have b : Below w2.heap.size w2 W2 := by rw [← hW]; exact (Below.refl _ _).alloc (Nat.le_refl _) _
  have KQ_W2 : Hid (Blk W2 XQ (B3 (.slice d0 T.length e0) (.slice d1 L.length e1) (.slice d2 C.length e2)) 27) := by show Blk _ _ _ _; rw [← hW, ← hX]; exact Blk.new _ _ _
  have EQ : Hid (w2.alloc (Obj.cells (B3 (.slice d0 T.length e0) (.slice d1 L.length e1) (.slice d2 C.length e2)) 27) = W2 ∧ w2.heap.size = XQ) := ⟨hW, hX⟩
  clear hW hX
  have B_W2 : Hid (Below w.heap.size w W2) := belowCall B_w2.out b B_w2.out.size
  have G_W2 : Hid (HgV W2) := G_w2.out.below b
  have M_W2 : Hid (Rbk W2 (.slice a0 ts.length c0) (.slice a1 ls.length c1) (.slice a2 cs.length c2) ts ls cs) := M_w2.out.below b
  have KP_W2 : Hid (Blk W2 XP (B3 (.slice a0 ts.length c0) (.slice a1 ls.length c1) (.slice a2 cs.length c2)) 27) := KP_w2.out.below b KP_w2.out.lt
  have N_W2 : Hid (Rbk W2 (.slice d0 T.length e0) (.slice d1 L.length e1) (.slice d2 C.length e2) T L C) := N_w2.out.below b
  have H_W2 : Hid (Rd .i64 W2 (.slice d3 G.length e3) G) := H_w2.out.below b
  clear b B_w2 G_w2 M_w2 KP_w2 N_w2 H_w2
  go_upto_region 5 with fail
  rw [EQ.out.1, EQ.out.2]
  clear EQ
  have p0 := KP_W2.out.cell 0
  have p1 := KP_W2.out.cell 1
  have p2 := KP_W2.out.cell 2
  simp at p0 p1 p2
  go_wp2_with (fail)
  refine (HCM.out W2 _ _ _ M_W2.out).mono ?_
  rintro e w3 ⟨sa, sl, sc, sg, rfl, o, og, -, -, -, b⟩
  clear p0 p1 p2
  have B_w3 : Hid (Below w.heap.size w w3) := belowCall B_W2.out b B_W2.out.size
  have G_w3 : Hid (HgV w3) := G_W2.out.below b
  have M_w3 : Hid (Rbk w3 (.slice a0 ts.length c0) (.slice a1 ls.length c1) (.slice a2 cs.length c2) ts ls cs) := M_W2.out.below b
  have KP_w3 : Hid (Blk w3 XP (B3 (.slice a0 ts.length c0) (.slice a1 ls.length c1) (.slice a2 cs.length c2)) 27) := KP_W2.out.below b KP_W2.out.lt
  have N_w3 : Hid (Rbk w3 (.slice d0 T.length e0) (.slice d1 L.length e1) (.slice d2 C.length e2) T L C) := N_W2.out.below b
  have H_w3 : Hid (Rd .i64 w3 (.slice d3 G.length e3) G) := H_W2.out.below b
  have KQ_w3 : Hid (Blk w3 XQ (B3 (.slice d0 T.length e0) (.slice d1 L.length e1) (.slice d2 C.length e2)) 27) := KQ_W2.out.below b KQ_W2.out.lt
  clear b B_W2 G_W2 M_W2 KP_W2 N_W2 H_W2 KQ_W2
  obtain ⟨f0, g0, rfl⟩ := o.1.form
  obtain ⟨f1, g1, rfl⟩ := o.2.1.form
  obtain ⟨f2, g2, rfl⟩ := o.2.2.1.form
  obtain ⟨f3, g3, rfl⟩ := og.form
  have J_w3 : Hid (Rd .i64 w3 (.slice f3 G.length g3) G) := og.rd
  clear o og
  obtain ⟨XS, hX⟩ : ∃ X, w3.heap.size = X := ⟨_, rfl⟩
  obtain ⟨W3, hW⟩ : ∃ W, w3.alloc (Obj.cells (B3 (.slice f0 T.length g0) (.slice f1 L.length g1) (.slice f2 C.length g2)) 27) = W := ⟨_, rfl⟩
  have b : Below w3.heap.size w3 W3 := by rw [← hW]; exact (Below.refl _ _).alloc (Nat.le_refl _) _
  have KS_W3 : Hid (Blk W3 XS (B3 (.slice f0 T.length g0) (.slice f1 L.length g1) (.slice f2 C.length g2)) 27) := by show Blk _ _ _ _; rw [← hW, ← hX]; exact Blk.new _ _ _
  have ES : Hid (w3.alloc (Obj.cells (B3 (.slice f0 T.length g0) (.slice f1 L.length g1) (.slice f2 C.length g2)) 27) = W3 ∧ w3.heap.size = XS) := ⟨hW, hX⟩
  clear hW hX
  have B_W3 : Hid (Below w.heap.size w W3) := belowCall B_w3.out b B_w3.out.size
  have G_W3 : Hid (HgV W3) := G_w3.out.below b
  have M_W3 : Hid (Rbk W3 (.slice a0 ts.length c0) (.slice a1 ls.length c1) (.slice a2 cs.length c2) ts ls cs) := M_w3.out.below b
  have KP_W3 : Hid (Blk W3 XP (B3 (.slice a0 ts.length c0) (.slice a1 ls.length c1) (.slice a2 cs.length c2)) 27) := KP_w3.out.below b KP_w3.out.lt
  have N_W3 : Hid (Rbk W3 (.slice d0 T.length e0) (.slice d1 L.length e1) (.slice d2 C.length e2) T L C) := N_w3.out.below b
  have H_W3 : Hid (Rd .i64 W3 (.slice d3 G.length e3) G) := H_w3.out.below b
  have KQ_W3 : Hid (Blk W3 XQ (B3 (.slice d0 T.length e0) (.slice d1 L.length e1) (.slice d2 C.length e2)) 27) := KQ_w3.out.below b KQ_w3.out.lt
  have J_W3 : Hid (Rd .i64 W3 (.slice f3 G.length g3) G) := J_w3.out.below b
  clear b B_w3 G_w3 M_w3 KP_w3 N_w3 H_w3 KQ_w3 J_w3
  go_upto_region 6 with fail
  rw [ES.out.1, ES.out.2]
  clear ES
  have p0 := KP_W3.out.cell 0
  have p1 := KP_W3.out.cell 1
  have p2 := KP_W3.out.cell 2
  simp at p0 p1 p2
  go_wp2_with (fail)
  refine (HFI.out W3 _ _ _ G_W3.out M_W3.out).mono ?_
  rintro e w4 ⟨fv, rfl, o, b⟩
  clear p0 p1 p2
  obtain ⟨fa, fc, rfl⟩ := o.form
  clear o
  have B_w4 : Hid (Below w.heap.size w w4) := belowCall B_W3.out b B_W3.out.size
  have G_w4 : Hid (HgV w4) := G_W3.out.below b
  have M_w4 : Hid (Rbk w4 (.slice a0 ts.length c0) (.slice a1 ls.length c1) (.slice a2 cs.length c2) ts ls cs) := M_W3.out.below b
  have KP_w4 : Hid (Blk w4 XP (B3 (.slice a0 ts.length c0) (.slice a1 ls.length c1) (.slice a2 cs.length c2)) 27) := KP_W3.out.below b KP_W3.out.lt
  have N_w4 : Hid (Rbk w4 (.slice d0 T.length e0) (.slice d1 L.length e1) (.slice d2 C.length e2) T L C) := N_W3.out.below b
  have H_w4 : Hid (Rd .i64 w4 (.slice d3 G.length e3) G) := H_W3.out.below b
  have KQ_w4 : Hid (Blk w4 XQ (B3 (.slice d0 T.length e0) (.slice d1 L.length e1) (.slice d2 C.length e2)) 27) := KQ_W3.out.below b KQ_W3.out.lt
  have J_w4 : Hid (Rd .i64 w4 (.slice f3 G.length g3) G) := J_W3.out.below b
  have KS_w4 : Hid (Blk w4 XS (B3 (.slice f0 T.length g0) (.slice f1 L.length g1) (.slice f2 C.length g2)) 27) := KS_W3.out.below b KS_W3.out.lt
  clear b B_W3 G_W3 M_W3 KP_W3 N_W3 H_W3 KQ_W3 J_W3 KS_W3
  clear KS_w4
  go_wp2_with (fail)
  refine (sameI _ _ G G w4 H_w4.out J_w4.out).mono ?_
  rintro e w5 ⟨rfl, b⟩
  rw [decide_eq_true (Eq.refl G)]
  have B_w5 : Hid (Below w.heap.size w w5) := belowCall B_w4.out b B_w4.out.size
  have G_w5 : Hid (HgV w5) := G_w4.out.below b
  have M_w5 : Hid (Rbk w5 (.slice a0 ts.length c0) (.slice a1 ls.length c1) (.slice a2 cs.length c2) ts ls cs) := M_w4.out.below b
  have KP_w5 : Hid (Blk w5 XP (B3 (.slice a0 ts.length c0) (.slice a1 ls.length c1) (.slice a2 cs.length c2)) 27) := KP_w4.out.below b KP_w4.out.lt
  have N_w5 : Hid (Rbk w5 (.slice d0 T.length e0) (.slice d1 L.length e1) (.slice d2 C.length e2) T L C) := N_w4.out.below b
  have H_w5 : Hid (Rd .i64 w5 (.slice d3 G.length e3) G) := H_w4.out.below b
  have KQ_w5 : Hid (Blk w5 XQ (B3 (.slice d0 T.length e0) (.slice d1 L.length e1) (.slice d2 C.length e2)) 27) := KQ_w4.out.below b KQ_w4.out.lt
  have J_w5 : Hid (Rd .i64 w5 (.slice f3 G.length g3) G) := J_w4.out.below b
  clear b B_w4 G_w4 M_w4 KP_w4 N_w4 H_w4 KQ_w4 J_w4
  clear J_w5
  have p0 := KP_w5.out.cell 0
  have p1 := KP_w5.out.cell 1
  have p2 := KP_w5.out.cell 2
  simp at p0 p1 p2
  go_wp2_with (fail)
  refine (HFM.out w5 _ _ _ M_w5.out).mono ?_
  rintro e w6 ⟨tv, rfl, o, b⟩
  clear p0 p1 p2
  obtain ⟨ta, tc, rfl⟩ := o.form
  clear o
  have B_w6 : Hid (Below w.heap.size w w6) := belowCall B_w5.out b B_w5.out.size
  have G_w6 : Hid (HgV w6) := G_w5.out.below b
  have M_w6 : Hid (Rbk w6 (.slice a0 ts.length c0) (.slice a1 ls.length c1) (.slice a2 cs.length c2) ts ls cs) := M_w5.out.below b
  have KP_w6 : Hid (Blk w6 XP (B3 (.slice a0 ts.length c0) (.slice a1 ls.length c1) (.slice a2 cs.length c2)) 27) := KP_w5.out.below b KP_w5.out.lt
  have N_w6 : Hid (Rbk w6 (.slice d0 T.length e0) (.slice d1 L.length e1) (.slice d2 C.length e2) T L C) := N_w5.out.below b
  have H_w6 : Hid (Rd .i64 w6 (.slice d3 G.length e3) G) := H_w5.out.below b
  have KQ_w6 : Hid (Blk w6 XQ (B3 (.slice d0 T.length e0) (.slice d1 L.length e1) (.slice d2 C.length e2)) 27) := KQ_w5.out.below b KQ_w5.out.lt
  clear b B_w5 G_w5 M_w5 KP_w5 N_w5 H_w5 KQ_w5
  have hff : ((F.length : Int) != (F.length : Int)) = false := by simp
  obtain ⟨XU, hX⟩ : ∃ X, w6.heap.size = X := ⟨_, rfl⟩
  obtain ⟨W6, hW⟩ : ∃ W, w6.alloc (Obj.cells (#[.int .i64 5]) 3) = W := ⟨_, rfl⟩
  have b : Below w6.heap.size w6 W6 := by rw [← hW]; exact (Below.refl _ _).alloc (Nat.le_refl _) _
  have KU_W6 : Hid (Blk W6 XU (#[.int .i64 5]) 3) := by show Blk _ _ _ _; rw [← hW, ← hX]; exact Blk.new _ _ _
  have EU : Hid (w6.alloc (Obj.cells (#[.int .i64 5]) 3) = W6 ∧ w6.heap.size = XU) := ⟨hW, hX⟩
  clear hW hX
  have B_W6 : Hid (Below w.heap.size w W6) := belowCall B_w6.out b B_w6.out.size
  have G_W6 : Hid (HgV W6) := G_w6.out.below b
  have M_W6 : Hid (Rbk W6 (.slice a0 ts.length c0) (.slice a1 ls.length c1) (.slice a2 cs.length c2) ts ls cs) := M_w6.out.below b
  have KP_W6 : Hid (Blk W6 XP (B3 (.slice a0 ts.length c0) (.slice a1 ls.length c1) (.slice a2 cs.length c2)) 27) := KP_w6.out.below b KP_w6.out.lt
  have N_W6 : Hid (Rbk W6 (.slice d0 T.length e0) (.slice d1 L.length e1) (.slice d2 C.length e2) T L C) := N_w6.out.below b
  have H_W6 : Hid (Rd .i64 W6 (.slice d3 G.length e3) G) := H_w6.out.below b
  have KQ_W6 : Hid (Blk W6 XQ (B3 (.slice d0 T.length e0) (.slice d1 L.length e1) (.slice d2 C.length e2)) 27) := KQ_w6.out.below b KQ_w6.out.lt
  clear b B_w6 G_w6 M_w6 KP_w6 N_w6 H_w6 KQ_w6
  have RU : Hid (Rbk W6 (.slice none 0 0) (.slice (some ⟨XU, 0, none⟩) 1 1) (.slice none 0 0) [] [5] []) := ⟨(Og.nil 3 tkC 38 0 _).rd tkC_len, by rw [← EU.out.1, ← EU.out.2]; exact Rd.lit w6 [5] (by decide), (Ow.nil .i64 3 0 _).rd⟩
  go_wp2_with (fail)
  rw [EU.out.1, EU.out.2]
  clear EU hff
  refine (mendI_c _ _ _ [] [5] [] W6 RU.out).mono ?_
  rintro e w7 ⟨ua, ul, uc, ug, rfl, o, og, -, -, -, b⟩
  rw [mb5.1] at o
  rw [mb5.2] at og
  clear RU
  clear KU_W6
  have B_w7 : Hid (Below w.heap.size w w7) := belowCall B_W6.out b B_W6.out.size
  have G_w7 : Hid (HgV w7) := G_W6.out.below b
  have M_w7 : Hid (Rbk w7 (.slice a0 ts.length c0) (.slice a1 ls.length c1) (.slice a2 cs.length c2) ts ls cs) := M_W6.out.below b
  have KP_w7 : Hid (Blk w7 XP (B3 (.slice a0 ts.length c0) (.slice a1 ls.length c1) (.slice a2 cs.length c2)) 27) := KP_W6.out.below b KP_W6.out.lt
  have N_w7 : Hid (Rbk w7 (.slice d0 T.length e0) (.slice d1 L.length e1) (.slice d2 C.length e2) T L C) := N_W6.out.below b
  have H_w7 : Hid (Rd .i64 w7 (.slice d3 G.length e3) G) := H_W6.out.below b
  have KQ_w7 : Hid (Blk w7 XQ (B3 (.slice d0 T.length e0) (.slice d1 L.length e1) (.slice d2 C.length e2)) 27) := KQ_W6.out.below b KQ_W6.out.lt
  clear b B_W6 G_W6 M_W6 KP_W6 N_W6 H_W6 KQ_W6
  obtain ⟨h0, i0, rfl⟩ := o.1.form
  obtain ⟨h1, i1, rfl⟩ := o.2.1.form
  obtain ⟨h2, i2, rfl⟩ := o.2.2.1.form
  obtain ⟨h3, i3, rfl⟩ := og.form
  obtain ⟨uT, huT⟩ : ∃ T, mbT [] [5] [] = T := ⟨_, rfl⟩
  obtain ⟨uC, huC⟩ : ∃ T, mbC [] [5] [] = T := ⟨_, rfl⟩
  rw [huT, huC] at o
  try rw [huT]
  try rw [huC]
  clear huT huC
  have Y_w7 : Hid (Rd .i64 w7 (.slice h1 1 i1) [-1]) := o.2.1.rd
  clear o og
  obtain ⟨XV, hX⟩ : ∃ X, w7.heap.size = X := ⟨_, rfl⟩
  obtain ⟨W7, hW⟩ : ∃ W, w7.alloc (Obj.cells (B3 (.slice h0 uT.length i0) (.slice h1 1 i1) (.slice h2 uC.length i2)) 27) = W := ⟨_, rfl⟩
  have b : Below w7.heap.size w7 W7 := by rw [← hW]; exact (Below.refl _ _).alloc (Nat.le_refl _) _
  have KV_W7 : Hid (Blk W7 XV (B3 (.slice h0 uT.length i0) (.slice h1 1 i1) (.slice h2 uC.length i2)) 27) := by show Blk _ _ _ _; rw [← hW, ← hX]; exact Blk.new _ _ _
  have EV : Hid (w7.alloc (Obj.cells (B3 (.slice h0 uT.length i0) (.slice h1 1 i1) (.slice h2 uC.length i2)) 27) = W7 ∧ w7.heap.size = XV) := ⟨hW, hX⟩
  clear hW hX
  have B_W7 : Hid (Below w.heap.size w W7) := belowCall B_w7.out b B_w7.out.size
  have G_W7 : Hid (HgV W7) := G_w7.out.below b
  have M_W7 : Hid (Rbk W7 (.slice a0 ts.length c0) (.slice a1 ls.length c1) (.slice a2 cs.length c2) ts ls cs) := M_w7.out.below b
  have KP_W7 : Hid (Blk W7 XP (B3 (.slice a0 ts.length c0) (.slice a1 ls.length c1) (.slice a2 cs.length c2)) 27) := KP_w7.out.below b KP_w7.out.lt
  have N_W7 : Hid (Rbk W7 (.slice d0 T.length e0) (.slice d1 L.length e1) (.slice d2 C.length e2) T L C) := N_w7.out.below b
  have H_W7 : Hid (Rd .i64 W7 (.slice d3 G.length e3) G) := H_w7.out.below b
  have KQ_W7 : Hid (Blk W7 XQ (B3 (.slice d0 T.length e0) (.slice d1 L.length e1) (.slice d2 C.length e2)) 27) := KQ_w7.out.below b KQ_w7.out.lt
  have Y_W7 : Hid (Rd .i64 W7 (.slice h1 1 i1) [-1]) := Y_w7.out.below b
  clear b B_w7 G_w7 M_w7 KP_w7 N_w7 H_w7 KQ_w7 Y_w7
  go_upto_region 10 with fail
  rw [EV.out.1, EV.out.2]
  clear EV
  have v1 := KV_W7.out.cell 1
  simp at v1
  obtain ⟨XZ, hX⟩ : ∃ X, W7.heap.size = X := ⟨_, rfl⟩
  obtain ⟨W8, hW⟩ : ∃ W, W7.alloc (Obj.cells (#[.int .i64 (-1)]) 3) = W := ⟨_, rfl⟩
  have b : Below W7.heap.size W7 W8 := by rw [← hW]; exact (Below.refl _ _).alloc (Nat.le_refl _) _
  have KZ_W8 : Hid (Blk W8 XZ (#[.int .i64 (-1)]) 3) := by show Blk _ _ _ _; rw [← hW, ← hX]; exact Blk.new _ _ _
  have EZ : Hid (W7.alloc (Obj.cells (#[.int .i64 (-1)]) 3) = W8 ∧ W7.heap.size = XZ) := ⟨hW, hX⟩
  clear hW hX
  have B_W8 : Hid (Below w.heap.size w W8) := belowCall B_W7.out b B_W7.out.size
  have G_W8 : Hid (HgV W8) := G_W7.out.below b
  have M_W8 : Hid (Rbk W8 (.slice a0 ts.length c0) (.slice a1 ls.length c1) (.slice a2 cs.length c2) ts ls cs) := M_W7.out.below b
  have KP_W8 : Hid (Blk W8 XP (B3 (.slice a0 ts.length c0) (.slice a1 ls.length c1) (.slice a2 cs.length c2)) 27) := KP_W7.out.below b KP_W7.out.lt
  have N_W8 : Hid (Rbk W8 (.slice d0 T.length e0) (.slice d1 L.length e1) (.slice d2 C.length e2) T L C) := N_W7.out.below b
  have H_W8 : Hid (Rd .i64 W8 (.slice d3 G.length e3) G) := H_W7.out.below b
  have KQ_W8 : Hid (Blk W8 XQ (B3 (.slice d0 T.length e0) (.slice d1 L.length e1) (.slice d2 C.length e2)) 27) := KQ_W7.out.below b KQ_W7.out.lt
  have Y_W8 : Hid (Rd .i64 W8 (.slice h1 1 i1) [-1]) := Y_W7.out.below b
  have KV_W8 : Hid (Blk W8 XV (B3 (.slice h0 uT.length i0) (.slice h1 1 i1) (.slice h2 uC.length i2)) 27) := KV_W7.out.below b KV_W7.out.lt
  clear b B_W7 G_W7 M_W7 KP_W7 N_W7 H_W7 KQ_W7 Y_W7 KV_W7
  have RZ : Hid (Rd .i64 W8 (.slice (some ⟨XZ, 0, none⟩) 1 1) [-1]) := by show Rd _ _ _ _; rw [← EZ.out.1, ← EZ.out.2]; exact Rd.lit W7 [-1] (by decide)
  go_wp2_with (fail)
  rw [EZ.out.1, EZ.out.2]
  clear EZ v1
  refine (sameI _ _ [-1] [-1] W8 Y_W8.out RZ.out).mono ?_
  rintro e w9 ⟨rfl, b⟩
  rw [decide_eq_true (Eq.refl ([-1] : List Int))]
  clear RZ
  clear KZ_W8 Y_W8 KV_W8
  have B_w9 : Hid (Below w.heap.size w w9) := belowCall B_W8.out b B_W8.out.size
  have G_w9 : Hid (HgV w9) := G_W8.out.below b
  have M_w9 : Hid (Rbk w9 (.slice a0 ts.length c0) (.slice a1 ls.length c1) (.slice a2 cs.length c2) ts ls cs) := M_W8.out.below b
  have KP_w9 : Hid (Blk w9 XP (B3 (.slice a0 ts.length c0) (.slice a1 ls.length c1) (.slice a2 cs.length c2)) 27) := KP_W8.out.below b KP_W8.out.lt
  have N_w9 : Hid (Rbk w9 (.slice d0 T.length e0) (.slice d1 L.length e1) (.slice d2 C.length e2) T L C) := N_W8.out.below b
  have H_w9 : Hid (Rd .i64 w9 (.slice d3 G.length e3) G) := H_W8.out.below b
  have KQ_w9 : Hid (Blk w9 XQ (B3 (.slice d0 T.length e0) (.slice d1 L.length e1) (.slice d2 C.length e2)) 27) := KQ_W8.out.below b KQ_W8.out.lt
  clear b B_W8 G_W8 M_W8 KP_W8 N_W8 H_W8 KQ_W8
  have p0 := KP_w9.out.cell 0
  have p1 := KP_w9.out.cell 1
  have p2 := KP_w9.out.cell 2
  simp at p0 p1 p2
  go_wp2_with (fail)
  refine (okM_c _ _ _ ts ls cs w9 M_w9.out).mono ?_
  rintro e wa ⟨rfl, b⟩
  clear p0 p1 p2
  have B_wa : Hid (Below w.heap.size w wa) := belowCall B_w9.out b B_w9.out.size
  have G_wa : Hid (HgV wa) := G_w9.out.below b
  have M_wa : Hid (Rbk wa (.slice a0 ts.length c0) (.slice a1 ls.length c1) (.slice a2 cs.length c2) ts ls cs) := M_w9.out.below b
  have KP_wa : Hid (Blk wa XP (B3 (.slice a0 ts.length c0) (.slice a1 ls.length c1) (.slice a2 cs.length c2)) 27) := KP_w9.out.below b KP_w9.out.lt
  have N_wa : Hid (Rbk wa (.slice d0 T.length e0) (.slice d1 L.length e1) (.slice d2 C.length e2) T L C) := N_w9.out.below b
  have H_wa : Hid (Rd .i64 wa (.slice d3 G.length e3) G) := H_w9.out.below b
  have KQ_wa : Hid (Blk wa XQ (B3 (.slice d0 T.length e0) (.slice d1 L.length e1) (.slice d2 C.length e2)) 27) := KQ_w9.out.below b KQ_w9.out.lt
  clear b B_w9 G_w9 M_w9 KP_w9 N_w9 H_w9 KQ_w9
  cases hbk : bkB ts ls cs with
  | false =>
    obtain ⟨e1, e2⟩ := HNO.out hbk
    subst e1 e2
    have q0 := KQ_wa.out.cell 0
    simp at q0
    go_wp2
    go_ret
    exact ⟨rfl, B_wa.out⟩
  | true =>
    obtain ⟨m1, m2, m3, m4, m5, m6, m7⟩ := HMD.out hbk
    obtain ⟨r1, r2, r3, r4⟩ := HR2.out hbk
    obtain ⟨s1, s2, s3, s4⟩ := rs_3 hbk
    have HM1 : Hid (faL T L C = []) := m1
    have HM2 : Hid (T.length + G.length = ts.length ∧ L.length = ls.length) := ⟨m2, m3⟩
    have HM4 : Hid (F = [] → G = []) := m4
    have HM5 : Hid (mbG T L C = [] ∧ mbL T L C = L ∧ mbC T L C = C) := ⟨m5, m6, m7⟩
    have HS2 : Hid (rsT ts ls cs 2 = T ∧ rsL ts ls cs 2 = L ∧ rsC ts ls cs 2 = C ∧ rsB ts ls cs 2 = true) := ⟨r1, r2, r3, r4⟩
    have HS3 : Hid (rsT ts ls cs 3 = [] ∧ rsL ts ls cs 3 = List.replicate ls.length (-1) ∧ rsC ts ls cs 3 = List.replicate cs.length (-1) ∧ rsB ts ls cs 3 = true) := ⟨s1, s2, s3, s4⟩
    clear m1 m2 m3 m4 m5 m6 m7 r1 r2 r3 r4 s1 s2 s3 s4 HNO HMD HR2
    have q0 := KQ_wa.out.cell 0
    have q1 := KQ_wa.out.cell 1
    have q2 := KQ_wa.out.cell 2
    simp at q0 q1 q2
    go_wp2_with (fail)
    refine (faultsI_c _ _ _ T L C wa G_wa.out N_wa.out).mono ?_
    rintro e wb ⟨xv, rfl, o, b⟩
    clear q0 q1 q2
    rw [HM1.out] at o
    obtain ⟨xa, xc, rfl⟩ := o.form
    clear o
    have B_wb : Hid (Below w.heap.size w wb) := belowCall B_wa.out b B_wa.out.size
    have G_wb : Hid (HgV wb) := G_wa.out.below b
    have M_wb : Hid (Rbk wb (.slice a0 ts.length c0) (.slice a1 ls.length c1) (.slice a2 cs.length c2) ts ls cs) := M_wa.out.below b
    have KP_wb : Hid (Blk wb XP (B3 (.slice a0 ts.length c0) (.slice a1 ls.length c1) (.slice a2 cs.length c2)) 27) := KP_wa.out.below b KP_wa.out.lt
    have N_wb : Hid (Rbk wb (.slice d0 T.length e0) (.slice d1 L.length e1) (.slice d2 C.length e2) T L C) := N_wa.out.below b
    have H_wb : Hid (Rd .i64 wb (.slice d3 G.length e3) G) := H_wa.out.below b
    have KQ_wb : Hid (Blk wb XQ (B3 (.slice d0 T.length e0) (.slice d1 L.length e1) (.slice d2 C.length e2)) 27) := KQ_wa.out.below b KQ_wa.out.lt
    clear b B_wa G_wa M_wa KP_wa N_wa H_wa KQ_wa
    have q0 := KQ_wb.out.cell 0
    have q1 := KQ_wb.out.cell 1
    have q2 := KQ_wb.out.cell 2
    simp at q0 q1 q2
    go_wp2_with (fail)
    refine (faultsM_c _ _ _ T L C wb N_wb.out).mono ?_
    rintro e wc ⟨yv, rfl, o, b⟩
    clear q0 q1 q2
    rw [HM1.out] at o
    obtain ⟨ya, yc, rfl⟩ := o.form
    clear o
    have B_wc : Hid (Below w.heap.size w wc) := belowCall B_wb.out b B_wb.out.size
    have G_wc : Hid (HgV wc) := G_wb.out.below b
    have M_wc : Hid (Rbk wc (.slice a0 ts.length c0) (.slice a1 ls.length c1) (.slice a2 cs.length c2) ts ls cs) := M_wb.out.below b
    have KP_wc : Hid (Blk wc XP (B3 (.slice a0 ts.length c0) (.slice a1 ls.length c1) (.slice a2 cs.length c2)) 27) := KP_wb.out.below b KP_wb.out.lt
    have N_wc : Hid (Rbk wc (.slice d0 T.length e0) (.slice d1 L.length e1) (.slice d2 C.length e2) T L C) := N_wb.out.below b
    have H_wc : Hid (Rd .i64 wc (.slice d3 G.length e3) G) := H_wb.out.below b
    have KQ_wc : Hid (Blk wc XQ (B3 (.slice d0 T.length e0) (.slice d1 L.length e1) (.slice d2 C.length e2)) 27) := KQ_wb.out.below b KQ_wb.out.lt
    clear b B_wb G_wb M_wb KP_wb N_wb H_wb KQ_wb
    have q0 := KQ_wc.out.cell 0
    have q1 := KQ_wc.out.cell 1
    simp at q0 q1
    have p0 := KP_wc.out.cell 0
    have p1 := KP_wc.out.cell 1
    have p2 := KP_wc.out.cell 2
    simp at p0 p1 p2
    have hw : wrap64 ((T.length : Int) + (G.length : Int)) = (ts.length : Int) := by have := HM2.out; have := HN.out; unfold wrap64; omega
    have hn1 : ((ts.length : Int) != (ts.length : Int)) = false := by simp
    have hn2 : ((L.length : Int) != (ls.length : Int)) = false := by rw [HM2.out.2]; simp
    go_wp2_with (fail)
    refine (HFM.out wc _ _ _ M_wc.out).mono ?_
    rintro e wd ⟨zv, rfl, o, b⟩
    clear q0 q1
    clear p0 p1 p2
    clear hw hn1 hn2
    obtain ⟨za, zc, rfl⟩ := o.form
    clear o
    have B_wd : Hid (Below w.heap.size w wd) := belowCall B_wc.out b B_wc.out.size
    have G_wd : Hid (HgV wd) := G_wc.out.below b
    have M_wd : Hid (Rbk wd (.slice a0 ts.length c0) (.slice a1 ls.length c1) (.slice a2 cs.length c2) ts ls cs) := M_wc.out.below b
    have KP_wd : Hid (Blk wd XP (B3 (.slice a0 ts.length c0) (.slice a1 ls.length c1) (.slice a2 cs.length c2)) 27) := KP_wc.out.below b KP_wc.out.lt
    have N_wd : Hid (Rbk wd (.slice d0 T.length e0) (.slice d1 L.length e1) (.slice d2 C.length e2) T L C) := N_wc.out.below b
    have H_wd : Hid (Rd .i64 wd (.slice d3 G.length e3) G) := H_wc.out.below b
    have KQ_wd : Hid (Blk wd XQ (B3 (.slice d0 T.length e0) (.slice d1 L.length e1) (.slice d2 C.length e2)) 27) := KQ_wc.out.below b KQ_wc.out.lt
    clear b B_wc G_wc M_wc KP_wc N_wc H_wc KQ_wc
    have hfg : (((F.length : Int) == 0) = false) ∨ (((F.length : Int) == 0) = true ∧ ((G.length : Int) != 0) = false) := by
      cases hF : F with
      | nil => exact .inr ⟨by simp, by rw [HM4.out hF]; simp⟩
      | cons x xs => exact .inl (by simp; omega)
    have q0 := KQ_wd.out.cell 0
    have q1 := KQ_wd.out.cell 1
    have q2 := KQ_wd.out.cell 2
    simp at q0 q1 q2
    rcases hfg with hfg | ⟨hfg, hgg⟩
    · go_upto_region 18 with fail
      clear hfg
      go_wp2_with (fail)
      refine (mendI_c _ _ _ T L C wd N_wd.out).mono ?_
      rintro e we ⟨pa, pl, pc, pg, rfl, o, og, -, -, -, b⟩
      clear q0 q1 q2
      have B_we : Hid (Below w.heap.size w we) := belowCall B_wd.out b B_wd.out.size
      have G_we : Hid (HgV we) := G_wd.out.below b
      have M_we : Hid (Rbk we (.slice a0 ts.length c0) (.slice a1 ls.length c1) (.slice a2 cs.length c2) ts ls cs) := M_wd.out.below b
      have KP_we : Hid (Blk we XP (B3 (.slice a0 ts.length c0) (.slice a1 ls.length c1) (.slice a2 cs.length c2)) 27) := KP_wd.out.below b KP_wd.out.lt
      have N_we : Hid (Rbk we (.slice d0 T.length e0) (.slice d1 L.length e1) (.slice d2 C.length e2) T L C) := N_wd.out.below b
      have H_we : Hid (Rd .i64 we (.slice d3 G.length e3) G) := H_wd.out.below b
      have KQ_we : Hid (Blk we XQ (B3 (.slice d0 T.length e0) (.slice d1 L.length e1) (.slice d2 C.length e2)) 27) := KQ_wd.out.below b KQ_wd.out.lt
      clear b B_wd G_wd M_wd KP_wd N_wd H_wd KQ_wd
      rw [HM5.out.1] at og
      rw [HM5.out.2.1, HM5.out.2.2] at o
      obtain ⟨j0, k0, rfl⟩ := o.1.form
      obtain ⟨j1, k1, rfl⟩ := o.2.1.form
      obtain ⟨j2, k2, rfl⟩ := o.2.2.1.form
      obtain ⟨j3, k3, rfl⟩ := og.form
      obtain ⟨pT, hpT⟩ : ∃ X, mbT T L C = X := ⟨_, rfl⟩
      rw [hpT] at o
      try rw [hpT]
      clear hpT
      have A_we : Hid (Rbk we (.slice j0 pT.length k0) (.slice j1 L.length k1) (.slice j2 C.length k2) pT L C) := o.rd
      clear o og
      obtain ⟨XA, hX⟩ : ∃ X, we.heap.size = X := ⟨_, rfl⟩
      obtain ⟨We, hW⟩ : ∃ W, we.alloc (Obj.cells (B3 (.slice j0 pT.length k0) (.slice j1 L.length k1) (.slice j2 C.length k2)) 27) = W := ⟨_, rfl⟩
      have b : Below we.heap.size we We := by rw [← hW]; exact (Below.refl _ _).alloc (Nat.le_refl _) _
      have KA_We : Hid (Blk We XA (B3 (.slice j0 pT.length k0) (.slice j1 L.length k1) (.slice j2 C.length k2)) 27) := by show Blk _ _ _ _; rw [← hW, ← hX]; exact Blk.new _ _ _
      have EA : Hid (we.alloc (Obj.cells (B3 (.slice j0 pT.length k0) (.slice j1 L.length k1) (.slice j2 C.length k2)) 27) = We ∧ we.heap.size = XA) := ⟨hW, hX⟩
      clear hW hX
      have B_We : Hid (Below w.heap.size w We) := belowCall B_we.out b B_we.out.size
      have G_We : Hid (HgV We) := G_we.out.below b
      have M_We : Hid (Rbk We (.slice a0 ts.length c0) (.slice a1 ls.length c1) (.slice a2 cs.length c2) ts ls cs) := M_we.out.below b
      have KP_We : Hid (Blk We XP (B3 (.slice a0 ts.length c0) (.slice a1 ls.length c1) (.slice a2 cs.length c2)) 27) := KP_we.out.below b KP_we.out.lt
      have N_We : Hid (Rbk We (.slice d0 T.length e0) (.slice d1 L.length e1) (.slice d2 C.length e2) T L C) := N_we.out.below b
      have H_We : Hid (Rd .i64 We (.slice d3 G.length e3) G) := H_we.out.below b
      have KQ_We : Hid (Blk We XQ (B3 (.slice d0 T.length e0) (.slice d1 L.length e1) (.slice d2 C.length e2)) 27) := KQ_we.out.below b KQ_we.out.lt
      have A_We : Hid (Rbk We (.slice j0 pT.length k0) (.slice j1 L.length k1) (.slice j2 C.length k2) pT L C) := A_we.out.below b
      clear b B_we G_we M_we KP_we N_we H_we KQ_we A_we
      go_upto_region 19 with fail
      rw [EA.out.1, EA.out.2]
      clear EA
      have p0 := KP_We.out.cell 0
      have p1 := KP_We.out.cell 1
      have p2 := KP_We.out.cell 2
      simp at p0 p1 p2
      go_wp2_with (fail)
      refine (restartI_c _ _ _ ts ls cs 2 We M_We.out).mono ?_
      rintro e wf ⟨qa, ql, qc, rfl, o, b⟩
      clear p0 p1 p2
      have B_wf : Hid (Below w.heap.size w wf) := belowCall B_We.out b B_We.out.size
      have G_wf : Hid (HgV wf) := G_We.out.below b
      have M_wf : Hid (Rbk wf (.slice a0 ts.length c0) (.slice a1 ls.length c1) (.slice a2 cs.length c2) ts ls cs) := M_We.out.below b
      have KP_wf : Hid (Blk wf XP (B3 (.slice a0 ts.length c0) (.slice a1 ls.length c1) (.slice a2 cs.length c2)) 27) := KP_We.out.below b KP_We.out.lt
      have N_wf : Hid (Rbk wf (.slice d0 T.length e0) (.slice d1 L.length e1) (.slice d2 C.length e2) T L C) := N_We.out.below b
      have H_wf : Hid (Rd .i64 wf (.slice d3 G.length e3) G) := H_We.out.below b
      have KQ_wf : Hid (Blk wf XQ (B3 (.slice d0 T.length e0) (.slice d1 L.length e1) (.slice d2 C.length e2)) 27) := KQ_We.out.below b KQ_We.out.lt
      have A_wf : Hid (Rbk wf (.slice j0 pT.length k0) (.slice j1 L.length k1) (.slice j2 C.length k2) pT L C) := A_We.out.below b
      have KA_wf : Hid (Blk wf XA (B3 (.slice j0 pT.length k0) (.slice j1 L.length k1) (.slice j2 C.length k2)) 27) := KA_We.out.below b KA_We.out.lt
      clear b B_We G_We M_We KP_We N_We H_We KQ_We A_We KA_We
      rw [HS2.out.1, HS2.out.2.1, HS2.out.2.2.1] at o
      rw [HS2.out.2.2.2]
      obtain ⟨l0, n0, rfl⟩ := o.1.form
      obtain ⟨l1, n1, rfl⟩ := o.2.1.form
      obtain ⟨l2, n2, rfl⟩ := o.2.2.1.form
      have C_wf : Hid (Rbk wf (.slice l0 T.length n0) (.slice l1 L.length n1) (.slice l2 C.length n2) T L C) := o.rd
      clear o
      obtain ⟨XC, hX⟩ : ∃ X, wf.heap.size = X := ⟨_, rfl⟩
      obtain ⟨Wf, hW⟩ : ∃ W, wf.alloc (Obj.cells (B3 (.slice l0 T.length n0) (.slice l1 L.length n1) (.slice l2 C.length n2)) 27) = W := ⟨_, rfl⟩
      have b : Below wf.heap.size wf Wf := by rw [← hW]; exact (Below.refl _ _).alloc (Nat.le_refl _) _
      have KC_Wf : Hid (Blk Wf XC (B3 (.slice l0 T.length n0) (.slice l1 L.length n1) (.slice l2 C.length n2)) 27) := by show Blk _ _ _ _; rw [← hW, ← hX]; exact Blk.new _ _ _
      have EC : Hid (wf.alloc (Obj.cells (B3 (.slice l0 T.length n0) (.slice l1 L.length n1) (.slice l2 C.length n2)) 27) = Wf ∧ wf.heap.size = XC) := ⟨hW, hX⟩
      clear hW hX
      have B_Wf : Hid (Below w.heap.size w Wf) := belowCall B_wf.out b B_wf.out.size
      have G_Wf : Hid (HgV Wf) := G_wf.out.below b
      have M_Wf : Hid (Rbk Wf (.slice a0 ts.length c0) (.slice a1 ls.length c1) (.slice a2 cs.length c2) ts ls cs) := M_wf.out.below b
      have KP_Wf : Hid (Blk Wf XP (B3 (.slice a0 ts.length c0) (.slice a1 ls.length c1) (.slice a2 cs.length c2)) 27) := KP_wf.out.below b KP_wf.out.lt
      have N_Wf : Hid (Rbk Wf (.slice d0 T.length e0) (.slice d1 L.length e1) (.slice d2 C.length e2) T L C) := N_wf.out.below b
      have H_Wf : Hid (Rd .i64 Wf (.slice d3 G.length e3) G) := H_wf.out.below b
      have KQ_Wf : Hid (Blk Wf XQ (B3 (.slice d0 T.length e0) (.slice d1 L.length e1) (.slice d2 C.length e2)) 27) := KQ_wf.out.below b KQ_wf.out.lt
      have A_Wf : Hid (Rbk Wf (.slice j0 pT.length k0) (.slice j1 L.length k1) (.slice j2 C.length k2) pT L C) := A_wf.out.below b
      have KA_Wf : Hid (Blk Wf XA (B3 (.slice j0 pT.length k0) (.slice j1 L.length k1) (.slice j2 C.length k2)) 27) := KA_wf.out.below b KA_wf.out.lt
      have C_Wf : Hid (Rbk Wf (.slice l0 T.length n0) (.slice l1 L.length n1) (.slice l2 C.length n2) T L C) := C_wf.out.below b
      clear b B_wf G_wf M_wf KP_wf N_wf H_wf KQ_wf A_wf KA_wf C_wf
      go_upto_region 20 with fail
      rw [EC.out.1, EC.out.2]
      clear EC
      have p0 := KP_Wf.out.cell 0
      have p1 := KP_Wf.out.cell 1
      have p2 := KP_Wf.out.cell 2
      simp at p0 p1 p2
      go_wp2_with (fail)
      refine (restartI_c _ _ _ ts ls cs 3 Wf M_Wf.out).mono ?_
      rintro e wg ⟨qa, ql, qc, rfl, o, b⟩
      clear p0 p1 p2
      have B_wg : Hid (Below w.heap.size w wg) := belowCall B_Wf.out b B_Wf.out.size
      have G_wg : Hid (HgV wg) := G_Wf.out.below b
      have M_wg : Hid (Rbk wg (.slice a0 ts.length c0) (.slice a1 ls.length c1) (.slice a2 cs.length c2) ts ls cs) := M_Wf.out.below b
      have KP_wg : Hid (Blk wg XP (B3 (.slice a0 ts.length c0) (.slice a1 ls.length c1) (.slice a2 cs.length c2)) 27) := KP_Wf.out.below b KP_Wf.out.lt
      have N_wg : Hid (Rbk wg (.slice d0 T.length e0) (.slice d1 L.length e1) (.slice d2 C.length e2) T L C) := N_Wf.out.below b
      have H_wg : Hid (Rd .i64 wg (.slice d3 G.length e3) G) := H_Wf.out.below b
      have KQ_wg : Hid (Blk wg XQ (B3 (.slice d0 T.length e0) (.slice d1 L.length e1) (.slice d2 C.length e2)) 27) := KQ_Wf.out.below b KQ_Wf.out.lt
      have A_wg : Hid (Rbk wg (.slice j0 pT.length k0) (.slice j1 L.length k1) (.slice j2 C.length k2) pT L C) := A_Wf.out.below b
      have KA_wg : Hid (Blk wg XA (B3 (.slice j0 pT.length k0) (.slice j1 L.length k1) (.slice j2 C.length k2)) 27) := KA_Wf.out.below b KA_Wf.out.lt
      have C_wg : Hid (Rbk wg (.slice l0 T.length n0) (.slice l1 L.length n1) (.slice l2 C.length n2) T L C) := C_Wf.out.below b
      have KC_wg : Hid (Blk wg XC (B3 (.slice l0 T.length n0) (.slice l1 L.length n1) (.slice l2 C.length n2)) 27) := KC_Wf.out.below b KC_Wf.out.lt
      clear b B_Wf G_Wf M_Wf KP_Wf N_Wf H_Wf KQ_Wf A_Wf KA_Wf C_Wf KC_Wf
      rw [HS3.out.1, HS3.out.2.1, HS3.out.2.2.1] at o
      rw [HS3.out.2.2.2]
      obtain ⟨q0, t0, rfl⟩ := o.1.form
      obtain ⟨q1, t1, rfl⟩ := o.2.1.form
      obtain ⟨q2, t2, rfl⟩ := o.2.2.1.form
      clear o
      simp only [List.length_replicate, List.length_nil]
      obtain ⟨XD, hX⟩ : ∃ X, wg.heap.size = X := ⟨_, rfl⟩
      obtain ⟨Wg, hW⟩ : ∃ W, wg.alloc (Obj.cells (B3 (.slice q0 0 t0) (.slice q1 ls.length t1) (.slice q2 cs.length t2)) 27) = W := ⟨_, rfl⟩
      have b : Below wg.heap.size wg Wg := by rw [← hW]; exact (Below.refl _ _).alloc (Nat.le_refl _) _
      have KD_Wg : Hid (Blk Wg XD (B3 (.slice q0 0 t0) (.slice q1 ls.length t1) (.slice q2 cs.length t2)) 27) := by show Blk _ _ _ _; rw [← hW, ← hX]; exact Blk.new _ _ _
      have ED : Hid (wg.alloc (Obj.cells (B3 (.slice q0 0 t0) (.slice q1 ls.length t1) (.slice q2 cs.length t2)) 27) = Wg ∧ wg.heap.size = XD) := ⟨hW, hX⟩
      clear hW hX
      have B_Wg : Hid (Below w.heap.size w Wg) := belowCall B_wg.out b B_wg.out.size
      have G_Wg : Hid (HgV Wg) := G_wg.out.below b
      have M_Wg : Hid (Rbk Wg (.slice a0 ts.length c0) (.slice a1 ls.length c1) (.slice a2 cs.length c2) ts ls cs) := M_wg.out.below b
      have KP_Wg : Hid (Blk Wg XP (B3 (.slice a0 ts.length c0) (.slice a1 ls.length c1) (.slice a2 cs.length c2)) 27) := KP_wg.out.below b KP_wg.out.lt
      have N_Wg : Hid (Rbk Wg (.slice d0 T.length e0) (.slice d1 L.length e1) (.slice d2 C.length e2) T L C) := N_wg.out.below b
      have H_Wg : Hid (Rd .i64 Wg (.slice d3 G.length e3) G) := H_wg.out.below b
      have KQ_Wg : Hid (Blk Wg XQ (B3 (.slice d0 T.length e0) (.slice d1 L.length e1) (.slice d2 C.length e2)) 27) := KQ_wg.out.below b KQ_wg.out.lt
      have A_Wg : Hid (Rbk Wg (.slice j0 pT.length k0) (.slice j1 L.length k1) (.slice j2 C.length k2) pT L C) := A_wg.out.below b
      have KA_Wg : Hid (Blk Wg XA (B3 (.slice j0 pT.length k0) (.slice j1 L.length k1) (.slice j2 C.length k2)) 27) := KA_wg.out.below b KA_wg.out.lt
      have C_Wg : Hid (Rbk Wg (.slice l0 T.length n0) (.slice l1 L.length n1) (.slice l2 C.length n2) T L C) := C_wg.out.below b
      have KC_Wg : Hid (Blk Wg XC (B3 (.slice l0 T.length n0) (.slice l1 L.length n1) (.slice l2 C.length n2)) 27) := KC_wg.out.below b KC_wg.out.lt
      clear b B_wg G_wg M_wg KP_wg N_wg H_wg KQ_wg A_wg KA_wg C_wg KC_wg
      go_upto_region 21 with fail
      rw [ED.out.1, ED.out.2]
      clear ED
      have q1 := KQ_Wg.out.cell 1
      simp at q1
      have a1 := KA_Wg.out.cell 1
      simp at a1
      go_wp2_with (fail)
      refine (sameI _ _ L L Wg A_Wg.out.2.1 N_Wg.out.2.1).mono ?_
      rintro e wh ⟨rfl, b⟩
      clear q1
      clear a1
      rw [decide_eq_true (Eq.refl L)]
      have B_wh : Hid (Below w.heap.size w wh) := belowCall B_Wg.out b B_Wg.out.size
      have G_wh : Hid (HgV wh) := G_Wg.out.below b
      have M_wh : Hid (Rbk wh (.slice a0 ts.length c0) (.slice a1 ls.length c1) (.slice a2 cs.length c2) ts ls cs) := M_Wg.out.below b
      have KP_wh : Hid (Blk wh XP (B3 (.slice a0 ts.length c0) (.slice a1 ls.length c1) (.slice a2 cs.length c2)) 27) := KP_Wg.out.below b KP_Wg.out.lt
      have N_wh : Hid (Rbk wh (.slice d0 T.length e0) (.slice d1 L.length e1) (.slice d2 C.length e2) T L C) := N_Wg.out.below b
      have H_wh : Hid (Rd .i64 wh (.slice d3 G.length e3) G) := H_Wg.out.below b
      have KQ_wh : Hid (Blk wh XQ (B3 (.slice d0 T.length e0) (.slice d1 L.length e1) (.slice d2 C.length e2)) 27) := KQ_Wg.out.below b KQ_Wg.out.lt
      have A_wh : Hid (Rbk wh (.slice j0 pT.length k0) (.slice j1 L.length k1) (.slice j2 C.length k2) pT L C) := A_Wg.out.below b
      have KA_wh : Hid (Blk wh XA (B3 (.slice j0 pT.length k0) (.slice j1 L.length k1) (.slice j2 C.length k2)) 27) := KA_Wg.out.below b KA_Wg.out.lt
      have C_wh : Hid (Rbk wh (.slice l0 T.length n0) (.slice l1 L.length n1) (.slice l2 C.length n2) T L C) := C_Wg.out.below b
      have KC_wh : Hid (Blk wh XC (B3 (.slice l0 T.length n0) (.slice l1 L.length n1) (.slice l2 C.length n2)) 27) := KC_Wg.out.below b KC_Wg.out.lt
      have KD_wh : Hid (Blk wh XD (B3 (.slice q0 0 t0) (.slice q1 ls.length t1) (.slice q2 cs.length t2)) 27) := KD_Wg.out.below b KD_Wg.out.lt
      clear b B_Wg G_Wg M_Wg KP_Wg N_Wg H_Wg KQ_Wg A_Wg KA_Wg C_Wg KC_Wg KD_Wg
      have q2 := KQ_wh.out.cell 2
      simp at q2
      have a2 := KA_wh.out.cell 2
      simp at a2
      go_wp2_with (fail)
      refine (sameI _ _ C C wh A_wh.out.2.2 N_wh.out.2.2).mono ?_
      rintro e wi ⟨rfl, b⟩
      clear q2
      clear a2
      rw [decide_eq_true (Eq.refl C)]
      have B_wi : Hid (Below w.heap.size w wi) := belowCall B_wh.out b B_wh.out.size
      have G_wi : Hid (HgV wi) := G_wh.out.below b
      have M_wi : Hid (Rbk wi (.slice a0 ts.length c0) (.slice a1 ls.length c1) (.slice a2 cs.length c2) ts ls cs) := M_wh.out.below b
      have KP_wi : Hid (Blk wi XP (B3 (.slice a0 ts.length c0) (.slice a1 ls.length c1) (.slice a2 cs.length c2)) 27) := KP_wh.out.below b KP_wh.out.lt
      have N_wi : Hid (Rbk wi (.slice d0 T.length e0) (.slice d1 L.length e1) (.slice d2 C.length e2) T L C) := N_wh.out.below b
      have H_wi : Hid (Rd .i64 wi (.slice d3 G.length e3) G) := H_wh.out.below b
      have KQ_wi : Hid (Blk wi XQ (B3 (.slice d0 T.length e0) (.slice d1 L.length e1) (.slice d2 C.length e2)) 27) := KQ_wh.out.below b KQ_wh.out.lt
      have A_wi : Hid (Rbk wi (.slice j0 pT.length k0) (.slice j1 L.length k1) (.slice j2 C.length k2) pT L C) := A_wh.out.below b
      have KA_wi : Hid (Blk wi XA (B3 (.slice j0 pT.length k0) (.slice j1 L.length k1) (.slice j2 C.length k2)) 27) := KA_wh.out.below b KA_wh.out.lt
      have C_wi : Hid (Rbk wi (.slice l0 T.length n0) (.slice l1 L.length n1) (.slice l2 C.length n2) T L C) := C_wh.out.below b
      have KC_wi : Hid (Blk wi XC (B3 (.slice l0 T.length n0) (.slice l1 L.length n1) (.slice l2 C.length n2)) 27) := KC_wh.out.below b KC_wh.out.lt
      have KD_wi : Hid (Blk wi XD (B3 (.slice q0 0 t0) (.slice q1 ls.length t1) (.slice q2 cs.length t2)) 27) := KD_wh.out.below b KD_wh.out.lt
      clear b B_wh G_wh M_wh KP_wh N_wh H_wh KQ_wh A_wh KA_wh C_wh KC_wh KD_wh
      have q1 := KQ_wi.out.cell 1
      simp at q1
      have c1 := KC_wi.out.cell 1
      simp at c1
      go_wp2_with (fail)
      refine (sameI _ _ L L wi C_wi.out.2.1 N_wi.out.2.1).mono ?_
      rintro e wj ⟨rfl, b⟩
      clear q1
      clear c1
      rw [decide_eq_true (Eq.refl L)]
      have B_wj : Hid (Below w.heap.size w wj) := belowCall B_wi.out b B_wi.out.size
      have G_wj : Hid (HgV wj) := G_wi.out.below b
      have M_wj : Hid (Rbk wj (.slice a0 ts.length c0) (.slice a1 ls.length c1) (.slice a2 cs.length c2) ts ls cs) := M_wi.out.below b
      have KP_wj : Hid (Blk wj XP (B3 (.slice a0 ts.length c0) (.slice a1 ls.length c1) (.slice a2 cs.length c2)) 27) := KP_wi.out.below b KP_wi.out.lt
      have N_wj : Hid (Rbk wj (.slice d0 T.length e0) (.slice d1 L.length e1) (.slice d2 C.length e2) T L C) := N_wi.out.below b
      have H_wj : Hid (Rd .i64 wj (.slice d3 G.length e3) G) := H_wi.out.below b
      have KQ_wj : Hid (Blk wj XQ (B3 (.slice d0 T.length e0) (.slice d1 L.length e1) (.slice d2 C.length e2)) 27) := KQ_wi.out.below b KQ_wi.out.lt
      have A_wj : Hid (Rbk wj (.slice j0 pT.length k0) (.slice j1 L.length k1) (.slice j2 C.length k2) pT L C) := A_wi.out.below b
      have KA_wj : Hid (Blk wj XA (B3 (.slice j0 pT.length k0) (.slice j1 L.length k1) (.slice j2 C.length k2)) 27) := KA_wi.out.below b KA_wi.out.lt
      have C_wj : Hid (Rbk wj (.slice l0 T.length n0) (.slice l1 L.length n1) (.slice l2 C.length n2) T L C) := C_wi.out.below b
      have KC_wj : Hid (Blk wj XC (B3 (.slice l0 T.length n0) (.slice l1 L.length n1) (.slice l2 C.length n2)) 27) := KC_wi.out.below b KC_wi.out.lt
      have KD_wj : Hid (Blk wj XD (B3 (.slice q0 0 t0) (.slice q1 ls.length t1) (.slice q2 cs.length t2)) 27) := KD_wi.out.below b KD_wi.out.lt
      clear b B_wi G_wi M_wi KP_wi N_wi H_wi KQ_wi A_wi KA_wi C_wi KC_wi KD_wi
      have d0 := KD_wj.out.cell 0
      have d1 := KD_wj.out.cell 1
      simp at d0 d1
      have p1 := KP_wj.out.cell 1
      simp at p1
      have hle : ((ls.length : Int) == (ls.length : Int)) = true := by simp
      go_wp2
      go_ret
      exact ⟨rfl, B_wj.out⟩
    · go_upto_region 18 with fail
      clear hfg hgg
      go_wp2_with (fail)
      refine (mendI_c _ _ _ T L C wd N_wd.out).mono ?_
      rintro e we ⟨pa, pl, pc, pg, rfl, o, og, -, -, -, b⟩
      clear q0 q1 q2
      have B_we : Hid (Below w.heap.size w we) := belowCall B_wd.out b B_wd.out.size
      have G_we : Hid (HgV we) := G_wd.out.below b
      have M_we : Hid (Rbk we (.slice a0 ts.length c0) (.slice a1 ls.length c1) (.slice a2 cs.length c2) ts ls cs) := M_wd.out.below b
      have KP_we : Hid (Blk we XP (B3 (.slice a0 ts.length c0) (.slice a1 ls.length c1) (.slice a2 cs.length c2)) 27) := KP_wd.out.below b KP_wd.out.lt
      have N_we : Hid (Rbk we (.slice d0 T.length e0) (.slice d1 L.length e1) (.slice d2 C.length e2) T L C) := N_wd.out.below b
      have H_we : Hid (Rd .i64 we (.slice d3 G.length e3) G) := H_wd.out.below b
      have KQ_we : Hid (Blk we XQ (B3 (.slice d0 T.length e0) (.slice d1 L.length e1) (.slice d2 C.length e2)) 27) := KQ_wd.out.below b KQ_wd.out.lt
      clear b B_wd G_wd M_wd KP_wd N_wd H_wd KQ_wd
      rw [HM5.out.1] at og
      rw [HM5.out.2.1, HM5.out.2.2] at o
      obtain ⟨j0, k0, rfl⟩ := o.1.form
      obtain ⟨j1, k1, rfl⟩ := o.2.1.form
      obtain ⟨j2, k2, rfl⟩ := o.2.2.1.form
      obtain ⟨j3, k3, rfl⟩ := og.form
      obtain ⟨pT, hpT⟩ : ∃ X, mbT T L C = X := ⟨_, rfl⟩
      rw [hpT] at o
      try rw [hpT]
      clear hpT
      have A_we : Hid (Rbk we (.slice j0 pT.length k0) (.slice j1 L.length k1) (.slice j2 C.length k2) pT L C) := o.rd
      clear o og
      obtain ⟨XA, hX⟩ : ∃ X, we.heap.size = X := ⟨_, rfl⟩
      obtain ⟨We, hW⟩ : ∃ W, we.alloc (Obj.cells (B3 (.slice j0 pT.length k0) (.slice j1 L.length k1) (.slice j2 C.length k2)) 27) = W := ⟨_, rfl⟩
      have b : Below we.heap.size we We := by rw [← hW]; exact (Below.refl _ _).alloc (Nat.le_refl _) _
      have KA_We : Hid (Blk We XA (B3 (.slice j0 pT.length k0) (.slice j1 L.length k1) (.slice j2 C.length k2)) 27) := by show Blk _ _ _ _; rw [← hW, ← hX]; exact Blk.new _ _ _
      have EA : Hid (we.alloc (Obj.cells (B3 (.slice j0 pT.length k0) (.slice j1 L.length k1) (.slice j2 C.length k2)) 27) = We ∧ we.heap.size = XA) := ⟨hW, hX⟩
      clear hW hX
      have B_We : Hid (Below w.heap.size w We) := belowCall B_we.out b B_we.out.size
      have G_We : Hid (HgV We) := G_we.out.below b
      have M_We : Hid (Rbk We (.slice a0 ts.length c0) (.slice a1 ls.length c1) (.slice a2 cs.length c2) ts ls cs) := M_we.out.below b
      have KP_We : Hid (Blk We XP (B3 (.slice a0 ts.length c0) (.slice a1 ls.length c1) (.slice a2 cs.length c2)) 27) := KP_we.out.below b KP_we.out.lt
      have N_We : Hid (Rbk We (.slice d0 T.length e0) (.slice d1 L.length e1) (.slice d2 C.length e2) T L C) := N_we.out.below b
      have H_We : Hid (Rd .i64 We (.slice d3 G.length e3) G) := H_we.out.below b
      have KQ_We : Hid (Blk We XQ (B3 (.slice d0 T.length e0) (.slice d1 L.length e1) (.slice d2 C.length e2)) 27) := KQ_we.out.below b KQ_we.out.lt
      have A_We : Hid (Rbk We (.slice j0 pT.length k0) (.slice j1 L.length k1) (.slice j2 C.length k2) pT L C) := A_we.out.below b
      clear b B_we G_we M_we KP_we N_we H_we KQ_we A_we
      go_upto_region 19 with fail
      rw [EA.out.1, EA.out.2]
      clear EA
      have p0 := KP_We.out.cell 0
      have p1 := KP_We.out.cell 1
      have p2 := KP_We.out.cell 2
      simp at p0 p1 p2
      go_wp2_with (fail)
      refine (restartI_c _ _ _ ts ls cs 2 We M_We.out).mono ?_
      rintro e wf ⟨qa, ql, qc, rfl, o, b⟩
      clear p0 p1 p2
      have B_wf : Hid (Below w.heap.size w wf) := belowCall B_We.out b B_We.out.size
      have G_wf : Hid (HgV wf) := G_We.out.below b
      have M_wf : Hid (Rbk wf (.slice a0 ts.length c0) (.slice a1 ls.length c1) (.slice a2 cs.length c2) ts ls cs) := M_We.out.below b
      have KP_wf : Hid (Blk wf XP (B3 (.slice a0 ts.length c0) (.slice a1 ls.length c1) (.slice a2 cs.length c2)) 27) := KP_We.out.below b KP_We.out.lt
      have N_wf : Hid (Rbk wf (.slice d0 T.length e0) (.slice d1 L.length e1) (.slice d2 C.length e2) T L C) := N_We.out.below b
      have H_wf : Hid (Rd .i64 wf (.slice d3 G.length e3) G) := H_We.out.below b
      have KQ_wf : Hid (Blk wf XQ (B3 (.slice d0 T.length e0) (.slice d1 L.length e1) (.slice d2 C.length e2)) 27) := KQ_We.out.below b KQ_We.out.lt
      have A_wf : Hid (Rbk wf (.slice j0 pT.length k0) (.slice j1 L.length k1) (.slice j2 C.length k2) pT L C) := A_We.out.below b
      have KA_wf : Hid (Blk wf XA (B3 (.slice j0 pT.length k0) (.slice j1 L.length k1) (.slice j2 C.length k2)) 27) := KA_We.out.below b KA_We.out.lt
      clear b B_We G_We M_We KP_We N_We H_We KQ_We A_We KA_We
      rw [HS2.out.1, HS2.out.2.1, HS2.out.2.2.1] at o
      rw [HS2.out.2.2.2]
      obtain ⟨l0, n0, rfl⟩ := o.1.form
      obtain ⟨l1, n1, rfl⟩ := o.2.1.form
      obtain ⟨l2, n2, rfl⟩ := o.2.2.1.form
      have C_wf : Hid (Rbk wf (.slice l0 T.length n0) (.slice l1 L.length n1) (.slice l2 C.length n2) T L C) := o.rd
      clear o
      obtain ⟨XC, hX⟩ : ∃ X, wf.heap.size = X := ⟨_, rfl⟩
      obtain ⟨Wf, hW⟩ : ∃ W, wf.alloc (Obj.cells (B3 (.slice l0 T.length n0) (.slice l1 L.length n1) (.slice l2 C.length n2)) 27) = W := ⟨_, rfl⟩
      have b : Below wf.heap.size wf Wf := by rw [← hW]; exact (Below.refl _ _).alloc (Nat.le_refl _) _
      have KC_Wf : Hid (Blk Wf XC (B3 (.slice l0 T.length n0) (.slice l1 L.length n1) (.slice l2 C.length n2)) 27) := by show Blk _ _ _ _; rw [← hW, ← hX]; exact Blk.new _ _ _
      have EC : Hid (wf.alloc (Obj.cells (B3 (.slice l0 T.length n0) (.slice l1 L.length n1) (.slice l2 C.length n2)) 27) = Wf ∧ wf.heap.size = XC) := ⟨hW, hX⟩
      clear hW hX
      have B_Wf : Hid (Below w.heap.size w Wf) := belowCall B_wf.out b B_wf.out.size
      have G_Wf : Hid (HgV Wf) := G_wf.out.below b
      have M_Wf : Hid (Rbk Wf (.slice a0 ts.length c0) (.slice a1 ls.length c1) (.slice a2 cs.length c2) ts ls cs) := M_wf.out.below b
      have KP_Wf : Hid (Blk Wf XP (B3 (.slice a0 ts.length c0) (.slice a1 ls.length c1) (.slice a2 cs.length c2)) 27) := KP_wf.out.below b KP_wf.out.lt
      have N_Wf : Hid (Rbk Wf (.slice d0 T.length e0) (.slice d1 L.length e1) (.slice d2 C.length e2) T L C) := N_wf.out.below b
      have H_Wf : Hid (Rd .i64 Wf (.slice d3 G.length e3) G) := H_wf.out.below b
      have KQ_Wf : Hid (Blk Wf XQ (B3 (.slice d0 T.length e0) (.slice d1 L.length e1) (.slice d2 C.length e2)) 27) := KQ_wf.out.below b KQ_wf.out.lt
      have A_Wf : Hid (Rbk Wf (.slice j0 pT.length k0) (.slice j1 L.length k1) (.slice j2 C.length k2) pT L C) := A_wf.out.below b
      have KA_Wf : Hid (Blk Wf XA (B3 (.slice j0 pT.length k0) (.slice j1 L.length k1) (.slice j2 C.length k2)) 27) := KA_wf.out.below b KA_wf.out.lt
      have C_Wf : Hid (Rbk Wf (.slice l0 T.length n0) (.slice l1 L.length n1) (.slice l2 C.length n2) T L C) := C_wf.out.below b
      clear b B_wf G_wf M_wf KP_wf N_wf H_wf KQ_wf A_wf KA_wf C_wf
      go_upto_region 20 with fail
      rw [EC.out.1, EC.out.2]
      clear EC
      have p0 := KP_Wf.out.cell 0
      have p1 := KP_Wf.out.cell 1
      have p2 := KP_Wf.out.cell 2
      simp at p0 p1 p2
      go_wp2_with (fail)
      refine (restartI_c _ _ _ ts ls cs 3 Wf M_Wf.out).mono ?_
      rintro e wg ⟨qa, ql, qc, rfl, o, b⟩
      clear p0 p1 p2
      have B_wg : Hid (Below w.heap.size w wg) := belowCall B_Wf.out b B_Wf.out.size
      have G_wg : Hid (HgV wg) := G_Wf.out.below b
      have M_wg : Hid (Rbk wg (.slice a0 ts.length c0) (.slice a1 ls.length c1) (.slice a2 cs.length c2) ts ls cs) := M_Wf.out.below b
      have KP_wg : Hid (Blk wg XP (B3 (.slice a0 ts.length c0) (.slice a1 ls.length c1) (.slice a2 cs.length c2)) 27) := KP_Wf.out.below b KP_Wf.out.lt
      have N_wg : Hid (Rbk wg (.slice d0 T.length e0) (.slice d1 L.length e1) (.slice d2 C.length e2) T L C) := N_Wf.out.below b
      have H_wg : Hid (Rd .i64 wg (.slice d3 G.length e3) G) := H_Wf.out.below b
      have KQ_wg : Hid (Blk wg XQ (B3 (.slice d0 T.length e0) (.slice d1 L.length e1) (.slice d2 C.length e2)) 27) := KQ_Wf.out.below b KQ_Wf.out.lt
      have A_wg : Hid (Rbk wg (.slice j0 pT.length k0) (.slice j1 L.length k1) (.slice j2 C.length k2) pT L C) := A_Wf.out.below b
      have KA_wg : Hid (Blk wg XA (B3 (.slice j0 pT.length k0) (.slice j1 L.length k1) (.slice j2 C.length k2)) 27) := KA_Wf.out.below b KA_Wf.out.lt
      have C_wg : Hid (Rbk wg (.slice l0 T.length n0) (.slice l1 L.length n1) (.slice l2 C.length n2) T L C) := C_Wf.out.below b
      have KC_wg : Hid (Blk wg XC (B3 (.slice l0 T.length n0) (.slice l1 L.length n1) (.slice l2 C.length n2)) 27) := KC_Wf.out.below b KC_Wf.out.lt
      clear b B_Wf G_Wf M_Wf KP_Wf N_Wf H_Wf KQ_Wf A_Wf KA_Wf C_Wf KC_Wf
      rw [HS3.out.1, HS3.out.2.1, HS3.out.2.2.1] at o
      rw [HS3.out.2.2.2]
      obtain ⟨q0, t0, rfl⟩ := o.1.form
      obtain ⟨q1, t1, rfl⟩ := o.2.1.form
      obtain ⟨q2, t2, rfl⟩ := o.2.2.1.form
      clear o
      simp only [List.length_replicate, List.length_nil]
      obtain ⟨XD, hX⟩ : ∃ X, wg.heap.size = X := ⟨_, rfl⟩
      obtain ⟨Wg, hW⟩ : ∃ W, wg.alloc (Obj.cells (B3 (.slice q0 0 t0) (.slice q1 ls.length t1) (.slice q2 cs.length t2)) 27) = W := ⟨_, rfl⟩
      have b : Below wg.heap.size wg Wg := by rw [← hW]; exact (Below.refl _ _).alloc (Nat.le_refl _) _
      have KD_Wg : Hid (Blk Wg XD (B3 (.slice q0 0 t0) (.slice q1 ls.length t1) (.slice q2 cs.length t2)) 27) := by show Blk _ _ _ _; rw [← hW, ← hX]; exact Blk.new _ _ _
      have ED : Hid (wg.alloc (Obj.cells (B3 (.slice q0 0 t0) (.slice q1 ls.length t1) (.slice q2 cs.length t2)) 27) = Wg ∧ wg.heap.size = XD) := ⟨hW, hX⟩
      clear hW hX
      have B_Wg : Hid (Below w.heap.size w Wg) := belowCall B_wg.out b B_wg.out.size
      have G_Wg : Hid (HgV Wg) := G_wg.out.below b
      have M_Wg : Hid (Rbk Wg (.slice a0 ts.length c0) (.slice a1 ls.length c1) (.slice a2 cs.length c2) ts ls cs) := M_wg.out.below b
      have KP_Wg : Hid (Blk Wg XP (B3 (.slice a0 ts.length c0) (.slice a1 ls.length c1) (.slice a2 cs.length c2)) 27) := KP_wg.out.below b KP_wg.out.lt
      have N_Wg : Hid (Rbk Wg (.slice d0 T.length e0) (.slice d1 L.length e1) (.slice d2 C.length e2) T L C) := N_wg.out.below b
      have H_Wg : Hid (Rd .i64 Wg (.slice d3 G.length e3) G) := H_wg.out.below b
      have KQ_Wg : Hid (Blk Wg XQ (B3 (.slice d0 T.length e0) (.slice d1 L.length e1) (.slice d2 C.length e2)) 27) := KQ_wg.out.below b KQ_wg.out.lt
      have A_Wg : Hid (Rbk Wg (.slice j0 pT.length k0) (.slice j1 L.length k1) (.slice j2 C.length k2) pT L C) := A_wg.out.below b
      have KA_Wg : Hid (Blk Wg XA (B3 (.slice j0 pT.length k0) (.slice j1 L.length k1) (.slice j2 C.length k2)) 27) := KA_wg.out.below b KA_wg.out.lt
      have C_Wg : Hid (Rbk Wg (.slice l0 T.length n0) (.slice l1 L.length n1) (.slice l2 C.length n2) T L C) := C_wg.out.below b
      have KC_Wg : Hid (Blk Wg XC (B3 (.slice l0 T.length n0) (.slice l1 L.length n1) (.slice l2 C.length n2)) 27) := KC_wg.out.below b KC_wg.out.lt
      clear b B_wg G_wg M_wg KP_wg N_wg H_wg KQ_wg A_wg KA_wg C_wg KC_wg
      go_upto_region 21 with fail
      rw [ED.out.1, ED.out.2]
      clear ED
      have q1 := KQ_Wg.out.cell 1
      simp at q1
      have a1 := KA_Wg.out.cell 1
      simp at a1
      go_wp2_with (fail)
      refine (sameI _ _ L L Wg A_Wg.out.2.1 N_Wg.out.2.1).mono ?_
      rintro e wh ⟨rfl, b⟩
      clear q1
      clear a1
      rw [decide_eq_true (Eq.refl L)]
      have B_wh : Hid (Below w.heap.size w wh) := belowCall B_Wg.out b B_Wg.out.size
      have G_wh : Hid (HgV wh) := G_Wg.out.below b
      have M_wh : Hid (Rbk wh (.slice a0 ts.length c0) (.slice a1 ls.length c1) (.slice a2 cs.length c2) ts ls cs) := M_Wg.out.below b
      have KP_wh : Hid (Blk wh XP (B3 (.slice a0 ts.length c0) (.slice a1 ls.length c1) (.slice a2 cs.length c2)) 27) := KP_Wg.out.below b KP_Wg.out.lt
      have N_wh : Hid (Rbk wh (.slice d0 T.length e0) (.slice d1 L.length e1) (.slice d2 C.length e2) T L C) := N_Wg.out.below b
      have H_wh : Hid (Rd .i64 wh (.slice d3 G.length e3) G) := H_Wg.out.below b
      have KQ_wh : Hid (Blk wh XQ (B3 (.slice d0 T.length e0) (.slice d1 L.length e1) (.slice d2 C.length e2)) 27) := KQ_Wg.out.below b KQ_Wg.out.lt
      have A_wh : Hid (Rbk wh (.slice j0 pT.length k0) (.slice j1 L.length k1) (.slice j2 C.length k2) pT L C) := A_Wg.out.below b
      have KA_wh : Hid (Blk wh XA (B3 (.slice j0 pT.length k0) (.slice j1 L.length k1) (.slice j2 C.length k2)) 27) := KA_Wg.out.below b KA_Wg.out.lt
      have C_wh : Hid (Rbk wh (.slice l0 T.length n0) (.slice l1 L.length n1) (.slice l2 C.length n2) T L C) := C_Wg.out.below b
      have KC_wh : Hid (Blk wh XC (B3 (.slice l0 T.length n0) (.slice l1 L.length n1) (.slice l2 C.length n2)) 27) := KC_Wg.out.below b KC_Wg.out.lt
      have KD_wh : Hid (Blk wh XD (B3 (.slice q0 0 t0) (.slice q1 ls.length t1) (.slice q2 cs.length t2)) 27) := KD_Wg.out.below b KD_Wg.out.lt
      clear b B_Wg G_Wg M_Wg KP_Wg N_Wg H_Wg KQ_Wg A_Wg KA_Wg C_Wg KC_Wg KD_Wg
      have q2 := KQ_wh.out.cell 2
      simp at q2
      have a2 := KA_wh.out.cell 2
      simp at a2
      go_wp2_with (fail)
      refine (sameI _ _ C C wh A_wh.out.2.2 N_wh.out.2.2).mono ?_
      rintro e wi ⟨rfl, b⟩
      clear q2
      clear a2
      rw [decide_eq_true (Eq.refl C)]
      have B_wi : Hid (Below w.heap.size w wi) := belowCall B_wh.out b B_wh.out.size
      have G_wi : Hid (HgV wi) := G_wh.out.below b
      have M_wi : Hid (Rbk wi (.slice a0 ts.length c0) (.slice a1 ls.length c1) (.slice a2 cs.length c2) ts ls cs) := M_wh.out.below b
      have KP_wi : Hid (Blk wi XP (B3 (.slice a0 ts.length c0) (.slice a1 ls.length c1) (.slice a2 cs.length c2)) 27) := KP_wh.out.below b KP_wh.out.lt
      have N_wi : Hid (Rbk wi (.slice d0 T.length e0) (.slice d1 L.length e1) (.slice d2 C.length e2) T L C) := N_wh.out.below b
      have H_wi : Hid (Rd .i64 wi (.slice d3 G.length e3) G) := H_wh.out.below b
      have KQ_wi : Hid (Blk wi XQ (B3 (.slice d0 T.length e0) (.slice d1 L.length e1) (.slice d2 C.length e2)) 27) := KQ_wh.out.below b KQ_wh.out.lt
      have A_wi : Hid (Rbk wi (.slice j0 pT.length k0) (.slice j1 L.length k1) (.slice j2 C.length k2) pT L C) := A_wh.out.below b
      have KA_wi : Hid (Blk wi XA (B3 (.slice j0 pT.length k0) (.slice j1 L.length k1) (.slice j2 C.length k2)) 27) := KA_wh.out.below b KA_wh.out.lt
      have C_wi : Hid (Rbk wi (.slice l0 T.length n0) (.slice l1 L.length n1) (.slice l2 C.length n2) T L C) := C_wh.out.below b
      have KC_wi : Hid (Blk wi XC (B3 (.slice l0 T.length n0) (.slice l1 L.length n1) (.slice l2 C.length n2)) 27) := KC_wh.out.below b KC_wh.out.lt
      have KD_wi : Hid (Blk wi XD (B3 (.slice q0 0 t0) (.slice q1 ls.length t1) (.slice q2 cs.length t2)) 27) := KD_wh.out.below b KD_wh.out.lt
      clear b B_wh G_wh M_wh KP_wh N_wh H_wh KQ_wh A_wh KA_wh C_wh KC_wh KD_wh
      have q1 := KQ_wi.out.cell 1
      simp at q1
      have c1 := KC_wi.out.cell 1
      simp at c1
      go_wp2_with (fail)
      refine (sameI _ _ L L wi C_wi.out.2.1 N_wi.out.2.1).mono ?_
      rintro e wj ⟨rfl, b⟩
      clear q1
      clear c1
      rw [decide_eq_true (Eq.refl L)]
      have B_wj : Hid (Below w.heap.size w wj) := belowCall B_wi.out b B_wi.out.size
      have G_wj : Hid (HgV wj) := G_wi.out.below b
      have M_wj : Hid (Rbk wj (.slice a0 ts.length c0) (.slice a1 ls.length c1) (.slice a2 cs.length c2) ts ls cs) := M_wi.out.below b
      have KP_wj : Hid (Blk wj XP (B3 (.slice a0 ts.length c0) (.slice a1 ls.length c1) (.slice a2 cs.length c2)) 27) := KP_wi.out.below b KP_wi.out.lt
      have N_wj : Hid (Rbk wj (.slice d0 T.length e0) (.slice d1 L.length e1) (.slice d2 C.length e2) T L C) := N_wi.out.below b
      have H_wj : Hid (Rd .i64 wj (.slice d3 G.length e3) G) := H_wi.out.below b
      have KQ_wj : Hid (Blk wj XQ (B3 (.slice d0 T.length e0) (.slice d1 L.length e1) (.slice d2 C.length e2)) 27) := KQ_wi.out.below b KQ_wi.out.lt
      have A_wj : Hid (Rbk wj (.slice j0 pT.length k0) (.slice j1 L.length k1) (.slice j2 C.length k2) pT L C) := A_wi.out.below b
      have KA_wj : Hid (Blk wj XA (B3 (.slice j0 pT.length k0) (.slice j1 L.length k1) (.slice j2 C.length k2)) 27) := KA_wi.out.below b KA_wi.out.lt
      have C_wj : Hid (Rbk wj (.slice l0 T.length n0) (.slice l1 L.length n1) (.slice l2 C.length n2) T L C) := C_wi.out.below b
      have KC_wj : Hid (Blk wj XC (B3 (.slice l0 T.length n0) (.slice l1 L.length n1) (.slice l2 C.length n2)) 27) := KC_wi.out.below b KC_wi.out.lt
      have KD_wj : Hid (Blk wj XD (B3 (.slice q0 0 t0) (.slice q1 ls.length t1) (.slice q2 cs.length t2)) 27) := KD_wi.out.below b KD_wi.out.lt
      clear b B_wi G_wi M_wi KP_wi N_wi H_wi KQ_wi A_wi KA_wi C_wi KC_wi KD_wi
      have d0 := KD_wj.out.cell 0
      have d1 := KD_wj.out.cell 1
      simp at d0 d1
      have p1 := KP_wj.out.cell 1
      simp at p1
      have hle : ((ls.length : Int) == (ls.length : Int)) = true := by simp
      go_wp2
      go_ret
      exact ⟨rfl, B_wj.out⟩

end Go.Proofs.YtmfmlbiplagmiaaDoor
namespace Go.Proofs.YtmfmlbiplagmiaaDoor
open Go.RowKit Go.ChangeShapes Go.WideShapes Go.ChangeAt
set_option linter.unusedVariables false
set_option linter.unusedSimpArgs false
set_option maxRecDepth 8000
set_option maxRecDepth 100000 in
theorem lifted3 (os : Os) (started : os.Started) (H : Type) (enc : TypeId × Value → H) :
    ReturnsInHanded {} Tryd.checked os 3 .any (fun w args => (Rows.fnMendedBookSpec.pre enc Tryd.prog Tryd.f3 [] false w args ∧ laidMetH Tryd.prog laidE w) ∧ sizedMet enc Tryd.prog Tryd.f3 (OpenSpec.ofChange Rows.fnMendedBookSpec) false w args)
      (Rows.fnMendedBookSpec.post enc Tryd.prog Tryd.f3 false true false false) := by
  refine returnsInHanded_of_change_and (C := Tryd.checked) (X := fun w _ => laidMetH Tryd.prog laidE w) (fun _ _ _ hh h => h.of_heap hh) own started (by kernel_rfl) Tryd.func3
    (ChangeSpec.witness_at (enc := enc) (C := Tryd.checked) (os := os) (X := fun w _ => laidMetH Tryd.prog laidE w) false (laidWorld os) #[.slice none 0 0] 8 rfl (by kernel_rfl) (by kernel_rfl) (by kernel_rfl) (by kernel_rfl) (by kernel_rfl) (laidWorld_met os _)) ?_
  intro W base args ds gs before hval0 hW _ _ hL _
  have hval : ∀ (j : Nat) t v, Tryd.f3.params[j]? = some t → args[j]? = some v → Value.okWide Tryd.prog W .any base t v := hval0
  have hW' := hW
  obtain ⟨p, q, hA0, hV0, rfl, hfz, hnd⟩ := hW
  have hA : DataW.TrodAll enc Tryd.prog W 0 (fun _ => true) true Tryd.f3.params.toList args.toList ds p := hA0
  have hV : DataW.TrodVars enc Tryd.prog W (fun _ => true) [] gs q := hV0
  rw [Tryd.params3] at hA hval
  obtain ⟨v0, vs0, d0, ds0, p0, q0, hargs, rfl, rfl, h0, rr0⟩ := trodAll_cons hA
  obtain ⟨rfl, rfl, rfl⟩ := trodAll_nil rr0
  obtain rfl : args = #[v0] := by cases args; simp_all
  obtain ⟨rfl, rfl⟩ : gs = [] ∧ q = [] := by
    cases gs with
    | nil => exact ⟨rfl, hV⟩
    | cons g r => exact absurd hV (by intro h; cases h)
  have lt0 : ∀ x ∈ p0, x.block < W.heap.size := by obtain ⟨m, hm⟩ := h0; exact DataW.trod_lt m _ _ _ hm
  obtain ⟨a0, len0, cap0, rfl⟩ := okWide_slice Tryd.underlying22 (hval 0 22 v0 rfl rfl)
  obtain ⟨z0, r0, wz0⟩ := openRow Tryd.underlying22 Tryd.underlying5 (by kernel_rfl) h0
  clear hA0 hval0 hV0
  refine (mendLaw _ z0 W r0 (fun z hm => bounds_u8 (wz0 z hm)) (hg_of hL)).mono fun e W' ⟨he, bel⟩ => ?_
  subst he
  exact ⟨_, rfl, _, _, _, [], _, [], hW', trodAll_mk1 (shut_bool Tryd.underlying4 _), (trodAll_cons_mk (Below.trod laidOut (by kernel_rfl) (of_decide_eq_true (by kernel_rfl)) h0 bel lt0) trodAll_mk0), rfl, bel.frame _, fun h => by cases h⟩
theorem mendedRow : Rows.FnMendedBookSaid :=
  OpenClaim.holds_of_wide 3 Tryd.f3 rfl rfl rfl rfl rfl rfl rfl ⟨rfl, rfl, rfl, rfl, rfl⟩ rfl rfl rfl rfl rfl (by kernel_rfl) Tryd.func3 (by kernel_rfl)
    (of_decide_eq_true (by kernel_rfl)) (by unfold Func.isWrapper; first | (rw [if_pos (by decide +kernel)]; kernel_rfl) | (rw [if_neg (by decide +kernel)]; exact ⟨rfl, rfl⟩))
    (fun os started H enc _ => lifted3 os started H enc)
theorem mendedProved : Rows.FnMendedBookCardSaid :=
  Claim7.holds_tied_plain_at .later [] [.handle] true (true, "252f7bd03114de26a9c54d2c91626c42b6000b08de9dc9cb27eec05835515bc1") true
    mendedRow (fun _ h => by cases h) (by kernel_rfl) (fun _ h => by cases h) fnMendedBook_row_tie rfl ⟨rfl, rfl⟩ (by kernel_rfl) rfl
    (fun f fn hf hfn => by
      obtain rfl : f = 3 := Option.some.inj ((show Tryd.prog.funcNamed "loop.example/g00052/laws.FnMendedBook" = some 3 by kernel_rfl).symm.trans hf) |>.symm
      obtain rfl : fn = Tryd.f3 := (Option.some.inj (Tryd.func3.symm.trans hfn)).symm
      exact ⟨by kernel_rfl, fun j t ht => by
        rw [Tryd.params3] at ht
        have hm : t ∈ [22] := by simpa using Array.mem_of_getElem? ht
        have hall : ([22].all fun u => !Tryd.prog.wantsStandIn u) = true := by kernel_rfl
        exact (show Tryd.prog.wantsStandIn t = false by simpa using List.all_eq_true.1 hall t hm)⟩)
    (by kernel_rfl)
#print axioms mendedProved
end Go.Proofs.YtmfmlbiplagmiaaDoor

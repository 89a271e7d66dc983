/- FnBooked returns true at all bytes, and leaves them as they were; no condition but that the library's variable is as the program's text lays it, which the card ties. -/
import Derived.Test.YtmfmlbiplagmiaaDoorIvs
import Derived.Test.YtmfmlbiplagmiaaDoorDta
import Derived.Test.YtmfmlbiplagmiaaDoorAdi
import Derived.Test.YtmfmlbiplagmiaaDoorAdm
import Derived.Test.YtmfmlbiplagmiaaDoorFan
import Derived.Test.YtmfmlbiplagmiaaDoorFai
import Derived.Test.YtmfmlbiplagmiaaDoorRst
import Derived.Test.YtmfmlbiplagmiaaDoorOpen
import Derived.Test.YtmfmlbiplagmiaaDoorHnd
import Derived.Test.YtmfmlbiplagmiaaDoorCards
import Derived.Test.YtmfmlbiplagmiaaDoorTie
import Derived.SevenTiedAt
namespace Go.Proofs.YtmfmlbiplagmiaaDoor
open Go.RowKit Go.ChangeShapes Go.WideShapes Go.ChangeAt
set_option linter.unusedVariables false
set_option linter.unusedSimpArgs false
set_option maxRecDepth 8000

set_option maxHeartbeats 800000 in
theorem sameI (v v' : Value) (xs ys : List Int) (w : World) (h : Rd .i64 w v xs) (h' : Rd .i64 w v' ys) :
   Calls Tryd.prog 12 #[v, v'] w fun e w' => e = .returned (.bool (decide (xs = ys))) ∧ Below w.heap.size w w' := by
  obtain ⟨a, cap, rfl, h1, h2, h3⟩ := h
  obtain ⟨a', cap', rfl, h1', h2', h3'⟩ := h'
  unfold maxLen at h2 h2'
  by_cases hne : xs.length = ys.length
  · have hneb : ((xs.length : Int) != (ys.length : Int)) = false := by simp [hne]
    go_enter Tryd.func12, Tryd.ntmps12
    go_wp2
    go_loopw [5] (fun i wr => ∃ j : Nat, j ≤ xs.length ∧ i = .int .i64 j ∧ Hid (∀ t, t < j → xs.getD t 0 = ys.getD t 0) ∧ Below w.heap.size w wr) (fun i _ => xs.length - (intOf i).toNat)
    case atStart => exact ⟨0, Nat.zero_le _, rfl, fun t ht => by omega, Below.refl _ _⟩
    case round =>
      obtain ⟨j, hj, rfl, hall, hbr⟩ := hrel
      by_cases hlt : j < xs.length
      · rcases h3 with h3 | ⟨b, off, rfl, h4⟩
        · subst h3; simp at hlt
        rcases h3' with h3' | ⟨b', off', rfl, h4'⟩
        · subst h3'; simp at hne; subst hne; simp at hlt
        have hc : wr.cell? ⟨b, off + j, none⟩ = some (.int .i64 (xs.getD j 0)) := by
          have := h4 j hlt
          rw [hbr.cell (block_lt_of_cell this)]; exact this
        have hc' : wr.cell? ⟨b', off' + j, none⟩ = some (.int .i64 (ys.getD j 0)) := by
          have := h4' j (by omega)
          rw [hbr.cell (block_lt_of_cell this)]; exact this
        have hi : (0 : Int) ≤ (j : Int) := by omega
        have hi2 : (j : Int) < (xs.length : Int) := by omega
        have hi3 : (j : Int) < (ys.length : Int) := by omega
        have hjy : j < ys.length := by omega
        have HN : Hid (xs.length = ys.length) := hne
        clear h4 h4' hne
        go_wp2
        go_quiet (fail)
        go_wp2
        · have hn : (xs[j] != ys[j]) = true := by assumption
          have hab : decide (xs = ys) = false := by
            simp only [decide_eq_false_iff_not]
            intro h; subst h; simp at hn
          go_ret
          exact ⟨by rw [hab]; rfl, below_drewN hbr _⟩
        · have he : (xs[j] != ys[j]) = false := by assumption
          go_roundw
          case rel =>
            refine ⟨j + 1, by omega, by go_num, fun t ht => ?_, below_drewN hbr _⟩
            by_cases hjk : t < j
            · exact hall.out t hjk
            · obtain rfl : t = j := by omega
              simpa [List.getElem?_eq_getElem hlt, List.getElem?_eq_getElem hjy] using he
          case measure => simp [intOf]; omega
      · obtain rfl : j = xs.length := by omega
        have hab : decide (xs = ys) = true := by simp only [decide_eq_true_eq]; exact ext_getD hne hall.out
        have HN : Hid (xs.length = ys.length) := hne
        clear h3 h3' hne
        go_wp2
        go_ret
        exact ⟨by rw [hab]; rfl, hbr⟩
  · have hneb : ((xs.length : Int) != (ys.length : Int)) = true := by rw [bne_iff_ne]; omega
    have hab : decide (xs = ys) = false := by
      simp only [decide_eq_false_iff_not]
      intro h; subst h; exact hne rfl
    have HN : Hid (¬ xs.length = ys.length) := hne
    clear hne h3 h3'
    go_enter Tryd.func12, Tryd.ntmps12
    go_wp2
    go_ret
    exact ⟨by rw [hab]; rfl, Below.refl _ _⟩

end Go.Proofs.YtmfmlbiplagmiaaDoor
namespace Go.Proofs.YtmfmlbiplagmiaaDoor
open Go.RowKit Go.ChangeShapes Go.WideShapes Go.ChangeAt
set_option linter.unusedVariables false
set_option linter.unusedSimpArgs false
set_option maxRecDepth 8000

theorem bk5 : adL [] [-1, -1] [] (0, 1, -1) = [0, 0] ∧ adB [] [-1, -1] [] (0, 1, -1) = true := ⟨rfl, rfl⟩
set_option maxHeartbeats 25600000 in
theorem bookedLaw (v : Value) (zs : List Int) (w : World) (h : Rd .u8 w v zs) (hok : ∀ z ∈ zs, 0 ≤ z ∧ z ≤ 255) (hg : HgV w) :
    Calls Tryd.prog 4 #[v] w fun e w' => e = .returned (.bool true) ∧ Below w.heap.size w w' := by
  have HR : Hid (Rd .u8 w v zs) := h
  have HOK : Hid (∀ z ∈ zs, 0 ≤ z ∧ z ≤ 255) := hok
  have HGV : Hid (HgV w) := hg
  clear hok hg
  obtain ⟨av, capv, rfl, -⟩ := h
  go_enter Tryd.func4, Tryd.ntmps4
  go_wp2_with (fail)
  refine (big_c _ zs w HR.out).mono ?_
  rintro e w' ⟨rfl, hw⟩
  subst w'
  by_cases hbig : (1048576 : Int) < (zs.length : Int)
  case pos =>
    have hd : decide ((1048576 : Int) < (zs.length : Int)) = true := by simpa using hbig
    rw [hd]
    go_wp2
    go_ret
    exact ⟨rfl, Below.refl _ _⟩
  case neg =>
  have hd : decide ((1048576 : Int) < (zs.length : Int)) = false := by simpa using hbig
  rw [hd]
  have HLZ : Hid (zs.length ≤ 2097152) := by show _ ≤ _; omega
  clear hd hbig
  have B_w : Hid (Below w.heap.size w w) := Below.refl _ _
  have G_w : Hid (HgV w) := HGV.out
  go_wp2_with (fail)
  refine (drawAdd_c _ zs w HR.out HOK.out HLZ.out).mono ?_
  rintro e w1 ⟨va, vl, vc, ts, ls, cs, x0, x1, x2, rfl, o, b, n⟩
  have HN : Hid (ts.length ≤ 40 ∧ ls.length ≤ 40 ∧ cs.length ≤ 40) := n
  have B_w1 : Hid (Below w.heap.size w w1) := belowCall B_w.out b B_w.out.size
  have G_w1 : Hid (HgV w1) := G_w.out.below b
  clear b B_w G_w
  obtain ⟨a0, c0, rfl⟩ := o.1.form
  obtain ⟨a1, c1, rfl⟩ := o.2.1.form
  obtain ⟨a2, c2, rfl⟩ := o.2.2.1.form
  have M_w1 : Hid (Rbk w1 (.slice a0 ts.length c0) (.slice a1 ls.length c1) (.slice a2 cs.length c2) ts ls cs) := o.rd
  have hci : ∀ W va vl vc, HgV W → Rbk W va vl vc ts ls cs → Calls Tryd.prog 17 #[.agg (B3 va vl vc), .agg #[.int .i64 x0, .int .i64 x1, .int .i64 x2]] W (RsQ (adT ts ls cs (x0, x1, x2)) (adL ts ls cs (x0, x1, x2)) (adC ts ls cs (x0, x1, x2)) (adB ts ls cs (x0, x1, x2)) W) := fun W va vl vc hg h => addI_c va vl vc ts ls cs x0 x1 x2 W hg h (by omega) (by omega) (by omega)
  have hcm : ∀ W va vl vc, Rbk W va vl vc ts ls cs → Calls Tryd.prog 18 #[.agg (B3 va vl vc), .agg #[.int .i64 x0, .int .i64 x1, .int .i64 x2]] W (RsQ (adT ts ls cs (x0, x1, x2)) (adL ts ls cs (x0, x1, x2)) (adC ts ls cs (x0, x1, x2)) (adB ts ls cs (x0, x1, x2)) W) := fun W va vl vc h => addM_c va vl vc ts ls cs x0 x1 x2 W h (by omega) (by omega) (by omega)
  have had := @added ts ls cs (x0, x1, x2)
  have hno : adB ts ls cs (x0, x1, x2) = false → (adT ts ls cs (x0, x1, x2)).length = ts.length := fun e => by unfold adT; rw [e]; rfl
  obtain ⟨T, hT⟩ : ∃ T, adT ts ls cs (x0, x1, x2) = T := ⟨_, rfl⟩
  obtain ⟨L, hL⟩ : ∃ T, adL ts ls cs (x0, x1, x2) = T := ⟨_, rfl⟩
  obtain ⟨C, hC⟩ : ∃ T, adC ts ls cs (x0, x1, x2) = T := ⟨_, rfl⟩
  obtain ⟨B, hB⟩ : ∃ T, adB ts ls cs (x0, x1, x2) = T := ⟨_, rfl⟩
  rw [hT, hL, hC, hB] at hci hcm had
  rw [hT, hB] at hno
  have hbb : (B != B) = false := by simp
  have HCI : Hid (∀ W va vl vc, HgV W → Rbk W va vl vc ts ls cs → Calls Tryd.prog 17 #[.agg (B3 va vl vc), .agg #[.int .i64 x0, .int .i64 x1, .int .i64 x2]] W (RsQ T L C B W)) := hci
  have HCM : Hid (∀ W va vl vc, Rbk W va vl vc ts ls cs → Calls Tryd.prog 18 #[.agg (B3 va vl vc), .agg #[.int .i64 x0, .int .i64 x1, .int .i64 x2]] W (RsQ T L C B W)) := hcm
  have HAD : Hid (B = true → T = ts ++ [(x0, x1, x2)] ∧ (0 ≤ x0 ∧ x0 ≤ (ls.length : Int) - 1) ∧ (0 ≤ x1 ∧ x1 ≤ (ls.length : Int) - 1) ∧ L.length = ls.length ∧ L.getD x0.toNat 0 = (ts.length : Int) ∧ L.getD x1.toNat 0 = (ts.length : Int) ∧ faL T L C = []) := had
  have HNO : Hid (B = false → T.length = ts.length) := hno
  clear hci hcm had hno hT hL hC hB o n HR HOK HLZ HGV
  obtain ⟨XP, hX⟩ : ∃ X, w1.heap.size = X := ⟨_, rfl⟩
  obtain ⟨XR, hR⟩ : ∃ X, XP + 1 = X := ⟨_, rfl⟩
  obtain ⟨W1, hW⟩ : ∃ W, (w1.alloc (Obj.cells (B3 (.slice a0 ts.length c0) (.slice a1 ls.length c1) (.slice a2 cs.length c2)) 27)).alloc (Obj.cells #[.int .i64 x0, .int .i64 x1, .int .i64 x2] 38) = W := ⟨_, rfl⟩
  have b : Below w1.heap.size w1 W1 := by rw [← hW]; exact ((Below.refl _ _).alloc (Nat.le_refl _) _).alloc (by simp) _
  have KP_W1 : Hid (Blk W1 XP (B3 (.slice a0 ts.length c0) (.slice a1 ls.length c1) (.slice a2 cs.length c2)) 27) := by show Blk _ _ _ _; rw [← hW, ← hX]; exact (Blk.new _ _ _).alloc _
  have KR_W1 : Hid (Blk W1 XR #[.int .i64 x0, .int .i64 x1, .int .i64 x2] 38) := by show Blk _ _ _ _; rw [← hW, ← hR, ← hX]; exact Blk.newAt _ _ _ _ (by simp)
  have EP : Hid ((w1.alloc (Obj.cells (B3 (.slice a0 ts.length c0) (.slice a1 ls.length c1) (.slice a2 cs.length c2)) 27)).alloc (Obj.cells #[.int .i64 x0, .int .i64 x1, .int .i64 x2] 38) = W1 ∧ w1.heap.size = XP ∧ XP + 1 = XR) := ⟨hW, hX, hR⟩
  clear hW hX hR
  have B_W1 : Hid (Below w.heap.size w W1) := belowCall B_w1.out b B_w1.out.size
  have G_W1 : Hid (HgV W1) := G_w1.out.below b
  have M_W1 : Hid (Rbk W1 (.slice a0 ts.length c0) (.slice a1 ls.length c1) (.slice a2 cs.length c2) ts ls cs) := M_w1.out.below b
  clear b B_w1 G_w1 M_w1
  go_upto_region 4 with fail
  (try simp only [size_alloc])
  rw [EP.out.1, EP.out.2.1]
  (try rw [EP.out.2.2])
  clear EP
  have p0 := KP_W1.out.cell 0
  have p1 := KP_W1.out.cell 1
  have p2 := KP_W1.out.cell 2
  simp at p0 p1 p2
  have r0 := KR_W1.out.cell 0
  have r1 := KR_W1.out.cell 1
  have r2 := KR_W1.out.cell 2
  simp at r0 r1 r2
  go_wp2_with (fail)
  refine (HCI.out W1 _ _ _ G_W1.out M_W1.out).mono ?_
  rintro e w2 ⟨na, nl, nc, rfl, o, b⟩
  clear p0 p1 p2
  clear r0 r1 r2
  have HCL : Hid (W1.heap.size ≤ w2.heap.size) := b.size
  have B_w2 : Hid (Below w.heap.size w w2) := belowCall B_W1.out b B_W1.out.size
  have G_w2 : Hid (HgV w2) := G_W1.out.below b
  have M_w2 : Hid (Rbk w2 (.slice a0 ts.length c0) (.slice a1 ls.length c1) (.slice a2 cs.length c2) ts ls cs) := M_W1.out.below b
  have KP_w2 : Hid (Blk w2 XP (B3 (.slice a0 ts.length c0) (.slice a1 ls.length c1) (.slice a2 cs.length c2)) 27) := KP_W1.out.below b KP_W1.out.lt
  have KR_w2 : Hid (Blk w2 XR #[.int .i64 x0, .int .i64 x1, .int .i64 x2] 38) := KR_W1.out.below b KR_W1.out.lt
  clear b B_W1 G_W1 M_W1 KP_W1 KR_W1
  obtain ⟨d0, e0, rfl⟩ := o.1.form
  obtain ⟨d1, e1, rfl⟩ := o.2.1.form
  obtain ⟨d2, e2, rfl⟩ := o.2.2.1.form
  have N_w2 : Hid (Obk W1.heap.size w2 (.slice d0 T.length e0) (.slice d1 L.length e1) (.slice d2 C.length e2) T L C) := o
  clear o
  obtain ⟨XQ, hX⟩ : ∃ X, w2.heap.size = X := ⟨_, rfl⟩
  obtain ⟨W2, hW⟩ : ∃ W, w2.alloc (Obj.cells (B3 (.slice d0 T.length e0) (.slice d1 L.length e1) (.slice d2 C.length e2)) 27) = W := ⟨_, rfl⟩
  have b : Below w2.heap.size w2 W2 := by rw [← hW]; exact (Below.refl _ _).alloc (Nat.le_refl _) _
  have KQ_W2 : Hid (Blk W2 XQ (B3 (.slice d0 T.length e0) (.slice d1 L.length e1) (.slice d2 C.length e2)) 27) := by show Blk _ _ _ _; rw [← hW, ← hX]; exact Blk.new _ _ _
  have EQ : Hid (w2.alloc (Obj.cells (B3 (.slice d0 T.length e0) (.slice d1 L.length e1) (.slice d2 C.length e2)) 27) = W2 ∧ w2.heap.size = XQ) := ⟨hW, hX⟩
  clear hW hX
  have B_W2 : Hid (Below w.heap.size w W2) := belowCall B_w2.out b B_w2.out.size
  have G_W2 : Hid (HgV W2) := G_w2.out.below b
  have M_W2 : Hid (Rbk W2 (.slice a0 ts.length c0) (.slice a1 ls.length c1) (.slice a2 cs.length c2) ts ls cs) := M_w2.out.below b
  have KP_W2 : Hid (Blk W2 XP (B3 (.slice a0 ts.length c0) (.slice a1 ls.length c1) (.slice a2 cs.length c2)) 27) := KP_w2.out.below b KP_w2.out.lt
  have KR_W2 : Hid (Blk W2 XR #[.int .i64 x0, .int .i64 x1, .int .i64 x2] 38) := KR_w2.out.below b KR_w2.out.lt
  have N_W2 : Hid (Obk W1.heap.size W2 (.slice d0 T.length e0) (.slice d1 L.length e1) (.slice d2 C.length e2) T L C) := N_w2.out.below b
  clear b B_w2 G_w2 M_w2 KP_w2 KR_w2 N_w2
  go_upto_region 5 with fail
  rw [EQ.out.1, EQ.out.2]
  clear EQ
  have p0 := KP_W2.out.cell 0
  have p1 := KP_W2.out.cell 1
  have p2 := KP_W2.out.cell 2
  simp at p0 p1 p2
  have r0 := KR_W2.out.cell 0
  have r1 := KR_W2.out.cell 1
  have r2 := KR_W2.out.cell 2
  simp at r0 r1 r2
  go_wp2_with (fail)
  refine (HCM.out W2 _ _ _ M_W2.out).mono ?_
  rintro e w3 ⟨sa, sl, sc, rfl, o, b⟩
  clear p0 p1 p2
  clear r0 r1 r2
  have B_w3 : Hid (Below w.heap.size w w3) := belowCall B_W2.out b B_W2.out.size
  have G_w3 : Hid (HgV w3) := G_W2.out.below b
  have M_w3 : Hid (Rbk w3 (.slice a0 ts.length c0) (.slice a1 ls.length c1) (.slice a2 cs.length c2) ts ls cs) := M_W2.out.below b
  have KP_w3 : Hid (Blk w3 XP (B3 (.slice a0 ts.length c0) (.slice a1 ls.length c1) (.slice a2 cs.length c2)) 27) := KP_W2.out.below b KP_W2.out.lt
  have KR_w3 : Hid (Blk w3 XR #[.int .i64 x0, .int .i64 x1, .int .i64 x2] 38) := KR_W2.out.below b KR_W2.out.lt
  have N_w3 : Hid (Obk W1.heap.size w3 (.slice d0 T.length e0) (.slice d1 L.length e1) (.slice d2 C.length e2) T L C) := N_W2.out.below b
  have KQ_w3 : Hid (Blk w3 XQ (B3 (.slice d0 T.length e0) (.slice d1 L.length e1) (.slice d2 C.length e2)) 27) := KQ_W2.out.below b KQ_W2.out.lt
  clear b B_W2 G_W2 M_W2 KP_W2 KR_W2 N_W2 KQ_W2
  obtain ⟨f0, g0, rfl⟩ := o.1.form
  obtain ⟨f1, g1, rfl⟩ := o.2.1.form
  obtain ⟨f2, g2, rfl⟩ := o.2.2.1.form
  clear o
  obtain ⟨XS, hX⟩ : ∃ X, w3.heap.size = X := ⟨_, rfl⟩
  obtain ⟨W3, hW⟩ : ∃ W, w3.alloc (Obj.cells (B3 (.slice f0 T.length g0) (.slice f1 L.length g1) (.slice f2 C.length g2)) 27) = W := ⟨_, rfl⟩
  have b : Below w3.heap.size w3 W3 := by rw [← hW]; exact (Below.refl _ _).alloc (Nat.le_refl _) _
  have KS_W3 : Hid (Blk W3 XS (B3 (.slice f0 T.length g0) (.slice f1 L.length g1) (.slice f2 C.length g2)) 27) := by show Blk _ _ _ _; rw [← hW, ← hX]; exact Blk.new _ _ _
  have ES : Hid (w3.alloc (Obj.cells (B3 (.slice f0 T.length g0) (.slice f1 L.length g1) (.slice f2 C.length g2)) 27) = W3 ∧ w3.heap.size = XS) := ⟨hW, hX⟩
  clear hW hX
  have B_W3 : Hid (Below w.heap.size w W3) := belowCall B_w3.out b B_w3.out.size
  have G_W3 : Hid (HgV W3) := G_w3.out.below b
  have M_W3 : Hid (Rbk W3 (.slice a0 ts.length c0) (.slice a1 ls.length c1) (.slice a2 cs.length c2) ts ls cs) := M_w3.out.below b
  have KP_W3 : Hid (Blk W3 XP (B3 (.slice a0 ts.length c0) (.slice a1 ls.length c1) (.slice a2 cs.length c2)) 27) := KP_w3.out.below b KP_w3.out.lt
  have KR_W3 : Hid (Blk W3 XR #[.int .i64 x0, .int .i64 x1, .int .i64 x2] 38) := KR_w3.out.below b KR_w3.out.lt
  have N_W3 : Hid (Obk W1.heap.size W3 (.slice d0 T.length e0) (.slice d1 L.length e1) (.slice d2 C.length e2) T L C) := N_w3.out.below b
  have KQ_W3 : Hid (Blk W3 XQ (B3 (.slice d0 T.length e0) (.slice d1 L.length e1) (.slice d2 C.length e2)) 27) := KQ_w3.out.below b KQ_w3.out.lt
  clear b B_w3 G_w3 M_w3 KP_w3 KR_w3 N_w3 KQ_w3
  clear KS_W3
  go_upto_region 6 with fail
  rw [ES.out.1, ES.out.2]
  clear ES
  obtain ⟨XU, hX⟩ : ∃ X, W3.heap.size = X := ⟨_, rfl⟩
  obtain ⟨W6, hW⟩ : ∃ W, W3.alloc (Obj.cells (#[.int .i64 (-1), .int .i64 (-1)]) 3) = W := ⟨_, rfl⟩
  have b : Below W3.heap.size W3 W6 := by rw [← hW]; exact (Below.refl _ _).alloc (Nat.le_refl _) _
  have KU_W6 : Hid (Blk W6 XU (#[.int .i64 (-1), .int .i64 (-1)]) 3) := by show Blk _ _ _ _; rw [← hW, ← hX]; exact Blk.new _ _ _
  have EU : Hid (W3.alloc (Obj.cells (#[.int .i64 (-1), .int .i64 (-1)]) 3) = W6 ∧ W3.heap.size = XU) := ⟨hW, hX⟩
  clear hW hX
  have B_W6 : Hid (Below w.heap.size w W6) := belowCall B_W3.out b B_W3.out.size
  have G_W6 : Hid (HgV W6) := G_W3.out.below b
  have M_W6 : Hid (Rbk W6 (.slice a0 ts.length c0) (.slice a1 ls.length c1) (.slice a2 cs.length c2) ts ls cs) := M_W3.out.below b
  have KP_W6 : Hid (Blk W6 XP (B3 (.slice a0 ts.length c0) (.slice a1 ls.length c1) (.slice a2 cs.length c2)) 27) := KP_W3.out.below b KP_W3.out.lt
  have KR_W6 : Hid (Blk W6 XR #[.int .i64 x0, .int .i64 x1, .int .i64 x2] 38) := KR_W3.out.below b KR_W3.out.lt
  have N_W6 : Hid (Obk W1.heap.size W6 (.slice d0 T.length e0) (.slice d1 L.length e1) (.slice d2 C.length e2) T L C) := N_W3.out.below b
  have KQ_W6 : Hid (Blk W6 XQ (B3 (.slice d0 T.length e0) (.slice d1 L.length e1) (.slice d2 C.length e2)) 27) := KQ_W3.out.below b KQ_W3.out.lt
  clear b B_W3 G_W3 M_W3 KP_W3 KR_W3 N_W3 KQ_W3
  have RU : Hid (Rbk W6 (.slice none 0 0) (.slice (some ⟨XU, 0, none⟩) 2 2) (.slice none 0 0) [] [-1, -1] []) := ⟨(Og.nil 3 tkC 38 0 _).rd tkC_len, by rw [← EU.out.1, ← EU.out.2]; exact Rd.lit W3 [-1, -1] (by decide), (Ow.nil .i64 3 0 _).rd⟩
  go_wp2_with (fail)
  rw [EU.out.1, EU.out.2]
  clear EU hbb
  refine (addI_c _ _ _ [] [-1, -1] [] 0 1 (-1) W6 G_W6.out RU.out (by decide) (by decide) (by decide)).mono ?_
  rintro e w7 ⟨ua, ul, uc, rfl, o, b⟩
  rw [bk5.1] at o
  rw [bk5.2]
  clear RU
  clear KU_W6
  have B_w7 : Hid (Below w.heap.size w w7) := belowCall B_W6.out b B_W6.out.size
  have G_w7 : Hid (HgV w7) := G_W6.out.below b
  have M_w7 : Hid (Rbk w7 (.slice a0 ts.length c0) (.slice a1 ls.length c1) (.slice a2 cs.length c2) ts ls cs) := M_W6.out.below b
  have KP_w7 : Hid (Blk w7 XP (B3 (.slice a0 ts.length c0) (.slice a1 ls.length c1) (.slice a2 cs.length c2)) 27) := KP_W6.out.below b KP_W6.out.lt
  have KR_w7 : Hid (Blk w7 XR #[.int .i64 x0, .int .i64 x1, .int .i64 x2] 38) := KR_W6.out.below b KR_W6.out.lt
  have N_w7 : Hid (Obk W1.heap.size w7 (.slice d0 T.length e0) (.slice d1 L.length e1) (.slice d2 C.length e2) T L C) := N_W6.out.below b
  have KQ_w7 : Hid (Blk w7 XQ (B3 (.slice d0 T.length e0) (.slice d1 L.length e1) (.slice d2 C.length e2)) 27) := KQ_W6.out.below b KQ_W6.out.lt
  clear b B_W6 G_W6 M_W6 KP_W6 KR_W6 N_W6 KQ_W6
  obtain ⟨h0, i0, rfl⟩ := o.1.form
  obtain ⟨h1, i1, rfl⟩ := o.2.1.form
  obtain ⟨h2, i2, rfl⟩ := o.2.2.1.form
  obtain ⟨uT, huT⟩ : ∃ T, adT [] [-1, -1] [] (0, 1, -1) = T := ⟨_, rfl⟩
  obtain ⟨uC, huC⟩ : ∃ T, adC [] [-1, -1] [] (0, 1, -1) = T := ⟨_, rfl⟩
  rw [huT, huC] at o
  try rw [huT]
  try rw [huC]
  clear huT huC
  have Y_w7 : Hid (Rd .i64 w7 (.slice h1 2 i1) [0, 0]) := o.2.1.rd
  clear o
  obtain ⟨XV, hX⟩ : ∃ X, w7.heap.size = X := ⟨_, rfl⟩
  obtain ⟨W7, hW⟩ : ∃ W, w7.alloc (Obj.cells (B3 (.slice h0 uT.length i0) (.slice h1 2 i1) (.slice h2 uC.length i2)) 27) = W := ⟨_, rfl⟩
  have b : Below w7.heap.size w7 W7 := by rw [← hW]; exact (Below.refl _ _).alloc (Nat.le_refl _) _
  have KV_W7 : Hid (Blk W7 XV (B3 (.slice h0 uT.length i0) (.slice h1 2 i1) (.slice h2 uC.length i2)) 27) := by show Blk _ _ _ _; rw [← hW, ← hX]; exact Blk.new _ _ _
  have EV : Hid (w7.alloc (Obj.cells (B3 (.slice h0 uT.length i0) (.slice h1 2 i1) (.slice h2 uC.length i2)) 27) = W7 ∧ w7.heap.size = XV) := ⟨hW, hX⟩
  clear hW hX
  have B_W7 : Hid (Below w.heap.size w W7) := belowCall B_w7.out b B_w7.out.size
  have G_W7 : Hid (HgV W7) := G_w7.out.below b
  have M_W7 : Hid (Rbk W7 (.slice a0 ts.length c0) (.slice a1 ls.length c1) (.slice a2 cs.length c2) ts ls cs) := M_w7.out.below b
  have KP_W7 : Hid (Blk W7 XP (B3 (.slice a0 ts.length c0) (.slice a1 ls.length c1) (.slice a2 cs.length c2)) 27) := KP_w7.out.below b KP_w7.out.lt
  have KR_W7 : Hid (Blk W7 XR #[.int .i64 x0, .int .i64 x1, .int .i64 x2] 38) := KR_w7.out.below b KR_w7.out.lt
  have N_W7 : Hid (Obk W1.heap.size W7 (.slice d0 T.length e0) (.slice d1 L.length e1) (.slice d2 C.length e2) T L C) := N_w7.out.below b
  have KQ_W7 : Hid (Blk W7 XQ (B3 (.slice d0 T.length e0) (.slice d1 L.length e1) (.slice d2 C.length e2)) 27) := KQ_w7.out.below b KQ_w7.out.lt
  have Y_W7 : Hid (Rd .i64 W7 (.slice h1 2 i1) [0, 0]) := Y_w7.out.below b
  clear b B_w7 G_w7 M_w7 KP_w7 KR_w7 N_w7 KQ_w7 Y_w7
  go_upto_region 9 with fail
  rw [EV.out.1, EV.out.2]
  clear EV
  have v1 := KV_W7.out.cell 1
  simp at v1
  obtain ⟨XZ, hX⟩ : ∃ X, W7.heap.size = X := ⟨_, rfl⟩
  obtain ⟨W8, hW⟩ : ∃ W, W7.alloc (Obj.cells (#[.int .i64 0, .int .i64 0]) 3) = W := ⟨_, rfl⟩
  have b : Below W7.heap.size W7 W8 := by rw [← hW]; exact (Below.refl _ _).alloc (Nat.le_refl _) _
  have KZ_W8 : Hid (Blk W8 XZ (#[.int .i64 0, .int .i64 0]) 3) := by show Blk _ _ _ _; rw [← hW, ← hX]; exact Blk.new _ _ _
  have EZ : Hid (W7.alloc (Obj.cells (#[.int .i64 0, .int .i64 0]) 3) = W8 ∧ W7.heap.size = XZ) := ⟨hW, hX⟩
  clear hW hX
  have B_W8 : Hid (Below w.heap.size w W8) := belowCall B_W7.out b B_W7.out.size
  have G_W8 : Hid (HgV W8) := G_W7.out.below b
  have M_W8 : Hid (Rbk W8 (.slice a0 ts.length c0) (.slice a1 ls.length c1) (.slice a2 cs.length c2) ts ls cs) := M_W7.out.below b
  have KP_W8 : Hid (Blk W8 XP (B3 (.slice a0 ts.length c0) (.slice a1 ls.length c1) (.slice a2 cs.length c2)) 27) := KP_W7.out.below b KP_W7.out.lt
  have KR_W8 : Hid (Blk W8 XR #[.int .i64 x0, .int .i64 x1, .int .i64 x2] 38) := KR_W7.out.below b KR_W7.out.lt
  have N_W8 : Hid (Obk W1.heap.size W8 (.slice d0 T.length e0) (.slice d1 L.length e1) (.slice d2 C.length e2) T L C) := N_W7.out.below b
  have KQ_W8 : Hid (Blk W8 XQ (B3 (.slice d0 T.length e0) (.slice d1 L.length e1) (.slice d2 C.length e2)) 27) := KQ_W7.out.below b KQ_W7.out.lt
  have Y_W8 : Hid (Rd .i64 W8 (.slice h1 2 i1) [0, 0]) := Y_W7.out.below b
  have KV_W8 : Hid (Blk W8 XV (B3 (.slice h0 uT.length i0) (.slice h1 2 i1) (.slice h2 uC.length i2)) 27) := KV_W7.out.below b KV_W7.out.lt
  clear b B_W7 G_W7 M_W7 KP_W7 KR_W7 N_W7 KQ_W7 Y_W7 KV_W7
  have RZ : Hid (Rd .i64 W8 (.slice (some ⟨XZ, 0, none⟩) 2 2) [0, 0]) := by show Rd _ _ _ _; rw [← EZ.out.1, ← EZ.out.2]; exact Rd.lit W7 [0, 0] (by decide)
  go_wp2_with (fail)
  rw [EZ.out.1, EZ.out.2]
  clear EZ v1
  refine (sameI _ _ [0, 0] [0, 0] W8 Y_W8.out RZ.out).mono ?_
  rintro e w9 ⟨rfl, b⟩
  rw [decide_eq_true (Eq.refl ([0, 0] : List Int))]
  clear RZ
  clear KZ_W8 Y_W8 KV_W8
  have B_w9 : Hid (Below w.heap.size w w9) := belowCall B_W8.out b B_W8.out.size
  have G_w9 : Hid (HgV w9) := G_W8.out.below b
  have M_w9 : Hid (Rbk w9 (.slice a0 ts.length c0) (.slice a1 ls.length c1) (.slice a2 cs.length c2) ts ls cs) := M_W8.out.below b
  have KP_w9 : Hid (Blk w9 XP (B3 (.slice a0 ts.length c0) (.slice a1 ls.length c1) (.slice a2 cs.length c2)) 27) := KP_W8.out.below b KP_W8.out.lt
  have KR_w9 : Hid (Blk w9 XR #[.int .i64 x0, .int .i64 x1, .int .i64 x2] 38) := KR_W8.out.below b KR_W8.out.lt
  have N_w9 : Hid (Obk W1.heap.size w9 (.slice d0 T.length e0) (.slice d1 L.length e1) (.slice d2 C.length e2) T L C) := N_W8.out.below b
  have KQ_w9 : Hid (Blk w9 XQ (B3 (.slice d0 T.length e0) (.slice d1 L.length e1) (.slice d2 C.length e2)) 27) := KQ_W8.out.below b KQ_W8.out.lt
  clear b B_W8 G_W8 M_W8 KP_W8 KR_W8 N_W8 KQ_W8
  cases B with
  | false =>
    have hno := HNO.out rfl
    have hll : ((T.length : Int) == (ts.length : Int)) = true := by rw [hno]; simp
    have q0 := KQ_w9.out.cell 0
    simp at q0
    have p0 := KP_w9.out.cell 0
    simp at p0
    go_wp2
    go_ret
    exact ⟨rfl, B_w9.out⟩
  | true =>
    obtain ⟨m1, m2, m3, m4, m5, m6, m7⟩ := HAD.out rfl
    have hTl : T.length = ts.length + 1 := by rw [m1]; simp
    have hTg : T[ts.length]? = some (x0, x1, x2) := by rw [m1]; simp
    have HFA : Hid (faL T L C = []) := m7
    obtain ⟨n0, rfl⟩ := Int.eq_ofNat_of_zero_le m2.1
    obtain ⟨n1, rfl⟩ := Int.eq_ofNat_of_zero_le m3.1
    have hl0 : n0 < L.length := by have := m2.2; omega
    have hl1 : n1 < L.length := by have := m3.2; omega
    rw [Int.toNat_natCast] at m5 m6
    have HM : Hid (T.length = ts.length + 1 ∧ n0 < L.length ∧ n1 < L.length ∧ ts.length ≤ 40) := ⟨hTl, hl0, hl1, HN.out.1⟩
    obtain ⟨gt, capt, hft, -, hgt⟩ := World.ownsRow.form N_w9.out.1 (by omega)
    obtain ⟨gl, capl, hfl, -, hgl⟩ := World.ownsRow.form N_w9.out.2.1 (by omega)
    simp only [Value.slice.injEq] at hft hfl
    obtain ⟨rfl, -, rfl⟩ := hft
    obtain ⟨rfl, -, rfl⟩ := hfl
    have HTG : Hid (T[ts.length]? = some ((n0 : Int), (n1 : Int), x2)) := hTg
    have HL0 : Hid (L.getD n0 0 = (ts.length : Int) ∧ L.getD n1 0 = (ts.length : Int)) := ⟨m5, m6⟩
    clear m1 m2 m3 m4 m5 m6 m7 hTl hl0 hl1 hgt hgl HAD HNO hTg
    have p0 := KP_w9.out.cell 0
    simp at p0
    go_upto_region 14 with fail
    clear p0
    obtain ⟨S, hS⟩ : ∃ S : World → Prop, ∀ W, S W ↔ Below w9.heap.size w9 W := ⟨_, fun _ => Iff.rfl⟩
    have KQ := KQ_w9.out
    have KR := KR_w9.out
    have bS : ∀ W : At S, Below w9.heap.size w9 W.wd := fun W => (hS _).1 W.ok
    have q0 : ∀ W : At S, W.wd.cell? ⟨XQ, 0, none⟩ = some (.slice (some ⟨gt, 0, none⟩) T.length e0) := fun W => by have := (KQ.below (bS W) KQ.lt).cell 0; simpa using this
    have q1 : ∀ W : At S, W.wd.cell? ⟨XQ, 1, none⟩ = some (.slice (some ⟨gl, 0, none⟩) L.length e1) := fun W => by have := (KQ.below (bS W) KQ.lt).cell 1; simpa using this
    have q2 : ∀ W : At S, W.wd.cell? ⟨XQ, 2, none⟩ = some (.slice d2 C.length e2) := fun W => by have := (KQ.below (bS W) KQ.lt).cell 2; simpa using this
    have r0 : ∀ W : At S, W.wd.cell? ⟨XR, 0, none⟩ = some (.int .i64 (n0 : Int)) := fun W => by have := (KR.below (bS W) KR.lt).cell 0; simpa using this
    have r1 : ∀ W : At S, W.wd.cell? ⟨XR, 1, none⟩ = some (.int .i64 (n1 : Int)) := fun W => by have := (KR.below (bS W) KR.lt).cell 1; simpa using this
    have r2 : ∀ W : At S, W.wd.cell? ⟨XR, 2, none⟩ = some (.int .i64 x2) := fun W => by have := (KR.below (bS W) KR.lt).cell 2; simpa using this
    have l0 : ∀ W : At S, W.wd.cell? ⟨gl, n0, none⟩ = some (.int .i64 (ts.length : Int)) := fun W => by
      have hl := HM.out.2.1
      rw [World.ownsRow.cellAt (N_w9.out.below (bS W)).2.1 n0 (by omega), List.getElem?_map, List.getElem?_eq_getElem hl]
      have := HL0.out.1
      rw [List.getD_eq_getElem?_getD, List.getElem?_eq_getElem hl] at this
      simpa using this
    have l1 : ∀ W : At S, W.wd.cell? ⟨gl, n1, none⟩ = some (.int .i64 (ts.length : Int)) := fun W => by
      have hl := HM.out.2.2.1
      rw [World.ownsRow.cellAt (N_w9.out.below (bS W)).2.1 n1 (by omega), List.getElem?_map, List.getElem?_eq_getElem hl]
      have := HL0.out.2
      rw [List.getD_eq_getElem?_getD, List.getElem?_eq_getElem hl] at this
      simpa using this
    have hT : ∀ W : At S, W.wd.rangeAt gt (ts.length * 3) (tkC ((n0 : Int), (n1 : Int), x2)) := fun W => by
      have hl : ts.length < T.length := by have := HM.out.1; omega
      have hr := ((N_w9.out.below (bS W)).1.rd tkC_len)
      obtain ⟨a, cap, e, -, -, h3⟩ := hr
      simp only [Value.slice.injEq] at e
      obtain ⟨rfl, -, rfl⟩ := e
      rcases h3 with h3 | ⟨b, off, e, h4⟩
      · rw [h3] at hl; simp at hl
      · cases e
        have h5 := h4 ts.length hl
        have h6 := HTG.out
        rw [List.getElem?_eq_getElem hl] at h6
        rw [Option.some.inj h6, Nat.zero_add] at h5
        exact h5
    have t0 : ∀ W : At S, W.wd.cell? ⟨gt, ts.length * 3, none⟩ = some (.int .i64 (n0 : Int)) := fun W => hT W 0 _ rfl
    have t1 : ∀ W : At S, W.wd.cell? ⟨gt, ts.length * 3 + 1, none⟩ = some (.int .i64 (n1 : Int)) := fun W => hT W 1 _ rfl
    have t2 : ∀ W : At S, W.wd.cell? ⟨gt, ts.length * 3 + 2, none⟩ = some (.int .i64 x2) := fun W => hT W 2 _ rfl
    have hw : wrap64 ((ts.length : Int) + 1) = (ts.length : Int) + 1 := by have := HM.out; unfold wrap64; omega
    have hn : ((T.length : Int) != (ts.length : Int) + 1) = false := by rw [HM.out.1]; simp
    have hi : (ts.length : Int) < (T.length : Int) := by have := HM.out; omega
    have hi' : ¬ T.length ≤ ts.length := by omega
    have hj0 : (n0 : Int) < (L.length : Int) := by have := HM.out; omega
    have hj1 : (n1 : Int) < (L.length : Int) := by have := HM.out; omega
    have hk0 : ¬ L.length ≤ n0 := by omega
    have hk1 : ¬ L.length ≤ n1 := by omega
    have hss : ((ts.length : Int) != (ts.length : Int)) = false := by simp
    have HSS : Hid (∀ W, S W ↔ Below w9.heap.size w9 W) := hS
    have ne : Nonempty (At S) := ⟨⟨w9, (hS _).2 (Below.refl _ _)⟩⟩
    clear hS hT bS KQ KR
    refine region_mixT (List.replicate 37 true ++ [false, false, false, false]) 41 4 S (by kernel_rfl) rfl (by kernel_rfl) (fun _ _ _ _ _ h => h) ((HSS.out _).2 (Below.refl _ _).drew) ?_
    simp only [selT, selF, List.replicate, List.cons_append, List.nil_append]
    try simp only [Act.put]
    repeat (go_big_quiet_step (fail))
    refine wpQuiet_nil ?_
    clear q0 q1 q2 r0 r1 r2 l0 l1 t0 t1 t2 hw hn hi hi' hj0 hj1 hk0 hk1 hss ne
    obtain ⟨wd, hwd⟩ : ∃ W, w9.drew = W := ⟨_, rfl⟩
    have b : Below w9.heap.size w9 wd := by rw [← hwd]; exact (Below.refl _ _).drew
    have HSd : Hid (Below w9.heap.size w9 wd) := b
    rw [hwd]
    clear hwd
    refine tail_step ?_
    have B_wd : Hid (Below w.heap.size w wd) := belowCall B_w9.out b B_w9.out.size
    have G_wd : Hid (HgV wd) := G_w9.out.below b
    have M_wd : Hid (Rbk wd (.slice a0 ts.length c0) (.slice a1 ls.length c1) (.slice a2 cs.length c2) ts ls cs) := M_w9.out.below b
    have KP_wd : Hid (Blk wd XP (B3 (.slice a0 ts.length c0) (.slice a1 ls.length c1) (.slice a2 cs.length c2)) 27) := KP_w9.out.below b KP_w9.out.lt
    have KR_wd : Hid (Blk wd XR #[.int .i64 (n0 : Int), .int .i64 (n1 : Int), .int .i64 x2] 38) := KR_w9.out.below b KR_w9.out.lt
    have N_wd : Hid (Obk W1.heap.size wd (.slice (some ⟨gt, 0, none⟩) T.length e0) (.slice (some ⟨gl, 0, none⟩) L.length e1) (.slice d2 C.length e2) T L C) := N_w9.out.below b
    have KQ_wd : Hid (Blk wd XQ (B3 (.slice (some ⟨gt, 0, none⟩) T.length e0) (.slice (some ⟨gl, 0, none⟩) L.length e1) (.slice d2 C.length e2)) 27) := KQ_w9.out.below b KQ_w9.out.lt
    clear b B_w9 G_w9 M_w9 KP_w9 KR_w9 N_w9 KQ_w9
    go_wp2_with (fail)
    refine (faultsI_c _ _ _ T L C wd G_wd.out N_wd.out.rd).mono ?_
    rintro e we ⟨xv, rfl, o, b⟩
    rw [HFA.out] at o
    obtain ⟨xa, xc, rfl⟩ := o.form
    have HSe : Hid (S we) := (HSS.out _).2 (HSd.out.trans (b.mono HSd.out.size))
    clear o HSd HSS
    have B_we : Hid (Below w.heap.size w we) := belowCall B_wd.out b B_wd.out.size
    have G_we : Hid (HgV we) := G_wd.out.below b
    have M_we : Hid (Rbk we (.slice a0 ts.length c0) (.slice a1 ls.length c1) (.slice a2 cs.length c2) ts ls cs) := M_wd.out.below b
    have KP_we : Hid (Blk we XP (B3 (.slice a0 ts.length c0) (.slice a1 ls.length c1) (.slice a2 cs.length c2)) 27) := KP_wd.out.below b KP_wd.out.lt
    have KR_we : Hid (Blk we XR #[.int .i64 (n0 : Int), .int .i64 (n1 : Int), .int .i64 x2] 38) := KR_wd.out.below b KR_wd.out.lt
    have N_we : Hid (Obk W1.heap.size we (.slice (some ⟨gt, 0, none⟩) T.length e0) (.slice (some ⟨gl, 0, none⟩) L.length e1) (.slice d2 C.length e2) T L C) := N_wd.out.below b
    have KQ_we : Hid (Blk we XQ (B3 (.slice (some ⟨gt, 0, none⟩) T.length e0) (.slice (some ⟨gl, 0, none⟩) L.length e1) (.slice d2 C.length e2)) 27) := KQ_wd.out.below b KQ_wd.out.lt
    clear b B_wd G_wd M_wd KP_wd KR_wd N_wd KQ_wd
    go_wp2
    refine ⟨HSe.out, tail_step ?_⟩
    go_wp2
    refine ⟨HSe.out, tail_step ?_⟩
    go_wp2
    refine ⟨HSe.out, tail_step ?_⟩
    go_wp2
    refine ⟨HSe.out, tail_end ?_⟩
    clear HSe
    go_upto_region 16 with fail
    have q0 := KQ_we.out.cell 0
    have q1 := KQ_we.out.cell 1
    have q2 := KQ_we.out.cell 2
    simp at q0 q1 q2
    go_wp2_with (fail)
    refine (restartI_c _ _ _ T L C 1 we N_we.out.rd).mono ?_
    rintro e wf ⟨qa, ql, qc, rfl, o, b⟩
    clear q0 q1 q2
    have B_wf : Hid (Below w.heap.size w wf) := belowCall B_we.out b B_we.out.size
    have G_wf : Hid (HgV wf) := G_we.out.below b
    have M_wf : Hid (Rbk wf (.slice a0 ts.length c0) (.slice a1 ls.length c1) (.slice a2 cs.length c2) ts ls cs) := M_we.out.below b
    have KP_wf : Hid (Blk wf XP (B3 (.slice a0 ts.length c0) (.slice a1 ls.length c1) (.slice a2 cs.length c2)) 27) := KP_we.out.below b KP_we.out.lt
    have KR_wf : Hid (Blk wf XR #[.int .i64 (n0 : Int), .int .i64 (n1 : Int), .int .i64 x2] 38) := KR_we.out.below b KR_we.out.lt
    have N_wf : Hid (Obk W1.heap.size wf (.slice (some ⟨gt, 0, none⟩) T.length e0) (.slice (some ⟨gl, 0, none⟩) L.length e1) (.slice d2 C.length e2) T L C) := N_we.out.below b
    have KQ_wf : Hid (Blk wf XQ (B3 (.slice (some ⟨gt, 0, none⟩) T.length e0) (.slice (some ⟨gl, 0, none⟩) L.length e1) (.slice d2 C.length e2)) 27) := KQ_we.out.below b KQ_we.out.lt
    clear b B_we G_we M_we KP_we KR_we N_we KQ_we
    obtain ⟨s1, s2, s3, s4⟩ := rs_1 (fa_nil HFA.out).1
    rw [s1, s2, s3] at o
    rw [s4]
    clear s1 s2 s3 s4
    obtain ⟨j0, k0, rfl⟩ := o.1.form
    obtain ⟨j1, k1, rfl⟩ := o.2.1.form
    obtain ⟨j2, k2, rfl⟩ := o.2.2.1.form
    have A_wf : Hid (Rbk wf (.slice j0 T.length k0) (.slice j1 L.length k1) (.slice j2 C.length k2) T L C) := o.rd
    clear o
    obtain ⟨XA, hX⟩ : ∃ X, wf.heap.size = X := ⟨_, rfl⟩
    obtain ⟨Wf, hW⟩ : ∃ W, wf.alloc (Obj.cells (B3 (.slice j0 T.length k0) (.slice j1 L.length k1) (.slice j2 C.length k2)) 27) = W := ⟨_, rfl⟩
    have b : Below wf.heap.size wf Wf := by rw [← hW]; exact (Below.refl _ _).alloc (Nat.le_refl _) _
    have KA_Wf : Hid (Blk Wf XA (B3 (.slice j0 T.length k0) (.slice j1 L.length k1) (.slice j2 C.length k2)) 27) := by show Blk _ _ _ _; rw [← hW, ← hX]; exact Blk.new _ _ _
    have EA : Hid (wf.alloc (Obj.cells (B3 (.slice j0 T.length k0) (.slice j1 L.length k1) (.slice j2 C.length k2)) 27) = Wf ∧ wf.heap.size = XA) := ⟨hW, hX⟩
    clear hW hX
    have B_Wf : Hid (Below w.heap.size w Wf) := belowCall B_wf.out b B_wf.out.size
    have G_Wf : Hid (HgV Wf) := G_wf.out.below b
    have M_Wf : Hid (Rbk Wf (.slice a0 ts.length c0) (.slice a1 ls.length c1) (.slice a2 cs.length c2) ts ls cs) := M_wf.out.below b
    have KP_Wf : Hid (Blk Wf XP (B3 (.slice a0 ts.length c0) (.slice a1 ls.length c1) (.slice a2 cs.length c2)) 27) := KP_wf.out.below b KP_wf.out.lt
    have KR_Wf : Hid (Blk Wf XR #[.int .i64 (n0 : Int), .int .i64 (n1 : Int), .int .i64 x2] 38) := KR_wf.out.below b KR_wf.out.lt
    have N_Wf : Hid (Obk W1.heap.size Wf (.slice (some ⟨gt, 0, none⟩) T.length e0) (.slice (some ⟨gl, 0, none⟩) L.length e1) (.slice d2 C.length e2) T L C) := N_wf.out.below b
    have KQ_Wf : Hid (Blk Wf XQ (B3 (.slice (some ⟨gt, 0, none⟩) T.length e0) (.slice (some ⟨gl, 0, none⟩) L.length e1) (.slice d2 C.length e2)) 27) := KQ_wf.out.below b KQ_wf.out.lt
    have A_Wf : Hid (Rbk Wf (.slice j0 T.length k0) (.slice j1 L.length k1) (.slice j2 C.length k2) T L C) := A_wf.out.below b
    clear b B_wf G_wf M_wf KP_wf KR_wf N_wf KQ_wf A_wf
    go_upto_region 17 with fail
    rw [EA.out.1, EA.out.2]
    clear EA
    have q1 := KQ_Wf.out.cell 1
    simp at q1
    have a1 := KA_Wf.out.cell 1
    simp at a1
    go_wp2_with (fail)
    refine (sameI _ _ L L Wf A_Wf.out.2.1 N_Wf.out.2.1.rd).mono ?_
    rintro e wg ⟨rfl, b⟩
    clear q1
    clear a1
    rw [decide_eq_true (Eq.refl L)]
    have B_wg : Hid (Below w.heap.size w wg) := belowCall B_Wf.out b B_Wf.out.size
    have G_wg : Hid (HgV wg) := G_Wf.out.below b
    have M_wg : Hid (Rbk wg (.slice a0 ts.length c0) (.slice a1 ls.length c1) (.slice a2 cs.length c2) ts ls cs) := M_Wf.out.below b
    have KP_wg : Hid (Blk wg XP (B3 (.slice a0 ts.length c0) (.slice a1 ls.length c1) (.slice a2 cs.length c2)) 27) := KP_Wf.out.below b KP_Wf.out.lt
    have KR_wg : Hid (Blk wg XR #[.int .i64 (n0 : Int), .int .i64 (n1 : Int), .int .i64 x2] 38) := KR_Wf.out.below b KR_Wf.out.lt
    have N_wg : Hid (Obk W1.heap.size wg (.slice (some ⟨gt, 0, none⟩) T.length e0) (.slice (some ⟨gl, 0, none⟩) L.length e1) (.slice d2 C.length e2) T L C) := N_Wf.out.below b
    have KQ_wg : Hid (Blk wg XQ (B3 (.slice (some ⟨gt, 0, none⟩) T.length e0) (.slice (some ⟨gl, 0, none⟩) L.length e1) (.slice d2 C.length e2)) 27) := KQ_Wf.out.below b KQ_Wf.out.lt
    have A_wg : Hid (Rbk wg (.slice j0 T.length k0) (.slice j1 L.length k1) (.slice j2 C.length k2) T L C) := A_Wf.out.below b
    have KA_wg : Hid (Blk wg XA (B3 (.slice j0 T.length k0) (.slice j1 L.length k1) (.slice j2 C.length k2)) 27) := KA_Wf.out.below b KA_Wf.out.lt
    clear b B_Wf G_Wf M_Wf KP_Wf KR_Wf N_Wf KQ_Wf A_Wf KA_Wf
    have a0 := KA_wg.out.cell 0
    simp at a0
    have hw : wrap64 ((ts.length : Int) + 1) = (T.length : Int) := by have := HM.out; unfold wrap64; omega
    have hll : ((T.length : Int) == (T.length : Int)) = true := by simp
    go_wp2
    go_ret
    exact ⟨rfl, B_wg.out⟩

end Go.Proofs.YtmfmlbiplagmiaaDoor
namespace Go.Proofs.YtmfmlbiplagmiaaDoor
open Go.RowKit Go.ChangeShapes Go.WideShapes Go.ChangeAt
set_option linter.unusedVariables false
set_option linter.unusedSimpArgs false
set_option maxRecDepth 8000
set_option maxRecDepth 100000 in
theorem lifted4 (os : Os) (started : os.Started) (H : Type) (enc : TypeId × Value → H) :
    ReturnsInHanded {} Tryd.checked os 4 .any (fun w args => (Rows.fnBookedSpec.pre enc Tryd.prog Tryd.f4 [] false w args ∧ laidMetH Tryd.prog laidE w) ∧ sizedMet enc Tryd.prog Tryd.f4 (OpenSpec.ofChange Rows.fnBookedSpec) false w args)
      (Rows.fnBookedSpec.post enc Tryd.prog Tryd.f4 false true false false) := by
  refine returnsInHanded_of_change_and (C := Tryd.checked) (X := fun w _ => laidMetH Tryd.prog laidE w) (fun _ _ _ hh h => h.of_heap hh) own started (by kernel_rfl) Tryd.func4
    (ChangeSpec.witness_at (enc := enc) (C := Tryd.checked) (os := os) (X := fun w _ => laidMetH Tryd.prog laidE w) false (laidWorld os) #[.slice none 0 0] 8 rfl (by kernel_rfl) (by kernel_rfl) (by kernel_rfl) (by kernel_rfl) (by kernel_rfl) (laidWorld_met os _)) ?_
  intro W base args ds gs before hval0 hW _ _ hL _
  have hval : ∀ (j : Nat) t v, Tryd.f4.params[j]? = some t → args[j]? = some v → Value.okWide Tryd.prog W .any base t v := hval0
  have hW' := hW
  obtain ⟨p, q, hA0, hV0, rfl, hfz, hnd⟩ := hW
  have hA : DataW.TrodAll enc Tryd.prog W 0 (fun _ => true) true Tryd.f4.params.toList args.toList ds p := hA0
  have hV : DataW.TrodVars enc Tryd.prog W (fun _ => true) [] gs q := hV0
  rw [Tryd.params4] at hA hval
  obtain ⟨v0, vs0, d0, ds0, p0, q0, hargs, rfl, rfl, h0, rr0⟩ := trodAll_cons hA
  obtain ⟨rfl, rfl, rfl⟩ := trodAll_nil rr0
  obtain rfl : args = #[v0] := by cases args; simp_all
  obtain ⟨rfl, rfl⟩ : gs = [] ∧ q = [] := by
    cases gs with
    | nil => exact ⟨rfl, hV⟩
    | cons g r => exact absurd hV (by intro h; cases h)
  have lt0 : ∀ x ∈ p0, x.block < W.heap.size := by obtain ⟨m, hm⟩ := h0; exact DataW.trod_lt m _ _ _ hm
  obtain ⟨a0, len0, cap0, rfl⟩ := okWide_slice Tryd.underlying22 (hval 0 22 v0 rfl rfl)
  obtain ⟨z0, r0, wz0⟩ := openRow Tryd.underlying22 Tryd.underlying5 (by kernel_rfl) h0
  clear hA0 hval0 hV0
  refine (bookedLaw _ z0 W r0 (fun z hm => bounds_u8 (wz0 z hm)) (hg_of hL)).mono fun e W' ⟨he, bel⟩ => ?_
  subst he
  exact ⟨_, rfl, _, _, _, [], _, [], hW', trodAll_mk1 (shut_bool Tryd.underlying4 _), (trodAll_cons_mk (Below.trod laidOut (by kernel_rfl) (of_decide_eq_true (by kernel_rfl)) h0 bel lt0) trodAll_mk0), rfl, bel.frame _, fun h => by cases h⟩
theorem bookedRow : Rows.FnBookedSaid :=
  OpenClaim.holds_of_wide 4 Tryd.f4 rfl rfl rfl rfl rfl rfl rfl ⟨rfl, rfl, rfl, rfl, rfl⟩ rfl rfl rfl rfl rfl (by kernel_rfl) Tryd.func4 (by kernel_rfl)
    (of_decide_eq_true (by kernel_rfl)) (by unfold Func.isWrapper; first | (rw [if_pos (by decide +kernel)]; kernel_rfl) | (rw [if_neg (by decide +kernel)]; exact ⟨rfl, rfl⟩))
    (fun os started H enc _ => lifted4 os started H enc)
theorem bookedProved : Rows.FnBookedCardSaid :=
  Claim7.holds_tied_plain_at .later [] [.handle] true (true, "252f7bd03114de26a9c54d2c91626c42b6000b08de9dc9cb27eec05835515bc1") true
    bookedRow (fun _ h => by cases h) (by kernel_rfl) (fun _ h => by cases h) fnBooked_row_tie rfl ⟨rfl, rfl⟩ (by kernel_rfl) rfl
    (fun f fn hf hfn => by
      obtain rfl : f = 4 := Option.some.inj ((show Tryd.prog.funcNamed "loop.example/g00052/laws.FnBooked" = some 4 by kernel_rfl).symm.trans hf) |>.symm
      obtain rfl : fn = Tryd.f4 := (Option.some.inj (Tryd.func4.symm.trans hfn)).symm
      exact ⟨by kernel_rfl, fun j t ht => by
        rw [Tryd.params4] at ht
        have hm : t ∈ [22] := by simpa using Array.mem_of_getElem? ht
        have hall : ([22].all fun u => !Tryd.prog.wantsStandIn u) = true := by kernel_rfl
        exact (show Tryd.prog.wantsStandIn t = false by simpa using List.all_eq_true.1 hall t hm)⟩)
    (by kernel_rfl)
#print axioms bookedProved
end Go.Proofs.YtmfmlbiplagmiaaDoor

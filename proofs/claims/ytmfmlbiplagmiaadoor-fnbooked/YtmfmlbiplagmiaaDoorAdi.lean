/- The program adds a talk; no condition beside the library's variable. -/
import Derived.Test.YtmfmlbiplagmiaaDoorAda
import Derived.Test.YtmfmlbiplagmiaaDoorCpb
import Derived.Test.YtmfmlbiplagmiaaDoorEnt
namespace Go.Proofs.YtmfmlbiplagmiaaDoor
open Go.RowKit Go.ChangeShapes Go.WideShapes Go.ChangeAt
set_option linter.unusedVariables false
set_option linter.unusedSimpArgs false
set_option maxRecDepth 8000

set_option maxHeartbeats 12800000 in
theorem addI_c (va vl vc : Value) (ts : List Tk) (ls cs : List Int) (x0 x1 x2 : Int) (w : World) (hg : HgV w) (h : Rbk w va vl vc ts ls cs) (hta : ts.length ≤ 1048576) (hla : ls.length ≤ 1048576) (hca : cs.length ≤ 1048576) :
   Calls Tryd.prog 17 #[.agg (B3 va vl vc), .agg #[.int .i64 x0, .int .i64 x1, .int .i64 x2]] w (RsQ (adT ts ls cs (x0, x1, x2)) (adL ts ls cs (x0, x1, x2)) (adC ts ls cs (x0, x1, x2)) (adB ts ls cs (x0, x1, x2)) w) := by
  obtain ⟨P, hP⟩ : ∃ P, w.heap.size = P := ⟨_, rfl⟩
  obtain ⟨Q, hQ⟩ : ∃ Q, P + 1 + 1 = Q := ⟨_, rfl⟩
  obtain ⟨W0, hW0⟩ : ∃ W, ((w.alloc (Obj.cells (B3 va vl vc) 27)).alloc (Obj.cells #[.int .i64 x0, .int .i64 x1, .int .i64 x2] 38)).alloc (Obj.cells (B3 (.slice none 0 0) (.slice none 0 0) (.slice none 0 0)) 27) = W := ⟨_, rfl⟩
  have HB0 : Hid (Below w.heap.size w W0) := by rw [← hW0]; exact (((Below.refl _ _).alloc (Nat.le_refl _) _).alloc (by simp) _).alloc (by simp; omega) _
  have HK0 : Hid (Blk W0 P (B3 va vl vc) 27 ∧ Blk W0 (P + 1) #[.int .i64 x0, .int .i64 x1, .int .i64 x2] 38 ∧ Blk W0 Q (B3 (.slice none 0 0) (.slice none 0 0) (.slice none 0 0)) 27) := ⟨by rw [← hW0, ← hP]; exact ((Blk.new _ _ _).alloc _).alloc _, by rw [← hW0]; exact (Blk.newAt _ (P + 1) _ 38 (by simp [hP])).alloc _, by rw [← hW0]; exact Blk.newAt _ Q _ 27 (by simp [hP, ← hQ])⟩
  have HW0 : Hid (_ = W0) := hW0
  have HP : Hid (w.heap.size = P) := hP
  have HQ : Hid (P + 1 + 1 = Q) := hQ
  have HR : Hid (Rbk w va vl vc ts ls cs) := h
  have HG : Hid (HgV w ∧ 0 < w.heap.size) := ⟨hg, hg.pos⟩
  have HLN : Hid (ts.length ≤ 1048576 ∧ ls.length ≤ 1048576 ∧ cs.length ≤ 1048576) := ⟨hta, hla, hca⟩
  have HN1 : Hid (faL ts ls cs ≠ [] → adB ts ls cs (x0, x1, x2) = false) := fun e => by unfold adB; rw [decide_eq_false e]; rfl
  have HN2 : Hid (¬ ts.length < 30 → adB ts ls cs (x0, x1, x2) = false) := fun e => by unfold adB; rw [decide_eq_false e]; simp
  have HN3 : Hid (faL ts ls cs = [] → frB ls cs (x0, x1, x2) = false → adB ts ls cs (x0, x1, x2) = false) := fun e1 e2 => by unfold adB; rw [← fr_ok _ e1, e2]; simp
  have HYS : Hid (faL ts ls cs = [] → ts.length < 30 → frB ls cs (x0, x1, x2) = true → adB ts ls cs (x0, x1, x2) = true) := fun e1 e2 e3 => by unfold adB; rw [← fr_ok _ e1, e3, decide_eq_true e1, decide_eq_true e2]; rfl
  have HPT : Hid (adB ts ls cs (x0, x1, x2) = true → (ls.set x0.toNat ts.length).set x1.toNat ts.length = adL ts ls cs (x0, x1, x2) ∧ (if x2 = -1 then cs else cs.set x2.toNat ts.length) = adC ts ls cs (x0, x1, x2) ∧ ts ++ [(x0, x1, x2)] = adT ts ls cs (x0, x1, x2) ∧ (0 ≤ x0 ∧ x0 ≤ (ls.length : Int) - 1) ∧ (0 ≤ x1 ∧ x1 ≤ (ls.length : Int) - 1) ∧ (-1 ≤ x2 ∧ x2 ≤ (cs.length : Int) - 1) ∧ ts.length < 30) := fun e => ad_put e
  have HAN : Hid (adB ts ls cs (x0, x1, x2) = false → adT ts ls cs (x0, x1, x2) = ts ∧ adL ts ls cs (x0, x1, x2) = ls ∧ adC ts ls cs (x0, x1, x2) = cs) := ad_no
  have HL3 : Hid (faL ts ls cs = [] → ls.length ≤ 30 ∧ cs.length ≤ 30) := fun e => ⟨(bkB_len (fa_nil e).1).2.1, (bkB_len (fa_nil e).1).2.2⟩
  have HFIN : Hid (∀ W V0 L0 c0 V1 L1 c1 V2 L2 c2 T L C B, Below w.heap.size w W → Blk W Q (B3 (.slice none 0 0) (.slice none 0 0) (.slice none 0 0)) 27 → Obk w.heap.size W (.slice V0 L0 c0) (.slice V1 L1 c1) (.slice V2 L2 c2) T L C → (adT ts ls cs (x0, x1, x2) = T ∧ adL ts ls cs (x0, x1, x2) = L ∧ adC ts ls cs (x0, x1, x2) = C ∧ adB ts ls cs (x0, x1, x2) = B) →
      RsQ (adT ts ls cs (x0, x1, x2)) (adL ts ls cs (x0, x1, x2)) (adC ts ls cs (x0, x1, x2)) (adB ts ls cs (x0, x1, x2)) w (.returned (.tuple #[.agg (B3 (.slice V0 L0 c0) (.slice V1 L1 c1) (.slice V2 L2 c2)), .bool B])) (((W.setCell ⟨Q, 0, none⟩ (.slice V0 L0 c0)).setCell ⟨Q, 1, none⟩ (.slice V1 L1 c1)).setCell ⟨Q, 2, none⟩ (.slice V2 L2 c2)) ∧ Blk (((W.setCell ⟨Q, 0, none⟩ (.slice V0 L0 c0)).setCell ⟨Q, 1, none⟩ (.slice V1 L1 c1)).setCell ⟨Q, 2, none⟩ (.slice V2 L2 c2)) Q (B3 (.slice V0 L0 c0) (.slice V1 L1 c1) (.slice V2 L2 c2)) 27) := by
    rintro W V0 L0 c0 V1 L1 c1 V2 L2 c2 T L C B hb hk o ⟨e1, e2, e3, e4⟩
    have gg : W.grownBy (((W.setCell ⟨Q, 0, none⟩ (.slice V0 L0 c0)).setCell ⟨Q, 1, none⟩ (.slice V1 L1 c1)).setCell ⟨Q, 2, none⟩ (.slice V2 L2 c2)) (some Q) := grown_trans (grown_trans (grown_set' _ _ _ _) (grown_set' _ _ _ _)) (grown_set' _ _ _ _)
    constructor
    · rw [e1, e2, e3, e4]
      exact ⟨_, _, _, rfl, ⟨World.ownsRow.kept o.1 gg (.inr (row_blk o.1 hk (by decide))), (show Ow _ _ _ _ _ _ from World.ownsRow.kept o.2.1 gg (.inr (row_blk o.2.1 hk (by decide)))), (show Ow _ _ _ _ _ _ from World.ownsRow.kept o.2.2.1 gg (.inr (row_blk o.2.2.1 hk (by decide)))), o.2.2.2⟩, ((hb.setCell (by have := HP.out; have := HQ.out; dsimp only; omega) _).setCell (by have := HP.out; have := HQ.out; dsimp only; omega) _).setCell (by have := HP.out; have := HQ.out; dsimp only; omega) _⟩
    · have := ((hk.set 0 (.slice V0 L0 c0)).set 1 (.slice V1 L1 c1)).set 2 (.slice V2 L2 c2)
      simpa using this
  obtain ⟨⟨a, cap, rfl, -⟩, ⟨a', cap', rfl, -⟩, ⟨a'', cap'', rfl, -⟩⟩ := h
  have c0 := HK0.out.1.cell 0
  have c1 := HK0.out.1.cell 1
  have c2 := HK0.out.1.cell 2
  simp at c0 c1 c2
  clear hP hQ hW0 hta hla hca hg
  go_enter Tryd.func17, Tryd.ntmps17
  go_wp2_with (fail)
  rw [HW0.out, HP.out, HQ.out]
  refine (copyBook_c _ _ _ ts ls cs W0 (HR.out.below HB0.out) HLN.out.1 HLN.out.2.1 HLN.out.2.2).mono ?_
  rintro e w1 ⟨wa, wl, wc, rfl, o1, b1⟩
  obtain ⟨a1, n1, p1, rfl⟩ : ∃ a L c, wa = .slice a L c := by obtain ⟨a, c, e⟩ := o1.1.form; exact ⟨a, _, c, e⟩
  obtain ⟨a2, n2, p2, rfl⟩ : ∃ a L c, wl = .slice a L c := by obtain ⟨a, c, e⟩ := o1.2.1.form; exact ⟨a, _, c, e⟩
  obtain ⟨a3, n3, p3, rfl⟩ : ∃ a L c, wc = .slice a L c := by obtain ⟨a, c, e⟩ := o1.2.2.1.form; exact ⟨a, _, c, e⟩
  obtain ⟨X, hX⟩ : ∃ X, w1.heap.size = X := ⟨_, rfl⟩
  obtain ⟨W2, hW2⟩ : ∃ W, w1.alloc (Obj.cells (B3 (.slice a1 n1 p1) (.slice a2 n2 p2) (.slice a3 n3 p3)) 27) = W := ⟨_, rfl⟩
  have ba : Below w1.heap.size w1 W2 := by rw [← hW2]; exact (Below.refl _ _).alloc (Nat.le_refl _) _
  have HO2 : Hid (Obk w.heap.size W2 (.slice a1 n1 p1) (.slice a2 n2 p2) (.slice a3 n3 p3) ts ls cs) := (o1.mono HB0.out.size).below ba
  have HB1 : Hid (Below w.heap.size w w1) := belowCall HB0.out b1 HB0.out.size
  have HB2 : Hid (Below w.heap.size w W2) := belowCall HB1.out ba HB1.out.size
  have HX2 : Hid (Blk W2 X (B3 (.slice a1 n1 p1) (.slice a2 n2 p2) (.slice a3 n3 p3)) 27) := by show Blk _ _ _ _; rw [← hW2, ← hX]; exact Blk.new _ _ _
  have k0 := HK0.out.1.below b1 HK0.out.1.lt
  have k1 := HK0.out.2.1.below b1 HK0.out.2.1.lt
  have k2 := HK0.out.2.2.below b1 HK0.out.2.2.lt
  have HXP : Hid (Q < X ∧ w.heap.size ≤ X) := ⟨by have := k2.lt; omega, by have := HB1.out.size; omega⟩
  have HK2 : Hid (Blk W2 P (B3 (.slice a ts.length cap) (.slice a' ls.length cap') (.slice a'' cs.length cap'')) 27 ∧ Blk W2 (P + 1) #[.int .i64 x0, .int .i64 x1, .int .i64 x2] 38 ∧ Blk W2 Q (B3 (.slice none 0 0) (.slice none 0 0) (.slice none 0 0)) 27) := ⟨k0.below ba k0.lt, k1.below ba k1.lt, k2.below ba k2.lt⟩
  have HW2 : Hid (w1.alloc (Obj.cells (B3 (.slice a1 n1 p1) (.slice a2 n2 p2) (.slice a3 n3 p3)) 27) = W2 ∧ w1.heap.size = X) := ⟨hW2, hX⟩
  clear c0 c1 c2 o1 b1 ba k0 k1 k2 hX hW2 HB0 HB1 HK0 HW0
  go_upto_region 2 with (fail)
  rw [HW2.out.1, HW2.out.2]
  have c0 := HK2.out.1.cell 0
  have c1 := HK2.out.1.cell 1
  have c2 := HK2.out.1.cell 2
  simp at c0 c1 c2
  clear HW2
  go_wp2_with (fail)
  refine (faultsI_c _ _ _ ts ls cs W2 (HG.out.1.bel HB2.out HG.out.2) (HR.out.below HB2.out)).mono ?_
  rintro e w3 ⟨v3, rfl, o3, b3⟩
  have HO3 : Hid (Obk w.heap.size w3 (.slice a1 n1 p1) (.slice a2 n2 p2) (.slice a3 n3 p3) ts ls cs) := HO2.out.below b3
  have HB3 : Hid (Below w.heap.size w w3) := belowCall HB2.out b3 HB2.out.size
  have HX3 : Hid (Blk w3 X (B3 (.slice a1 n1 p1) (.slice a2 n2 p2) (.slice a3 n3 p3)) 27) := HX2.out.below b3 HX2.out.lt
  have HK3 : Hid (Blk w3 P (B3 (.slice a ts.length cap) (.slice a' ls.length cap') (.slice a'' cs.length cap'')) 27 ∧ Blk w3 (P + 1) #[.int .i64 x0, .int .i64 x1, .int .i64 x2] 38 ∧ Blk w3 Q (B3 (.slice none 0 0) (.slice none 0 0) (.slice none 0 0)) 27) := ⟨HK2.out.1.below b3 HK2.out.1.lt, HK2.out.2.1.below b3 HK2.out.2.1.lt, HK2.out.2.2.below b3 HK2.out.2.2.lt⟩
  obtain ⟨fa, fc, rfl⟩ := o3.form
  obtain ⟨F, hF⟩ : ∃ F, faL ts ls cs = F := ⟨_, rfl⟩
  rw [hF] at HN1 HN3 HYS HL3 ⊢
  clear c0 c1 c2 o3 b3 hF HO2 HB2 HX2 HK2
  cases F with
  | cons f F =>
    have hn : (0 : Int) < ((f :: F).length : Int) := by simp
    have HE : Hid (adB ts ls cs (x0, x1, x2) = false) := HN1.out (by simp)
    have HBF : Hid (Below w.heap.size w w3) := HB3.out
    obtain ⟨n, hnn⟩ : ∃ n, (f :: F).length = n := ⟨_, rfl⟩
    rw [hnn] at hn ⊢
    clear hnn
    have y0 := HX3.out.cell 0
    have y1 := HX3.out.cell 1
    have y2 := HX3.out.cell 2
    simp at y0 y1 y2
    have z0 := HK3.out.2.2.cell 0
    have z1 := HK3.out.2.2.cell 1
    have z2 := HK3.out.2.2.cell 2
    simp at z0 z1 z2
    have f0 := HK3.out.2.2.frozen 0
    have f1 := HK3.out.2.2.frozen 1
    have f2 := HK3.out.2.2.frozen 2
    obtain ⟨hf1, hf2⟩ := HFIN.out w3 a1 n1 p1 a2 n2 p2 a3 n3 p3 ts ls cs false HBF.out HK3.out.2.2 HO3.out ⟨(HAN.out HE.out).1, (HAN.out HE.out).2.1, (HAN.out HE.out).2.2, HE.out⟩
    have HF1 : Hid (RsQ (adT ts ls cs (x0, x1, x2)) (adL ts ls cs (x0, x1, x2)) (adC ts ls cs (x0, x1, x2)) (adB ts ls cs (x0, x1, x2)) w _ _) := hf1
    have HF2 : Hid (Blk _ Q (B3 (.slice a1 n1 p1) (.slice a2 n2 p2) (.slice a3 n3 p3)) 27) := hf2
    clear hf1 hf2 HBF HO3 HK3 HX3 HB3
    go_wp2
    exact bodyPost_ret (results_BI rfl _ _ Q _ _ _ (.bool false) rfl rfl HF2.out) rfl HF1.out
  | nil =>
  have x0' := HK3.out.1.cell 0
  have x1' := HK3.out.1.cell 1
  have x2' := HK3.out.1.cell 2
  have y0' := HK3.out.2.1.cell 0
  have y1' := HK3.out.2.1.cell 1
  have y2' := HK3.out.2.1.cell 2
  simp at x0' x1' x2' y0' y1' y2'
  have hn0 : (([] : List (Int × Int)).length : Int) = 0 := rfl
  by_cases h30 : ts.length < 30
  case neg =>
    have h3 : (30 : Int) ≤ (ts.length : Int) := by omega
    have HE : Hid (adB ts ls cs (x0, x1, x2) = false) := HN2.out h30
    have HBF : Hid (Below w.heap.size w w3) := HB3.out
    have y0 := HX3.out.cell 0
    have y1 := HX3.out.cell 1
    have y2 := HX3.out.cell 2
    simp at y0 y1 y2
    have z0 := HK3.out.2.2.cell 0
    have z1 := HK3.out.2.2.cell 1
    have z2 := HK3.out.2.2.cell 2
    simp at z0 z1 z2
    have f0 := HK3.out.2.2.frozen 0
    have f1 := HK3.out.2.2.frozen 1
    have f2 := HK3.out.2.2.frozen 2
    obtain ⟨hf1, hf2⟩ := HFIN.out w3 a1 n1 p1 a2 n2 p2 a3 n3 p3 ts ls cs false HBF.out HK3.out.2.2 HO3.out ⟨(HAN.out HE.out).1, (HAN.out HE.out).2.1, (HAN.out HE.out).2.2, HE.out⟩
    have HF1 : Hid (RsQ (adT ts ls cs (x0, x1, x2)) (adL ts ls cs (x0, x1, x2)) (adC ts ls cs (x0, x1, x2)) (adB ts ls cs (x0, x1, x2)) w _ _) := hf1
    have HF2 : Hid (Blk _ Q (B3 (.slice a1 n1 p1) (.slice a2 n2 p2) (.slice a3 n3 p3)) 27) := hf2
    clear hf1 hf2 HBF HO3 HK3 HX3 HB3
    go_wp2
    exact bodyPost_ret (results_BI rfl _ _ Q _ _ _ (.bool false) rfl rfl HF2.out) rfl HF1.out
  case pos =>
  have h3 : ¬ (30 : Int) ≤ (ts.length : Int) := by omega
  obtain ⟨q, hq⟩ : ∃ q, frB ls cs (x0, x1, x2) = q := ⟨_, rfl⟩
  have HCF : Hid (Calls Tryd.prog 32 #[.agg (B3 (.slice a ts.length cap) (.slice a' ls.length cap') (.slice a'' cs.length cap'')), .agg #[.int .i64 x0, .int .i64 x1, .int .i64 x2]] w3 fun e w' => e = .returned (.bool q) ∧ Below w3.heap.size w3 w') := by
    have hr := HR.out.below HB3.out
    obtain ⟨e1, e2⟩ := HL3.out rfl
    have := hasFree_c (.slice a ts.length cap) _ _ ls cs x0 x1 x2 w3 hr.2.1 hr.2.2 (by omega) (by omega)
    rw [hq] at this
    exact this
  rw [hq] at HN3 HYS
  clear hq
  go_wp2_with (fail)
  refine HCF.out.mono ?_
  rintro e w4 ⟨rfl, b4⟩
  have HO4 : Hid (Obk w.heap.size w4 (.slice a1 n1 p1) (.slice a2 n2 p2) (.slice a3 n3 p3) ts ls cs) := HO3.out.below b4
  have HB4 : Hid (Below w.heap.size w w4) := belowCall HB3.out b4 HB3.out.size
  have HX4 : Hid (Blk w4 X (B3 (.slice a1 n1 p1) (.slice a2 n2 p2) (.slice a3 n3 p3)) 27) := HX3.out.below b4 HX3.out.lt
  have HK4 : Hid (Blk w4 (P + 1) #[.int .i64 x0, .int .i64 x1, .int .i64 x2] 38 ∧ Blk w4 Q (B3 (.slice none 0 0) (.slice none 0 0) (.slice none 0 0)) 27) := ⟨HK3.out.2.1.below b4 HK3.out.2.1.lt, HK3.out.2.2.below b4 HK3.out.2.2.lt⟩
  clear x0' x1' x2' y0' y1' y2' b4 HCF HO3 HB3 HX3 HK3 h3
  cases q with
  | false =>
    have HE : Hid (adB ts ls cs (x0, x1, x2) = false) := HN3.out (by first | rfl | trivial) (by first | rfl | trivial)
    have HBF : Hid (Below w.heap.size w w4) := HB4.out
    have y0 := HX4.out.cell 0
    have y1 := HX4.out.cell 1
    have y2 := HX4.out.cell 2
    simp at y0 y1 y2
    have z0 := HK4.out.2.cell 0
    have z1 := HK4.out.2.cell 1
    have z2 := HK4.out.2.cell 2
    simp at z0 z1 z2
    have f0 := HK4.out.2.frozen 0
    have f1 := HK4.out.2.frozen 1
    have f2 := HK4.out.2.frozen 2
    obtain ⟨hf1, hf2⟩ := HFIN.out w4 a1 n1 p1 a2 n2 p2 a3 n3 p3 ts ls cs false HBF.out HK4.out.2 HO4.out ⟨(HAN.out HE.out).1, (HAN.out HE.out).2.1, (HAN.out HE.out).2.2, HE.out⟩
    have HF1 : Hid (RsQ (adT ts ls cs (x0, x1, x2)) (adL ts ls cs (x0, x1, x2)) (adC ts ls cs (x0, x1, x2)) (adB ts ls cs (x0, x1, x2)) w _ _) := hf1
    have HF2 : Hid (Blk _ Q (B3 (.slice a1 n1 p1) (.slice a2 n2 p2) (.slice a3 n3 p3)) 27) := hf2
    clear hf1 hf2 HBF HO4 HK4 HX4 HB4
    go_wp2
    exact bodyPost_ret (results_BI rfl _ _ Q _ _ _ (.bool false) rfl rfl HF2.out) rfl HF1.out
  | true =>
  have hE := HYS.out (by first | rfl | trivial) h30 (by first | rfl | trivial)
  obtain ⟨e1, e2, e3, g1, g2, g3, g4⟩ := HPT.out hE
  have HE : Hid (adB ts ls cs (x0, x1, x2) = true ∧ (ls.set x0.toNat ts.length).set x1.toNat ts.length = adL ts ls cs (x0, x1, x2) ∧ (if x2 = -1 then cs else cs.set x2.toNat ts.length) = adC ts ls cs (x0, x1, x2) ∧ ts ++ [(x0, x1, x2)] = adT ts ls cs (x0, x1, x2)) := ⟨hE, e1, e2, e3⟩
  have HGG : Hid ((0 ≤ x0 ∧ x0 ≤ (ls.length : Int) - 1) ∧ (0 ≤ x1 ∧ x1 ≤ (ls.length : Int) - 1) ∧ (-1 ≤ x2 ∧ x2 ≤ (cs.length : Int) - 1)) := ⟨g1, g2, g3⟩
  have y0' := HK4.out.1.cell 0
  have y1' := HK4.out.1.cell 1
  have y2' := HK4.out.1.cell 2
  simp at y0' y1' y2'
  clear hE e1 e2 e3 g1 g2 g3 g4
  go_wp2_with (fail)
  refine (enter_c X w.heap.size _ _ _ ts ls cs x0 x1 x2 w4 HX4.out HO4.out HGG.out.1 HGG.out.2.1 HGG.out.2.2 (by omega) HB4.out.size).mono ?_
  rintro e w5 ⟨V5, rfl, hX5, hO5, -, hF5⟩
  obtain ⟨b1, m1, r1, rfl⟩ : ∃ a L c, V5 = .slice a L c := by obtain ⟨a, c, e⟩ := hO5.1.form; exact ⟨a, _, c, e⟩
  have HX5 : Hid (Blk w5 X (B3 (.slice b1 m1 r1) (.slice a2 n2 p2) (.slice a3 n3 p3)) 27) := hX5
  have HO5 : Hid (Obk w.heap.size w5 (.slice b1 m1 r1) (.slice a2 n2 p2) (.slice a3 n3 p3) (adT ts ls cs (x0, x1, x2)) (adL ts ls cs (x0, x1, x2)) (adC ts ls cs (x0, x1, x2))) := by
    show Obk _ _ _ _ _ _ _ _
    rw [← HE.out.2.1, ← HE.out.2.2.1, ← HE.out.2.2.2]
    exact hO5
  have HQ5 : Hid (Blk w5 Q (B3 (.slice none 0 0) (.slice none 0 0) (.slice none 0 0)) 27) := HK4.out.2.fr hF5 fun h => by
    rcases h with h | h | h | h
    · have := HXP.out; omega
    · exact row_blk HO4.out.1 HK4.out.2 (by decide) h
    · exact row_blk HO4.out.2.1 HK4.out.2 (by decide) h
    · exact row_blk HO4.out.2.2.1 HK4.out.2 (by decide) h
  have HBF : Hid (Below w.heap.size w w5) := HB4.out.trans (hF5.below HB4.out.size fun k q => by
    rcases q with q | q
    · rw [q]; exact HXP.out.2
    · exact (HO4.out.lt k q).1)
  clear y0' y1' y2' hX5 hO5 hF5 HX4 HO4 HB4 HK4
  have y0 := HX5.out.cell 0
  have y1 := HX5.out.cell 1
  have y2 := HX5.out.cell 2
  simp at y0 y1 y2
  have z0 := HQ5.out.cell 0
  have z1 := HQ5.out.cell 1
  have z2 := HQ5.out.cell 2
  simp at z0 z1 z2
  have f0 := HQ5.out.frozen 0
  have f1 := HQ5.out.frozen 1
  have f2 := HQ5.out.frozen 2
  obtain ⟨hf1, hf2⟩ := HFIN.out w5 b1 m1 r1 a2 n2 p2 a3 n3 p3 (adT ts ls cs (x0, x1, x2)) (adL ts ls cs (x0, x1, x2)) (adC ts ls cs (x0, x1, x2)) true HBF.out HQ5.out HO5.out ⟨rfl, rfl, rfl, HE.out.1⟩
  have HF1 : Hid (RsQ (adT ts ls cs (x0, x1, x2)) (adL ts ls cs (x0, x1, x2)) (adC ts ls cs (x0, x1, x2)) (adB ts ls cs (x0, x1, x2)) w _ _) := hf1
  have HF2 : Hid (Blk _ Q (B3 (.slice b1 m1 r1) (.slice a2 n2 p2) (.slice a3 n3 p3)) 27) := hf2
  clear hf1 hf2 HBF HO5 HQ5 HX5
  go_wp2
  exact bodyPost_ret (results_BI rfl _ _ Q _ _ _ (.bool true) rfl rfl HF2.out) rfl HF1.out

end Go.Proofs.YtmfmlbiplagmiaaDoor

/- The model adds a talk; no condition. -/
import Derived.Test.YtmfmlbiplagmiaaDoorAda
import Derived.Test.YtmfmlbiplagmiaaDoorCpm
import Derived.Test.YtmfmlbiplagmiaaDoorFan
import Derived.Test.YtmfmlbiplagmiaaDoorWrt
import Derived.Test.YtmfmlbiplagmiaaDoorWin
import Derived.Deep.Cut
namespace Go.Proofs.YtmfmlbiplagmiaaDoor
open Go.RowKit Go.ChangeShapes Go.WideShapes Go.ChangeAt
set_option linter.unusedVariables false
set_option linter.unusedSimpArgs false
set_option maxRecDepth 8000

set_option maxHeartbeats 12800000 in
theorem addM_c (va vl vc : Value) (ts : List Tk) (ls cs : List Int) (x0 x1 x2 : Int) (w : World) (h : Rbk w va vl vc ts ls cs) (hta : ts.length ≤ 1048576) (hla : ls.length ≤ 1048576) (hca : cs.length ≤ 1048576) :
   Calls Tryd.prog 18 #[.agg (B3 va vl vc), .agg #[.int .i64 x0, .int .i64 x1, .int .i64 x2]] w (RsQ (adT ts ls cs (x0, x1, x2)) (adL ts ls cs (x0, x1, x2)) (adC ts ls cs (x0, x1, x2)) (adB ts ls cs (x0, x1, x2)) w) := by
  obtain ⟨P, hP⟩ : ∃ P, w.heap.size = P := ⟨_, rfl⟩
  obtain ⟨Q, hQ⟩ : ∃ Q, P + 1 + 1 = Q := ⟨_, rfl⟩
  obtain ⟨W0, hW0⟩ : ∃ W, ((w.alloc (Obj.cells (B3 va vl vc) 27)).alloc (Obj.cells #[.int .i64 x0, .int .i64 x1, .int .i64 x2] 38)).alloc (Obj.cells (B3 (.slice none 0 0) (.slice none 0 0) (.slice none 0 0)) 27) = W := ⟨_, rfl⟩
  have HB0 : Hid (Below w.heap.size w W0) := by rw [← hW0]; exact (((Below.refl _ _).alloc (Nat.le_refl _) _).alloc (by simp) _).alloc (by simp; omega) _
  have HK0 : Hid (Blk W0 P (B3 va vl vc) 27 ∧ Blk W0 (P + 1) #[.int .i64 x0, .int .i64 x1, .int .i64 x2] 38 ∧ Blk W0 Q (B3 (.slice none 0 0) (.slice none 0 0) (.slice none 0 0)) 27) := ⟨by rw [← hW0, ← hP]; exact ((Blk.new _ _ _).alloc _).alloc _, by rw [← hW0]; exact (Blk.newAt _ (P + 1) _ 38 (by simp [hP])).alloc _, by rw [← hW0]; exact Blk.newAt _ Q _ 27 (by simp [hP, ← hQ])⟩
  have HW0 : Hid (_ = W0) := hW0
  have HP : Hid (w.heap.size = P) := hP
  have HQ : Hid (P + 1 + 1 = Q) := hQ
  have HR : Hid (Rbk w va vl vc ts ls cs) := h
  have HLN : Hid (ts.length ≤ 1048576 ∧ ls.length ≤ 1048576 ∧ cs.length ≤ 1048576) := ⟨hta, hla, hca⟩
  have HS0 : Hid (W0.heap.size = P + 1 + 1 + 1) := by show _ = _; rw [← hW0, ← hP]; simp
  have HN1 : Hid (faL ts ls cs ≠ [] → adB ts ls cs (x0, x1, x2) = false) := fun e => by unfold adB; rw [decide_eq_false e]; rfl
  have HN2 : Hid (¬ ts.length < 30 → adB ts ls cs (x0, x1, x2) = false) := fun e => by unfold adB; rw [decide_eq_false e]; simp
  have HN4 : Hid (x0 = x1 → adB ts ls cs (x0, x1, x2) = false) := fun e => by unfold adB okT; simp [e]
  have HN5 : Hid (¬ (0 ≤ x0 ∧ x0 ≤ (ls.length : Int) - 1) → adB ts ls cs (x0, x1, x2) = false) := fun e => by unfold adB inT; rw [decide_eq_false e]; simp
  have HN6 : Hid (¬ (0 ≤ x1 ∧ x1 ≤ (ls.length : Int) - 1) → adB ts ls cs (x0, x1, x2) = false) := fun e => by unfold adB inT; dsimp only; rw [decide_eq_false e]; simp
  have HN7 : Hid (¬ (-1 ≤ x2 ∧ x2 ≤ (cs.length : Int) - 1) → adB ts ls cs (x0, x1, x2) = false) := fun e => by unfold adB inT; dsimp only; rw [decide_eq_false e]; simp
  have HN8 : Hid (∀ k (hk : k < ts.length), shB (x0, x1, x2) ts[k] = true → adB ts ls cs (x0, x1, x2) = false) := fun k hk e => by
    have : okT ts (x0, x1, x2) = false := by
      unfold okT
      rw [show ts.all (fun k => !shB (x0, x1, x2) k) = false by rw [List.all_eq_false]; exact ⟨ts[k], List.getElem_mem _, by rw [e]; simp⟩]
      simp
    unfold adB; rw [this]; simp
  have HYS : Hid (faL ts ls cs = [] → ts.length < 30 → x0 ≠ x1 → (0 ≤ x0 ∧ x0 ≤ (ls.length : Int) - 1) → (0 ≤ x1 ∧ x1 ≤ (ls.length : Int) - 1) → (-1 ≤ x2 ∧ x2 ≤ (cs.length : Int) - 1) → (∀ k (hk : k < ts.length), k < ts.length → shB (x0, x1, x2) ts[k] = false) → adB ts ls cs (x0, x1, x2) = true) := fun e1 e2 e3 e4 e5 e6 e7 => by
    have h8 : ts.all (fun k => !shB (x0, x1, x2) k) = true := by
      rw [List.all_eq_true]
      intro x hx
      obtain ⟨i, hi, rfl⟩ := List.mem_iff_getElem.1 hx
      rw [e7 i hi hi]; rfl
    unfold adB inT okT
    dsimp only
    rw [h8, decide_eq_true e1, decide_eq_true e2, decide_eq_true e4, decide_eq_true e5, decide_eq_true e6, decide_eq_true e3]; rfl
  have HAY : Hid (adB ts ls cs (x0, x1, x2) = true → adT ts ls cs (x0, x1, x2) = ts ++ [(x0, x1, x2)] ∧ adL ts ls cs (x0, x1, x2) = wr18 hasL ls.length (ts ++ [(x0, x1, x2)]) ∧ adC ts ls cs (x0, x1, x2) = wr18 hasC cs.length (ts ++ [(x0, x1, x2)])) := ad_yes
  have HAN : Hid (adB ts ls cs (x0, x1, x2) = false → adT ts ls cs (x0, x1, x2) = ts ∧ adL ts ls cs (x0, x1, x2) = ls ∧ adC ts ls cs (x0, x1, x2) = cs) := ad_no
  have HL3 : Hid (faL ts ls cs = [] → ls.length ≤ 30 ∧ cs.length ≤ 30 ∧ ts.length ≤ 30) := fun e => ⟨(bkB_len (fa_nil e).1).2.1, (bkB_len (fa_nil e).1).2.2, (bkB_len (fa_nil e).1).1⟩
  have HSH : Hid (∀ (k : Nat) (hk : k < ts.length) W, Calls Tryd.prog 34 #[.agg #[.int .i64 x0, .int .i64 x1, .int .i64 x2], .agg #[.int .i64 ts[k].1, .int .i64 ts[k].2.1, .int .i64 ts[k].2.2]] W fun e w' => e = .returned (.bool (shB (x0, x1, x2) ts[k])) ∧ Below W.heap.size W w') := fun k hk W => shares_c _ _ _ _ _ _ W
  have HFIN : Hid (∀ W V0 L0 c0 V1 L1 c1 V2 L2 c2 T L C B, Below w.heap.size w W → Blk W Q (B3 (.slice none 0 0) (.slice none 0 0) (.slice none 0 0)) 27 → Obk w.heap.size W (.slice V0 L0 c0) (.slice V1 L1 c1) (.slice V2 L2 c2) T L C → (adT ts ls cs (x0, x1, x2) = T ∧ adL ts ls cs (x0, x1, x2) = L ∧ adC ts ls cs (x0, x1, x2) = C ∧ adB ts ls cs (x0, x1, x2) = B) →
      RsQ (adT ts ls cs (x0, x1, x2)) (adL ts ls cs (x0, x1, x2)) (adC ts ls cs (x0, x1, x2)) (adB ts ls cs (x0, x1, x2)) w (.returned (.tuple #[.agg (B3 (.slice V0 L0 c0) (.slice V1 L1 c1) (.slice V2 L2 c2)), .bool B])) (((W.setCell ⟨Q, 0, none⟩ (.slice V0 L0 c0)).setCell ⟨Q, 1, none⟩ (.slice V1 L1 c1)).setCell ⟨Q, 2, none⟩ (.slice V2 L2 c2)) ∧ Blk (((W.setCell ⟨Q, 0, none⟩ (.slice V0 L0 c0)).setCell ⟨Q, 1, none⟩ (.slice V1 L1 c1)).setCell ⟨Q, 2, none⟩ (.slice V2 L2 c2)) Q (B3 (.slice V0 L0 c0) (.slice V1 L1 c1) (.slice V2 L2 c2)) 27) := by
    rintro W V0 L0 c0 V1 L1 c1 V2 L2 c2 T L C B hb hk o ⟨e1, e2, e3, e4⟩
    have gg : W.grownBy (((W.setCell ⟨Q, 0, none⟩ (.slice V0 L0 c0)).setCell ⟨Q, 1, none⟩ (.slice V1 L1 c1)).setCell ⟨Q, 2, none⟩ (.slice V2 L2 c2)) (some Q) := grown_trans (grown_trans (grown_set' _ _ _ _) (grown_set' _ _ _ _)) (grown_set' _ _ _ _)
    constructor
    · rw [e1, e2, e3, e4]
      exact ⟨_, _, _, rfl, ⟨World.ownsRow.kept o.1 gg (.inr (row_blk o.1 hk (by decide))), (show Ow _ _ _ _ _ _ from World.ownsRow.kept o.2.1 gg (.inr (row_blk o.2.1 hk (by decide)))), (show Ow _ _ _ _ _ _ from World.ownsRow.kept o.2.2.1 gg (.inr (row_blk o.2.2.1 hk (by decide)))), o.2.2.2⟩, ((hb.setCell (by have := HP.out; have := HQ.out; dsimp only; omega) _).setCell (by have := HP.out; have := HQ.out; dsimp only; omega) _).setCell (by have := HP.out; have := HQ.out; dsimp only; omega) _⟩
    · have := ((hk.set 0 (.slice V0 L0 c0)).set 1 (.slice V1 L1 c1)).set 2 (.slice V2 L2 c2)
      simpa using this
  obtain ⟨⟨a, cap, rfl, -⟩, ⟨a', cap', rfl, -⟩, ⟨a'', cap'', rfl, -⟩⟩ := h
  have c0 := HK0.out.1.cell 0
  have c1 := HK0.out.1.cell 1
  have c2 := HK0.out.1.cell 2
  simp at c0 c1 c2
  clear hP hQ hW0 hta hla hca
  go_enter Tryd.func18, Tryd.ntmps18
  go_wp2_with (fail)
  rw [HW0.out, HP.out, HQ.out]
  refine (copyM_c _ _ _ ts ls cs W0 (HR.out.below HB0.out) HLN.out.1 HLN.out.2.1 HLN.out.2.2).mono ?_
  rintro e w1 ⟨wa, wl, wc, rfl, o1, b1⟩
  obtain ⟨a1, p1, rfl⟩ := o1.1.form
  obtain ⟨a2, p2, rfl⟩ := o1.2.1.form
  obtain ⟨a3, p3, rfl⟩ := o1.2.2.1.form
  obtain ⟨W2, hW2⟩ : ∃ W, (((w1.setCell ⟨P, 0, none⟩ (.slice a1 ts.length p1)).setCell ⟨P, 1, none⟩ (.slice a2 ls.length p2)).setCell ⟨P, 2, none⟩ (.slice a3 cs.length p3)) = W := ⟨_, rfl⟩
  have HB1 : Hid (Below w.heap.size w w1) := belowCall HB0.out b1 HB0.out.size
  have k0 := HK0.out.1.below b1 HK0.out.1.lt
  have k1 := HK0.out.2.1.below b1 HK0.out.2.1.lt
  have k2 := HK0.out.2.2.below b1 HK0.out.2.2.lt
  have HNT : Hid ((Value.slice a1 ts.length p1).ownBlock ≠ some (P + 1)) := fun e => by have h1 := (World.ownsRow.lt o1.1 (P + 1) e).1; have h2 := HS0.out; omega
  have gg : w1.grownBy W2 (some P) := by rw [← hW2]; exact grown_trans (grown_trans (grown_set' _ _ _ _) (grown_set' _ _ _ _)) (grown_set' _ _ _ _)
  have HO2 : Hid (Obk w.heap.size W2 (.slice a1 ts.length p1) (.slice a2 ls.length p2) (.slice a3 cs.length p3) ts ls cs) := by
    have o := o1.mono HB0.out.size
    exact ⟨World.ownsRow.kept o.1 gg (.inr (row_blk o.1 k0 (by decide))), (show Ow _ _ _ _ _ _ from World.ownsRow.kept o.2.1 gg (.inr (row_blk o.2.1 k0 (by decide)))), (show Ow _ _ _ _ _ _ from World.ownsRow.kept o.2.2.1 gg (.inr (row_blk o.2.2.1 k0 (by decide)))), o.2.2.2⟩
  have HB2 : Hid (Below w.heap.size w W2) := by rw [← hW2]; exact ((HB1.out.setCell (by have := HP.out; dsimp only; omega) _).setCell (by have := HP.out; dsimp only; omega) _).setCell (by have := HP.out; dsimp only; omega) _
  have HK2 : Hid (Blk W2 P (B3 (.slice a1 ts.length p1) (.slice a2 ls.length p2) (.slice a3 cs.length p3)) 27 ∧ Blk W2 (P + 1) #[.int .i64 x0, .int .i64 x1, .int .i64 x2] 38 ∧ Blk W2 Q (B3 (.slice none 0 0) (.slice none 0 0) (.slice none 0 0)) 27) := by
    refine ⟨?_, k1.grown gg (by simp), k2.grown gg (by have := HQ.out; simp; omega)⟩
    rw [← hW2]
    have := ((k0.set 0 (.slice a1 ts.length p1)).set 1 (.slice a2 ls.length p2)).set 2 (.slice a3 cs.length p3)
    simpa using this
  have HW2 : Hid ((((w1.setCell ⟨P, 0, none⟩ (.slice a1 ts.length p1)).setCell ⟨P, 1, none⟩ (.slice a2 ls.length p2)).setCell ⟨P, 2, none⟩ (.slice a3 cs.length p3)) = W2) := hW2
  have f0 := k0.frozen 0
  have f1 := k0.frozen 1
  have f2 := k0.frozen 2
  have x0' := k0.cell 0
  have x1' := k0.cell 1
  have x2' := k0.cell 2
  simp at x0' x1' x2'
  clear c0 c1 c2 o1 b1 k0 k1 k2 hW2 gg HB0 HB1 HK0 HW0 HS0
  go_upto_region 2 with (fail)
  rw [HW2.out]
  clear f0 f1 f2 x0' x1' x2' HW2
  have c0 := HK2.out.1.cell 0
  have c1 := HK2.out.1.cell 1
  have c2 := HK2.out.1.cell 2
  simp at c0 c1 c2
  go_wp2_with (fail)
  refine (faultsM_c _ _ _ ts ls cs W2 HO2.out.rd).mono ?_
  rintro e w3 ⟨v3, rfl, o3, b3⟩
  have HO3 : Hid (Obk w.heap.size w3 (.slice a1 ts.length p1) (.slice a2 ls.length p2) (.slice a3 cs.length p3) ts ls cs) := HO2.out.below b3
  have HB3 : Hid (Below w.heap.size w w3) := belowCall HB2.out b3 HB2.out.size
  have HK3 : Hid (Blk w3 P (B3 (.slice a1 ts.length p1) (.slice a2 ls.length p2) (.slice a3 cs.length p3)) 27 ∧ Blk w3 (P + 1) #[.int .i64 x0, .int .i64 x1, .int .i64 x2] 38 ∧ Blk w3 Q (B3 (.slice none 0 0) (.slice none 0 0) (.slice none 0 0)) 27) := ⟨HK2.out.1.below b3 HK2.out.1.lt, HK2.out.2.1.below b3 HK2.out.2.1.lt, HK2.out.2.2.below b3 HK2.out.2.2.lt⟩
  obtain ⟨fa, fc, rfl⟩ := o3.form
  obtain ⟨F, hF⟩ : ∃ F, faL ts ls cs = F := ⟨_, rfl⟩
  rw [hF] at HN1 HYS HL3 ⊢
  clear c0 c1 c2 o3 b3 hF HO2 HB2 HK2
  cases F with
  | cons f F =>
    have hn : (0 : Int) < ((f :: F).length : Int) := by simp
    have HE : Hid (adB ts ls cs (x0, x1, x2) = false) := HN1.out (by simp)
    have HBF : Hid (Below w.heap.size w w3) := HB3.out
    obtain ⟨n, hnn⟩ : ∃ n, (f :: F).length = n := ⟨_, rfl⟩
    rw [hnn] at hn ⊢
    clear hnn
    have y0 := HK3.out.1.cell 0
    have y1 := HK3.out.1.cell 1
    have y2 := HK3.out.1.cell 2
    simp at y0 y1 y2
    have z0 := HK3.out.2.2.cell 0
    have z1 := HK3.out.2.2.cell 1
    have z2 := HK3.out.2.2.cell 2
    simp at z0 z1 z2
    have f0 := HK3.out.2.2.frozen 0
    have f1 := HK3.out.2.2.frozen 1
    have f2 := HK3.out.2.2.frozen 2
    obtain ⟨hf1, hf2⟩ := HFIN.out w3 a1 ts.length p1 a2 ls.length p2 a3 cs.length p3 ts ls cs false HBF.out HK3.out.2.2 HO3.out ⟨(HAN.out HE.out).1, (HAN.out HE.out).2.1, (HAN.out HE.out).2.2, HE.out⟩
    have HF1 : Hid (RsQ (adT ts ls cs (x0, x1, x2)) (adL ts ls cs (x0, x1, x2)) (adC ts ls cs (x0, x1, x2)) (adB ts ls cs (x0, x1, x2)) w _ _) := hf1
    have HF2 : Hid (Blk _ Q (B3 (.slice a1 ts.length p1) (.slice a2 ls.length p2) (.slice a3 cs.length p3)) 27) := hf2
    clear hf1 hf2 HBF
    go_wp2
    exact bodyPost_ret (results_BI rfl _ _ Q _ _ _ (.bool false) rfl rfl HF2.out) rfl HF1.out
  | nil =>
  have c0 := HK3.out.1.cell 0
  have c1 := HK3.out.1.cell 1
  have c2 := HK3.out.1.cell 2
  have t0' := HK3.out.2.1.cell 0
  have t1' := HK3.out.2.1.cell 1
  have t2' := HK3.out.2.1.cell 2
  simp at c0 c1 c2 t0' t1' t2'
  have hn0 : (([] : List (Int × Int)).length : Int) = 0 := rfl
  by_cases h30 : ts.length < 30
  case neg =>
    have h3 : ((ts.length : Int) == 30) = true := by have := HL3.out (by first | rfl | trivial); simp; omega
    have HE : Hid (adB ts ls cs (x0, x1, x2) = false) := HN2.out h30
    have HBF : Hid (Below w.heap.size w w3) := HB3.out
    have y0 := HK3.out.1.cell 0
    have y1 := HK3.out.1.cell 1
    have y2 := HK3.out.1.cell 2
    simp at y0 y1 y2
    have z0 := HK3.out.2.2.cell 0
    have z1 := HK3.out.2.2.cell 1
    have z2 := HK3.out.2.2.cell 2
    simp at z0 z1 z2
    have f0 := HK3.out.2.2.frozen 0
    have f1 := HK3.out.2.2.frozen 1
    have f2 := HK3.out.2.2.frozen 2
    obtain ⟨hf1, hf2⟩ := HFIN.out w3 a1 ts.length p1 a2 ls.length p2 a3 cs.length p3 ts ls cs false HBF.out HK3.out.2.2 HO3.out ⟨(HAN.out HE.out).1, (HAN.out HE.out).2.1, (HAN.out HE.out).2.2, HE.out⟩
    have HF1 : Hid (RsQ (adT ts ls cs (x0, x1, x2)) (adL ts ls cs (x0, x1, x2)) (adC ts ls cs (x0, x1, x2)) (adB ts ls cs (x0, x1, x2)) w _ _) := hf1
    have HF2 : Hid (Blk _ Q (B3 (.slice a1 ts.length p1) (.slice a2 ls.length p2) (.slice a3 cs.length p3)) 27) := hf2
    clear hf1 hf2 HBF
    go_wp2
    exact bodyPost_ret (results_BI rfl _ _ Q _ _ _ (.bool false) rfl rfl HF2.out) rfl HF1.out
  case pos =>
  have h3 : ((ts.length : Int) == 30) = false := by simp; omega
  by_cases h01 : x0 = x1
  case pos =>
    have e01 : (x0 == x1) = true := by simp [h01]
    have HE : Hid (adB ts ls cs (x0, x1, x2) = false) := HN4.out h01
    have HBF : Hid (Below w.heap.size w w3) := HB3.out
    have y0 := HK3.out.1.cell 0
    have y1 := HK3.out.1.cell 1
    have y2 := HK3.out.1.cell 2
    simp at y0 y1 y2
    have z0 := HK3.out.2.2.cell 0
    have z1 := HK3.out.2.2.cell 1
    have z2 := HK3.out.2.2.cell 2
    simp at z0 z1 z2
    have f0 := HK3.out.2.2.frozen 0
    have f1 := HK3.out.2.2.frozen 1
    have f2 := HK3.out.2.2.frozen 2
    obtain ⟨hf1, hf2⟩ := HFIN.out w3 a1 ts.length p1 a2 ls.length p2 a3 cs.length p3 ts ls cs false HBF.out HK3.out.2.2 HO3.out ⟨(HAN.out HE.out).1, (HAN.out HE.out).2.1, (HAN.out HE.out).2.2, HE.out⟩
    have HF1 : Hid (RsQ (adT ts ls cs (x0, x1, x2)) (adL ts ls cs (x0, x1, x2)) (adC ts ls cs (x0, x1, x2)) (adB ts ls cs (x0, x1, x2)) w _ _) := hf1
    have HF2 : Hid (Blk _ Q (B3 (.slice a1 ts.length p1) (.slice a2 ls.length p2) (.slice a3 cs.length p3)) 27) := hf2
    clear hf1 hf2 HBF
    go_wp2
    exact bodyPost_ret (results_BI rfl _ _ Q _ _ _ (.bool false) rfl rfl HF2.out) rfl HF1.out
  case neg =>
  have e01 : (x0 == x1) = false := by simp [h01]
  obtain ⟨l1, l2, -⟩ := HL3.out (by first | rfl | trivial)
  have HL4 : Hid (ls.length ≤ 30 ∧ cs.length ≤ 30) := ⟨l1, l2⟩
  have hwl : wrap64 ((ls.length : Int) - 1) = (ls.length : Int) - 1 := wrap64_in (by omega)
  have hwc : wrap64 ((cs.length : Int) - 1) = (cs.length : Int) - 1 := wrap64_in (by omega)
  clear l1 l2
  go_wp2_with (fail)
  refine (in_c x0 0 _ _).mono ?_
  rintro e w9 ⟨rfl, hw⟩
  rw [hw]
  clear hw w9
  by_cases h5 : 0 ≤ x0 ∧ x0 ≤ (ls.length : Int) - 1
  case neg =>
    rw [decide_eq_false h5]
    have HE : Hid (adB ts ls cs (x0, x1, x2) = false) := HN5.out h5
    have HBF : Hid (Below w.heap.size w w3) := HB3.out
    have y0 := HK3.out.1.cell 0
    have y1 := HK3.out.1.cell 1
    have y2 := HK3.out.1.cell 2
    simp at y0 y1 y2
    have z0 := HK3.out.2.2.cell 0
    have z1 := HK3.out.2.2.cell 1
    have z2 := HK3.out.2.2.cell 2
    simp at z0 z1 z2
    have f0 := HK3.out.2.2.frozen 0
    have f1 := HK3.out.2.2.frozen 1
    have f2 := HK3.out.2.2.frozen 2
    obtain ⟨hf1, hf2⟩ := HFIN.out w3 a1 ts.length p1 a2 ls.length p2 a3 cs.length p3 ts ls cs false HBF.out HK3.out.2.2 HO3.out ⟨(HAN.out HE.out).1, (HAN.out HE.out).2.1, (HAN.out HE.out).2.2, HE.out⟩
    have HF1 : Hid (RsQ (adT ts ls cs (x0, x1, x2)) (adL ts ls cs (x0, x1, x2)) (adC ts ls cs (x0, x1, x2)) (adB ts ls cs (x0, x1, x2)) w _ _) := hf1
    have HF2 : Hid (Blk _ Q (B3 (.slice a1 ts.length p1) (.slice a2 ls.length p2) (.slice a3 cs.length p3)) 27) := hf2
    clear hf1 hf2 HBF
    go_wp2
    exact bodyPost_ret (results_BI rfl _ _ Q _ _ _ (.bool false) rfl rfl HF2.out) rfl HF1.out
  case pos =>
  rw [decide_eq_true h5]
  go_wp2_with (fail)
  refine (in_c x1 0 _ _).mono ?_
  rintro e w9 ⟨rfl, hw⟩
  rw [hw]
  clear hw w9
  by_cases h6 : 0 ≤ x1 ∧ x1 ≤ (ls.length : Int) - 1
  case neg =>
    rw [decide_eq_false h6]
    have HE : Hid (adB ts ls cs (x0, x1, x2) = false) := HN6.out h6
    have HBF : Hid (Below w.heap.size w w3) := HB3.out
    have y0 := HK3.out.1.cell 0
    have y1 := HK3.out.1.cell 1
    have y2 := HK3.out.1.cell 2
    simp at y0 y1 y2
    have z0 := HK3.out.2.2.cell 0
    have z1 := HK3.out.2.2.cell 1
    have z2 := HK3.out.2.2.cell 2
    simp at z0 z1 z2
    have f0 := HK3.out.2.2.frozen 0
    have f1 := HK3.out.2.2.frozen 1
    have f2 := HK3.out.2.2.frozen 2
    obtain ⟨hf1, hf2⟩ := HFIN.out w3 a1 ts.length p1 a2 ls.length p2 a3 cs.length p3 ts ls cs false HBF.out HK3.out.2.2 HO3.out ⟨(HAN.out HE.out).1, (HAN.out HE.out).2.1, (HAN.out HE.out).2.2, HE.out⟩
    have HF1 : Hid (RsQ (adT ts ls cs (x0, x1, x2)) (adL ts ls cs (x0, x1, x2)) (adC ts ls cs (x0, x1, x2)) (adB ts ls cs (x0, x1, x2)) w _ _) := hf1
    have HF2 : Hid (Blk _ Q (B3 (.slice a1 ts.length p1) (.slice a2 ls.length p2) (.slice a3 cs.length p3)) 27) := hf2
    clear hf1 hf2 HBF
    go_wp2
    exact bodyPost_ret (results_BI rfl _ _ Q _ _ _ (.bool false) rfl rfl HF2.out) rfl HF1.out
  case pos =>
  rw [decide_eq_true h6]
  go_wp2_with (fail)
  refine (in_c x2 (-1) _ _).mono ?_
  rintro e w9 ⟨rfl, hw⟩
  rw [hw]
  clear hw w9
  by_cases h7 : -1 ≤ x2 ∧ x2 ≤ (cs.length : Int) - 1
  case neg =>
    rw [decide_eq_false h7]
    have HE : Hid (adB ts ls cs (x0, x1, x2) = false) := HN7.out h7
    have HBF : Hid (Below w.heap.size w w3) := HB3.out
    have y0 := HK3.out.1.cell 0
    have y1 := HK3.out.1.cell 1
    have y2 := HK3.out.1.cell 2
    simp at y0 y1 y2
    have z0 := HK3.out.2.2.cell 0
    have z1 := HK3.out.2.2.cell 1
    have z2 := HK3.out.2.2.cell 2
    simp at z0 z1 z2
    have f0 := HK3.out.2.2.frozen 0
    have f1 := HK3.out.2.2.frozen 1
    have f2 := HK3.out.2.2.frozen 2
    obtain ⟨hf1, hf2⟩ := HFIN.out w3 a1 ts.length p1 a2 ls.length p2 a3 cs.length p3 ts ls cs false HBF.out HK3.out.2.2 HO3.out ⟨(HAN.out HE.out).1, (HAN.out HE.out).2.1, (HAN.out HE.out).2.2, HE.out⟩
    have HF1 : Hid (RsQ (adT ts ls cs (x0, x1, x2)) (adL ts ls cs (x0, x1, x2)) (adC ts ls cs (x0, x1, x2)) (adB ts ls cs (x0, x1, x2)) w _ _) := hf1
    have HF2 : Hid (Blk _ Q (B3 (.slice a1 ts.length p1) (.slice a2 ls.length p2) (.slice a3 cs.length p3)) 27) := hf2
    clear hf1 hf2 HBF
    go_wp2
    exact bodyPost_ret (results_BI rfl _ _ Q _ _ _ (.bool false) rfl rfl HF2.out) rfl HF1.out
  case pos =>
  rw [decide_eq_true h7]
  have HY2 : Hid ((∀ k (hk : k < ts.length), k < ts.length → shB (x0, x1, x2) ts[k] = false) → adB ts ls cs (x0, x1, x2) = true) := HYS.out (by first | rfl | trivial) h30 h01 h5 h6 h7
  have H30 : Hid (ts.length < 30) := h30
  clear h5 h6 h7 h01 e01 h3 hwl hwc HN1 HN2 HN4 HN5 HN6 HN7 HYS HL3 h30 hn0
  go_wp2
  clear c0 c1 c2 t0' t1' t2'
  go_loopw [6] (fun i wr => ∃ (j : Nat), i = .int .i64 (j : Int) ∧ j ≤ ts.length ∧ Hid (∀ k (hk : k < ts.length), k < j → shB (x0, x1, x2) ts[k] = false) ∧ Hid (Below w3.heap.size w3 wr)) (fun i _ => ts.length - (intOf i).toNat)
  case atStart => exact ⟨0, rfl, Nat.zero_le _, fun q hq h => by omega, Below.refl _ _⟩
  case round =>
    obtain ⟨j, rfl, hj, hA, hC⟩ := hrel
    have HK4 : Hid (Blk wr P (B3 (.slice a1 ts.length p1) (.slice a2 ls.length p2) (.slice a3 cs.length p3)) 27 ∧ Blk wr (P + 1) #[.int .i64 x0, .int .i64 x1, .int .i64 x2] 38 ∧ Blk wr Q (B3 (.slice none 0 0) (.slice none 0 0) (.slice none 0 0)) 27) := ⟨HK3.out.1.below hC.out HK3.out.1.lt, HK3.out.2.1.below hC.out HK3.out.2.1.lt, HK3.out.2.2.below hC.out HK3.out.2.2.lt⟩
    have c0 := HK4.out.1.cell 0
    simp at c0
    by_cases hlt : j < ts.length
    case neg =>
      obtain rfl : ts.length = j := by omega
      have HE := HY2.out hA.out
      have hnl : ¬ ((ts.length : Int) < (ts.length : Int)) := by omega
      have HE1 : Hid (adB ts ls cs (x0, x1, x2) = true) := HE
      have HO4 : Hid (Obk w.heap.size wr (.slice a1 ts.length p1) (.slice a2 ls.length p2) (.slice a3 cs.length p3) ts ls cs) := HO3.out.below hC.out
      have HB4 : Hid (Below w.heap.size w wr) := belowCall HB3.out hC.out HB3.out.size
      clear hlt hj hA hC HE HY2 HO3 HB3 HK3 HN8 HSH
      obtain ⟨S, hS⟩ : ∃ S : World → Prop, ∀ W, S W ↔ Blk W P (B3 (.slice a1 ts.length p1) (.slice a2 ls.length p2) (.slice a3 cs.length p3)) 27 ∧ Blk W (P + 1) #[.int .i64 x0, .int .i64 x1, .int .i64 x2] 38 := ⟨_, fun _ => Iff.rfl⟩
      have s0 : ∀ W : At S, W.wd.cell? ⟨P, 0, none⟩ = some (.slice a1 ts.length p1) := fun W => by have := ((hS _).1 W.ok).1.cell 0; simpa using this
      have s1 : ∀ W : At S, W.wd.cell? ⟨P, 1, none⟩ = some (.slice a2 ls.length p2) := fun W => by have := ((hS _).1 W.ok).1.cell 1; simpa using this
      have s2 : ∀ W : At S, W.wd.cell? ⟨P, 2, none⟩ = some (.slice a3 cs.length p3) := fun W => by have := ((hS _).1 W.ok).1.cell 2; simpa using this
      have u0 : ∀ W : At S, W.wd.cell? ⟨P + 1, 0, none⟩ = some (.int .i64 x0) := fun W => by have := ((hS _).1 W.ok).2.cell 0; simpa using this
      have u1 : ∀ W : At S, W.wd.cell? ⟨P + 1, 1, none⟩ = some (.int .i64 x1) := fun W => by have := ((hS _).1 W.ok).2.cell 1; simpa using this
      have u2 : ∀ W : At S, W.wd.cell? ⟨P + 1, 2, none⟩ = some (.int .i64 x2) := fun W => by have := ((hS _).1 W.ok).2.cell 2; simpa using this
      have HS : Hid (∀ W, S W ↔ Blk W P (B3 (.slice a1 ts.length p1) (.slice a2 ls.length p2) (.slice a3 cs.length p3)) 27 ∧ Blk W (P + 1) #[.int .i64 x0, .int .i64 x1, .int .i64 x2] 38) := hS
      have ne : Nonempty (At S) := ⟨⟨wr, (hS _).2 ⟨HK4.out.1, HK4.out.2.1⟩⟩⟩
      have HKD : Hid (Blk wr.drew P (B3 (.slice a1 ts.length p1) (.slice a2 ls.length p2) (.slice a3 cs.length p3)) 27 ∧ Blk wr.drew (P + 1) #[.int .i64 x0, .int .i64 x1, .int .i64 x2] 38 ∧ Blk wr.drew Q (B3 (.slice none 0 0) (.slice none 0 0) (.slice none 0 0)) 27) := HK4.out
      have HOD : Hid (Obk w.heap.size wr.drew (.slice a1 ts.length p1) (.slice a2 ls.length p2) (.slice a3 cs.length p3) ts ls cs) := HO4.out.below (Below.refl _ _).drew
      have HBD : Hid (Below w.heap.size w wr.drew) := HB4.out.drew
      clear hS HK4 HO4 HB4
      go_wp2
      clear c0
      refine region_mixT [true, true, true, false, false, true, true, true, true, true, true, false, false, false] 12 3 S (by kernel_rfl) rfl (by kernel_rfl) (fun _ _ _ _ _ h => h) ((HS.out _).2 ⟨HKD.out.1, HKD.out.2.1⟩) ?_
      simp only [selT, selF]
      try simp only [Act.put]
      repeat (go_big_quiet_step (fail))
      refine wpQuiet_nil ?_
      clear s0 s1 s2 u0 u1 u2 ne
      obtain ⟨wd, hwd⟩ : ∃ W, wr.drew = W := ⟨_, rfl⟩
      rw [hwd] at HKD HOD HBD ⊢
      clear hwd
      refine tail_step ?_
      go_wp2
      obtain ⟨W6, hW6⟩ : ∃ W, wd.alloc (Obj.cells #[.int .i64 x0, .int .i64 x1, .int .i64 x2] 38) = W := ⟨_, rfl⟩
      rw [hW6]
      have ba : Below wd.heap.size wd W6 := by rw [← hW6]; exact (Below.refl _ _).alloc (Nat.le_refl _) _
      have HC6 : Hid (Blk W6 wd.heap.size #[.int .i64 x0, .int .i64 x1, .int .i64 x2] 38) := by show Blk _ _ _ _; rw [← hW6]; exact Blk.new _ _ _
      have HK6 : Hid (Blk W6 P (B3 (.slice a1 ts.length p1) (.slice a2 ls.length p2) (.slice a3 cs.length p3)) 27 ∧ Blk W6 (P + 1) #[.int .i64 x0, .int .i64 x1, .int .i64 x2] 38 ∧ Blk W6 Q (B3 (.slice none 0 0) (.slice none 0 0) (.slice none 0 0)) 27) := ⟨HKD.out.1.below ba HKD.out.1.lt, HKD.out.2.1.below ba HKD.out.2.1.lt, HKD.out.2.2.below ba HKD.out.2.2.lt⟩
      have HO6 : Hid (Obk w.heap.size W6 (.slice a1 ts.length p1) (.slice a2 ls.length p2) (.slice a3 cs.length p3) ts ls cs) := HOD.out.below ba
      have HB6 : Hid (Below w.heap.size w W6) := belowCall HBD.out ba HBD.out.size
      clear ba hW6 HKD HOD HBD
      refine ⟨(HS.out _).2 ⟨HK6.out.1, HK6.out.2.1⟩, tail_step ?_⟩
      go_wp2_with (at_builtin; refine appT rfl _ _ rfl w.heap.size _ ts rfl HO6.out.1 wd.heap.size (x0, x1, x2) rfl HC6.out (by have := H30.out; omega) HB6.out.size ?_)
      intro V7 w7 o7 g7 p7
      obtain ⟨a7, L7, c7, rfl⟩ : ∃ a L c, V7 = .slice a L c := by obtain ⟨a, c, e⟩ := o7.form; exact ⟨a, _, c, e⟩
      have HK7 : Hid (Blk w7 P (B3 (.slice a1 ts.length p1) (.slice a2 ls.length p2) (.slice a3 cs.length p3)) 27 ∧ Blk w7 (P + 1) #[.int .i64 x0, .int .i64 x1, .int .i64 x2] 38 ∧ Blk w7 Q (B3 (.slice none 0 0) (.slice none 0 0) (.slice none 0 0)) 27) := ⟨HK6.out.1.grown g7 (row_blk HO6.out.1 HK6.out.1 (by decide)), HK6.out.2.1.grown g7 HNT.out, HK6.out.2.2.grown g7 (row_blk HO6.out.1 HK6.out.2.2 (by decide))⟩
      have HT7 : Hid (Og 3 tkC 38 w.heap.size w7 (.slice a7 L7 c7) (ts ++ [(x0, x1, x2)])) := o7
      have HB7 : Hid (Below w.heap.size w w7) := HB6.out.trans (grown_below g7 HB6.out.size (fun k e => (World.ownsRow.lt HO6.out.1 k e).1))
      clear o7 g7 p7 HK6 HC6 HO6 HB6
      go_wp2
      refine ⟨(HS.out _).2 ⟨HK7.out.1, HK7.out.2.1⟩, tail_step ?_⟩
      go_wp2_with (fail)
      refine (write_c _ (ts ++ [(x0, x1, x2)]) ls.length cs.length w7 (HT7.out.rd tkC_len) (by have := H30.out; simp; omega) (by have := HL4.out; omega) (by have := HL4.out; omega)).mono ?_
      rintro e w8 ⟨v1, v2, rfl, ol, oc, hap, b⟩
      obtain ⟨g1, n1, k1, rfl⟩ : ∃ a L c, v1 = .slice a L c := by obtain ⟨a, c, e⟩ := ol.form; exact ⟨a, _, c, e⟩
      obtain ⟨g2, n2, k2, rfl⟩ : ∃ a L c, v2 = .slice a L c := by obtain ⟨a, c, e⟩ := oc.form; exact ⟨a, _, c, e⟩
      have ot := HT7.out.below b
      have HK8 : Hid (Blk w8 P (B3 (.slice a1 ts.length p1) (.slice a2 ls.length p2) (.slice a3 cs.length p3)) 27 ∧ Blk w8 (P + 1) #[.int .i64 x0, .int .i64 x1, .int .i64 x2] 38 ∧ Blk w8 Q (B3 (.slice none 0 0) (.slice none 0 0) (.slice none 0 0)) 27) := ⟨HK7.out.1.below b HK7.out.1.lt, HK7.out.2.1.below b HK7.out.2.1.lt, HK7.out.2.2.below b HK7.out.2.2.lt⟩
      have HBF : Hid (Below w.heap.size w w8) := belowCall HB7.out b HB7.out.size
      have hsz := HB7.out.size
      have HO8 : Hid (Obk w.heap.size w8 (.slice a7 L7 c7) (.slice g1 n1 k1) (.slice g2 n2 k2) (adT ts ls cs (x0, x1, x2)) (adL ts ls cs (x0, x1, x2)) (adC ts ls cs (x0, x1, x2))) := by
        show Obk _ _ _ _ _ _ _ _
        obtain ⟨e1, e2, e3⟩ := HAY.out HE1.out
        rw [e1, e2, e3]
        exact ⟨ot, ol.mono hsz, oc.mono hsz, apart_tag ot ol (by decide), apart_tag ot oc (by decide), hap⟩
      clear ot ol oc hap hsz b HK7 HT7 HB7
      go_wp2
      refine ⟨(HS.out _).2 ⟨HK8.out.1, HK8.out.2.1⟩, tail_end ?_⟩
      clear HS
      have y0 := HK8.out.1.cell 0
      have y1 := HK8.out.1.cell 1
      have y2 := HK8.out.1.cell 2
      simp at y0 y1 y2
      have z0 := HK8.out.2.2.cell 0
      have z1 := HK8.out.2.2.cell 1
      have z2 := HK8.out.2.2.cell 2
      simp at z0 z1 z2
      have f0 := HK8.out.2.2.frozen 0
      have f1 := HK8.out.2.2.frozen 1
      have f2 := HK8.out.2.2.frozen 2
      obtain ⟨hf1, hf2⟩ := HFIN.out w8 a7 L7 c7 g1 n1 k1 g2 n2 k2 (adT ts ls cs (x0, x1, x2)) (adL ts ls cs (x0, x1, x2)) (adC ts ls cs (x0, x1, x2)) true HBF.out HK8.out.2.2 HO8.out ⟨rfl, rfl, rfl, HE1.out⟩
      have HF1 : Hid (RsQ (adT ts ls cs (x0, x1, x2)) (adL ts ls cs (x0, x1, x2)) (adC ts ls cs (x0, x1, x2)) (adB ts ls cs (x0, x1, x2)) w _ _) := hf1
      have HF2 : Hid (Blk _ Q (B3 (.slice a7 L7 c7) (.slice g1 n1 k1) (.slice g2 n2 k2)) 27) := hf2
      clear hf1 hf2 HBF HO8 HK8
      go_wp2
      exact bodyPost_ret (results_BI rfl _ _ Q _ _ _ (.bool true) rfl rfl HF2.out) rfl HF1.out
    case pos =>
    have hji : (j : Int) < (ts.length : Int) := by omega
    have hj0 : (0 : Int) ≤ (j : Int) := by omega
    have hwj : wrap64 ((j : Int) + 1) = (j : Int) + 1 := wrap64_in (by have := H30.out; omega)
    have HO4 : Hid (Obk w.heap.size wr (.slice a1 ts.length p1) (.slice a2 ls.length p2) (.slice a3 cs.length p3) ts ls cs) := HO3.out.below hC.out
    obtain ⟨b, off, cp, he, -, -, d0, d1, d2⟩ := rg_at HO4.out.rd.1 hlt
    obtain ⟨qb, hqb⟩ : ∃ q, shB (x0, x1, x2) ts[j] = q := ⟨_, rfl⟩
    have HCA : Hid (∀ W : Ov wr, Calls Tryd.prog 34 #[.agg #[.int .i64 x0, .int .i64 x1, .int .i64 x2], .agg #[.int .i64 ts[j].1, .int .i64 ts[j].2.1, .int .i64 ts[j].2.2]] W.wd fun e w'' => e = .returned (.bool qb) ∧ ∃ W' : Ov wr, w'' = W'.wd) := fun W => ov_call (by have := HSH.out j hlt W.wd; rw [hqb] at this; exact this)
    have HQT : Hid (qb = true → adB ts ls cs (x0, x1, x2) = false) := fun e => HN8.out j hlt (by rw [hqb]; exact e)
    have HQF : Hid (qb = false → ∀ q (hq : q < ts.length), q < j + 1 → shB (x0, x1, x2) ts[q] = false) := fun e q hq h => by
      rcases Nat.lt_or_ge q j with h' | h'
      · exact hA.out q hq h'
      · obtain rfl : q = j := by omega
        rw [hqb]; exact e
    have s0 : ∀ W : Ov wr, W.wd.cell? ⟨P, 0, none⟩ = some (.slice a1 ts.length p1) := fun W => (W.ok.cell HK4.out.1.lt).trans c0
    have u0 : ∀ W : Ov wr, W.wd.cell? ⟨P + 1, 0, none⟩ = some (.int .i64 x0) := fun W => (W.ok.cell HK4.out.2.1.lt).trans (by have := HK4.out.2.1.cell 0; simpa using this)
    have u1 : ∀ W : Ov wr, W.wd.cell? ⟨P + 1, 1, none⟩ = some (.int .i64 x1) := fun W => (W.ok.cell HK4.out.2.1.lt).trans (by have := HK4.out.2.1.cell 1; simpa using this)
    have u2 : ∀ W : Ov wr, W.wd.cell? ⟨P + 1, 2, none⟩ = some (.int .i64 x2) := fun W => (W.ok.cell HK4.out.2.1.lt).trans (by have := HK4.out.2.1.cell 2; simpa using this)
    have z0 : ∀ W : Ov wr, W.wd.cell? ⟨b, off + j * 3, none⟩ = some (.int .i64 ts[j].1) := ov_cell d0
    have z1 : ∀ W : Ov wr, W.wd.cell? ⟨b, off + j * 3 + 1, none⟩ = some (.int .i64 ts[j].2.1) := ov_cell d1
    have z2 : ∀ W : Ov wr, W.wd.cell? ⟨b, off + j * 3 + 2, none⟩ = some (.int .i64 ts[j].2.2) := ov_cell d2
    obtain ⟨tk, htk⟩ : ∃ x, ts[j] = x := ⟨_, rfl⟩
    rw [htk] at HCA z0 z1 z2
    obtain ⟨k0, k1, k2⟩ := tk
    dsimp only at z0 z1 z2 HCA
    have HCR : Hid (∀ W : Ov wr, Below w3.heap.size w3 W.wd) := fun W => belowCall hC.out W.ok hC.out.size
    have ne : Nonempty (Ov wr) := ⟨⟨_, Below.refl _ _⟩⟩
    obtain rfl : a1 = some ⟨b, off, none⟩ := by cases he; rfl
    clear he htk hqb hA hC d0 d1 d2 hj HO4 HK4
    go_wp2
    refine region_over (by kernel_rfl) (by kernel_rfl) ?_
    repeat (go_big_quiet_step (first | (go_at_call 34; exact HCA.out _)))
    refine wpQuiet_nil ?_
    rintro _ ⟨W, rfl⟩
    have HWB : Hid (Below w3.heap.size w3 W.wd) := HCR.out W
    clear s0 u0 u1 u2 z0 z1 z2 ne HCA HCR c0
    cases qb with
    | false =>
      have HF : Hid (∀ q (hq : q < ts.length), q < j + 1 → shB (x0, x1, x2) ts[q] = false) := HQF.out (by first | rfl | trivial)
      clear HQF HQT
      go_wp2
      go_roundw
      case rel => exact ⟨j + 1, by go_num, by omega, HF.out, HWB.out⟩
      case measure => (rw [hwj]; exact meas18 hlt)
    | true =>
      have HE : Hid (adB ts ls cs (x0, x1, x2) = false) := HQT.out (by first | rfl | trivial)
      obtain ⟨w5, hw5⟩ : ∃ V, W.wd = V := ⟨_, rfl⟩
      rw [hw5] at HWB ⊢
      have HBF : Hid (Below w.heap.size w w5) := belowCall HB3.out HWB.out HB3.out.size
      have HO5 : Hid (Obk w.heap.size w5 (.slice (some ⟨b, off, none⟩) ts.length p1) (.slice a2 ls.length p2) (.slice a3 cs.length p3) ts ls cs) := HO3.out.below HWB.out
      have HK5 : Hid (Blk w5 P (B3 (.slice (some ⟨b, off, none⟩) ts.length p1) (.slice a2 ls.length p2) (.slice a3 cs.length p3)) 27 ∧ Blk w5 (P + 1) #[.int .i64 x0, .int .i64 x1, .int .i64 x2] 38 ∧ Blk w5 Q (B3 (.slice none 0 0) (.slice none 0 0) (.slice none 0 0)) 27) := ⟨HK3.out.1.below HWB.out HK3.out.1.lt, HK3.out.2.1.below HWB.out HK3.out.2.1.lt, HK3.out.2.2.below HWB.out HK3.out.2.2.lt⟩
      clear hw5 HQF HQT HWB
      have y0 := HK5.out.1.cell 0
      have y1 := HK5.out.1.cell 1
      have y2 := HK5.out.1.cell 2
      simp at y0 y1 y2
      have z0 := HK5.out.2.2.cell 0
      have z1 := HK5.out.2.2.cell 1
      have z2 := HK5.out.2.2.cell 2
      simp at z0 z1 z2
      have f0 := HK5.out.2.2.frozen 0
      have f1 := HK5.out.2.2.frozen 1
      have f2 := HK5.out.2.2.frozen 2
      obtain ⟨hf1, hf2⟩ := HFIN.out w5 (some ⟨b, off, none⟩) ts.length p1 a2 ls.length p2 a3 cs.length p3 ts ls cs false HBF.out HK5.out.2.2 HO5.out ⟨(HAN.out HE.out).1, (HAN.out HE.out).2.1, (HAN.out HE.out).2.2, HE.out⟩
      have HF1 : Hid (RsQ (adT ts ls cs (x0, x1, x2)) (adL ts ls cs (x0, x1, x2)) (adC ts ls cs (x0, x1, x2)) (adB ts ls cs (x0, x1, x2)) w _ _) := hf1
      have HF2 : Hid (Blk _ Q (B3 (.slice (some ⟨b, off, none⟩) ts.length p1) (.slice a2 ls.length p2) (.slice a3 cs.length p3)) 27) := hf2
      clear hf1 hf2 HBF
      go_wp2
      exact bodyPost_ret (results_BI rfl _ _ Q _ _ _ (.bool false) rfl rfl HF2.out) rfl HF1.out

end Go.Proofs.YtmfmlbiplagmiaaDoor

/- What is drawn for the law of frames; no condition. -/
import Derived.Test.YtkjfcebdjnclaaaDoorDrc
namespace Go.Proofs.YtkjfcebdjnclaaaDoor
open Go.RowKit Go.ChangeShapes Go.WideShapes Go.ChangeAt
set_option linter.unusedVariables false
set_option linter.unusedSimpArgs false
set_option maxRecDepth 8000

/-- the first of an owned row is written -/
theorem owSet {base : Nat} {w : World} {v : Value} {ys : List Int} (h : Ow .i64 3 base w v ys) (hl : 1 ≤ ys.length) : ∃ g cap, v = .slice (some ⟨g, 0, none⟩) ys.length cap ∧ base ≤ g ∧ w.cell? ⟨g, 0, none⟩ = some (.int .i64 (ys.getD 0 0)) ∧ w.frozen? ⟨g, 0, none⟩ = false ∧
    Ow .i64 3 base (w.setCell ⟨g, 0, none⟩ (.int .i64 32768)) (.slice (some ⟨g, 0, none⟩) ys.length cap) (ys.set 0 32768) := by
  have h0 : w.ownsRow base 3 1 v ys.length (ys.map (Value.int .i64)) := h
  rcases h.2 with ⟨rfl, hn⟩ | ⟨g, cap, cur, rfl, hb, hg, -⟩
  · omega
  · refine ⟨g, cap, rfl, hb, ?_, h0.frozenAt 0, ?_⟩
    · rw [h0.cellAt 0 (by omega)]
      simp [List.getElem?_eq_getElem (show 0 < ys.length by omega)]
    · have := (h0.stored 0 (.int .i64 32768)).1
      rw [← List.map_set] at this
      unfold Ow
      rw [List.length_set]
      exact this
set_option maxHeartbeats 6400000 in
theorem drawFo_c (v : Value) (zs : List Int) (w : World) (h : Rd .u8 w v zs) (hok : ∀ z ∈ zs, 0 ≤ z ∧ z ≤ 255) (hlen : zs.length ≤ 1048576) : Calls Tryd.prog 20 #[v] w (DrV w) := by
  have HR : Hid (Rd .u8 w v zs) := h
  have HOK : Hid (∀ z ∈ zs, 0 ≤ z ∧ z ≤ 255) := hok
  have HLN : Hid (zs.length ≤ 1048576) := hlen
  clear h hok hlen
  go_enter Tryd.func20, Tryd.ntmps20
  obtain ⟨W0, hW0⟩ : ∃ W, w.alloc (Obj.cells #[.int .i64 0, .int .i64 0] 25) = W := ⟨_, rfl⟩
  obtain ⟨gc, hgc⟩ : ∃ k, w.heap.size = k := ⟨_, rfl⟩
  have HB0 : Hid (Below w.heap.size w W0) := by rw [← hW0]; exact (Below.refl _ _).alloc (Nat.le_refl _) _
  have HKA : Hid (Blk W0 gc (cdA (0, 0)) 25) := by rw [← hW0, ← hgc]; exact Blk.new _ _ _
  have HRA : Hid (Rd .u8 W0 v zs) := HR.out.below HB0.out
  have HSG : Hid (w.heap.size = gc) := hgc
  have HW0 : Hid (w.alloc (Obj.cells #[.int .i64 0, .int .i64 0] 25) = W0) := hW0
  clear hW0 hgc HR
  go_wp2_with (fail)
  rw [HW0.out, HSG.out]
  clear HW0
  refine (new_c _ zs _ HRA.out HOK.out (by have := HLN.out; omega)).mono ?_
  rintro e w1 ⟨g, rfl, d1, hg, b1⟩
  have HLG : Hid (gc < g) := Nat.lt_of_lt_of_le HKA.out.lt hg
  have HD1 : Hid (Dc w1 w1 g v zs) := Dc.start d1
  have HK1 : Hid (Blk w1 gc (cdA (0, 0)) 25) := HKA.out.below b1 HKA.out.lt
  have HB1 : Hid (Below w.heap.size w w1) := belowCall HB0.out b1 HB0.out.size
  have HG0 : Hid (w.heap.size ≤ g) := Nat.le_trans HB0.out.size hg
  clear d1 hg b1 HKA HRA HB0
  go_wp2_with (fail)
  refine (once_c _ _ _ _ _ HD1.out.dr (by omega)).mono ?_
  rintro e w2 ⟨p, rfl, d2, g2⟩
  have HD2 : Hid (Dc w1 w2 g v zs) := HD1.out.draw d2 g2
  have HK2 : Hid (Blk w2 gc (cdA (0, 0)) 25) := HK1.out.grown g2 (fun e => by have := HLG.out; have := Option.some.inj e; omega)
  clear d2 g2 HD1 HK1
  cases p
  · have HD3 : Hid (Dc w1 w2 g v zs) := HD2.out
    have HK3 : Hid (Blk w2 gc (cdA (0, 0)) 25) := HK2.out
    have n0 : (0 : Int) ≤ 30 := by omega
    have n1 : (30 : Int) ≤ 100 := by omega
    obtain ⟨w3, hw3⟩ : ∃ W, W = w2 := ⟨_, rfl⟩
    subst hw3
    have HG31 : Hid (w1.heap.size ≤ w3.heap.size) := HD3.out.gr.size
    clear HD2 HK2
    go_wp2_with (fail)
    refine (ldraw_c _ _ _ _ _ HD3.out.dr n0 n1).mono ?_
    rintro e w4 ⟨u, ys, rfl, o4, l4, d4⟩
    have HD4 : Hid (Dc w1 w4 g v zs) := HD3.out.draw d4.dr d4.gr
    have HK4 : Hid (Blk w4 gc (cdA (0, 0)) 25) := HK3.out.grown d4.gr (fun e => by have := HLG.out; have := Option.some.inj e; omega)
    have HO4 : Hid (Ow .i64 3 w3.heap.size w4 u ys) := o4
    have HL4 : Hid (1 ≤ ys.length ∧ ys.length ≤ 400) := by show _ ∧ _; omega
    have HGE : Hid (g < w3.heap.size) := HD3.out.dr.lt
    clear o4 l4 d4 HD3 HK3
    go_wp2_with (fail)
    refine (once_c _ _ _ _ _ HD4.out.dr (by omega)).mono ?_
    rintro e w5 ⟨q, rfl, d5, g5⟩
    have HD5 : Hid (Dc w1 w5 g v zs) := HD4.out.draw d5 g5
    have HK5 : Hid (Blk w5 gc (cdA (0, 0)) 25) := HK4.out.grown g5 (fun e => by have := HLG.out; have := Option.some.inj e; omega)
    have HO5 : Hid (Ow .i64 3 w3.heap.size w5 u ys) := HO4.out.drawn g5 HGE.out
    clear d5 g5 HD4 HK4 HO4
    cases q
    · go_wp2_with (fail)
      refine (dcoder_c _ _ _ _ HD5.out.dr).mono ?_
      rintro e w6 ⟨c, rfl, d6⟩
      have HD6 : Hid (Dc w1 w6 g v zs) := HD5.out.draw d6.dr d6.gr
      have HK6 : Hid (Blk w6 gc (cdA (0, 0)) 25) := HK5.out.grown d6.gr (fun e => by have := HLG.out; have := Option.some.inj e; omega)
      have HO6 : Hid (Ow .i64 3 w3.heap.size w6 u ys) := HO5.out.drawn d6.gr HGE.out
      clear d6 HD5 HK5 HO5
      go_wp2_with (refine wpList_store_row rfl 25 _ _ rfl gc _ rfl rfl 25 (cdA (0, 0)) HK6.out sizeCd rfl (by simp [Value.oneCell']) ?_)
      exact bodyPost_ret (results_C2 rfl _ _ gc c _ rfl rfl (HK6.out.row _)) rfl ⟨c, _, ys, rfl, (Ow.putRow HO6.out (by have := HGE.out; have := HLG.out; omega)).rd, HL4.out.2, belowRow (HD6.out.bel HB1.out HG0.out) _ (by have := HSG.out; omega) _⟩
    · have hyl := HL4.out.1
      obtain ⟨gu, capu, hu, hgu, hcell, hfr, hst⟩ := owSet HO5.out hyl
      subst hu
      have HD6a : Hid (Dc w1 (w5.setCell ⟨gu, 0, none⟩ (.int .i64 32768)) g v zs) := HD5.out.belowB ((Below.refl _ _).setCell (by have := HG31.out; dsimp only; omega) _)
      have HK6a : Hid (Blk (w5.setCell ⟨gu, 0, none⟩ (.int .i64 32768)) gc (cdA (0, 0)) 25) := HK5.out.other _ _ (by have := HGE.out; have := HLG.out; dsimp only; omega)
      have HO6a : Hid (Ow .i64 3 w3.heap.size (w5.setCell ⟨gu, 0, none⟩ (.int .i64 32768)) (.slice (some ⟨gu, 0, none⟩) ys.length capu) (ys.set 0 32768)) := hst
      have hi2 : (0 : Int) < (ys.length : Int) := by omega
      have HL4b : Hid ((ys.set 0 32768).length ≤ 400) := by show _ ≤ _; rw [List.length_set]; exact HL4.out.2
      clear hst HD5 HK5 HO5
      go_wp2_with (fail)
      refine (dcoder_c _ _ _ _ HD6a.out.dr).mono ?_
      rintro e w6 ⟨c, rfl, d6⟩
      have HD6 : Hid (Dc w1 w6 g v zs) := HD6a.out.draw d6.dr d6.gr
      have HK6 : Hid (Blk w6 gc (cdA (0, 0)) 25) := HK6a.out.grown d6.gr (fun e => by have := HLG.out; have := Option.some.inj e; omega)
      have HO6 : Hid (Ow .i64 3 w3.heap.size w6 (.slice (some ⟨gu, 0, none⟩) ys.length capu) (ys.set 0 32768)) := HO6a.out.drawn d6.gr HGE.out
      clear d6 HD6a HK6a HO6a
      go_wp2_with (refine wpList_store_row rfl 25 _ _ rfl gc _ rfl rfl 25 (cdA (0, 0)) HK6.out sizeCd rfl (by simp [Value.oneCell']) ?_)
      exact bodyPost_ret (results_C2 rfl _ _ gc c _ rfl rfl (HK6.out.row _)) rfl ⟨c, _, ys.set 0 32768, rfl, (Ow.putRow HO6.out (by have := HGE.out; have := HLG.out; omega)).rd, HL4b.out, belowRow (HD6.out.bel HB1.out HG0.out) _ (by have := HSG.out; omega) _⟩
  · go_wp2_with (fail)
    refine (below_c _ _ _ _ _ HD2.out.dr (by omega)).mono ?_
    rintro e w3 ⟨y, rfl, y0, y1, -, d3, g3⟩
    have y2 := y1 (by omega)
    have HD3 : Hid (Dc w1 w3 g v zs) := HD2.out.draw d3 g3
    have HK3 : Hid (Blk w3 gc (cdA (0, 0)) 25) := HK2.out.grown g3 (fun e => by have := HLG.out; have := Option.some.inj e; omega)
    have n0 : (0 : Int) ≤ 30 + y - 1 := by omega
    have n1 : 30 + y - 1 ≤ (100 : Int) := by omega
    have hp30 : (0 : Int) < 30 + y - 1 := by omega
    have HG31 : Hid (w1.heap.size ≤ w3.heap.size) := HD3.out.gr.size
    clear d3 g3 y1 HD2 HK2
    go_wp2_with (fail)
    refine (ldraw_c _ _ _ _ _ HD3.out.dr n0 n1).mono ?_
    rintro e w4 ⟨u, ys, rfl, o4, l4, d4⟩
    have HD4 : Hid (Dc w1 w4 g v zs) := HD3.out.draw d4.dr d4.gr
    have HK4 : Hid (Blk w4 gc (cdA (0, 0)) 25) := HK3.out.grown d4.gr (fun e => by have := HLG.out; have := Option.some.inj e; omega)
    have HO4 : Hid (Ow .i64 3 w3.heap.size w4 u ys) := o4
    have HL4 : Hid (1 ≤ ys.length ∧ ys.length ≤ 400) := by show _ ∧ _; omega
    have HGE : Hid (g < w3.heap.size) := HD3.out.dr.lt
    clear o4 l4 d4 HD3 HK3
    go_wp2_with (fail)
    refine (once_c _ _ _ _ _ HD4.out.dr (by omega)).mono ?_
    rintro e w5 ⟨q, rfl, d5, g5⟩
    have HD5 : Hid (Dc w1 w5 g v zs) := HD4.out.draw d5 g5
    have HK5 : Hid (Blk w5 gc (cdA (0, 0)) 25) := HK4.out.grown g5 (fun e => by have := HLG.out; have := Option.some.inj e; omega)
    have HO5 : Hid (Ow .i64 3 w3.heap.size w5 u ys) := HO4.out.drawn g5 HGE.out
    clear d5 g5 HD4 HK4 HO4
    cases q
    · go_wp2_with (fail)
      refine (dcoder_c _ _ _ _ HD5.out.dr).mono ?_
      rintro e w6 ⟨c, rfl, d6⟩
      have HD6 : Hid (Dc w1 w6 g v zs) := HD5.out.draw d6.dr d6.gr
      have HK6 : Hid (Blk w6 gc (cdA (0, 0)) 25) := HK5.out.grown d6.gr (fun e => by have := HLG.out; have := Option.some.inj e; omega)
      have HO6 : Hid (Ow .i64 3 w3.heap.size w6 u ys) := HO5.out.drawn d6.gr HGE.out
      clear d6 HD5 HK5 HO5
      go_wp2_with (refine wpList_store_row rfl 25 _ _ rfl gc _ rfl rfl 25 (cdA (0, 0)) HK6.out sizeCd rfl (by simp [Value.oneCell']) ?_)
      exact bodyPost_ret (results_C2 rfl _ _ gc c _ rfl rfl (HK6.out.row _)) rfl ⟨c, _, ys, rfl, (Ow.putRow HO6.out (by have := HGE.out; have := HLG.out; omega)).rd, HL4.out.2, belowRow (HD6.out.bel HB1.out HG0.out) _ (by have := HSG.out; omega) _⟩
    · have hyl := HL4.out.1
      obtain ⟨gu, capu, hu, hgu, hcell, hfr, hst⟩ := owSet HO5.out hyl
      subst hu
      have HD6a : Hid (Dc w1 (w5.setCell ⟨gu, 0, none⟩ (.int .i64 32768)) g v zs) := HD5.out.belowB ((Below.refl _ _).setCell (by have := HG31.out; dsimp only; omega) _)
      have HK6a : Hid (Blk (w5.setCell ⟨gu, 0, none⟩ (.int .i64 32768)) gc (cdA (0, 0)) 25) := HK5.out.other _ _ (by have := HGE.out; have := HLG.out; dsimp only; omega)
      have HO6a : Hid (Ow .i64 3 w3.heap.size (w5.setCell ⟨gu, 0, none⟩ (.int .i64 32768)) (.slice (some ⟨gu, 0, none⟩) ys.length capu) (ys.set 0 32768)) := hst
      have hi2 : (0 : Int) < (ys.length : Int) := by omega
      have HL4b : Hid ((ys.set 0 32768).length ≤ 400) := by show _ ≤ _; rw [List.length_set]; exact HL4.out.2
      clear hst HD5 HK5 HO5
      go_wp2_with (fail)
      refine (dcoder_c _ _ _ _ HD6a.out.dr).mono ?_
      rintro e w6 ⟨c, rfl, d6⟩
      have HD6 : Hid (Dc w1 w6 g v zs) := HD6a.out.draw d6.dr d6.gr
      have HK6 : Hid (Blk w6 gc (cdA (0, 0)) 25) := HK6a.out.grown d6.gr (fun e => by have := HLG.out; have := Option.some.inj e; omega)
      have HO6 : Hid (Ow .i64 3 w3.heap.size w6 (.slice (some ⟨gu, 0, none⟩) ys.length capu) (ys.set 0 32768)) := HO6a.out.drawn d6.gr HGE.out
      clear d6 HD6a HK6a HO6a
      go_wp2_with (refine wpList_store_row rfl 25 _ _ rfl gc _ rfl rfl 25 (cdA (0, 0)) HK6.out sizeCd rfl (by simp [Value.oneCell']) ?_)
      exact bodyPost_ret (results_C2 rfl _ _ gc c _ rfl rfl (HK6.out.row _)) rfl ⟨c, _, ys.set 0 32768, rfl, (Ow.putRow HO6.out (by have := HGE.out; have := HLG.out; omega)).rd, HL4b.out, belowRow (HD6.out.bel HB1.out HG0.out) _ (by have := HSG.out; omega) _⟩

end Go.Proofs.YtkjfcebdjnclaaaDoor

/- A book emptied; no condition. -/
import Derived.Test.YtmfmlbiplagmiaaDoorRpt
import Derived.Test.YtmfmlbiplagmiaaDoorMixC
namespace Go.Proofs.YtmfmlbiplagmiaaDoor
open Go.RowKit Go.ChangeShapes Go.WideShapes Go.ChangeAt
set_option linter.unusedVariables false
set_option linter.unusedSimpArgs false
set_option maxRecDepth 8000

set_option maxHeartbeats 1600000 in
theorem allFree_c (n : Nat) (w : World) (hn : n ≤ 30) : Calls Tryd.prog 62 #[.int .i64 (n : Int)] w (RpR n w) := by
  obtain ⟨W1, hW1⟩ : ∃ W, w.alloc (Obj.cells #[.int .i64 (-1)] 3) = W := ⟨_, rfl⟩
  have HB : Hid (Below w.heap.size w W1) := by rw [← hW1]; exact (Below.refl _ _).alloc (Nat.le_refl _) _
  have HC : Hid (W1.cell? ⟨w.heap.size, 0, none⟩ = some (.int .i64 (-1))) := by show _ = _; rw [← hW1, cell_box]; rfl
  have HN : Hid (n ≤ 30) := hn
  have HW1 : Hid (_ = W1) := hW1
  clear hW1 hn
  go_enter Tryd.func62, Tryd.ntmps62
  go_wp2_with (fail)
  rw [HW1.out]
  refine (repeat_c w.heap.size n W1 HC.out HN.out).mono ?_
  rintro e w2 ⟨v, rfl, o, b⟩
  have HO : Hid (Ow .i64 3 w.heap.size w2 v (List.replicate n (-1)) ∧ Below w.heap.size w w2) := ⟨o.mono HB.out.size, belowCall HB.out b HB.out.size⟩
  clear o b
  go_wp2
  go_ret
  exact ⟨_, rfl, HO.out.1, HO.out.2⟩
/-- a book without talks, all free -/
def EmR (n m : Nat) (w : World) (e : Ending) (w' : World) : Prop := ∃ vl vc, e = .returned (.agg (B3 (.slice none 0 0) vl vc)) ∧ Ow .i64 3 w.heap.size w' vl (List.replicate n (-1)) ∧ Ow .i64 3 w.heap.size w' vc (List.replicate m (-1)) ∧ Apart vl vc ∧ Below w.heap.size w w'
set_option maxHeartbeats 3200000 in
theorem emptied_c (va vl vc : Value) (ts : List Tk) (ls cs : List Int) (w : World) (h : Rbk w va vl vc ts ls cs) (hn : ls.length ≤ 30) (hm : cs.length ≤ 30) :
   Calls Tryd.prog 31 #[.agg (B3 va vl vc)] w (EmR ls.length cs.length w) := by
  obtain ⟨P, hP⟩ : ∃ P, w.heap.size = P := ⟨_, rfl⟩
  obtain ⟨W0, hW0⟩ : ∃ W, (w.alloc (Obj.cells (B3 va vl vc) 27)).alloc (Obj.cells (B3 (.slice none 0 0) (.slice none 0 0) (.slice none 0 0)) 27) = W := ⟨_, rfl⟩
  have HB0 : Hid (Below w.heap.size w W0) := by rw [← hW0]; exact ((Below.refl _ _).alloc (Nat.le_refl _) _).alloc (by simp) _
  have hk0 : Blk W0 P (B3 va vl vc) 27 := by rw [← hW0, ← hP]; exact (Blk.new _ _ _).alloc _
  have hk1 : Blk W0 (P + 1) (B3 (.slice none 0 0) (.slice none 0 0) (.slice none 0 0)) 27 := by rw [← hW0]; exact Blk.newAt _ (P + 1) _ 27 (by simp [hP])
  have HP : Hid (w.heap.size = P) := hP
  have HW0 : Hid (_ = W0) := hW0
  have HN : Hid (ls.length ≤ 30 ∧ cs.length ≤ 30) := ⟨hn, hm⟩
  obtain ⟨⟨a, cap, rfl, -⟩, ⟨a', cap', rfl, -⟩, ⟨a'', cap'', rfl, -⟩⟩ := h
  obtain ⟨S, hS⟩ : ∃ S : World → Prop, ∀ W, S W ↔ Blk W P (B3 (.slice a ts.length cap) (.slice a' ls.length cap') (.slice a'' cs.length cap'')) 27 := ⟨_, fun _ => Iff.rfl⟩
  have x1 : ∀ W : At S, W.wd.cell? ⟨P, 1, none⟩ = some (.slice a' ls.length cap') := fun W => by have := ((hS _).1 W.ok).cell 1; simpa using this
  have x2 : ∀ W : At S, W.wd.cell? ⟨P, 2, none⟩ = some (.slice a'' cs.length cap'') := fun W => by have := ((hS _).1 W.ok).cell 2; simpa using this
  have HS : Hid (∀ W, S W ↔ Blk W P (B3 (.slice a ts.length cap) (.slice a' ls.length cap') (.slice a'' cs.length cap'')) 27) := hS
  have HKD : Hid (Blk W0.drew P (B3 (.slice a ts.length cap) (.slice a' ls.length cap') (.slice a'' cs.length cap'')) 27 ∧ Blk W0.drew (P + 1) (B3 (.slice none 0 0) (.slice none 0 0) (.slice none 0 0)) 27) := ⟨hk0, hk1⟩
  have HBD : Hid (Below w.heap.size w W0.drew) := HB0.out.drew
  have ne : Nonempty (At S) := ⟨⟨W0, (hS _).2 hk0⟩⟩
  have HCL : Hid (∀ W, Calls Tryd.prog 62 #[.int .i64 (ls.length : Int)] W (RpR ls.length W)) := fun W => allFree_c _ W HN.out.1
  have HCC : Hid (∀ W, Calls Tryd.prog 62 #[.int .i64 (cs.length : Int)] W (RpR cs.length W)) := fun W => allFree_c _ W HN.out.2
  clear hn hm hP hW0 hk0 hk1 hS
  go_enter Tryd.func31, Tryd.ntmps31
  go_wp2
  rw [HW0.out, HP.out]
  refine region_anyS S (by kernel_rfl) ?_
  refine anyS_quiet [true, true, true, false, true, true, true, false, false, false] 4 rfl (by kernel_rfl) (fun _ _ _ _ _ h => h) ((HS.out _).2 HKD.out.1) ?_
  simp only [selT]
  repeat (go_big_quiet_step (fail))
  refine wpQuiet_nil ?_
  clear x1 x2 ne
  refine anyS_one 3 (by kernel_rfl) rfl ?_
  · go_wp2_with (fail)
    refine (HCL.out _).mono ?_
    rintro e w2 ⟨vl, rfl, o2, b2⟩
    have HK2 : Hid (Blk w2 P (B3 (.slice a ts.length cap) (.slice a' ls.length cap') (.slice a'' cs.length cap'')) 27 ∧ Blk w2 (P + 1) (B3 (.slice none 0 0) (.slice none 0 0) (.slice none 0 0)) 27) := ⟨HKD.out.1.below b2 HKD.out.1.lt, HKD.out.2.below b2 HKD.out.2.lt⟩
    have HB2 : Hid (Below w.heap.size w w2) := belowCall HBD.out b2 HBD.out.size
    have HO2 : Hid (Ow .i64 3 w.heap.size w2 vl (List.replicate ls.length (-1))) := o2.mono HBD.out.size
    have HL2 : Hid (∀ k, vl.ownBlock = some k → k < w2.heap.size) := fun k e => (World.ownsRow.lt o2 k e).2
    clear b2 o2 HKD HBD
    go_wp2
    refine ⟨(HS.out _).2 HK2.out.1, anyS_one 7 (by kernel_rfl) rfl ?_⟩
    go_wp2_with (fail)
    refine (HCC.out _).mono ?_
    rintro e w3 ⟨vc, rfl, o3, b3⟩
    have HK3 : Hid (Blk w3 P (B3 (.slice a ts.length cap) (.slice a' ls.length cap') (.slice a'' cs.length cap'')) 27 ∧ Blk w3 (P + 1) (B3 (.slice none 0 0) (.slice none 0 0) (.slice none 0 0)) 27) := ⟨HK2.out.1.below b3 HK2.out.1.lt, HK2.out.2.below b3 HK2.out.2.lt⟩
    have HB3 : Hid (Below w.heap.size w w3) := belowCall HB2.out b3 HB2.out.size
    have HO3 : Hid (Ow .i64 3 w.heap.size w3 vl (List.replicate ls.length (-1)) ∧ Ow .i64 3 w.heap.size w3 vc (List.replicate cs.length (-1))) := ⟨HO2.out.below b3, o3.mono HB2.out.size⟩
    have HAP : Hid (Apart vl vc) := by
      have hap : Apart vl vc := Apart.at (P := w2.heap.size) (fun k e => HL2.out k e) (fun k e => (World.ownsRow.lt o3 k e).1)
      exact hap
    clear b3 o3 HK2 HB2 HO2 HL2
    obtain ⟨la, lL, lc, rfl⟩ : ∃ a L c, vl = .slice a L c := by obtain ⟨a, c, e⟩ := Ow.form HO3.out.1; exact ⟨a, _, c, e⟩
    obtain ⟨ca, cL, cc, rfl⟩ : ∃ a L c, vc = .slice a L c := by obtain ⟨a, c, e⟩ := Ow.form HO3.out.2; exact ⟨a, _, c, e⟩
    go_wp2
    refine ⟨(HS.out _).2 HK3.out.1, anyS_one 8 (by kernel_rfl) rfl ?_⟩
    go_wp2
    refine ⟨(HS.out _).2 HK3.out.1, anyS_one 9 (by kernel_rfl) rfl ?_⟩
    have z0 := HK3.out.2.cell 0
    have z1 := HK3.out.2.cell 1
    have z2 := HK3.out.2.cell 2
    simp at z0 z1 z2
    have f0 := HK3.out.2.frozen 0
    have f1 := HK3.out.2.frozen 1
    have f2 := HK3.out.2.frozen 2
    have HFIN : Hid (EmR ls.length cs.length w (.returned (.agg (B3 (.slice none 0 0) (.slice la lL lc) (.slice ca cL cc)))) (((w3.setCell ⟨P + 1, 0, none⟩ (.slice none 0 0)).setCell ⟨P + 1, 1, none⟩ (.slice la lL lc)).setCell ⟨P + 1, 2, none⟩ (.slice ca cL cc))) := by
      have gg : w3.grownBy (((w3.setCell ⟨P + 1, 0, none⟩ (.slice none 0 0)).setCell ⟨P + 1, 1, none⟩ (.slice la lL lc)).setCell ⟨P + 1, 2, none⟩ (.slice ca cL cc)) (some (P + 1)) := grown_trans (grown_trans (grown_set' _ _ _ _) (grown_set' _ _ _ _)) (grown_set' _ _ _ _)
      refine ⟨_, _, rfl, (show Ow _ _ _ _ _ _ from World.ownsRow.kept HO3.out.1 gg (.inr (row_blk HO3.out.1 HK3.out.2 (by decide)))), (show Ow _ _ _ _ _ _ from World.ownsRow.kept HO3.out.2 gg (.inr (row_blk HO3.out.2 HK3.out.2 (by decide)))), HAP.out, ?_⟩
      exact ((HB3.out.setCell (by have := HP.out; dsimp only; omega) _).setCell (by have := HP.out; dsimp only; omega) _).setCell (by have := HP.out; dsimp only; omega) _
    have HBP : Hid (Blk (((w3.setCell ⟨P + 1, 0, none⟩ (.slice none 0 0)).setCell ⟨P + 1, 1, none⟩ (.slice la lL lc)).setCell ⟨P + 1, 2, none⟩ (.slice ca cL cc)) P (B3 (.slice a ts.length cap) (.slice a' ls.length cap') (.slice a'' cs.length cap'')) 27) := ((HK3.out.1.other _ _ (by dsimp only; omega)).other _ _ (by dsimp only; omega)).other _ _ (by dsimp only; omega)
    have HBF : Hid (Blk (((w3.setCell ⟨P + 1, 0, none⟩ (.slice none 0 0)).setCell ⟨P + 1, 1, none⟩ (.slice la lL lc)).setCell ⟨P + 1, 2, none⟩ (.slice ca cL cc)) (P + 1) (B3 (.slice none 0 0) (.slice la lL lc) (.slice ca cL cc)) 27) := by
      show Blk _ _ _ _
      have := ((HK3.out.2.set 0 (.slice none 0 0)).set 1 (.slice la lL lc)).set 2 (.slice ca cL cc)
      simpa using this
    clear HO3 HAP HK3 HB3
    go_wp2
    refine ⟨(HS.out _).2 HBP.out, anyS_end (by kernel_rfl) ?_⟩
    go_wp2
    exact bodyPost_ret (v := .agg (B3 (.slice none 0 0) (.slice la lL lc) (.slice ca cL cc))) (results_cell_row rfl _ _ _ 27 _ (0, 0) _ rfl HBF.out Tryd.underlying27 rfl sizeBk) rfl HFIN.out

end Go.Proofs.YtmfmlbiplagmiaaDoor

/- Books copied by the specification; no condition. -/
import Derived.Test.YtmfmlbiplagmiaaDoorCpb
namespace Go.Proofs.YtmfmlbiplagmiaaDoor
open Go.RowKit Go.ChangeShapes Go.WideShapes Go.ChangeAt
set_option linter.unusedVariables false
set_option linter.unusedSimpArgs false
set_option maxRecDepth 8000

section
variable {P : Program} {Q : Exit → Act → World → Prop} {S : World → Prop}
theorem anyS_three {ops : Array Oper} {n : Nat} (k k' k2 : Nat) {listed : Array Bool} {o o' o2 : Oper} {a : Act} {w : World} (hr : Region.ready .any ops listed = [k, k', k2]) (ho : ops[k]? = some o) (ho' : ops[k']? = some o') (ho2 : ops[k2]? = some o2)
    (h : wpList P ops (fun ex a w => match ex with | .normal => S w ∧ AnyS P ops Q S n (listed.setIfInBounds k true) a w | ex => Q ex a w) [o] a w)
    (h' : wpList P ops (fun ex a w => match ex with | .normal => S w ∧ AnyS P ops Q S n (listed.setIfInBounds k' true) a w | ex => Q ex a w) [o'] a w)
    (h2 : wpList P ops (fun ex a w => match ex with | .normal => S w ∧ AnyS P ops Q S n (listed.setIfInBounds k2 true) a w | ex => Q ex a w) [o2] a w) : AnyS P ops Q S (n + 1) listed a w := by
  refine ⟨fun e => (by rw [hr] at e; cases e), fun i hi => ?_⟩
  rw [hr] at hi
  have hi' : i = k ∨ i = k' ∨ i = k2 := by simpa using hi
  rcases hi' with rfl | rfl | rfl
  · exact anyS_op ho h
  · exact anyS_op ho' h'
  · exact anyS_op ho2 h2
end
set_option maxHeartbeats 12800000 in
theorem copyM_c (va vl vc : Value) (ts : List Tk) (ls cs : List Int) (w : World) (h : Rbk w va vl vc ts ls cs) (hta : ts.length ≤ 1048576) (hla : ls.length ≤ 1048576) (hca : cs.length ≤ 1048576) :
   Calls Tryd.prog 47 #[.agg (B3 va vl vc)] w (CbR ts ls cs w) := by
  obtain ⟨P, hP⟩ : ∃ P, w.heap.size = P := ⟨_, rfl⟩
  obtain ⟨W0, hW0⟩ : ∃ W, (w.alloc (Obj.cells (B3 va vl vc) 27)).alloc (Obj.cells (B3 (.slice none 0 0) (.slice none 0 0) (.slice none 0 0)) 27) = W := ⟨_, rfl⟩
  have HB0 : Hid (Below w.heap.size w W0) := by rw [← hW0]; exact ((Below.refl _ _).alloc (Nat.le_refl _) _).alloc (by simp) _
  have hk0 : Blk W0 P (B3 va vl vc) 27 := by rw [← hW0, ← hP]; exact (Blk.new _ _ _).alloc _
  have hk1 : Blk W0 (P + 1) (B3 (.slice none 0 0) (.slice none 0 0) (.slice none 0 0)) 27 := by rw [← hW0]; exact Blk.newAt _ (P + 1) _ 27 (by simp [hP])
  have HP : Hid (w.heap.size = P) := hP
  have HW0 : Hid (_ = W0) := hW0
  have HN : Hid (ts.length ≤ 1048576 ∧ ls.length ≤ 1048576 ∧ cs.length ≤ 1048576) := ⟨hta, hla, hca⟩
  have HR : Hid (Rbk w va vl vc ts ls cs) := h
  obtain ⟨⟨a, cap, rfl, -⟩, ⟨a', cap', rfl, -⟩, ⟨a'', cap'', rfl, -⟩⟩ := h
  obtain ⟨BK, hBK⟩ : ∃ c : Array Value, B3 (.slice a ts.length cap) (.slice a' ls.length cap') (.slice a'' cs.length cap'') = c := ⟨_, rfl⟩
  obtain ⟨S, hS⟩ : ∃ S : World → Prop, ∀ W, S W ↔ Blk W P BK 27 := ⟨_, fun _ => Iff.rfl⟩
  have x0 : ∀ W : At S, W.wd.cell? ⟨P, 0, none⟩ = some (.slice a ts.length cap) := fun W => by have := ((hS _).1 W.ok).cell 0; rw [← hBK] at this; simpa using this
  have x1 : ∀ W : At S, W.wd.cell? ⟨P, 1, none⟩ = some (.slice a' ls.length cap') := fun W => by have := ((hS _).1 W.ok).cell 1; rw [← hBK] at this; simpa using this
  have x2 : ∀ W : At S, W.wd.cell? ⟨P, 2, none⟩ = some (.slice a'' cs.length cap'') := fun W => by have := ((hS _).1 W.ok).cell 2; rw [← hBK] at this; simpa using this
  have HS : Hid (∀ W, S W ↔ Blk W P BK 27) := hS
  rw [hBK] at hk0
  obtain ⟨wd, hwd⟩ : ∃ W, W0.drew = W := ⟨_, rfl⟩
  have HK_0 : Hid (Blk wd P BK 27 ∧ Blk wd (P + 1) (B3 (.slice none 0 0) (.slice none 0 0) (.slice none 0 0)) 27) := by rw [← hwd]; exact ⟨hk0, hk1⟩
  have HB_0 : Hid (Below w.heap.size w wd) := by rw [← hwd]; exact HB0.out.drew
  have HWD : Hid (W0.drew = wd) := hwd
  have ne : Nonempty (At S) := ⟨⟨W0, (hS _).2 hk0⟩⟩
  have HFIN : Hid (∀ W V0 L0 c0 V1 L1 c1 V2 L2 c2, Below w.heap.size w W → Blk W (P + 1) (B3 (.slice none 0 0) (.slice none 0 0) (.slice none 0 0)) 27 → Og 3 tkC 38 w.heap.size W (.slice V0 L0 c0) ts → Ow .i64 3 w.heap.size W (.slice V1 L1 c1) ls → Ow .i64 3 w.heap.size W (.slice V2 L2 c2) cs → Apart (.slice V1 L1 c1) (.slice V2 L2 c2) →
      CbR ts ls cs w (.returned (.agg (B3 (.slice V0 L0 c0) (.slice V1 L1 c1) (.slice V2 L2 c2)))) (((W.setCell ⟨P + 1, 0, none⟩ (.slice V0 L0 c0)).setCell ⟨P + 1, 1, none⟩ (.slice V1 L1 c1)).setCell ⟨P + 1, 2, none⟩ (.slice V2 L2 c2))) := by
    intro W V0 L0 c0 V1 L1 c1 V2 L2 c2 hb hk o0 o1 o2 ap
    have gg : W.grownBy (((W.setCell ⟨P + 1, 0, none⟩ (.slice V0 L0 c0)).setCell ⟨P + 1, 1, none⟩ (.slice V1 L1 c1)).setCell ⟨P + 1, 2, none⟩ (.slice V2 L2 c2)) (some (P + 1)) := grown_trans (grown_trans (grown_set' _ _ _ _) (grown_set' _ _ _ _)) (grown_set' _ _ _ _)
    refine ⟨_, _, _, rfl, ⟨World.ownsRow.kept o0 gg (.inr (row_blk o0 hk (by decide))), (show Ow _ _ _ _ _ _ from World.ownsRow.kept o1 gg (.inr (row_blk o1 hk (by decide)))), (show Ow _ _ _ _ _ _ from World.ownsRow.kept o2 gg (.inr (row_blk o2 hk (by decide)))), apart_tag o0 o1 (by decide), apart_tag o0 o2 (by decide), ap⟩, ?_⟩
    exact ((hb.setCell (by have := HP.out; dsimp only; omega) _).setCell (by have := HP.out; dsimp only; omega) _).setCell (by have := HP.out; dsimp only; omega) _
  have HRD : Hid (∀ W, Below w.heap.size w W → Rbk W (.slice a ts.length cap) (.slice a' ls.length cap') (.slice a'' cs.length cap'') ts ls cs) := fun W hb => HR.out.below hb
  clear hta hla hca hP hW0 hk0 hk1 hS hBK hwd
  go_enter Tryd.func47, Tryd.ntmps47
  go_wp2
  rw [HW0.out, HP.out]
  refine region_anyS S (by kernel_rfl) ?_
  rw [HWD.out]
  refine anyS_quiet [false, true, true, false, false, true, true, false, false, true, true, false, false, false] 8 rfl (by kernel_rfl) (fun _ _ _ _ _ h => h) ((HS.out _).2 HK_0.out.1) ?_
  simp only [selT]
  repeat (go_big_quiet_step (fail))
  refine wpQuiet_nil ?_
  clear x0 x1 x2 ne
  refine anyS_three 0 4 8 (by kernel_rfl) rfl rfl rfl ?_ ?_ ?_
  · go_wp2
    obtain ⟨w1, hw⟩ : ∃ W, wd.alloc (Obj.cells #[] 38) = W := ⟨_, rfl⟩
    obtain ⟨V0, hv⟩ : ∃ v, Value.slice (some ⟨wd.heap.size, 0, none⟩) 0 0 = v := ⟨_, rfl⟩
    rw [hw, hv]
    have b : Below wd.heap.size wd w1 := by rw [← hw]; exact (Below.refl _ _).alloc (Nat.le_refl _) _
    have HR0_1 : Hid (Og 3 tkC 38 w.heap.size w1 V0 []) := by rw [← hw, ← hv]; exact World.ownsRow_lit wd #[] 0 HB_0.out.size (by simp) (by simp)
    have HK_1 : Hid (Blk w1 P BK 27 ∧ Blk w1 (P + 1) (B3 (.slice none 0 0) (.slice none 0 0) (.slice none 0 0)) 27) := ⟨HK_0.out.1.below b HK_0.out.1.lt, HK_0.out.2.below b HK_0.out.2.lt⟩
    have HB_1 : Hid (Below w.heap.size w w1) := belowCall HB_0.out b HB_0.out.size
    clear b hw hv HK_0 HB_0
    refine ⟨(HS.out _).2 HK_1.out.1, ?_⟩
    refine anyS_three 3 4 8 (by kernel_rfl) rfl rfl rfl ?_ ?_ ?_
    · refine appTs rfl _ _ rfl w.heap.size _ [] rfl HR0_1.out _ ts rfl (HRD.out _ HB_1.out).1 (by have := HN.out; simp; omega) HB_1.out.size ?_
      intro U2 w2 o g p
      have HR0_2 : Hid (Og 3 tkC 38 w.heap.size w2 U2 ts) := (show Og 3 tkC 38 _ _ _ _ from by simpa using o)
      have HK_2 : Hid (Blk w2 P BK 27 ∧ Blk w2 (P + 1) (B3 (.slice none 0 0) (.slice none 0 0) (.slice none 0 0)) 27) := ⟨HK_1.out.1.grown g (row_blk HR0_1.out HK_1.out.1 (by decide)), HK_1.out.2.grown g (row_blk HR0_1.out HK_1.out.2 (by decide))⟩
      have HB_2 : Hid (Below w.heap.size w w2) := HB_1.out.trans (grown_below g HB_1.out.size (fun k e => (World.ownsRow.lt HR0_1.out k e).1))
      clear o g p HK_1 HB_1 HR0_1
      go_wp2
      refine ⟨(HS.out _).2 HK_2.out.1, ?_⟩
      refine anyS_two 4 8 (by kernel_rfl) rfl rfl ?_ ?_
      · go_wp2
        obtain ⟨w3, hw⟩ : ∃ W, w2.alloc (Obj.cells #[] 3) = W := ⟨_, rfl⟩
        obtain ⟨V1, hv⟩ : ∃ v, Value.slice (some ⟨w2.heap.size, 0, none⟩) 0 0 = v := ⟨_, rfl⟩
        rw [hw, hv]
        have b : Below w2.heap.size w2 w3 := by rw [← hw]; exact (Below.refl _ _).alloc (Nat.le_refl _) _
        have HR0_3 : Hid (Og 3 tkC 38 w.heap.size w3 U2 ts) := HR0_2.out.below b
        have HR1_3 : Hid (Ow .i64 3 w.heap.size w3 V1 []) := by rw [← hw, ← hv]; exact World.ownsRow_lit w2 #[] 0 HB_2.out.size (by simp) (by simp)
        have HK_3 : Hid (Blk w3 P BK 27 ∧ Blk w3 (P + 1) (B3 (.slice none 0 0) (.slice none 0 0) (.slice none 0 0)) 27) := ⟨HK_2.out.1.below b HK_2.out.1.lt, HK_2.out.2.below b HK_2.out.2.lt⟩
        have HB_3 : Hid (Below w.heap.size w w3) := belowCall HB_2.out b HB_2.out.size
        clear b hw hv HK_2 HB_2 HR0_2
        refine ⟨(HS.out _).2 HK_3.out.1, ?_⟩
        refine anyS_two 7 8 (by kernel_rfl) rfl rfl ?_ ?_
        · refine appIs rfl _ _ rfl w.heap.size _ [] rfl HR1_3.out _ ls rfl (HRD.out _ HB_3.out).2.1 (by have := HN.out; simp; omega) HB_3.out.size ?_
          intro U4 w4 o g p
          have HR1_4 : Hid (Ow .i64 3 w.heap.size w4 U4 ls) := (show Ow .i64 3 _ _ _ _ from by simpa using o)
          have HR0_4 : Hid (Og 3 tkC 38 w.heap.size w4 U2 ts) := World.ownsRow.kept HR0_3.out g (own_tag HR0_3.out HR1_3.out (by decide))
          have HK_4 : Hid (Blk w4 P BK 27 ∧ Blk w4 (P + 1) (B3 (.slice none 0 0) (.slice none 0 0) (.slice none 0 0)) 27) := ⟨HK_3.out.1.grown g (row_blk HR1_3.out HK_3.out.1 (by decide)), HK_3.out.2.grown g (row_blk HR1_3.out HK_3.out.2 (by decide))⟩
          have HB_4 : Hid (Below w.heap.size w w4) := HB_3.out.trans (grown_below g HB_3.out.size (fun k e => (World.ownsRow.lt HR1_3.out k e).1))
          clear o g p HK_3 HB_3 HR0_3 HR1_3
          go_wp2
          refine ⟨(HS.out _).2 HK_4.out.1, ?_⟩
          refine anyS_one 8 (by kernel_rfl) rfl ?_
          go_wp2
          obtain ⟨w5, hw⟩ : ∃ W, w4.alloc (Obj.cells #[] 3) = W := ⟨_, rfl⟩
          obtain ⟨V2, hv⟩ : ∃ v, Value.slice (some ⟨w4.heap.size, 0, none⟩) 0 0 = v := ⟨_, rfl⟩
          rw [hw, hv]
          have b : Below w4.heap.size w4 w5 := by rw [← hw]; exact (Below.refl _ _).alloc (Nat.le_refl _) _
          have HR0_5 : Hid (Og 3 tkC 38 w.heap.size w5 U2 ts) := HR0_4.out.below b
          have HR1_5 : Hid (Ow .i64 3 w.heap.size w5 U4 ls) := HR1_4.out.below b
          have HR2_5 : Hid (Ow .i64 3 w.heap.size w5 V2 []) := by rw [← hw, ← hv]; exact World.ownsRow_lit w4 #[] 0 HB_4.out.size (by simp) (by simp)
          have HA_5 : Hid (Apart U4 V2) := Apart.at (P := w4.heap.size) (fun k e => (World.ownsRow.lt HR1_4.out k e).2) (fun k e => by rw [← hv] at e; simp [Value.ownBlock] at e; omega)
          have HK_5 : Hid (Blk w5 P BK 27 ∧ Blk w5 (P + 1) (B3 (.slice none 0 0) (.slice none 0 0) (.slice none 0 0)) 27) := ⟨HK_4.out.1.below b HK_4.out.1.lt, HK_4.out.2.below b HK_4.out.2.lt⟩
          have HB_5 : Hid (Below w.heap.size w w5) := belowCall HB_4.out b HB_4.out.size
          clear b hw hv HK_4 HB_4 HR0_4 HR1_4
          refine ⟨(HS.out _).2 HK_5.out.1, ?_⟩
          refine anyS_one 11 (by kernel_rfl) rfl ?_
          refine appIs rfl _ _ rfl w.heap.size _ [] rfl HR2_5.out _ cs rfl (HRD.out _ HB_5.out).2.2 (by have := HN.out; simp; omega) HB_5.out.size ?_
          intro U6 w6 o g p
          have HR2_6 : Hid (Ow .i64 3 w.heap.size w6 U6 cs) := (show Ow .i64 3 _ _ _ _ from by simpa using o)
          have HR0_6 : Hid (Og 3 tkC 38 w.heap.size w6 U2 ts) := World.ownsRow.kept HR0_5.out g (own_tag HR0_5.out HR2_5.out (by decide))
          have HR1_6 : Hid (Ow .i64 3 w.heap.size w6 U4 ls) := World.ownsRow.kept HR1_5.out g HA_5.out.or
          have hap : Apart U4 U6 := (fun k e e2 => by
            rcases p with h | h
            · exact HA_5.out k e (h.symm.trans e2)
            · rw [h] at e2; cases e2; have := (World.ownsRow.lt HR1_5.out _ e).2; omega)
          have HA_6 : Hid (Apart U4 U6) := hap
          have HK_6 : Hid (Blk w6 P BK 27 ∧ Blk w6 (P + 1) (B3 (.slice none 0 0) (.slice none 0 0) (.slice none 0 0)) 27) := ⟨HK_5.out.1.grown g (row_blk HR2_5.out HK_5.out.1 (by decide)), HK_5.out.2.grown g (row_blk HR2_5.out HK_5.out.2 (by decide))⟩
          have HB_6 : Hid (Below w.heap.size w w6) := HB_5.out.trans (grown_below g HB_5.out.size (fun k e => (World.ownsRow.lt HR2_5.out k e).1))
          clear o g p HK_5 HB_5 HR0_5 HR1_5 HR2_5 HA_5 hap
          go_wp2
          refine ⟨(HS.out _).2 HK_6.out.1, ?_⟩
          obtain ⟨y0, n0, q0, rfl⟩ : ∃ a L c, U2 = .slice a L c := by obtain ⟨a, c, e⟩ := HR0_6.out.form; exact ⟨a, _, c, e⟩
          obtain ⟨y1, n1, q1, rfl⟩ : ∃ a L c, U4 = .slice a L c := by obtain ⟨a, c, e⟩ := HR1_6.out.form; exact ⟨a, _, c, e⟩
          obtain ⟨y2, n2, q2, rfl⟩ : ∃ a L c, U6 = .slice a L c := by obtain ⟨a, c, e⟩ := HR2_6.out.form; exact ⟨a, _, c, e⟩
          refine anyS_one 12 (by kernel_rfl) rfl ?_
          go_wp2
          refine ⟨(HS.out _).2 HK_6.out.1, anyS_one 13 (by kernel_rfl) rfl ?_⟩
          have z0 := HK_6.out.2.cell 0
          have z1 := HK_6.out.2.cell 1
          have z2 := HK_6.out.2.cell 2
          simp at z0 z1 z2
          have f0 := HK_6.out.2.frozen 0
          have f1 := HK_6.out.2.frozen 1
          have f2 := HK_6.out.2.frozen 2
          have HE := HFIN.out _ _ _ _ _ _ _ _ _ _ HB_6.out HK_6.out.2 HR0_6.out HR1_6.out HR2_6.out HA_6.out
          have HEH : Hid (CbR ts ls cs w (.returned (.agg (B3 (.slice y0 n0 q0) (.slice y1 n1 q1) (.slice y2 n2 q2)))) (((w6.setCell ⟨P + 1, 0, none⟩ (.slice y0 n0 q0)).setCell ⟨P + 1, 1, none⟩ (.slice y1 n1 q1)).setCell ⟨P + 1, 2, none⟩ (.slice y2 n2 q2))) := HE
          have hbp := ((HK_6.out.1.other ⟨P + 1, 0, none⟩ (.slice y0 n0 q0) (by dsimp only; omega)).other ⟨P + 1, 1, none⟩ (.slice y1 n1 q1) (by dsimp only; omega)).other ⟨P + 1, 2, none⟩ (.slice y2 n2 q2) (by dsimp only; omega)
          have HBP : Hid (S (((w6.setCell ⟨P + 1, 0, none⟩ (.slice y0 n0 q0)).setCell ⟨P + 1, 1, none⟩ (.slice y1 n1 q1)).setCell ⟨P + 1, 2, none⟩ (.slice y2 n2 q2))) := (HS.out _).2 hbp
          have hbf : Blk (((w6.setCell ⟨P + 1, 0, none⟩ (.slice y0 n0 q0)).setCell ⟨P + 1, 1, none⟩ (.slice y1 n1 q1)).setCell ⟨P + 1, 2, none⟩ (.slice y2 n2 q2)) (P + 1) (B3 (.slice y0 n0 q0) (.slice y1 n1 q1) (.slice y2 n2 q2)) 27 := by
            have := ((HK_6.out.2.set 0 (.slice y0 n0 q0)).set 1 (.slice y1 n1 q1)).set 2 (.slice y2 n2 q2)
            simpa using this
          have HBF : Hid (Blk (((w6.setCell ⟨P + 1, 0, none⟩ (.slice y0 n0 q0)).setCell ⟨P + 1, 1, none⟩ (.slice y1 n1 q1)).setCell ⟨P + 1, 2, none⟩ (.slice y2 n2 q2)) (P + 1) (B3 (.slice y0 n0 q0) (.slice y1 n1 q1) (.slice y2 n2 q2)) 27) := hbf
          clear HE hbp hbf HK_6 HB_6 HR0_6 HR1_6 HR2_6 HA_6
          go_wp2
          refine ⟨HBP.out, anyS_end (by kernel_rfl) ?_⟩
          go_wp2
          exact bodyPost_ret (v := .agg (B3 (.slice y0 n0 q0) (.slice y1 n1 q1) (.slice y2 n2 q2))) (results_cell_row rfl _ _ _ 27 _ (0, 0) _ rfl HBF.out Tryd.underlying27 rfl sizeBk) rfl HEH.out
        · go_wp2
          obtain ⟨w7, hw⟩ : ∃ W, w3.alloc (Obj.cells #[] 3) = W := ⟨_, rfl⟩
          obtain ⟨V2, hv⟩ : ∃ v, Value.slice (some ⟨w3.heap.size, 0, none⟩) 0 0 = v := ⟨_, rfl⟩
          rw [hw, hv]
          have b : Below w3.heap.size w3 w7 := by rw [← hw]; exact (Below.refl _ _).alloc (Nat.le_refl _) _
          have HR0_7 : Hid (Og 3 tkC 38 w.heap.size w7 U2 ts) := HR0_3.out.below b
          have HR1_7 : Hid (Ow .i64 3 w.heap.size w7 V1 []) := HR1_3.out.below b
          have HR2_7 : Hid (Ow .i64 3 w.heap.size w7 V2 []) := by rw [← hw, ← hv]; exact World.ownsRow_lit w3 #[] 0 HB_3.out.size (by simp) (by simp)
          have HA_7 : Hid (Apart V1 V2) := Apart.at (P := w3.heap.size) (fun k e => (World.ownsRow.lt HR1_3.out k e).2) (fun k e => by rw [← hv] at e; simp [Value.ownBlock] at e; omega)
          have HK_7 : Hid (Blk w7 P BK 27 ∧ Blk w7 (P + 1) (B3 (.slice none 0 0) (.slice none 0 0) (.slice none 0 0)) 27) := ⟨HK_3.out.1.below b HK_3.out.1.lt, HK_3.out.2.below b HK_3.out.2.lt⟩
          have HB_7 : Hid (Below w.heap.size w w7) := belowCall HB_3.out b HB_3.out.size
          clear b hw hv HK_3 HB_3 HR0_3 HR1_3
          refine ⟨(HS.out _).2 HK_7.out.1, ?_⟩
          refine anyS_one 7 (by kernel_rfl) rfl ?_
          refine appIs rfl _ _ rfl w.heap.size _ [] rfl HR1_7.out _ ls rfl (HRD.out _ HB_7.out).2.1 (by have := HN.out; simp; omega) HB_7.out.size ?_
          intro U8 w8 o g p
          have HR1_8 : Hid (Ow .i64 3 w.heap.size w8 U8 ls) := (show Ow .i64 3 _ _ _ _ from by simpa using o)
          have HR0_8 : Hid (Og 3 tkC 38 w.heap.size w8 U2 ts) := World.ownsRow.kept HR0_7.out g (own_tag HR0_7.out HR1_7.out (by decide))
          have HR2_8 : Hid (Ow .i64 3 w.heap.size w8 V2 []) := World.ownsRow.kept HR2_7.out g HA_7.out.symm.or
          have hap : Apart V2 U8 := (fun k e e2 => by
            rcases p with h | h
            · exact HA_7.out.symm k e (h.symm.trans e2)
            · rw [h] at e2; cases e2; have := (World.ownsRow.lt HR2_7.out _ e).2; omega)
          have HA_8 : Hid (Apart U8 V2) := hap.symm
          have HK_8 : Hid (Blk w8 P BK 27 ∧ Blk w8 (P + 1) (B3 (.slice none 0 0) (.slice none 0 0) (.slice none 0 0)) 27) := ⟨HK_7.out.1.grown g (row_blk HR1_7.out HK_7.out.1 (by decide)), HK_7.out.2.grown g (row_blk HR1_7.out HK_7.out.2 (by decide))⟩
          have HB_8 : Hid (Below w.heap.size w w8) := HB_7.out.trans (grown_below g HB_7.out.size (fun k e => (World.ownsRow.lt HR1_7.out k e).1))
          clear o g p HK_7 HB_7 HR0_7 HR1_7 HR2_7 HA_7 hap
          go_wp2
          refine ⟨(HS.out _).2 HK_8.out.1, ?_⟩
          refine anyS_one 11 (by kernel_rfl) rfl ?_
          refine appIs rfl _ _ rfl w.heap.size _ [] rfl HR2_8.out _ cs rfl (HRD.out _ HB_8.out).2.2 (by have := HN.out; simp; omega) HB_8.out.size ?_
          intro U9 w9 o g p
          have HR2_9 : Hid (Ow .i64 3 w.heap.size w9 U9 cs) := (show Ow .i64 3 _ _ _ _ from by simpa using o)
          have HR0_9 : Hid (Og 3 tkC 38 w.heap.size w9 U2 ts) := World.ownsRow.kept HR0_8.out g (own_tag HR0_8.out HR2_8.out (by decide))
          have HR1_9 : Hid (Ow .i64 3 w.heap.size w9 U8 ls) := World.ownsRow.kept HR1_8.out g HA_8.out.or
          have hap : Apart U8 U9 := (fun k e e2 => by
            rcases p with h | h
            · exact HA_8.out k e (h.symm.trans e2)
            · rw [h] at e2; cases e2; have := (World.ownsRow.lt HR1_8.out _ e).2; omega)
          have HA_9 : Hid (Apart U8 U9) := hap
          have HK_9 : Hid (Blk w9 P BK 27 ∧ Blk w9 (P + 1) (B3 (.slice none 0 0) (.slice none 0 0) (.slice none 0 0)) 27) := ⟨HK_8.out.1.grown g (row_blk HR2_8.out HK_8.out.1 (by decide)), HK_8.out.2.grown g (row_blk HR2_8.out HK_8.out.2 (by decide))⟩
          have HB_9 : Hid (Below w.heap.size w w9) := HB_8.out.trans (grown_below g HB_8.out.size (fun k e => (World.ownsRow.lt HR2_8.out k e).1))
          clear o g p HK_8 HB_8 HR0_8 HR1_8 HR2_8 HA_8 hap
          go_wp2
          refine ⟨(HS.out _).2 HK_9.out.1, ?_⟩
          obtain ⟨y0, n0, q0, rfl⟩ : ∃ a L c, U2 = .slice a L c := by obtain ⟨a, c, e⟩ := HR0_9.out.form; exact ⟨a, _, c, e⟩
          obtain ⟨y1, n1, q1, rfl⟩ : ∃ a L c, U8 = .slice a L c := by obtain ⟨a, c, e⟩ := HR1_9.out.form; exact ⟨a, _, c, e⟩
          obtain ⟨y2, n2, q2, rfl⟩ : ∃ a L c, U9 = .slice a L c := by obtain ⟨a, c, e⟩ := HR2_9.out.form; exact ⟨a, _, c, e⟩
          refine anyS_one 12 (by kernel_rfl) rfl ?_
          go_wp2
          refine ⟨(HS.out _).2 HK_9.out.1, anyS_one 13 (by kernel_rfl) rfl ?_⟩
          have z0 := HK_9.out.2.cell 0
          have z1 := HK_9.out.2.cell 1
          have z2 := HK_9.out.2.cell 2
          simp at z0 z1 z2
          have f0 := HK_9.out.2.frozen 0
          have f1 := HK_9.out.2.frozen 1
          have f2 := HK_9.out.2.frozen 2
          have HE := HFIN.out _ _ _ _ _ _ _ _ _ _ HB_9.out HK_9.out.2 HR0_9.out HR1_9.out HR2_9.out HA_9.out
          have HEH : Hid (CbR ts ls cs w (.returned (.agg (B3 (.slice y0 n0 q0) (.slice y1 n1 q1) (.slice y2 n2 q2)))) (((w9.setCell ⟨P + 1, 0, none⟩ (.slice y0 n0 q0)).setCell ⟨P + 1, 1, none⟩ (.slice y1 n1 q1)).setCell ⟨P + 1, 2, none⟩ (.slice y2 n2 q2))) := HE
          have hbp := ((HK_9.out.1.other ⟨P + 1, 0, none⟩ (.slice y0 n0 q0) (by dsimp only; omega)).other ⟨P + 1, 1, none⟩ (.slice y1 n1 q1) (by dsimp only; omega)).other ⟨P + 1, 2, none⟩ (.slice y2 n2 q2) (by dsimp only; omega)
          have HBP : Hid (S (((w9.setCell ⟨P + 1, 0, none⟩ (.slice y0 n0 q0)).setCell ⟨P + 1, 1, none⟩ (.slice y1 n1 q1)).setCell ⟨P + 1, 2, none⟩ (.slice y2 n2 q2))) := (HS.out _).2 hbp
          have hbf : Blk (((w9.setCell ⟨P + 1, 0, none⟩ (.slice y0 n0 q0)).setCell ⟨P + 1, 1, none⟩ (.slice y1 n1 q1)).setCell ⟨P + 1, 2, none⟩ (.slice y2 n2 q2)) (P + 1) (B3 (.slice y0 n0 q0) (.slice y1 n1 q1) (.slice y2 n2 q2)) 27 := by
            have := ((HK_9.out.2.set 0 (.slice y0 n0 q0)).set 1 (.slice y1 n1 q1)).set 2 (.slice y2 n2 q2)
            simpa using this
          have HBF : Hid (Blk (((w9.setCell ⟨P + 1, 0, none⟩ (.slice y0 n0 q0)).setCell ⟨P + 1, 1, none⟩ (.slice y1 n1 q1)).setCell ⟨P + 1, 2, none⟩ (.slice y2 n2 q2)) (P + 1) (B3 (.slice y0 n0 q0) (.slice y1 n1 q1) (.slice y2 n2 q2)) 27) := hbf
          clear HE hbp hbf HK_9 HB_9 HR0_9 HR1_9 HR2_9 HA_9
          go_wp2
          refine ⟨HBP.out, anyS_end (by kernel_rfl) ?_⟩
          go_wp2
          exact bodyPost_ret (v := .agg (B3 (.slice y0 n0 q0) (.slice y1 n1 q1) (.slice y2 n2 q2))) (results_cell_row rfl _ _ _ 27 _ (0, 0) _ rfl HBF.out Tryd.underlying27 rfl sizeBk) rfl HEH.out
      · go_wp2
        obtain ⟨w10, hw⟩ : ∃ W, w2.alloc (Obj.cells #[] 3) = W := ⟨_, rfl⟩
        obtain ⟨V2, hv⟩ : ∃ v, Value.slice (some ⟨w2.heap.size, 0, none⟩) 0 0 = v := ⟨_, rfl⟩
        rw [hw, hv]
        have b : Below w2.heap.size w2 w10 := by rw [← hw]; exact (Below.refl _ _).alloc (Nat.le_refl _) _
        have HR0_10 : Hid (Og 3 tkC 38 w.heap.size w10 U2 ts) := HR0_2.out.below b
        have HR2_10 : Hid (Ow .i64 3 w.heap.size w10 V2 []) := by rw [← hw, ← hv]; exact World.ownsRow_lit w2 #[] 0 HB_2.out.size (by simp) (by simp)
        have HK_10 : Hid (Blk w10 P BK 27 ∧ Blk w10 (P + 1) (B3 (.slice none 0 0) (.slice none 0 0) (.slice none 0 0)) 27) := ⟨HK_2.out.1.below b HK_2.out.1.lt, HK_2.out.2.below b HK_2.out.2.lt⟩
        have HB_10 : Hid (Below w.heap.size w w10) := belowCall HB_2.out b HB_2.out.size
        clear b hw hv HK_2 HB_2 HR0_2
        refine ⟨(HS.out _).2 HK_10.out.1, ?_⟩
        refine anyS_one 4 (by kernel_rfl) rfl ?_
        go_wp2
        obtain ⟨w11, hw⟩ : ∃ W, w10.alloc (Obj.cells #[] 3) = W := ⟨_, rfl⟩
        obtain ⟨V1, hv⟩ : ∃ v, Value.slice (some ⟨w10.heap.size, 0, none⟩) 0 0 = v := ⟨_, rfl⟩
        rw [hw, hv]
        have b : Below w10.heap.size w10 w11 := by rw [← hw]; exact (Below.refl _ _).alloc (Nat.le_refl _) _
        have HR0_11 : Hid (Og 3 tkC 38 w.heap.size w11 U2 ts) := HR0_10.out.below b
        have HR2_11 : Hid (Ow .i64 3 w.heap.size w11 V2 []) := HR2_10.out.below b
        have HR1_11 : Hid (Ow .i64 3 w.heap.size w11 V1 []) := by rw [← hw, ← hv]; exact World.ownsRow_lit w10 #[] 0 HB_10.out.size (by simp) (by simp)
        have HA_11 : Hid (Apart V1 V2) := (Apart.at (P := w10.heap.size) (fun k e => (World.ownsRow.lt HR2_10.out k e).2) (fun k e => by rw [← hv] at e; simp [Value.ownBlock] at e; omega) : Apart V2 V1).symm
        have HK_11 : Hid (Blk w11 P BK 27 ∧ Blk w11 (P + 1) (B3 (.slice none 0 0) (.slice none 0 0) (.slice none 0 0)) 27) := ⟨HK_10.out.1.below b HK_10.out.1.lt, HK_10.out.2.below b HK_10.out.2.lt⟩
        have HB_11 : Hid (Below w.heap.size w w11) := belowCall HB_10.out b HB_10.out.size
        clear b hw hv HK_10 HB_10 HR0_10 HR2_10
        refine ⟨(HS.out _).2 HK_11.out.1, ?_⟩
        refine anyS_one 7 (by kernel_rfl) rfl ?_
        refine appIs rfl _ _ rfl w.heap.size _ [] rfl HR1_11.out _ ls rfl (HRD.out _ HB_11.out).2.1 (by have := HN.out; simp; omega) HB_11.out.size ?_
        intro U12 w12 o g p
        have HR1_12 : Hid (Ow .i64 3 w.heap.size w12 U12 ls) := (show Ow .i64 3 _ _ _ _ from by simpa using o)
        have HR0_12 : Hid (Og 3 tkC 38 w.heap.size w12 U2 ts) := World.ownsRow.kept HR0_11.out g (own_tag HR0_11.out HR1_11.out (by decide))
        have HR2_12 : Hid (Ow .i64 3 w.heap.size w12 V2 []) := World.ownsRow.kept HR2_11.out g HA_11.out.symm.or
        have hap : Apart V2 U12 := (fun k e e2 => by
          rcases p with h | h
          · exact HA_11.out.symm k e (h.symm.trans e2)
          · rw [h] at e2; cases e2; have := (World.ownsRow.lt HR2_11.out _ e).2; omega)
        have HA_12 : Hid (Apart U12 V2) := hap.symm
        have HK_12 : Hid (Blk w12 P BK 27 ∧ Blk w12 (P + 1) (B3 (.slice none 0 0) (.slice none 0 0) (.slice none 0 0)) 27) := ⟨HK_11.out.1.grown g (row_blk HR1_11.out HK_11.out.1 (by decide)), HK_11.out.2.grown g (row_blk HR1_11.out HK_11.out.2 (by decide))⟩
        have HB_12 : Hid (Below w.heap.size w w12) := HB_11.out.trans (grown_below g HB_11.out.size (fun k e => (World.ownsRow.lt HR1_11.out k e).1))
        clear o g p HK_11 HB_11 HR0_11 HR2_11 HR1_11 HA_11 hap
        go_wp2
        refine ⟨(HS.out _).2 HK_12.out.1, ?_⟩
        refine anyS_one 11 (by kernel_rfl) rfl ?_
        refine appIs rfl _ _ rfl w.heap.size _ [] rfl HR2_12.out _ cs rfl (HRD.out _ HB_12.out).2.2 (by have := HN.out; simp; omega) HB_12.out.size ?_
        intro U13 w13 o g p
        have HR2_13 : Hid (Ow .i64 3 w.heap.size w13 U13 cs) := (show Ow .i64 3 _ _ _ _ from by simpa using o)
        have HR0_13 : Hid (Og 3 tkC 38 w.heap.size w13 U2 ts) := World.ownsRow.kept HR0_12.out g (own_tag HR0_12.out HR2_12.out (by decide))
        have HR1_13 : Hid (Ow .i64 3 w.heap.size w13 U12 ls) := World.ownsRow.kept HR1_12.out g HA_12.out.or
        have hap : Apart U12 U13 := (fun k e e2 => by
          rcases p with h | h
          · exact HA_12.out k e (h.symm.trans e2)
          · rw [h] at e2; cases e2; have := (World.ownsRow.lt HR1_12.out _ e).2; omega)
        have HA_13 : Hid (Apart U12 U13) := hap
        have HK_13 : Hid (Blk w13 P BK 27 ∧ Blk w13 (P + 1) (B3 (.slice none 0 0) (.slice none 0 0) (.slice none 0 0)) 27) := ⟨HK_12.out.1.grown g (row_blk HR2_12.out HK_12.out.1 (by decide)), HK_12.out.2.grown g (row_blk HR2_12.out HK_12.out.2 (by decide))⟩
        have HB_13 : Hid (Below w.heap.size w w13) := HB_12.out.trans (grown_below g HB_12.out.size (fun k e => (World.ownsRow.lt HR2_12.out k e).1))
        clear o g p HK_12 HB_12 HR0_12 HR2_12 HR1_12 HA_12 hap
        go_wp2
        refine ⟨(HS.out _).2 HK_13.out.1, ?_⟩
        obtain ⟨y0, n0, q0, rfl⟩ : ∃ a L c, U2 = .slice a L c := by obtain ⟨a, c, e⟩ := HR0_13.out.form; exact ⟨a, _, c, e⟩
        obtain ⟨y1, n1, q1, rfl⟩ : ∃ a L c, U12 = .slice a L c := by obtain ⟨a, c, e⟩ := HR1_13.out.form; exact ⟨a, _, c, e⟩
        obtain ⟨y2, n2, q2, rfl⟩ : ∃ a L c, U13 = .slice a L c := by obtain ⟨a, c, e⟩ := HR2_13.out.form; exact ⟨a, _, c, e⟩
        refine anyS_one 12 (by kernel_rfl) rfl ?_
        go_wp2
        refine ⟨(HS.out _).2 HK_13.out.1, anyS_one 13 (by kernel_rfl) rfl ?_⟩
        have z0 := HK_13.out.2.cell 0
        have z1 := HK_13.out.2.cell 1
        have z2 := HK_13.out.2.cell 2
        simp at z0 z1 z2
        have f0 := HK_13.out.2.frozen 0
        have f1 := HK_13.out.2.frozen 1
        have f2 := HK_13.out.2.frozen 2
        have HE := HFIN.out _ _ _ _ _ _ _ _ _ _ HB_13.out HK_13.out.2 HR0_13.out HR1_13.out HR2_13.out HA_13.out
        have HEH : Hid (CbR ts ls cs w (.returned (.agg (B3 (.slice y0 n0 q0) (.slice y1 n1 q1) (.slice y2 n2 q2)))) (((w13.setCell ⟨P + 1, 0, none⟩ (.slice y0 n0 q0)).setCell ⟨P + 1, 1, none⟩ (.slice y1 n1 q1)).setCell ⟨P + 1, 2, none⟩ (.slice y2 n2 q2))) := HE
        have hbp := ((HK_13.out.1.other ⟨P + 1, 0, none⟩ (.slice y0 n0 q0) (by dsimp only; omega)).other ⟨P + 1, 1, none⟩ (.slice y1 n1 q1) (by dsimp only; omega)).other ⟨P + 1, 2, none⟩ (.slice y2 n2 q2) (by dsimp only; omega)
        have HBP : Hid (S (((w13.setCell ⟨P + 1, 0, none⟩ (.slice y0 n0 q0)).setCell ⟨P + 1, 1, none⟩ (.slice y1 n1 q1)).setCell ⟨P + 1, 2, none⟩ (.slice y2 n2 q2))) := (HS.out _).2 hbp
        have hbf : Blk (((w13.setCell ⟨P + 1, 0, none⟩ (.slice y0 n0 q0)).setCell ⟨P + 1, 1, none⟩ (.slice y1 n1 q1)).setCell ⟨P + 1, 2, none⟩ (.slice y2 n2 q2)) (P + 1) (B3 (.slice y0 n0 q0) (.slice y1 n1 q1) (.slice y2 n2 q2)) 27 := by
          have := ((HK_13.out.2.set 0 (.slice y0 n0 q0)).set 1 (.slice y1 n1 q1)).set 2 (.slice y2 n2 q2)
          simpa using this
        have HBF : Hid (Blk (((w13.setCell ⟨P + 1, 0, none⟩ (.slice y0 n0 q0)).setCell ⟨P + 1, 1, none⟩ (.slice y1 n1 q1)).setCell ⟨P + 1, 2, none⟩ (.slice y2 n2 q2)) (P + 1) (B3 (.slice y0 n0 q0) (.slice y1 n1 q1) (.slice y2 n2 q2)) 27) := hbf
        clear HE hbp hbf HK_13 HB_13 HR0_13 HR1_13 HR2_13 HA_13
        go_wp2
        refine ⟨HBP.out, anyS_end (by kernel_rfl) ?_⟩
        go_wp2
        exact bodyPost_ret (v := .agg (B3 (.slice y0 n0 q0) (.slice y1 n1 q1) (.slice y2 n2 q2))) (results_cell_row rfl _ _ _ 27 _ (0, 0) _ rfl HBF.out Tryd.underlying27 rfl sizeBk) rfl HEH.out
    · go_wp2
      obtain ⟨w14, hw⟩ : ∃ W, w1.alloc (Obj.cells #[] 3) = W := ⟨_, rfl⟩
      obtain ⟨V1, hv⟩ : ∃ v, Value.slice (some ⟨w1.heap.size, 0, none⟩) 0 0 = v := ⟨_, rfl⟩
      rw [hw, hv]
      have b : Below w1.heap.size w1 w14 := by rw [← hw]; exact (Below.refl _ _).alloc (Nat.le_refl _) _
      have HR0_14 : Hid (Og 3 tkC 38 w.heap.size w14 V0 []) := HR0_1.out.below b
      have HR1_14 : Hid (Ow .i64 3 w.heap.size w14 V1 []) := by rw [← hw, ← hv]; exact World.ownsRow_lit w1 #[] 0 HB_1.out.size (by simp) (by simp)
      have HK_14 : Hid (Blk w14 P BK 27 ∧ Blk w14 (P + 1) (B3 (.slice none 0 0) (.slice none 0 0) (.slice none 0 0)) 27) := ⟨HK_1.out.1.below b HK_1.out.1.lt, HK_1.out.2.below b HK_1.out.2.lt⟩
      have HB_14 : Hid (Below w.heap.size w w14) := belowCall HB_1.out b HB_1.out.size
      clear b hw hv HK_1 HB_1 HR0_1
      refine ⟨(HS.out _).2 HK_14.out.1, ?_⟩
      refine anyS_two 3 8 (by kernel_rfl) rfl rfl ?_ ?_
      · refine appTs rfl _ _ rfl w.heap.size _ [] rfl HR0_14.out _ ts rfl (HRD.out _ HB_14.out).1 (by have := HN.out; simp; omega) HB_14.out.size ?_
        intro U15 w15 o g p
        have HR0_15 : Hid (Og 3 tkC 38 w.heap.size w15 U15 ts) := (show Og 3 tkC 38 _ _ _ _ from by simpa using o)
        have HR1_15 : Hid (Ow .i64 3 w.heap.size w15 V1 []) := World.ownsRow.kept HR1_14.out g (own_tag HR1_14.out HR0_14.out (by decide))
        have HK_15 : Hid (Blk w15 P BK 27 ∧ Blk w15 (P + 1) (B3 (.slice none 0 0) (.slice none 0 0) (.slice none 0 0)) 27) := ⟨HK_14.out.1.grown g (row_blk HR0_14.out HK_14.out.1 (by decide)), HK_14.out.2.grown g (row_blk HR0_14.out HK_14.out.2 (by decide))⟩
        have HB_15 : Hid (Below w.heap.size w w15) := HB_14.out.trans (grown_below g HB_14.out.size (fun k e => (World.ownsRow.lt HR0_14.out k e).1))
        clear o g p HK_14 HB_14 HR0_14 HR1_14
        go_wp2
        refine ⟨(HS.out _).2 HK_15.out.1, ?_⟩
        refine anyS_two 7 8 (by kernel_rfl) rfl rfl ?_ ?_
        · refine appIs rfl _ _ rfl w.heap.size _ [] rfl HR1_15.out _ ls rfl (HRD.out _ HB_15.out).2.1 (by have := HN.out; simp; omega) HB_15.out.size ?_
          intro U16 w16 o g p
          have HR1_16 : Hid (Ow .i64 3 w.heap.size w16 U16 ls) := (show Ow .i64 3 _ _ _ _ from by simpa using o)
          have HR0_16 : Hid (Og 3 tkC 38 w.heap.size w16 U15 ts) := World.ownsRow.kept HR0_15.out g (own_tag HR0_15.out HR1_15.out (by decide))
          have HK_16 : Hid (Blk w16 P BK 27 ∧ Blk w16 (P + 1) (B3 (.slice none 0 0) (.slice none 0 0) (.slice none 0 0)) 27) := ⟨HK_15.out.1.grown g (row_blk HR1_15.out HK_15.out.1 (by decide)), HK_15.out.2.grown g (row_blk HR1_15.out HK_15.out.2 (by decide))⟩
          have HB_16 : Hid (Below w.heap.size w w16) := HB_15.out.trans (grown_below g HB_15.out.size (fun k e => (World.ownsRow.lt HR1_15.out k e).1))
          clear o g p HK_15 HB_15 HR0_15 HR1_15
          go_wp2
          refine ⟨(HS.out _).2 HK_16.out.1, ?_⟩
          refine anyS_one 8 (by kernel_rfl) rfl ?_
          go_wp2
          obtain ⟨w17, hw⟩ : ∃ W, w16.alloc (Obj.cells #[] 3) = W := ⟨_, rfl⟩
          obtain ⟨V2, hv⟩ : ∃ v, Value.slice (some ⟨w16.heap.size, 0, none⟩) 0 0 = v := ⟨_, rfl⟩
          rw [hw, hv]
          have b : Below w16.heap.size w16 w17 := by rw [← hw]; exact (Below.refl _ _).alloc (Nat.le_refl _) _
          have HR0_17 : Hid (Og 3 tkC 38 w.heap.size w17 U15 ts) := HR0_16.out.below b
          have HR1_17 : Hid (Ow .i64 3 w.heap.size w17 U16 ls) := HR1_16.out.below b
          have HR2_17 : Hid (Ow .i64 3 w.heap.size w17 V2 []) := by rw [← hw, ← hv]; exact World.ownsRow_lit w16 #[] 0 HB_16.out.size (by simp) (by simp)
          have HA_17 : Hid (Apart U16 V2) := Apart.at (P := w16.heap.size) (fun k e => (World.ownsRow.lt HR1_16.out k e).2) (fun k e => by rw [← hv] at e; simp [Value.ownBlock] at e; omega)
          have HK_17 : Hid (Blk w17 P BK 27 ∧ Blk w17 (P + 1) (B3 (.slice none 0 0) (.slice none 0 0) (.slice none 0 0)) 27) := ⟨HK_16.out.1.below b HK_16.out.1.lt, HK_16.out.2.below b HK_16.out.2.lt⟩
          have HB_17 : Hid (Below w.heap.size w w17) := belowCall HB_16.out b HB_16.out.size
          clear b hw hv HK_16 HB_16 HR0_16 HR1_16
          refine ⟨(HS.out _).2 HK_17.out.1, ?_⟩
          refine anyS_one 11 (by kernel_rfl) rfl ?_
          refine appIs rfl _ _ rfl w.heap.size _ [] rfl HR2_17.out _ cs rfl (HRD.out _ HB_17.out).2.2 (by have := HN.out; simp; omega) HB_17.out.size ?_
          intro U18 w18 o g p
          have HR2_18 : Hid (Ow .i64 3 w.heap.size w18 U18 cs) := (show Ow .i64 3 _ _ _ _ from by simpa using o)
          have HR0_18 : Hid (Og 3 tkC 38 w.heap.size w18 U15 ts) := World.ownsRow.kept HR0_17.out g (own_tag HR0_17.out HR2_17.out (by decide))
          have HR1_18 : Hid (Ow .i64 3 w.heap.size w18 U16 ls) := World.ownsRow.kept HR1_17.out g HA_17.out.or
          have hap : Apart U16 U18 := (fun k e e2 => by
            rcases p with h | h
            · exact HA_17.out k e (h.symm.trans e2)
            · rw [h] at e2; cases e2; have := (World.ownsRow.lt HR1_17.out _ e).2; omega)
          have HA_18 : Hid (Apart U16 U18) := hap
          have HK_18 : Hid (Blk w18 P BK 27 ∧ Blk w18 (P + 1) (B3 (.slice none 0 0) (.slice none 0 0) (.slice none 0 0)) 27) := ⟨HK_17.out.1.grown g (row_blk HR2_17.out HK_17.out.1 (by decide)), HK_17.out.2.grown g (row_blk HR2_17.out HK_17.out.2 (by decide))⟩
          have HB_18 : Hid (Below w.heap.size w w18) := HB_17.out.trans (grown_below g HB_17.out.size (fun k e => (World.ownsRow.lt HR2_17.out k e).1))
          clear o g p HK_17 HB_17 HR0_17 HR1_17 HR2_17 HA_17 hap
          go_wp2
          refine ⟨(HS.out _).2 HK_18.out.1, ?_⟩
          obtain ⟨y0, n0, q0, rfl⟩ : ∃ a L c, U15 = .slice a L c := by obtain ⟨a, c, e⟩ := HR0_18.out.form; exact ⟨a, _, c, e⟩
          obtain ⟨y1, n1, q1, rfl⟩ : ∃ a L c, U16 = .slice a L c := by obtain ⟨a, c, e⟩ := HR1_18.out.form; exact ⟨a, _, c, e⟩
          obtain ⟨y2, n2, q2, rfl⟩ : ∃ a L c, U18 = .slice a L c := by obtain ⟨a, c, e⟩ := HR2_18.out.form; exact ⟨a, _, c, e⟩
          refine anyS_one 12 (by kernel_rfl) rfl ?_
          go_wp2
          refine ⟨(HS.out _).2 HK_18.out.1, anyS_one 13 (by kernel_rfl) rfl ?_⟩
          have z0 := HK_18.out.2.cell 0
          have z1 := HK_18.out.2.cell 1
          have z2 := HK_18.out.2.cell 2
          simp at z0 z1 z2
          have f0 := HK_18.out.2.frozen 0
          have f1 := HK_18.out.2.frozen 1
          have f2 := HK_18.out.2.frozen 2
          have HE := HFIN.out _ _ _ _ _ _ _ _ _ _ HB_18.out HK_18.out.2 HR0_18.out HR1_18.out HR2_18.out HA_18.out
          have HEH : Hid (CbR ts ls cs w (.returned (.agg (B3 (.slice y0 n0 q0) (.slice y1 n1 q1) (.slice y2 n2 q2)))) (((w18.setCell ⟨P + 1, 0, none⟩ (.slice y0 n0 q0)).setCell ⟨P + 1, 1, none⟩ (.slice y1 n1 q1)).setCell ⟨P + 1, 2, none⟩ (.slice y2 n2 q2))) := HE
          have hbp := ((HK_18.out.1.other ⟨P + 1, 0, none⟩ (.slice y0 n0 q0) (by dsimp only; omega)).other ⟨P + 1, 1, none⟩ (.slice y1 n1 q1) (by dsimp only; omega)).other ⟨P + 1, 2, none⟩ (.slice y2 n2 q2) (by dsimp only; omega)
          have HBP : Hid (S (((w18.setCell ⟨P + 1, 0, none⟩ (.slice y0 n0 q0)).setCell ⟨P + 1, 1, none⟩ (.slice y1 n1 q1)).setCell ⟨P + 1, 2, none⟩ (.slice y2 n2 q2))) := (HS.out _).2 hbp
          have hbf : Blk (((w18.setCell ⟨P + 1, 0, none⟩ (.slice y0 n0 q0)).setCell ⟨P + 1, 1, none⟩ (.slice y1 n1 q1)).setCell ⟨P + 1, 2, none⟩ (.slice y2 n2 q2)) (P + 1) (B3 (.slice y0 n0 q0) (.slice y1 n1 q1) (.slice y2 n2 q2)) 27 := by
            have := ((HK_18.out.2.set 0 (.slice y0 n0 q0)).set 1 (.slice y1 n1 q1)).set 2 (.slice y2 n2 q2)
            simpa using this
          have HBF : Hid (Blk (((w18.setCell ⟨P + 1, 0, none⟩ (.slice y0 n0 q0)).setCell ⟨P + 1, 1, none⟩ (.slice y1 n1 q1)).setCell ⟨P + 1, 2, none⟩ (.slice y2 n2 q2)) (P + 1) (B3 (.slice y0 n0 q0) (.slice y1 n1 q1) (.slice y2 n2 q2)) 27) := hbf
          clear HE hbp hbf HK_18 HB_18 HR0_18 HR1_18 HR2_18 HA_18
          go_wp2
          refine ⟨HBP.out, anyS_end (by kernel_rfl) ?_⟩
          go_wp2
          exact bodyPost_ret (v := .agg (B3 (.slice y0 n0 q0) (.slice y1 n1 q1) (.slice y2 n2 q2))) (results_cell_row rfl _ _ _ 27 _ (0, 0) _ rfl HBF.out Tryd.underlying27 rfl sizeBk) rfl HEH.out
        · go_wp2
          obtain ⟨w19, hw⟩ : ∃ W, w15.alloc (Obj.cells #[] 3) = W := ⟨_, rfl⟩
          obtain ⟨V2, hv⟩ : ∃ v, Value.slice (some ⟨w15.heap.size, 0, none⟩) 0 0 = v := ⟨_, rfl⟩
          rw [hw, hv]
          have b : Below w15.heap.size w15 w19 := by rw [← hw]; exact (Below.refl _ _).alloc (Nat.le_refl _) _
          have HR0_19 : Hid (Og 3 tkC 38 w.heap.size w19 U15 ts) := HR0_15.out.below b
          have HR1_19 : Hid (Ow .i64 3 w.heap.size w19 V1 []) := HR1_15.out.below b
          have HR2_19 : Hid (Ow .i64 3 w.heap.size w19 V2 []) := by rw [← hw, ← hv]; exact World.ownsRow_lit w15 #[] 0 HB_15.out.size (by simp) (by simp)
          have HA_19 : Hid (Apart V1 V2) := Apart.at (P := w15.heap.size) (fun k e => (World.ownsRow.lt HR1_15.out k e).2) (fun k e => by rw [← hv] at e; simp [Value.ownBlock] at e; omega)
          have HK_19 : Hid (Blk w19 P BK 27 ∧ Blk w19 (P + 1) (B3 (.slice none 0 0) (.slice none 0 0) (.slice none 0 0)) 27) := ⟨HK_15.out.1.below b HK_15.out.1.lt, HK_15.out.2.below b HK_15.out.2.lt⟩
          have HB_19 : Hid (Below w.heap.size w w19) := belowCall HB_15.out b HB_15.out.size
          clear b hw hv HK_15 HB_15 HR0_15 HR1_15
          refine ⟨(HS.out _).2 HK_19.out.1, ?_⟩
          refine anyS_one 7 (by kernel_rfl) rfl ?_
          refine appIs rfl _ _ rfl w.heap.size _ [] rfl HR1_19.out _ ls rfl (HRD.out _ HB_19.out).2.1 (by have := HN.out; simp; omega) HB_19.out.size ?_
          intro U20 w20 o g p
          have HR1_20 : Hid (Ow .i64 3 w.heap.size w20 U20 ls) := (show Ow .i64 3 _ _ _ _ from by simpa using o)
          have HR0_20 : Hid (Og 3 tkC 38 w.heap.size w20 U15 ts) := World.ownsRow.kept HR0_19.out g (own_tag HR0_19.out HR1_19.out (by decide))
          have HR2_20 : Hid (Ow .i64 3 w.heap.size w20 V2 []) := World.ownsRow.kept HR2_19.out g HA_19.out.symm.or
          have hap : Apart V2 U20 := (fun k e e2 => by
            rcases p with h | h
            · exact HA_19.out.symm k e (h.symm.trans e2)
            · rw [h] at e2; cases e2; have := (World.ownsRow.lt HR2_19.out _ e).2; omega)
          have HA_20 : Hid (Apart U20 V2) := hap.symm
          have HK_20 : Hid (Blk w20 P BK 27 ∧ Blk w20 (P + 1) (B3 (.slice none 0 0) (.slice none 0 0) (.slice none 0 0)) 27) := ⟨HK_19.out.1.grown g (row_blk HR1_19.out HK_19.out.1 (by decide)), HK_19.out.2.grown g (row_blk HR1_19.out HK_19.out.2 (by decide))⟩
          have HB_20 : Hid (Below w.heap.size w w20) := HB_19.out.trans (grown_below g HB_19.out.size (fun k e => (World.ownsRow.lt HR1_19.out k e).1))
          clear o g p HK_19 HB_19 HR0_19 HR1_19 HR2_19 HA_19 hap
          go_wp2
          refine ⟨(HS.out _).2 HK_20.out.1, ?_⟩
          refine anyS_one 11 (by kernel_rfl) rfl ?_
          refine appIs rfl _ _ rfl w.heap.size _ [] rfl HR2_20.out _ cs rfl (HRD.out _ HB_20.out).2.2 (by have := HN.out; simp; omega) HB_20.out.size ?_
          intro U21 w21 o g p
          have HR2_21 : Hid (Ow .i64 3 w.heap.size w21 U21 cs) := (show Ow .i64 3 _ _ _ _ from by simpa using o)
          have HR0_21 : Hid (Og 3 tkC 38 w.heap.size w21 U15 ts) := World.ownsRow.kept HR0_20.out g (own_tag HR0_20.out HR2_20.out (by decide))
          have HR1_21 : Hid (Ow .i64 3 w.heap.size w21 U20 ls) := World.ownsRow.kept HR1_20.out g HA_20.out.or
          have hap : Apart U20 U21 := (fun k e e2 => by
            rcases p with h | h
            · exact HA_20.out k e (h.symm.trans e2)
            · rw [h] at e2; cases e2; have := (World.ownsRow.lt HR1_20.out _ e).2; omega)
          have HA_21 : Hid (Apart U20 U21) := hap
          have HK_21 : Hid (Blk w21 P BK 27 ∧ Blk w21 (P + 1) (B3 (.slice none 0 0) (.slice none 0 0) (.slice none 0 0)) 27) := ⟨HK_20.out.1.grown g (row_blk HR2_20.out HK_20.out.1 (by decide)), HK_20.out.2.grown g (row_blk HR2_20.out HK_20.out.2 (by decide))⟩
          have HB_21 : Hid (Below w.heap.size w w21) := HB_20.out.trans (grown_below g HB_20.out.size (fun k e => (World.ownsRow.lt HR2_20.out k e).1))
          clear o g p HK_20 HB_20 HR0_20 HR1_20 HR2_20 HA_20 hap
          go_wp2
          refine ⟨(HS.out _).2 HK_21.out.1, ?_⟩
          obtain ⟨y0, n0, q0, rfl⟩ : ∃ a L c, U15 = .slice a L c := by obtain ⟨a, c, e⟩ := HR0_21.out.form; exact ⟨a, _, c, e⟩
          obtain ⟨y1, n1, q1, rfl⟩ : ∃ a L c, U20 = .slice a L c := by obtain ⟨a, c, e⟩ := HR1_21.out.form; exact ⟨a, _, c, e⟩
          obtain ⟨y2, n2, q2, rfl⟩ : ∃ a L c, U21 = .slice a L c := by obtain ⟨a, c, e⟩ := HR2_21.out.form; exact ⟨a, _, c, e⟩
          refine anyS_one 12 (by kernel_rfl) rfl ?_
          go_wp2
          refine ⟨(HS.out _).2 HK_21.out.1, anyS_one 13 (by kernel_rfl) rfl ?_⟩
          have z0 := HK_21.out.2.cell 0
          have z1 := HK_21.out.2.cell 1
          have z2 := HK_21.out.2.cell 2
          simp at z0 z1 z2
          have f0 := HK_21.out.2.frozen 0
          have f1 := HK_21.out.2.frozen 1
          have f2 := HK_21.out.2.frozen 2
          have HE := HFIN.out _ _ _ _ _ _ _ _ _ _ HB_21.out HK_21.out.2 HR0_21.out HR1_21.out HR2_21.out HA_21.out
          have HEH : Hid (CbR ts ls cs w (.returned (.agg (B3 (.slice y0 n0 q0) (.slice y1 n1 q1) (.slice y2 n2 q2)))) (((w21.setCell ⟨P + 1, 0, none⟩ (.slice y0 n0 q0)).setCell ⟨P + 1, 1, none⟩ (.slice y1 n1 q1)).setCell ⟨P + 1, 2, none⟩ (.slice y2 n2 q2))) := HE
          have hbp := ((HK_21.out.1.other ⟨P + 1, 0, none⟩ (.slice y0 n0 q0) (by dsimp only; omega)).other ⟨P + 1, 1, none⟩ (.slice y1 n1 q1) (by dsimp only; omega)).other ⟨P + 1, 2, none⟩ (.slice y2 n2 q2) (by dsimp only; omega)
          have HBP : Hid (S (((w21.setCell ⟨P + 1, 0, none⟩ (.slice y0 n0 q0)).setCell ⟨P + 1, 1, none⟩ (.slice y1 n1 q1)).setCell ⟨P + 1, 2, none⟩ (.slice y2 n2 q2))) := (HS.out _).2 hbp
          have hbf : Blk (((w21.setCell ⟨P + 1, 0, none⟩ (.slice y0 n0 q0)).setCell ⟨P + 1, 1, none⟩ (.slice y1 n1 q1)).setCell ⟨P + 1, 2, none⟩ (.slice y2 n2 q2)) (P + 1) (B3 (.slice y0 n0 q0) (.slice y1 n1 q1) (.slice y2 n2 q2)) 27 := by
            have := ((HK_21.out.2.set 0 (.slice y0 n0 q0)).set 1 (.slice y1 n1 q1)).set 2 (.slice y2 n2 q2)
            simpa using this
          have HBF : Hid (Blk (((w21.setCell ⟨P + 1, 0, none⟩ (.slice y0 n0 q0)).setCell ⟨P + 1, 1, none⟩ (.slice y1 n1 q1)).setCell ⟨P + 1, 2, none⟩ (.slice y2 n2 q2)) (P + 1) (B3 (.slice y0 n0 q0) (.slice y1 n1 q1) (.slice y2 n2 q2)) 27) := hbf
          clear HE hbp hbf HK_21 HB_21 HR0_21 HR1_21 HR2_21 HA_21
          go_wp2
          refine ⟨HBP.out, anyS_end (by kernel_rfl) ?_⟩
          go_wp2
          exact bodyPost_ret (v := .agg (B3 (.slice y0 n0 q0) (.slice y1 n1 q1) (.slice y2 n2 q2))) (results_cell_row rfl _ _ _ 27 _ (0, 0) _ rfl HBF.out Tryd.underlying27 rfl sizeBk) rfl HEH.out
      · go_wp2
        obtain ⟨w22, hw⟩ : ∃ W, w14.alloc (Obj.cells #[] 3) = W := ⟨_, rfl⟩
        obtain ⟨V2, hv⟩ : ∃ v, Value.slice (some ⟨w14.heap.size, 0, none⟩) 0 0 = v := ⟨_, rfl⟩
        rw [hw, hv]
        have b : Below w14.heap.size w14 w22 := by rw [← hw]; exact (Below.refl _ _).alloc (Nat.le_refl _) _
        have HR0_22 : Hid (Og 3 tkC 38 w.heap.size w22 V0 []) := HR0_14.out.below b
        have HR1_22 : Hid (Ow .i64 3 w.heap.size w22 V1 []) := HR1_14.out.below b
        have HR2_22 : Hid (Ow .i64 3 w.heap.size w22 V2 []) := by rw [← hw, ← hv]; exact World.ownsRow_lit w14 #[] 0 HB_14.out.size (by simp) (by simp)
        have HA_22 : Hid (Apart V1 V2) := Apart.at (P := w14.heap.size) (fun k e => (World.ownsRow.lt HR1_14.out k e).2) (fun k e => by rw [← hv] at e; simp [Value.ownBlock] at e; omega)
        have HK_22 : Hid (Blk w22 P BK 27 ∧ Blk w22 (P + 1) (B3 (.slice none 0 0) (.slice none 0 0) (.slice none 0 0)) 27) := ⟨HK_14.out.1.below b HK_14.out.1.lt, HK_14.out.2.below b HK_14.out.2.lt⟩
        have HB_22 : Hid (Below w.heap.size w w22) := belowCall HB_14.out b HB_14.out.size
        clear b hw hv HK_14 HB_14 HR0_14 HR1_14
        refine ⟨(HS.out _).2 HK_22.out.1, ?_⟩
        refine anyS_one 3 (by kernel_rfl) rfl ?_
        refine appTs rfl _ _ rfl w.heap.size _ [] rfl HR0_22.out _ ts rfl (HRD.out _ HB_22.out).1 (by have := HN.out; simp; omega) HB_22.out.size ?_
        intro U23 w23 o g p
        have HR0_23 : Hid (Og 3 tkC 38 w.heap.size w23 U23 ts) := (show Og 3 tkC 38 _ _ _ _ from by simpa using o)
        have HR1_23 : Hid (Ow .i64 3 w.heap.size w23 V1 []) := World.ownsRow.kept HR1_22.out g (own_tag HR1_22.out HR0_22.out (by decide))
        have HR2_23 : Hid (Ow .i64 3 w.heap.size w23 V2 []) := World.ownsRow.kept HR2_22.out g (own_tag HR2_22.out HR0_22.out (by decide))
        have HA_23 : Hid (Apart V1 V2) := HA_22.out
        have HK_23 : Hid (Blk w23 P BK 27 ∧ Blk w23 (P + 1) (B3 (.slice none 0 0) (.slice none 0 0) (.slice none 0 0)) 27) := ⟨HK_22.out.1.grown g (row_blk HR0_22.out HK_22.out.1 (by decide)), HK_22.out.2.grown g (row_blk HR0_22.out HK_22.out.2 (by decide))⟩
        have HB_23 : Hid (Below w.heap.size w w23) := HB_22.out.trans (grown_below g HB_22.out.size (fun k e => (World.ownsRow.lt HR0_22.out k e).1))
        clear o g p HK_22 HB_22 HR0_22 HR1_22 HR2_22 HA_22
        go_wp2
        refine ⟨(HS.out _).2 HK_23.out.1, ?_⟩
        refine anyS_one 7 (by kernel_rfl) rfl ?_
        refine appIs rfl _ _ rfl w.heap.size _ [] rfl HR1_23.out _ ls rfl (HRD.out _ HB_23.out).2.1 (by have := HN.out; simp; omega) HB_23.out.size ?_
        intro U24 w24 o g p
        have HR1_24 : Hid (Ow .i64 3 w.heap.size w24 U24 ls) := (show Ow .i64 3 _ _ _ _ from by simpa using o)
        have HR0_24 : Hid (Og 3 tkC 38 w.heap.size w24 U23 ts) := World.ownsRow.kept HR0_23.out g (own_tag HR0_23.out HR1_23.out (by decide))
        have HR2_24 : Hid (Ow .i64 3 w.heap.size w24 V2 []) := World.ownsRow.kept HR2_23.out g HA_23.out.symm.or
        have hap : Apart V2 U24 := (fun k e e2 => by
          rcases p with h | h
          · exact HA_23.out.symm k e (h.symm.trans e2)
          · rw [h] at e2; cases e2; have := (World.ownsRow.lt HR2_23.out _ e).2; omega)
        have HA_24 : Hid (Apart U24 V2) := hap.symm
        have HK_24 : Hid (Blk w24 P BK 27 ∧ Blk w24 (P + 1) (B3 (.slice none 0 0) (.slice none 0 0) (.slice none 0 0)) 27) := ⟨HK_23.out.1.grown g (row_blk HR1_23.out HK_23.out.1 (by decide)), HK_23.out.2.grown g (row_blk HR1_23.out HK_23.out.2 (by decide))⟩
        have HB_24 : Hid (Below w.heap.size w w24) := HB_23.out.trans (grown_below g HB_23.out.size (fun k e => (World.ownsRow.lt HR1_23.out k e).1))
        clear o g p HK_23 HB_23 HR0_23 HR1_23 HR2_23 HA_23 hap
        go_wp2
        refine ⟨(HS.out _).2 HK_24.out.1, ?_⟩
        refine anyS_one 11 (by kernel_rfl) rfl ?_
        refine appIs rfl _ _ rfl w.heap.size _ [] rfl HR2_24.out _ cs rfl (HRD.out _ HB_24.out).2.2 (by have := HN.out; simp; omega) HB_24.out.size ?_
        intro U25 w25 o g p
        have HR2_25 : Hid (Ow .i64 3 w.heap.size w25 U25 cs) := (show Ow .i64 3 _ _ _ _ from by simpa using o)
        have HR0_25 : Hid (Og 3 tkC 38 w.heap.size w25 U23 ts) := World.ownsRow.kept HR0_24.out g (own_tag HR0_24.out HR2_24.out (by decide))
        have HR1_25 : Hid (Ow .i64 3 w.heap.size w25 U24 ls) := World.ownsRow.kept HR1_24.out g HA_24.out.or
        have hap : Apart U24 U25 := (fun k e e2 => by
          rcases p with h | h
          · exact HA_24.out k e (h.symm.trans e2)
          · rw [h] at e2; cases e2; have := (World.ownsRow.lt HR1_24.out _ e).2; omega)
        have HA_25 : Hid (Apart U24 U25) := hap
        have HK_25 : Hid (Blk w25 P BK 27 ∧ Blk w25 (P + 1) (B3 (.slice none 0 0) (.slice none 0 0) (.slice none 0 0)) 27) := ⟨HK_24.out.1.grown g (row_blk HR2_24.out HK_24.out.1 (by decide)), HK_24.out.2.grown g (row_blk HR2_24.out HK_24.out.2 (by decide))⟩
        have HB_25 : Hid (Below w.heap.size w w25) := HB_24.out.trans (grown_below g HB_24.out.size (fun k e => (World.ownsRow.lt HR2_24.out k e).1))
        clear o g p HK_24 HB_24 HR0_24 HR1_24 HR2_24 HA_24 hap
        go_wp2
        refine ⟨(HS.out _).2 HK_25.out.1, ?_⟩
        obtain ⟨y0, n0, q0, rfl⟩ : ∃ a L c, U23 = .slice a L c := by obtain ⟨a, c, e⟩ := HR0_25.out.form; exact ⟨a, _, c, e⟩
        obtain ⟨y1, n1, q1, rfl⟩ : ∃ a L c, U24 = .slice a L c := by obtain ⟨a, c, e⟩ := HR1_25.out.form; exact ⟨a, _, c, e⟩
        obtain ⟨y2, n2, q2, rfl⟩ : ∃ a L c, U25 = .slice a L c := by obtain ⟨a, c, e⟩ := HR2_25.out.form; exact ⟨a, _, c, e⟩
        refine anyS_one 12 (by kernel_rfl) rfl ?_
        go_wp2
        refine ⟨(HS.out _).2 HK_25.out.1, anyS_one 13 (by kernel_rfl) rfl ?_⟩
        have z0 := HK_25.out.2.cell 0
        have z1 := HK_25.out.2.cell 1
        have z2 := HK_25.out.2.cell 2
        simp at z0 z1 z2
        have f0 := HK_25.out.2.frozen 0
        have f1 := HK_25.out.2.frozen 1
        have f2 := HK_25.out.2.frozen 2
        have HE := HFIN.out _ _ _ _ _ _ _ _ _ _ HB_25.out HK_25.out.2 HR0_25.out HR1_25.out HR2_25.out HA_25.out
        have HEH : Hid (CbR ts ls cs w (.returned (.agg (B3 (.slice y0 n0 q0) (.slice y1 n1 q1) (.slice y2 n2 q2)))) (((w25.setCell ⟨P + 1, 0, none⟩ (.slice y0 n0 q0)).setCell ⟨P + 1, 1, none⟩ (.slice y1 n1 q1)).setCell ⟨P + 1, 2, none⟩ (.slice y2 n2 q2))) := HE
        have hbp := ((HK_25.out.1.other ⟨P + 1, 0, none⟩ (.slice y0 n0 q0) (by dsimp only; omega)).other ⟨P + 1, 1, none⟩ (.slice y1 n1 q1) (by dsimp only; omega)).other ⟨P + 1, 2, none⟩ (.slice y2 n2 q2) (by dsimp only; omega)
        have HBP : Hid (S (((w25.setCell ⟨P + 1, 0, none⟩ (.slice y0 n0 q0)).setCell ⟨P + 1, 1, none⟩ (.slice y1 n1 q1)).setCell ⟨P + 1, 2, none⟩ (.slice y2 n2 q2))) := (HS.out _).2 hbp
        have hbf : Blk (((w25.setCell ⟨P + 1, 0, none⟩ (.slice y0 n0 q0)).setCell ⟨P + 1, 1, none⟩ (.slice y1 n1 q1)).setCell ⟨P + 1, 2, none⟩ (.slice y2 n2 q2)) (P + 1) (B3 (.slice y0 n0 q0) (.slice y1 n1 q1) (.slice y2 n2 q2)) 27 := by
          have := ((HK_25.out.2.set 0 (.slice y0 n0 q0)).set 1 (.slice y1 n1 q1)).set 2 (.slice y2 n2 q2)
          simpa using this
        have HBF : Hid (Blk (((w25.setCell ⟨P + 1, 0, none⟩ (.slice y0 n0 q0)).setCell ⟨P + 1, 1, none⟩ (.slice y1 n1 q1)).setCell ⟨P + 1, 2, none⟩ (.slice y2 n2 q2)) (P + 1) (B3 (.slice y0 n0 q0) (.slice y1 n1 q1) (.slice y2 n2 q2)) 27) := hbf
        clear HE hbp hbf HK_25 HB_25 HR0_25 HR1_25 HR2_25 HA_25
        go_wp2
        refine ⟨HBP.out, anyS_end (by kernel_rfl) ?_⟩
        go_wp2
        exact bodyPost_ret (v := .agg (B3 (.slice y0 n0 q0) (.slice y1 n1 q1) (.slice y2 n2 q2))) (results_cell_row rfl _ _ _ 27 _ (0, 0) _ rfl HBF.out Tryd.underlying27 rfl sizeBk) rfl HEH.out
    · go_wp2
      obtain ⟨w26, hw⟩ : ∃ W, w1.alloc (Obj.cells #[] 3) = W := ⟨_, rfl⟩
      obtain ⟨V2, hv⟩ : ∃ v, Value.slice (some ⟨w1.heap.size, 0, none⟩) 0 0 = v := ⟨_, rfl⟩
      rw [hw, hv]
      have b : Below w1.heap.size w1 w26 := by rw [← hw]; exact (Below.refl _ _).alloc (Nat.le_refl _) _
      have HR0_26 : Hid (Og 3 tkC 38 w.heap.size w26 V0 []) := HR0_1.out.below b
      have HR2_26 : Hid (Ow .i64 3 w.heap.size w26 V2 []) := by rw [← hw, ← hv]; exact World.ownsRow_lit w1 #[] 0 HB_1.out.size (by simp) (by simp)
      have HK_26 : Hid (Blk w26 P BK 27 ∧ Blk w26 (P + 1) (B3 (.slice none 0 0) (.slice none 0 0) (.slice none 0 0)) 27) := ⟨HK_1.out.1.below b HK_1.out.1.lt, HK_1.out.2.below b HK_1.out.2.lt⟩
      have HB_26 : Hid (Below w.heap.size w w26) := belowCall HB_1.out b HB_1.out.size
      clear b hw hv HK_1 HB_1 HR0_1
      refine ⟨(HS.out _).2 HK_26.out.1, ?_⟩
      refine anyS_two 3 4 (by kernel_rfl) rfl rfl ?_ ?_
      · refine appTs rfl _ _ rfl w.heap.size _ [] rfl HR0_26.out _ ts rfl (HRD.out _ HB_26.out).1 (by have := HN.out; simp; omega) HB_26.out.size ?_
        intro U27 w27 o g p
        have HR0_27 : Hid (Og 3 tkC 38 w.heap.size w27 U27 ts) := (show Og 3 tkC 38 _ _ _ _ from by simpa using o)
        have HR2_27 : Hid (Ow .i64 3 w.heap.size w27 V2 []) := World.ownsRow.kept HR2_26.out g (own_tag HR2_26.out HR0_26.out (by decide))
        have HK_27 : Hid (Blk w27 P BK 27 ∧ Blk w27 (P + 1) (B3 (.slice none 0 0) (.slice none 0 0) (.slice none 0 0)) 27) := ⟨HK_26.out.1.grown g (row_blk HR0_26.out HK_26.out.1 (by decide)), HK_26.out.2.grown g (row_blk HR0_26.out HK_26.out.2 (by decide))⟩
        have HB_27 : Hid (Below w.heap.size w w27) := HB_26.out.trans (grown_below g HB_26.out.size (fun k e => (World.ownsRow.lt HR0_26.out k e).1))
        clear o g p HK_26 HB_26 HR0_26 HR2_26
        go_wp2
        refine ⟨(HS.out _).2 HK_27.out.1, ?_⟩
        refine anyS_one 4 (by kernel_rfl) rfl ?_
        go_wp2
        obtain ⟨w28, hw⟩ : ∃ W, w27.alloc (Obj.cells #[] 3) = W := ⟨_, rfl⟩
        obtain ⟨V1, hv⟩ : ∃ v, Value.slice (some ⟨w27.heap.size, 0, none⟩) 0 0 = v := ⟨_, rfl⟩
        rw [hw, hv]
        have b : Below w27.heap.size w27 w28 := by rw [← hw]; exact (Below.refl _ _).alloc (Nat.le_refl _) _
        have HR0_28 : Hid (Og 3 tkC 38 w.heap.size w28 U27 ts) := HR0_27.out.below b
        have HR2_28 : Hid (Ow .i64 3 w.heap.size w28 V2 []) := HR2_27.out.below b
        have HR1_28 : Hid (Ow .i64 3 w.heap.size w28 V1 []) := by rw [← hw, ← hv]; exact World.ownsRow_lit w27 #[] 0 HB_27.out.size (by simp) (by simp)
        have HA_28 : Hid (Apart V1 V2) := (Apart.at (P := w27.heap.size) (fun k e => (World.ownsRow.lt HR2_27.out k e).2) (fun k e => by rw [← hv] at e; simp [Value.ownBlock] at e; omega) : Apart V2 V1).symm
        have HK_28 : Hid (Blk w28 P BK 27 ∧ Blk w28 (P + 1) (B3 (.slice none 0 0) (.slice none 0 0) (.slice none 0 0)) 27) := ⟨HK_27.out.1.below b HK_27.out.1.lt, HK_27.out.2.below b HK_27.out.2.lt⟩
        have HB_28 : Hid (Below w.heap.size w w28) := belowCall HB_27.out b HB_27.out.size
        clear b hw hv HK_27 HB_27 HR0_27 HR2_27
        refine ⟨(HS.out _).2 HK_28.out.1, ?_⟩
        refine anyS_one 7 (by kernel_rfl) rfl ?_
        refine appIs rfl _ _ rfl w.heap.size _ [] rfl HR1_28.out _ ls rfl (HRD.out _ HB_28.out).2.1 (by have := HN.out; simp; omega) HB_28.out.size ?_
        intro U29 w29 o g p
        have HR1_29 : Hid (Ow .i64 3 w.heap.size w29 U29 ls) := (show Ow .i64 3 _ _ _ _ from by simpa using o)
        have HR0_29 : Hid (Og 3 tkC 38 w.heap.size w29 U27 ts) := World.ownsRow.kept HR0_28.out g (own_tag HR0_28.out HR1_28.out (by decide))
        have HR2_29 : Hid (Ow .i64 3 w.heap.size w29 V2 []) := World.ownsRow.kept HR2_28.out g HA_28.out.symm.or
        have hap : Apart V2 U29 := (fun k e e2 => by
          rcases p with h | h
          · exact HA_28.out.symm k e (h.symm.trans e2)
          · rw [h] at e2; cases e2; have := (World.ownsRow.lt HR2_28.out _ e).2; omega)
        have HA_29 : Hid (Apart U29 V2) := hap.symm
        have HK_29 : Hid (Blk w29 P BK 27 ∧ Blk w29 (P + 1) (B3 (.slice none 0 0) (.slice none 0 0) (.slice none 0 0)) 27) := ⟨HK_28.out.1.grown g (row_blk HR1_28.out HK_28.out.1 (by decide)), HK_28.out.2.grown g (row_blk HR1_28.out HK_28.out.2 (by decide))⟩
        have HB_29 : Hid (Below w.heap.size w w29) := HB_28.out.trans (grown_below g HB_28.out.size (fun k e => (World.ownsRow.lt HR1_28.out k e).1))
        clear o g p HK_28 HB_28 HR0_28 HR2_28 HR1_28 HA_28 hap
        go_wp2
        refine ⟨(HS.out _).2 HK_29.out.1, ?_⟩
        refine anyS_one 11 (by kernel_rfl) rfl ?_
        refine appIs rfl _ _ rfl w.heap.size _ [] rfl HR2_29.out _ cs rfl (HRD.out _ HB_29.out).2.2 (by have := HN.out; simp; omega) HB_29.out.size ?_
        intro U30 w30 o g p
        have HR2_30 : Hid (Ow .i64 3 w.heap.size w30 U30 cs) := (show Ow .i64 3 _ _ _ _ from by simpa using o)
        have HR0_30 : Hid (Og 3 tkC 38 w.heap.size w30 U27 ts) := World.ownsRow.kept HR0_29.out g (own_tag HR0_29.out HR2_29.out (by decide))
        have HR1_30 : Hid (Ow .i64 3 w.heap.size w30 U29 ls) := World.ownsRow.kept HR1_29.out g HA_29.out.or
        have hap : Apart U29 U30 := (fun k e e2 => by
          rcases p with h | h
          · exact HA_29.out k e (h.symm.trans e2)
          · rw [h] at e2; cases e2; have := (World.ownsRow.lt HR1_29.out _ e).2; omega)
        have HA_30 : Hid (Apart U29 U30) := hap
        have HK_30 : Hid (Blk w30 P BK 27 ∧ Blk w30 (P + 1) (B3 (.slice none 0 0) (.slice none 0 0) (.slice none 0 0)) 27) := ⟨HK_29.out.1.grown g (row_blk HR2_29.out HK_29.out.1 (by decide)), HK_29.out.2.grown g (row_blk HR2_29.out HK_29.out.2 (by decide))⟩
        have HB_30 : Hid (Below w.heap.size w w30) := HB_29.out.trans (grown_below g HB_29.out.size (fun k e => (World.ownsRow.lt HR2_29.out k e).1))
        clear o g p HK_29 HB_29 HR0_29 HR2_29 HR1_29 HA_29 hap
        go_wp2
        refine ⟨(HS.out _).2 HK_30.out.1, ?_⟩
        obtain ⟨y0, n0, q0, rfl⟩ : ∃ a L c, U27 = .slice a L c := by obtain ⟨a, c, e⟩ := HR0_30.out.form; exact ⟨a, _, c, e⟩
        obtain ⟨y1, n1, q1, rfl⟩ : ∃ a L c, U29 = .slice a L c := by obtain ⟨a, c, e⟩ := HR1_30.out.form; exact ⟨a, _, c, e⟩
        obtain ⟨y2, n2, q2, rfl⟩ : ∃ a L c, U30 = .slice a L c := by obtain ⟨a, c, e⟩ := HR2_30.out.form; exact ⟨a, _, c, e⟩
        refine anyS_one 12 (by kernel_rfl) rfl ?_
        go_wp2
        refine ⟨(HS.out _).2 HK_30.out.1, anyS_one 13 (by kernel_rfl) rfl ?_⟩
        have z0 := HK_30.out.2.cell 0
        have z1 := HK_30.out.2.cell 1
        have z2 := HK_30.out.2.cell 2
        simp at z0 z1 z2
        have f0 := HK_30.out.2.frozen 0
        have f1 := HK_30.out.2.frozen 1
        have f2 := HK_30.out.2.frozen 2
        have HE := HFIN.out _ _ _ _ _ _ _ _ _ _ HB_30.out HK_30.out.2 HR0_30.out HR1_30.out HR2_30.out HA_30.out
        have HEH : Hid (CbR ts ls cs w (.returned (.agg (B3 (.slice y0 n0 q0) (.slice y1 n1 q1) (.slice y2 n2 q2)))) (((w30.setCell ⟨P + 1, 0, none⟩ (.slice y0 n0 q0)).setCell ⟨P + 1, 1, none⟩ (.slice y1 n1 q1)).setCell ⟨P + 1, 2, none⟩ (.slice y2 n2 q2))) := HE
        have hbp := ((HK_30.out.1.other ⟨P + 1, 0, none⟩ (.slice y0 n0 q0) (by dsimp only; omega)).other ⟨P + 1, 1, none⟩ (.slice y1 n1 q1) (by dsimp only; omega)).other ⟨P + 1, 2, none⟩ (.slice y2 n2 q2) (by dsimp only; omega)
        have HBP : Hid (S (((w30.setCell ⟨P + 1, 0, none⟩ (.slice y0 n0 q0)).setCell ⟨P + 1, 1, none⟩ (.slice y1 n1 q1)).setCell ⟨P + 1, 2, none⟩ (.slice y2 n2 q2))) := (HS.out _).2 hbp
        have hbf : Blk (((w30.setCell ⟨P + 1, 0, none⟩ (.slice y0 n0 q0)).setCell ⟨P + 1, 1, none⟩ (.slice y1 n1 q1)).setCell ⟨P + 1, 2, none⟩ (.slice y2 n2 q2)) (P + 1) (B3 (.slice y0 n0 q0) (.slice y1 n1 q1) (.slice y2 n2 q2)) 27 := by
          have := ((HK_30.out.2.set 0 (.slice y0 n0 q0)).set 1 (.slice y1 n1 q1)).set 2 (.slice y2 n2 q2)
          simpa using this
        have HBF : Hid (Blk (((w30.setCell ⟨P + 1, 0, none⟩ (.slice y0 n0 q0)).setCell ⟨P + 1, 1, none⟩ (.slice y1 n1 q1)).setCell ⟨P + 1, 2, none⟩ (.slice y2 n2 q2)) (P + 1) (B3 (.slice y0 n0 q0) (.slice y1 n1 q1) (.slice y2 n2 q2)) 27) := hbf
        clear HE hbp hbf HK_30 HB_30 HR0_30 HR1_30 HR2_30 HA_30
        go_wp2
        refine ⟨HBP.out, anyS_end (by kernel_rfl) ?_⟩
        go_wp2
        exact bodyPost_ret (v := .agg (B3 (.slice y0 n0 q0) (.slice y1 n1 q1) (.slice y2 n2 q2))) (results_cell_row rfl _ _ _ 27 _ (0, 0) _ rfl HBF.out Tryd.underlying27 rfl sizeBk) rfl HEH.out
      · go_wp2
        obtain ⟨w31, hw⟩ : ∃ W, w26.alloc (Obj.cells #[] 3) = W := ⟨_, rfl⟩
        obtain ⟨V1, hv⟩ : ∃ v, Value.slice (some ⟨w26.heap.size, 0, none⟩) 0 0 = v := ⟨_, rfl⟩
        rw [hw, hv]
        have b : Below w26.heap.size w26 w31 := by rw [← hw]; exact (Below.refl _ _).alloc (Nat.le_refl _) _
        have HR0_31 : Hid (Og 3 tkC 38 w.heap.size w31 V0 []) := HR0_26.out.below b
        have HR2_31 : Hid (Ow .i64 3 w.heap.size w31 V2 []) := HR2_26.out.below b
        have HR1_31 : Hid (Ow .i64 3 w.heap.size w31 V1 []) := by rw [← hw, ← hv]; exact World.ownsRow_lit w26 #[] 0 HB_26.out.size (by simp) (by simp)
        have HA_31 : Hid (Apart V1 V2) := (Apart.at (P := w26.heap.size) (fun k e => (World.ownsRow.lt HR2_26.out k e).2) (fun k e => by rw [← hv] at e; simp [Value.ownBlock] at e; omega) : Apart V2 V1).symm
        have HK_31 : Hid (Blk w31 P BK 27 ∧ Blk w31 (P + 1) (B3 (.slice none 0 0) (.slice none 0 0) (.slice none 0 0)) 27) := ⟨HK_26.out.1.below b HK_26.out.1.lt, HK_26.out.2.below b HK_26.out.2.lt⟩
        have HB_31 : Hid (Below w.heap.size w w31) := belowCall HB_26.out b HB_26.out.size
        clear b hw hv HK_26 HB_26 HR0_26 HR2_26
        refine ⟨(HS.out _).2 HK_31.out.1, ?_⟩
        refine anyS_one 3 (by kernel_rfl) rfl ?_
        refine appTs rfl _ _ rfl w.heap.size _ [] rfl HR0_31.out _ ts rfl (HRD.out _ HB_31.out).1 (by have := HN.out; simp; omega) HB_31.out.size ?_
        intro U32 w32 o g p
        have HR0_32 : Hid (Og 3 tkC 38 w.heap.size w32 U32 ts) := (show Og 3 tkC 38 _ _ _ _ from by simpa using o)
        have HR2_32 : Hid (Ow .i64 3 w.heap.size w32 V2 []) := World.ownsRow.kept HR2_31.out g (own_tag HR2_31.out HR0_31.out (by decide))
        have HR1_32 : Hid (Ow .i64 3 w.heap.size w32 V1 []) := World.ownsRow.kept HR1_31.out g (own_tag HR1_31.out HR0_31.out (by decide))
        have HA_32 : Hid (Apart V1 V2) := HA_31.out
        have HK_32 : Hid (Blk w32 P BK 27 ∧ Blk w32 (P + 1) (B3 (.slice none 0 0) (.slice none 0 0) (.slice none 0 0)) 27) := ⟨HK_31.out.1.grown g (row_blk HR0_31.out HK_31.out.1 (by decide)), HK_31.out.2.grown g (row_blk HR0_31.out HK_31.out.2 (by decide))⟩
        have HB_32 : Hid (Below w.heap.size w w32) := HB_31.out.trans (grown_below g HB_31.out.size (fun k e => (World.ownsRow.lt HR0_31.out k e).1))
        clear o g p HK_31 HB_31 HR0_31 HR2_31 HR1_31 HA_31
        go_wp2
        refine ⟨(HS.out _).2 HK_32.out.1, ?_⟩
        refine anyS_one 7 (by kernel_rfl) rfl ?_
        refine appIs rfl _ _ rfl w.heap.size _ [] rfl HR1_32.out _ ls rfl (HRD.out _ HB_32.out).2.1 (by have := HN.out; simp; omega) HB_32.out.size ?_
        intro U33 w33 o g p
        have HR1_33 : Hid (Ow .i64 3 w.heap.size w33 U33 ls) := (show Ow .i64 3 _ _ _ _ from by simpa using o)
        have HR0_33 : Hid (Og 3 tkC 38 w.heap.size w33 U32 ts) := World.ownsRow.kept HR0_32.out g (own_tag HR0_32.out HR1_32.out (by decide))
        have HR2_33 : Hid (Ow .i64 3 w.heap.size w33 V2 []) := World.ownsRow.kept HR2_32.out g HA_32.out.symm.or
        have hap : Apart V2 U33 := (fun k e e2 => by
          rcases p with h | h
          · exact HA_32.out.symm k e (h.symm.trans e2)
          · rw [h] at e2; cases e2; have := (World.ownsRow.lt HR2_32.out _ e).2; omega)
        have HA_33 : Hid (Apart U33 V2) := hap.symm
        have HK_33 : Hid (Blk w33 P BK 27 ∧ Blk w33 (P + 1) (B3 (.slice none 0 0) (.slice none 0 0) (.slice none 0 0)) 27) := ⟨HK_32.out.1.grown g (row_blk HR1_32.out HK_32.out.1 (by decide)), HK_32.out.2.grown g (row_blk HR1_32.out HK_32.out.2 (by decide))⟩
        have HB_33 : Hid (Below w.heap.size w w33) := HB_32.out.trans (grown_below g HB_32.out.size (fun k e => (World.ownsRow.lt HR1_32.out k e).1))
        clear o g p HK_32 HB_32 HR0_32 HR2_32 HR1_32 HA_32 hap
        go_wp2
        refine ⟨(HS.out _).2 HK_33.out.1, ?_⟩
        refine anyS_one 11 (by kernel_rfl) rfl ?_
        refine appIs rfl _ _ rfl w.heap.size _ [] rfl HR2_33.out _ cs rfl (HRD.out _ HB_33.out).2.2 (by have := HN.out; simp; omega) HB_33.out.size ?_
        intro U34 w34 o g p
        have HR2_34 : Hid (Ow .i64 3 w.heap.size w34 U34 cs) := (show Ow .i64 3 _ _ _ _ from by simpa using o)
        have HR0_34 : Hid (Og 3 tkC 38 w.heap.size w34 U32 ts) := World.ownsRow.kept HR0_33.out g (own_tag HR0_33.out HR2_33.out (by decide))
        have HR1_34 : Hid (Ow .i64 3 w.heap.size w34 U33 ls) := World.ownsRow.kept HR1_33.out g HA_33.out.or
        have hap : Apart U33 U34 := (fun k e e2 => by
          rcases p with h | h
          · exact HA_33.out k e (h.symm.trans e2)
          · rw [h] at e2; cases e2; have := (World.ownsRow.lt HR1_33.out _ e).2; omega)
        have HA_34 : Hid (Apart U33 U34) := hap
        have HK_34 : Hid (Blk w34 P BK 27 ∧ Blk w34 (P + 1) (B3 (.slice none 0 0) (.slice none 0 0) (.slice none 0 0)) 27) := ⟨HK_33.out.1.grown g (row_blk HR2_33.out HK_33.out.1 (by decide)), HK_33.out.2.grown g (row_blk HR2_33.out HK_33.out.2 (by decide))⟩
        have HB_34 : Hid (Below w.heap.size w w34) := HB_33.out.trans (grown_below g HB_33.out.size (fun k e => (World.ownsRow.lt HR2_33.out k e).1))
        clear o g p HK_33 HB_33 HR0_33 HR2_33 HR1_33 HA_33 hap
        go_wp2
        refine ⟨(HS.out _).2 HK_34.out.1, ?_⟩
        obtain ⟨y0, n0, q0, rfl⟩ : ∃ a L c, U32 = .slice a L c := by obtain ⟨a, c, e⟩ := HR0_34.out.form; exact ⟨a, _, c, e⟩
        obtain ⟨y1, n1, q1, rfl⟩ : ∃ a L c, U33 = .slice a L c := by obtain ⟨a, c, e⟩ := HR1_34.out.form; exact ⟨a, _, c, e⟩
        obtain ⟨y2, n2, q2, rfl⟩ : ∃ a L c, U34 = .slice a L c := by obtain ⟨a, c, e⟩ := HR2_34.out.form; exact ⟨a, _, c, e⟩
        refine anyS_one 12 (by kernel_rfl) rfl ?_
        go_wp2
        refine ⟨(HS.out _).2 HK_34.out.1, anyS_one 13 (by kernel_rfl) rfl ?_⟩
        have z0 := HK_34.out.2.cell 0
        have z1 := HK_34.out.2.cell 1
        have z2 := HK_34.out.2.cell 2
        simp at z0 z1 z2
        have f0 := HK_34.out.2.frozen 0
        have f1 := HK_34.out.2.frozen 1
        have f2 := HK_34.out.2.frozen 2
        have HE := HFIN.out _ _ _ _ _ _ _ _ _ _ HB_34.out HK_34.out.2 HR0_34.out HR1_34.out HR2_34.out HA_34.out
        have HEH : Hid (CbR ts ls cs w (.returned (.agg (B3 (.slice y0 n0 q0) (.slice y1 n1 q1) (.slice y2 n2 q2)))) (((w34.setCell ⟨P + 1, 0, none⟩ (.slice y0 n0 q0)).setCell ⟨P + 1, 1, none⟩ (.slice y1 n1 q1)).setCell ⟨P + 1, 2, none⟩ (.slice y2 n2 q2))) := HE
        have hbp := ((HK_34.out.1.other ⟨P + 1, 0, none⟩ (.slice y0 n0 q0) (by dsimp only; omega)).other ⟨P + 1, 1, none⟩ (.slice y1 n1 q1) (by dsimp only; omega)).other ⟨P + 1, 2, none⟩ (.slice y2 n2 q2) (by dsimp only; omega)
        have HBP : Hid (S (((w34.setCell ⟨P + 1, 0, none⟩ (.slice y0 n0 q0)).setCell ⟨P + 1, 1, none⟩ (.slice y1 n1 q1)).setCell ⟨P + 1, 2, none⟩ (.slice y2 n2 q2))) := (HS.out _).2 hbp
        have hbf : Blk (((w34.setCell ⟨P + 1, 0, none⟩ (.slice y0 n0 q0)).setCell ⟨P + 1, 1, none⟩ (.slice y1 n1 q1)).setCell ⟨P + 1, 2, none⟩ (.slice y2 n2 q2)) (P + 1) (B3 (.slice y0 n0 q0) (.slice y1 n1 q1) (.slice y2 n2 q2)) 27 := by
          have := ((HK_34.out.2.set 0 (.slice y0 n0 q0)).set 1 (.slice y1 n1 q1)).set 2 (.slice y2 n2 q2)
          simpa using this
        have HBF : Hid (Blk (((w34.setCell ⟨P + 1, 0, none⟩ (.slice y0 n0 q0)).setCell ⟨P + 1, 1, none⟩ (.slice y1 n1 q1)).setCell ⟨P + 1, 2, none⟩ (.slice y2 n2 q2)) (P + 1) (B3 (.slice y0 n0 q0) (.slice y1 n1 q1) (.slice y2 n2 q2)) 27) := hbf
        clear HE hbp hbf HK_34 HB_34 HR0_34 HR1_34 HR2_34 HA_34
        go_wp2
        refine ⟨HBP.out, anyS_end (by kernel_rfl) ?_⟩
        go_wp2
        exact bodyPost_ret (v := .agg (B3 (.slice y0 n0 q0) (.slice y1 n1 q1) (.slice y2 n2 q2))) (results_cell_row rfl _ _ _ 27 _ (0, 0) _ rfl HBF.out Tryd.underlying27 rfl sizeBk) rfl HEH.out
  · go_wp2
    obtain ⟨w35, hw⟩ : ∃ W, wd.alloc (Obj.cells #[] 3) = W := ⟨_, rfl⟩
    obtain ⟨V1, hv⟩ : ∃ v, Value.slice (some ⟨wd.heap.size, 0, none⟩) 0 0 = v := ⟨_, rfl⟩
    rw [hw, hv]
    have b : Below wd.heap.size wd w35 := by rw [← hw]; exact (Below.refl _ _).alloc (Nat.le_refl _) _
    have HR1_35 : Hid (Ow .i64 3 w.heap.size w35 V1 []) := by rw [← hw, ← hv]; exact World.ownsRow_lit wd #[] 0 HB_0.out.size (by simp) (by simp)
    have HK_35 : Hid (Blk w35 P BK 27 ∧ Blk w35 (P + 1) (B3 (.slice none 0 0) (.slice none 0 0) (.slice none 0 0)) 27) := ⟨HK_0.out.1.below b HK_0.out.1.lt, HK_0.out.2.below b HK_0.out.2.lt⟩
    have HB_35 : Hid (Below w.heap.size w w35) := belowCall HB_0.out b HB_0.out.size
    clear b hw hv HK_0 HB_0
    refine ⟨(HS.out _).2 HK_35.out.1, ?_⟩
    refine anyS_two 0 8 (by kernel_rfl) rfl rfl ?_ ?_
    · go_wp2
      obtain ⟨w36, hw⟩ : ∃ W, w35.alloc (Obj.cells #[] 38) = W := ⟨_, rfl⟩
      obtain ⟨V0, hv⟩ : ∃ v, Value.slice (some ⟨w35.heap.size, 0, none⟩) 0 0 = v := ⟨_, rfl⟩
      rw [hw, hv]
      have b : Below w35.heap.size w35 w36 := by rw [← hw]; exact (Below.refl _ _).alloc (Nat.le_refl _) _
      have HR1_36 : Hid (Ow .i64 3 w.heap.size w36 V1 []) := HR1_35.out.below b
      have HR0_36 : Hid (Og 3 tkC 38 w.heap.size w36 V0 []) := by rw [← hw, ← hv]; exact World.ownsRow_lit w35 #[] 0 HB_35.out.size (by simp) (by simp)
      have HK_36 : Hid (Blk w36 P BK 27 ∧ Blk w36 (P + 1) (B3 (.slice none 0 0) (.slice none 0 0) (.slice none 0 0)) 27) := ⟨HK_35.out.1.below b HK_35.out.1.lt, HK_35.out.2.below b HK_35.out.2.lt⟩
      have HB_36 : Hid (Below w.heap.size w w36) := belowCall HB_35.out b HB_35.out.size
      clear b hw hv HK_35 HB_35 HR1_35
      refine ⟨(HS.out _).2 HK_36.out.1, ?_⟩
      refine anyS_two 3 8 (by kernel_rfl) rfl rfl ?_ ?_
      · refine appTs rfl _ _ rfl w.heap.size _ [] rfl HR0_36.out _ ts rfl (HRD.out _ HB_36.out).1 (by have := HN.out; simp; omega) HB_36.out.size ?_
        intro U37 w37 o g p
        have HR0_37 : Hid (Og 3 tkC 38 w.heap.size w37 U37 ts) := (show Og 3 tkC 38 _ _ _ _ from by simpa using o)
        have HR1_37 : Hid (Ow .i64 3 w.heap.size w37 V1 []) := World.ownsRow.kept HR1_36.out g (own_tag HR1_36.out HR0_36.out (by decide))
        have HK_37 : Hid (Blk w37 P BK 27 ∧ Blk w37 (P + 1) (B3 (.slice none 0 0) (.slice none 0 0) (.slice none 0 0)) 27) := ⟨HK_36.out.1.grown g (row_blk HR0_36.out HK_36.out.1 (by decide)), HK_36.out.2.grown g (row_blk HR0_36.out HK_36.out.2 (by decide))⟩
        have HB_37 : Hid (Below w.heap.size w w37) := HB_36.out.trans (grown_below g HB_36.out.size (fun k e => (World.ownsRow.lt HR0_36.out k e).1))
        clear o g p HK_36 HB_36 HR1_36 HR0_36
        go_wp2
        refine ⟨(HS.out _).2 HK_37.out.1, ?_⟩
        refine anyS_two 7 8 (by kernel_rfl) rfl rfl ?_ ?_
        · refine appIs rfl _ _ rfl w.heap.size _ [] rfl HR1_37.out _ ls rfl (HRD.out _ HB_37.out).2.1 (by have := HN.out; simp; omega) HB_37.out.size ?_
          intro U38 w38 o g p
          have HR1_38 : Hid (Ow .i64 3 w.heap.size w38 U38 ls) := (show Ow .i64 3 _ _ _ _ from by simpa using o)
          have HR0_38 : Hid (Og 3 tkC 38 w.heap.size w38 U37 ts) := World.ownsRow.kept HR0_37.out g (own_tag HR0_37.out HR1_37.out (by decide))
          have HK_38 : Hid (Blk w38 P BK 27 ∧ Blk w38 (P + 1) (B3 (.slice none 0 0) (.slice none 0 0) (.slice none 0 0)) 27) := ⟨HK_37.out.1.grown g (row_blk HR1_37.out HK_37.out.1 (by decide)), HK_37.out.2.grown g (row_blk HR1_37.out HK_37.out.2 (by decide))⟩
          have HB_38 : Hid (Below w.heap.size w w38) := HB_37.out.trans (grown_below g HB_37.out.size (fun k e => (World.ownsRow.lt HR1_37.out k e).1))
          clear o g p HK_37 HB_37 HR1_37 HR0_37
          go_wp2
          refine ⟨(HS.out _).2 HK_38.out.1, ?_⟩
          refine anyS_one 8 (by kernel_rfl) rfl ?_
          go_wp2
          obtain ⟨w39, hw⟩ : ∃ W, w38.alloc (Obj.cells #[] 3) = W := ⟨_, rfl⟩
          obtain ⟨V2, hv⟩ : ∃ v, Value.slice (some ⟨w38.heap.size, 0, none⟩) 0 0 = v := ⟨_, rfl⟩
          rw [hw, hv]
          have b : Below w38.heap.size w38 w39 := by rw [← hw]; exact (Below.refl _ _).alloc (Nat.le_refl _) _
          have HR1_39 : Hid (Ow .i64 3 w.heap.size w39 U38 ls) := HR1_38.out.below b
          have HR0_39 : Hid (Og 3 tkC 38 w.heap.size w39 U37 ts) := HR0_38.out.below b
          have HR2_39 : Hid (Ow .i64 3 w.heap.size w39 V2 []) := by rw [← hw, ← hv]; exact World.ownsRow_lit w38 #[] 0 HB_38.out.size (by simp) (by simp)
          have HA_39 : Hid (Apart U38 V2) := Apart.at (P := w38.heap.size) (fun k e => (World.ownsRow.lt HR1_38.out k e).2) (fun k e => by rw [← hv] at e; simp [Value.ownBlock] at e; omega)
          have HK_39 : Hid (Blk w39 P BK 27 ∧ Blk w39 (P + 1) (B3 (.slice none 0 0) (.slice none 0 0) (.slice none 0 0)) 27) := ⟨HK_38.out.1.below b HK_38.out.1.lt, HK_38.out.2.below b HK_38.out.2.lt⟩
          have HB_39 : Hid (Below w.heap.size w w39) := belowCall HB_38.out b HB_38.out.size
          clear b hw hv HK_38 HB_38 HR1_38 HR0_38
          refine ⟨(HS.out _).2 HK_39.out.1, ?_⟩
          refine anyS_one 11 (by kernel_rfl) rfl ?_
          refine appIs rfl _ _ rfl w.heap.size _ [] rfl HR2_39.out _ cs rfl (HRD.out _ HB_39.out).2.2 (by have := HN.out; simp; omega) HB_39.out.size ?_
          intro U40 w40 o g p
          have HR2_40 : Hid (Ow .i64 3 w.heap.size w40 U40 cs) := (show Ow .i64 3 _ _ _ _ from by simpa using o)
          have HR1_40 : Hid (Ow .i64 3 w.heap.size w40 U38 ls) := World.ownsRow.kept HR1_39.out g HA_39.out.or
          have HR0_40 : Hid (Og 3 tkC 38 w.heap.size w40 U37 ts) := World.ownsRow.kept HR0_39.out g (own_tag HR0_39.out HR2_39.out (by decide))
          have hap : Apart U38 U40 := (fun k e e2 => by
            rcases p with h | h
            · exact HA_39.out k e (h.symm.trans e2)
            · rw [h] at e2; cases e2; have := (World.ownsRow.lt HR1_39.out _ e).2; omega)
          have HA_40 : Hid (Apart U38 U40) := hap
          have HK_40 : Hid (Blk w40 P BK 27 ∧ Blk w40 (P + 1) (B3 (.slice none 0 0) (.slice none 0 0) (.slice none 0 0)) 27) := ⟨HK_39.out.1.grown g (row_blk HR2_39.out HK_39.out.1 (by decide)), HK_39.out.2.grown g (row_blk HR2_39.out HK_39.out.2 (by decide))⟩
          have HB_40 : Hid (Below w.heap.size w w40) := HB_39.out.trans (grown_below g HB_39.out.size (fun k e => (World.ownsRow.lt HR2_39.out k e).1))
          clear o g p HK_39 HB_39 HR1_39 HR0_39 HR2_39 HA_39 hap
          go_wp2
          refine ⟨(HS.out _).2 HK_40.out.1, ?_⟩
          obtain ⟨y0, n0, q0, rfl⟩ : ∃ a L c, U37 = .slice a L c := by obtain ⟨a, c, e⟩ := HR0_40.out.form; exact ⟨a, _, c, e⟩
          obtain ⟨y1, n1, q1, rfl⟩ : ∃ a L c, U38 = .slice a L c := by obtain ⟨a, c, e⟩ := HR1_40.out.form; exact ⟨a, _, c, e⟩
          obtain ⟨y2, n2, q2, rfl⟩ : ∃ a L c, U40 = .slice a L c := by obtain ⟨a, c, e⟩ := HR2_40.out.form; exact ⟨a, _, c, e⟩
          refine anyS_one 12 (by kernel_rfl) rfl ?_
          go_wp2
          refine ⟨(HS.out _).2 HK_40.out.1, anyS_one 13 (by kernel_rfl) rfl ?_⟩
          have z0 := HK_40.out.2.cell 0
          have z1 := HK_40.out.2.cell 1
          have z2 := HK_40.out.2.cell 2
          simp at z0 z1 z2
          have f0 := HK_40.out.2.frozen 0
          have f1 := HK_40.out.2.frozen 1
          have f2 := HK_40.out.2.frozen 2
          have HE := HFIN.out _ _ _ _ _ _ _ _ _ _ HB_40.out HK_40.out.2 HR0_40.out HR1_40.out HR2_40.out HA_40.out
          have HEH : Hid (CbR ts ls cs w (.returned (.agg (B3 (.slice y0 n0 q0) (.slice y1 n1 q1) (.slice y2 n2 q2)))) (((w40.setCell ⟨P + 1, 0, none⟩ (.slice y0 n0 q0)).setCell ⟨P + 1, 1, none⟩ (.slice y1 n1 q1)).setCell ⟨P + 1, 2, none⟩ (.slice y2 n2 q2))) := HE
          have hbp := ((HK_40.out.1.other ⟨P + 1, 0, none⟩ (.slice y0 n0 q0) (by dsimp only; omega)).other ⟨P + 1, 1, none⟩ (.slice y1 n1 q1) (by dsimp only; omega)).other ⟨P + 1, 2, none⟩ (.slice y2 n2 q2) (by dsimp only; omega)
          have HBP : Hid (S (((w40.setCell ⟨P + 1, 0, none⟩ (.slice y0 n0 q0)).setCell ⟨P + 1, 1, none⟩ (.slice y1 n1 q1)).setCell ⟨P + 1, 2, none⟩ (.slice y2 n2 q2))) := (HS.out _).2 hbp
          have hbf : Blk (((w40.setCell ⟨P + 1, 0, none⟩ (.slice y0 n0 q0)).setCell ⟨P + 1, 1, none⟩ (.slice y1 n1 q1)).setCell ⟨P + 1, 2, none⟩ (.slice y2 n2 q2)) (P + 1) (B3 (.slice y0 n0 q0) (.slice y1 n1 q1) (.slice y2 n2 q2)) 27 := by
            have := ((HK_40.out.2.set 0 (.slice y0 n0 q0)).set 1 (.slice y1 n1 q1)).set 2 (.slice y2 n2 q2)
            simpa using this
          have HBF : Hid (Blk (((w40.setCell ⟨P + 1, 0, none⟩ (.slice y0 n0 q0)).setCell ⟨P + 1, 1, none⟩ (.slice y1 n1 q1)).setCell ⟨P + 1, 2, none⟩ (.slice y2 n2 q2)) (P + 1) (B3 (.slice y0 n0 q0) (.slice y1 n1 q1) (.slice y2 n2 q2)) 27) := hbf
          clear HE hbp hbf HK_40 HB_40 HR0_40 HR1_40 HR2_40 HA_40
          go_wp2
          refine ⟨HBP.out, anyS_end (by kernel_rfl) ?_⟩
          go_wp2
          exact bodyPost_ret (v := .agg (B3 (.slice y0 n0 q0) (.slice y1 n1 q1) (.slice y2 n2 q2))) (results_cell_row rfl _ _ _ 27 _ (0, 0) _ rfl HBF.out Tryd.underlying27 rfl sizeBk) rfl HEH.out
        · go_wp2
          obtain ⟨w41, hw⟩ : ∃ W, w37.alloc (Obj.cells #[] 3) = W := ⟨_, rfl⟩
          obtain ⟨V2, hv⟩ : ∃ v, Value.slice (some ⟨w37.heap.size, 0, none⟩) 0 0 = v := ⟨_, rfl⟩
          rw [hw, hv]
          have b : Below w37.heap.size w37 w41 := by rw [← hw]; exact (Below.refl _ _).alloc (Nat.le_refl _) _
          have HR1_41 : Hid (Ow .i64 3 w.heap.size w41 V1 []) := HR1_37.out.below b
          have HR0_41 : Hid (Og 3 tkC 38 w.heap.size w41 U37 ts) := HR0_37.out.below b
          have HR2_41 : Hid (Ow .i64 3 w.heap.size w41 V2 []) := by rw [← hw, ← hv]; exact World.ownsRow_lit w37 #[] 0 HB_37.out.size (by simp) (by simp)
          have HA_41 : Hid (Apart V1 V2) := Apart.at (P := w37.heap.size) (fun k e => (World.ownsRow.lt HR1_37.out k e).2) (fun k e => by rw [← hv] at e; simp [Value.ownBlock] at e; omega)
          have HK_41 : Hid (Blk w41 P BK 27 ∧ Blk w41 (P + 1) (B3 (.slice none 0 0) (.slice none 0 0) (.slice none 0 0)) 27) := ⟨HK_37.out.1.below b HK_37.out.1.lt, HK_37.out.2.below b HK_37.out.2.lt⟩
          have HB_41 : Hid (Below w.heap.size w w41) := belowCall HB_37.out b HB_37.out.size
          clear b hw hv HK_37 HB_37 HR1_37 HR0_37
          refine ⟨(HS.out _).2 HK_41.out.1, ?_⟩
          refine anyS_one 7 (by kernel_rfl) rfl ?_
          refine appIs rfl _ _ rfl w.heap.size _ [] rfl HR1_41.out _ ls rfl (HRD.out _ HB_41.out).2.1 (by have := HN.out; simp; omega) HB_41.out.size ?_
          intro U42 w42 o g p
          have HR1_42 : Hid (Ow .i64 3 w.heap.size w42 U42 ls) := (show Ow .i64 3 _ _ _ _ from by simpa using o)
          have HR0_42 : Hid (Og 3 tkC 38 w.heap.size w42 U37 ts) := World.ownsRow.kept HR0_41.out g (own_tag HR0_41.out HR1_41.out (by decide))
          have HR2_42 : Hid (Ow .i64 3 w.heap.size w42 V2 []) := World.ownsRow.kept HR2_41.out g HA_41.out.symm.or
          have hap : Apart V2 U42 := (fun k e e2 => by
            rcases p with h | h
            · exact HA_41.out.symm k e (h.symm.trans e2)
            · rw [h] at e2; cases e2; have := (World.ownsRow.lt HR2_41.out _ e).2; omega)
          have HA_42 : Hid (Apart U42 V2) := hap.symm
          have HK_42 : Hid (Blk w42 P BK 27 ∧ Blk w42 (P + 1) (B3 (.slice none 0 0) (.slice none 0 0) (.slice none 0 0)) 27) := ⟨HK_41.out.1.grown g (row_blk HR1_41.out HK_41.out.1 (by decide)), HK_41.out.2.grown g (row_blk HR1_41.out HK_41.out.2 (by decide))⟩
          have HB_42 : Hid (Below w.heap.size w w42) := HB_41.out.trans (grown_below g HB_41.out.size (fun k e => (World.ownsRow.lt HR1_41.out k e).1))
          clear o g p HK_41 HB_41 HR1_41 HR0_41 HR2_41 HA_41 hap
          go_wp2
          refine ⟨(HS.out _).2 HK_42.out.1, ?_⟩
          refine anyS_one 11 (by kernel_rfl) rfl ?_
          refine appIs rfl _ _ rfl w.heap.size _ [] rfl HR2_42.out _ cs rfl (HRD.out _ HB_42.out).2.2 (by have := HN.out; simp; omega) HB_42.out.size ?_
          intro U43 w43 o g p
          have HR2_43 : Hid (Ow .i64 3 w.heap.size w43 U43 cs) := (show Ow .i64 3 _ _ _ _ from by simpa using o)
          have HR1_43 : Hid (Ow .i64 3 w.heap.size w43 U42 ls) := World.ownsRow.kept HR1_42.out g HA_42.out.or
          have HR0_43 : Hid (Og 3 tkC 38 w.heap.size w43 U37 ts) := World.ownsRow.kept HR0_42.out g (own_tag HR0_42.out HR2_42.out (by decide))
          have hap : Apart U42 U43 := (fun k e e2 => by
            rcases p with h | h
            · exact HA_42.out k e (h.symm.trans e2)
            · rw [h] at e2; cases e2; have := (World.ownsRow.lt HR1_42.out _ e).2; omega)
          have HA_43 : Hid (Apart U42 U43) := hap
          have HK_43 : Hid (Blk w43 P BK 27 ∧ Blk w43 (P + 1) (B3 (.slice none 0 0) (.slice none 0 0) (.slice none 0 0)) 27) := ⟨HK_42.out.1.grown g (row_blk HR2_42.out HK_42.out.1 (by decide)), HK_42.out.2.grown g (row_blk HR2_42.out HK_42.out.2 (by decide))⟩
          have HB_43 : Hid (Below w.heap.size w w43) := HB_42.out.trans (grown_below g HB_42.out.size (fun k e => (World.ownsRow.lt HR2_42.out k e).1))
          clear o g p HK_42 HB_42 HR1_42 HR0_42 HR2_42 HA_42 hap
          go_wp2
          refine ⟨(HS.out _).2 HK_43.out.1, ?_⟩
          obtain ⟨y0, n0, q0, rfl⟩ : ∃ a L c, U37 = .slice a L c := by obtain ⟨a, c, e⟩ := HR0_43.out.form; exact ⟨a, _, c, e⟩
          obtain ⟨y1, n1, q1, rfl⟩ : ∃ a L c, U42 = .slice a L c := by obtain ⟨a, c, e⟩ := HR1_43.out.form; exact ⟨a, _, c, e⟩
          obtain ⟨y2, n2, q2, rfl⟩ : ∃ a L c, U43 = .slice a L c := by obtain ⟨a, c, e⟩ := HR2_43.out.form; exact ⟨a, _, c, e⟩
          refine anyS_one 12 (by kernel_rfl) rfl ?_
          go_wp2
          refine ⟨(HS.out _).2 HK_43.out.1, anyS_one 13 (by kernel_rfl) rfl ?_⟩
          have z0 := HK_43.out.2.cell 0
          have z1 := HK_43.out.2.cell 1
          have z2 := HK_43.out.2.cell 2
          simp at z0 z1 z2
          have f0 := HK_43.out.2.frozen 0
          have f1 := HK_43.out.2.frozen 1
          have f2 := HK_43.out.2.frozen 2
          have HE := HFIN.out _ _ _ _ _ _ _ _ _ _ HB_43.out HK_43.out.2 HR0_43.out HR1_43.out HR2_43.out HA_43.out
          have HEH : Hid (CbR ts ls cs w (.returned (.agg (B3 (.slice y0 n0 q0) (.slice y1 n1 q1) (.slice y2 n2 q2)))) (((w43.setCell ⟨P + 1, 0, none⟩ (.slice y0 n0 q0)).setCell ⟨P + 1, 1, none⟩ (.slice y1 n1 q1)).setCell ⟨P + 1, 2, none⟩ (.slice y2 n2 q2))) := HE
          have hbp := ((HK_43.out.1.other ⟨P + 1, 0, none⟩ (.slice y0 n0 q0) (by dsimp only; omega)).other ⟨P + 1, 1, none⟩ (.slice y1 n1 q1) (by dsimp only; omega)).other ⟨P + 1, 2, none⟩ (.slice y2 n2 q2) (by dsimp only; omega)
          have HBP : Hid (S (((w43.setCell ⟨P + 1, 0, none⟩ (.slice y0 n0 q0)).setCell ⟨P + 1, 1, none⟩ (.slice y1 n1 q1)).setCell ⟨P + 1, 2, none⟩ (.slice y2 n2 q2))) := (HS.out _).2 hbp
          have hbf : Blk (((w43.setCell ⟨P + 1, 0, none⟩ (.slice y0 n0 q0)).setCell ⟨P + 1, 1, none⟩ (.slice y1 n1 q1)).setCell ⟨P + 1, 2, none⟩ (.slice y2 n2 q2)) (P + 1) (B3 (.slice y0 n0 q0) (.slice y1 n1 q1) (.slice y2 n2 q2)) 27 := by
            have := ((HK_43.out.2.set 0 (.slice y0 n0 q0)).set 1 (.slice y1 n1 q1)).set 2 (.slice y2 n2 q2)
            simpa using this
          have HBF : Hid (Blk (((w43.setCell ⟨P + 1, 0, none⟩ (.slice y0 n0 q0)).setCell ⟨P + 1, 1, none⟩ (.slice y1 n1 q1)).setCell ⟨P + 1, 2, none⟩ (.slice y2 n2 q2)) (P + 1) (B3 (.slice y0 n0 q0) (.slice y1 n1 q1) (.slice y2 n2 q2)) 27) := hbf
          clear HE hbp hbf HK_43 HB_43 HR0_43 HR1_43 HR2_43 HA_43
          go_wp2
          refine ⟨HBP.out, anyS_end (by kernel_rfl) ?_⟩
          go_wp2
          exact bodyPost_ret (v := .agg (B3 (.slice y0 n0 q0) (.slice y1 n1 q1) (.slice y2 n2 q2))) (results_cell_row rfl _ _ _ 27 _ (0, 0) _ rfl HBF.out Tryd.underlying27 rfl sizeBk) rfl HEH.out
      · go_wp2
        obtain ⟨w44, hw⟩ : ∃ W, w36.alloc (Obj.cells #[] 3) = W := ⟨_, rfl⟩
        obtain ⟨V2, hv⟩ : ∃ v, Value.slice (some ⟨w36.heap.size, 0, none⟩) 0 0 = v := ⟨_, rfl⟩
        rw [hw, hv]
        have b : Below w36.heap.size w36 w44 := by rw [← hw]; exact (Below.refl _ _).alloc (Nat.le_refl _) _
        have HR1_44 : Hid (Ow .i64 3 w.heap.size w44 V1 []) := HR1_36.out.below b
        have HR0_44 : Hid (Og 3 tkC 38 w.heap.size w44 V0 []) := HR0_36.out.below b
        have HR2_44 : Hid (Ow .i64 3 w.heap.size w44 V2 []) := by rw [← hw, ← hv]; exact World.ownsRow_lit w36 #[] 0 HB_36.out.size (by simp) (by simp)
        have HA_44 : Hid (Apart V1 V2) := Apart.at (P := w36.heap.size) (fun k e => (World.ownsRow.lt HR1_36.out k e).2) (fun k e => by rw [← hv] at e; simp [Value.ownBlock] at e; omega)
        have HK_44 : Hid (Blk w44 P BK 27 ∧ Blk w44 (P + 1) (B3 (.slice none 0 0) (.slice none 0 0) (.slice none 0 0)) 27) := ⟨HK_36.out.1.below b HK_36.out.1.lt, HK_36.out.2.below b HK_36.out.2.lt⟩
        have HB_44 : Hid (Below w.heap.size w w44) := belowCall HB_36.out b HB_36.out.size
        clear b hw hv HK_36 HB_36 HR1_36 HR0_36
        refine ⟨(HS.out _).2 HK_44.out.1, ?_⟩
        refine anyS_one 3 (by kernel_rfl) rfl ?_
        refine appTs rfl _ _ rfl w.heap.size _ [] rfl HR0_44.out _ ts rfl (HRD.out _ HB_44.out).1 (by have := HN.out; simp; omega) HB_44.out.size ?_
        intro U45 w45 o g p
        have HR0_45 : Hid (Og 3 tkC 38 w.heap.size w45 U45 ts) := (show Og 3 tkC 38 _ _ _ _ from by simpa using o)
        have HR1_45 : Hid (Ow .i64 3 w.heap.size w45 V1 []) := World.ownsRow.kept HR1_44.out g (own_tag HR1_44.out HR0_44.out (by decide))
        have HR2_45 : Hid (Ow .i64 3 w.heap.size w45 V2 []) := World.ownsRow.kept HR2_44.out g (own_tag HR2_44.out HR0_44.out (by decide))
        have HA_45 : Hid (Apart V1 V2) := HA_44.out
        have HK_45 : Hid (Blk w45 P BK 27 ∧ Blk w45 (P + 1) (B3 (.slice none 0 0) (.slice none 0 0) (.slice none 0 0)) 27) := ⟨HK_44.out.1.grown g (row_blk HR0_44.out HK_44.out.1 (by decide)), HK_44.out.2.grown g (row_blk HR0_44.out HK_44.out.2 (by decide))⟩
        have HB_45 : Hid (Below w.heap.size w w45) := HB_44.out.trans (grown_below g HB_44.out.size (fun k e => (World.ownsRow.lt HR0_44.out k e).1))
        clear o g p HK_44 HB_44 HR1_44 HR0_44 HR2_44 HA_44
        go_wp2
        refine ⟨(HS.out _).2 HK_45.out.1, ?_⟩
        refine anyS_one 7 (by kernel_rfl) rfl ?_
        refine appIs rfl _ _ rfl w.heap.size _ [] rfl HR1_45.out _ ls rfl (HRD.out _ HB_45.out).2.1 (by have := HN.out; simp; omega) HB_45.out.size ?_
        intro U46 w46 o g p
        have HR1_46 : Hid (Ow .i64 3 w.heap.size w46 U46 ls) := (show Ow .i64 3 _ _ _ _ from by simpa using o)
        have HR0_46 : Hid (Og 3 tkC 38 w.heap.size w46 U45 ts) := World.ownsRow.kept HR0_45.out g (own_tag HR0_45.out HR1_45.out (by decide))
        have HR2_46 : Hid (Ow .i64 3 w.heap.size w46 V2 []) := World.ownsRow.kept HR2_45.out g HA_45.out.symm.or
        have hap : Apart V2 U46 := (fun k e e2 => by
          rcases p with h | h
          · exact HA_45.out.symm k e (h.symm.trans e2)
          · rw [h] at e2; cases e2; have := (World.ownsRow.lt HR2_45.out _ e).2; omega)
        have HA_46 : Hid (Apart U46 V2) := hap.symm
        have HK_46 : Hid (Blk w46 P BK 27 ∧ Blk w46 (P + 1) (B3 (.slice none 0 0) (.slice none 0 0) (.slice none 0 0)) 27) := ⟨HK_45.out.1.grown g (row_blk HR1_45.out HK_45.out.1 (by decide)), HK_45.out.2.grown g (row_blk HR1_45.out HK_45.out.2 (by decide))⟩
        have HB_46 : Hid (Below w.heap.size w w46) := HB_45.out.trans (grown_below g HB_45.out.size (fun k e => (World.ownsRow.lt HR1_45.out k e).1))
        clear o g p HK_45 HB_45 HR1_45 HR0_45 HR2_45 HA_45 hap
        go_wp2
        refine ⟨(HS.out _).2 HK_46.out.1, ?_⟩
        refine anyS_one 11 (by kernel_rfl) rfl ?_
        refine appIs rfl _ _ rfl w.heap.size _ [] rfl HR2_46.out _ cs rfl (HRD.out _ HB_46.out).2.2 (by have := HN.out; simp; omega) HB_46.out.size ?_
        intro U47 w47 o g p
        have HR2_47 : Hid (Ow .i64 3 w.heap.size w47 U47 cs) := (show Ow .i64 3 _ _ _ _ from by simpa using o)
        have HR1_47 : Hid (Ow .i64 3 w.heap.size w47 U46 ls) := World.ownsRow.kept HR1_46.out g HA_46.out.or
        have HR0_47 : Hid (Og 3 tkC 38 w.heap.size w47 U45 ts) := World.ownsRow.kept HR0_46.out g (own_tag HR0_46.out HR2_46.out (by decide))
        have hap : Apart U46 U47 := (fun k e e2 => by
          rcases p with h | h
          · exact HA_46.out k e (h.symm.trans e2)
          · rw [h] at e2; cases e2; have := (World.ownsRow.lt HR1_46.out _ e).2; omega)
        have HA_47 : Hid (Apart U46 U47) := hap
        have HK_47 : Hid (Blk w47 P BK 27 ∧ Blk w47 (P + 1) (B3 (.slice none 0 0) (.slice none 0 0) (.slice none 0 0)) 27) := ⟨HK_46.out.1.grown g (row_blk HR2_46.out HK_46.out.1 (by decide)), HK_46.out.2.grown g (row_blk HR2_46.out HK_46.out.2 (by decide))⟩
        have HB_47 : Hid (Below w.heap.size w w47) := HB_46.out.trans (grown_below g HB_46.out.size (fun k e => (World.ownsRow.lt HR2_46.out k e).1))
        clear o g p HK_46 HB_46 HR1_46 HR0_46 HR2_46 HA_46 hap
        go_wp2
        refine ⟨(HS.out _).2 HK_47.out.1, ?_⟩
        obtain ⟨y0, n0, q0, rfl⟩ : ∃ a L c, U45 = .slice a L c := by obtain ⟨a, c, e⟩ := HR0_47.out.form; exact ⟨a, _, c, e⟩
        obtain ⟨y1, n1, q1, rfl⟩ : ∃ a L c, U46 = .slice a L c := by obtain ⟨a, c, e⟩ := HR1_47.out.form; exact ⟨a, _, c, e⟩
        obtain ⟨y2, n2, q2, rfl⟩ : ∃ a L c, U47 = .slice a L c := by obtain ⟨a, c, e⟩ := HR2_47.out.form; exact ⟨a, _, c, e⟩
        refine anyS_one 12 (by kernel_rfl) rfl ?_
        go_wp2
        refine ⟨(HS.out _).2 HK_47.out.1, anyS_one 13 (by kernel_rfl) rfl ?_⟩
        have z0 := HK_47.out.2.cell 0
        have z1 := HK_47.out.2.cell 1
        have z2 := HK_47.out.2.cell 2
        simp at z0 z1 z2
        have f0 := HK_47.out.2.frozen 0
        have f1 := HK_47.out.2.frozen 1
        have f2 := HK_47.out.2.frozen 2
        have HE := HFIN.out _ _ _ _ _ _ _ _ _ _ HB_47.out HK_47.out.2 HR0_47.out HR1_47.out HR2_47.out HA_47.out
        have HEH : Hid (CbR ts ls cs w (.returned (.agg (B3 (.slice y0 n0 q0) (.slice y1 n1 q1) (.slice y2 n2 q2)))) (((w47.setCell ⟨P + 1, 0, none⟩ (.slice y0 n0 q0)).setCell ⟨P + 1, 1, none⟩ (.slice y1 n1 q1)).setCell ⟨P + 1, 2, none⟩ (.slice y2 n2 q2))) := HE
        have hbp := ((HK_47.out.1.other ⟨P + 1, 0, none⟩ (.slice y0 n0 q0) (by dsimp only; omega)).other ⟨P + 1, 1, none⟩ (.slice y1 n1 q1) (by dsimp only; omega)).other ⟨P + 1, 2, none⟩ (.slice y2 n2 q2) (by dsimp only; omega)
        have HBP : Hid (S (((w47.setCell ⟨P + 1, 0, none⟩ (.slice y0 n0 q0)).setCell ⟨P + 1, 1, none⟩ (.slice y1 n1 q1)).setCell ⟨P + 1, 2, none⟩ (.slice y2 n2 q2))) := (HS.out _).2 hbp
        have hbf : Blk (((w47.setCell ⟨P + 1, 0, none⟩ (.slice y0 n0 q0)).setCell ⟨P + 1, 1, none⟩ (.slice y1 n1 q1)).setCell ⟨P + 1, 2, none⟩ (.slice y2 n2 q2)) (P + 1) (B3 (.slice y0 n0 q0) (.slice y1 n1 q1) (.slice y2 n2 q2)) 27 := by
          have := ((HK_47.out.2.set 0 (.slice y0 n0 q0)).set 1 (.slice y1 n1 q1)).set 2 (.slice y2 n2 q2)
          simpa using this
        have HBF : Hid (Blk (((w47.setCell ⟨P + 1, 0, none⟩ (.slice y0 n0 q0)).setCell ⟨P + 1, 1, none⟩ (.slice y1 n1 q1)).setCell ⟨P + 1, 2, none⟩ (.slice y2 n2 q2)) (P + 1) (B3 (.slice y0 n0 q0) (.slice y1 n1 q1) (.slice y2 n2 q2)) 27) := hbf
        clear HE hbp hbf HK_47 HB_47 HR0_47 HR1_47 HR2_47 HA_47
        go_wp2
        refine ⟨HBP.out, anyS_end (by kernel_rfl) ?_⟩
        go_wp2
        exact bodyPost_ret (v := .agg (B3 (.slice y0 n0 q0) (.slice y1 n1 q1) (.slice y2 n2 q2))) (results_cell_row rfl _ _ _ 27 _ (0, 0) _ rfl HBF.out Tryd.underlying27 rfl sizeBk) rfl HEH.out
    · go_wp2
      obtain ⟨w48, hw⟩ : ∃ W, w35.alloc (Obj.cells #[] 3) = W := ⟨_, rfl⟩
      obtain ⟨V2, hv⟩ : ∃ v, Value.slice (some ⟨w35.heap.size, 0, none⟩) 0 0 = v := ⟨_, rfl⟩
      rw [hw, hv]
      have b : Below w35.heap.size w35 w48 := by rw [← hw]; exact (Below.refl _ _).alloc (Nat.le_refl _) _
      have HR1_48 : Hid (Ow .i64 3 w.heap.size w48 V1 []) := HR1_35.out.below b
      have HR2_48 : Hid (Ow .i64 3 w.heap.size w48 V2 []) := by rw [← hw, ← hv]; exact World.ownsRow_lit w35 #[] 0 HB_35.out.size (by simp) (by simp)
      have HA_48 : Hid (Apart V1 V2) := Apart.at (P := w35.heap.size) (fun k e => (World.ownsRow.lt HR1_35.out k e).2) (fun k e => by rw [← hv] at e; simp [Value.ownBlock] at e; omega)
      have HK_48 : Hid (Blk w48 P BK 27 ∧ Blk w48 (P + 1) (B3 (.slice none 0 0) (.slice none 0 0) (.slice none 0 0)) 27) := ⟨HK_35.out.1.below b HK_35.out.1.lt, HK_35.out.2.below b HK_35.out.2.lt⟩
      have HB_48 : Hid (Below w.heap.size w w48) := belowCall HB_35.out b HB_35.out.size
      clear b hw hv HK_35 HB_35 HR1_35
      refine ⟨(HS.out _).2 HK_48.out.1, ?_⟩
      refine anyS_one 0 (by kernel_rfl) rfl ?_
      go_wp2
      obtain ⟨w49, hw⟩ : ∃ W, w48.alloc (Obj.cells #[] 38) = W := ⟨_, rfl⟩
      obtain ⟨V0, hv⟩ : ∃ v, Value.slice (some ⟨w48.heap.size, 0, none⟩) 0 0 = v := ⟨_, rfl⟩
      rw [hw, hv]
      have b : Below w48.heap.size w48 w49 := by rw [← hw]; exact (Below.refl _ _).alloc (Nat.le_refl _) _
      have HR1_49 : Hid (Ow .i64 3 w.heap.size w49 V1 []) := HR1_48.out.below b
      have HR2_49 : Hid (Ow .i64 3 w.heap.size w49 V2 []) := HR2_48.out.below b
      have HR0_49 : Hid (Og 3 tkC 38 w.heap.size w49 V0 []) := by rw [← hw, ← hv]; exact World.ownsRow_lit w48 #[] 0 HB_48.out.size (by simp) (by simp)
      have HA_49 : Hid (Apart V1 V2) := HA_48.out
      have HK_49 : Hid (Blk w49 P BK 27 ∧ Blk w49 (P + 1) (B3 (.slice none 0 0) (.slice none 0 0) (.slice none 0 0)) 27) := ⟨HK_48.out.1.below b HK_48.out.1.lt, HK_48.out.2.below b HK_48.out.2.lt⟩
      have HB_49 : Hid (Below w.heap.size w w49) := belowCall HB_48.out b HB_48.out.size
      clear b hw hv HK_48 HB_48 HR1_48 HR2_48 HA_48
      refine ⟨(HS.out _).2 HK_49.out.1, ?_⟩
      refine anyS_one 3 (by kernel_rfl) rfl ?_
      refine appTs rfl _ _ rfl w.heap.size _ [] rfl HR0_49.out _ ts rfl (HRD.out _ HB_49.out).1 (by have := HN.out; simp; omega) HB_49.out.size ?_
      intro U50 w50 o g p
      have HR0_50 : Hid (Og 3 tkC 38 w.heap.size w50 U50 ts) := (show Og 3 tkC 38 _ _ _ _ from by simpa using o)
      have HR1_50 : Hid (Ow .i64 3 w.heap.size w50 V1 []) := World.ownsRow.kept HR1_49.out g (own_tag HR1_49.out HR0_49.out (by decide))
      have HR2_50 : Hid (Ow .i64 3 w.heap.size w50 V2 []) := World.ownsRow.kept HR2_49.out g (own_tag HR2_49.out HR0_49.out (by decide))
      have HA_50 : Hid (Apart V1 V2) := HA_49.out
      have HK_50 : Hid (Blk w50 P BK 27 ∧ Blk w50 (P + 1) (B3 (.slice none 0 0) (.slice none 0 0) (.slice none 0 0)) 27) := ⟨HK_49.out.1.grown g (row_blk HR0_49.out HK_49.out.1 (by decide)), HK_49.out.2.grown g (row_blk HR0_49.out HK_49.out.2 (by decide))⟩
      have HB_50 : Hid (Below w.heap.size w w50) := HB_49.out.trans (grown_below g HB_49.out.size (fun k e => (World.ownsRow.lt HR0_49.out k e).1))
      clear o g p HK_49 HB_49 HR1_49 HR2_49 HR0_49 HA_49
      go_wp2
      refine ⟨(HS.out _).2 HK_50.out.1, ?_⟩
      refine anyS_one 7 (by kernel_rfl) rfl ?_
      refine appIs rfl _ _ rfl w.heap.size _ [] rfl HR1_50.out _ ls rfl (HRD.out _ HB_50.out).2.1 (by have := HN.out; simp; omega) HB_50.out.size ?_
      intro U51 w51 o g p
      have HR1_51 : Hid (Ow .i64 3 w.heap.size w51 U51 ls) := (show Ow .i64 3 _ _ _ _ from by simpa using o)
      have HR2_51 : Hid (Ow .i64 3 w.heap.size w51 V2 []) := World.ownsRow.kept HR2_50.out g HA_50.out.symm.or
      have HR0_51 : Hid (Og 3 tkC 38 w.heap.size w51 U50 ts) := World.ownsRow.kept HR0_50.out g (own_tag HR0_50.out HR1_50.out (by decide))
      have hap : Apart V2 U51 := (fun k e e2 => by
        rcases p with h | h
        · exact HA_50.out.symm k e (h.symm.trans e2)
        · rw [h] at e2; cases e2; have := (World.ownsRow.lt HR2_50.out _ e).2; omega)
      have HA_51 : Hid (Apart U51 V2) := hap.symm
      have HK_51 : Hid (Blk w51 P BK 27 ∧ Blk w51 (P + 1) (B3 (.slice none 0 0) (.slice none 0 0) (.slice none 0 0)) 27) := ⟨HK_50.out.1.grown g (row_blk HR1_50.out HK_50.out.1 (by decide)), HK_50.out.2.grown g (row_blk HR1_50.out HK_50.out.2 (by decide))⟩
      have HB_51 : Hid (Below w.heap.size w w51) := HB_50.out.trans (grown_below g HB_50.out.size (fun k e => (World.ownsRow.lt HR1_50.out k e).1))
      clear o g p HK_50 HB_50 HR1_50 HR2_50 HR0_50 HA_50 hap
      go_wp2
      refine ⟨(HS.out _).2 HK_51.out.1, ?_⟩
      refine anyS_one 11 (by kernel_rfl) rfl ?_
      refine appIs rfl _ _ rfl w.heap.size _ [] rfl HR2_51.out _ cs rfl (HRD.out _ HB_51.out).2.2 (by have := HN.out; simp; omega) HB_51.out.size ?_
      intro U52 w52 o g p
      have HR2_52 : Hid (Ow .i64 3 w.heap.size w52 U52 cs) := (show Ow .i64 3 _ _ _ _ from by simpa using o)
      have HR1_52 : Hid (Ow .i64 3 w.heap.size w52 U51 ls) := World.ownsRow.kept HR1_51.out g HA_51.out.or
      have HR0_52 : Hid (Og 3 tkC 38 w.heap.size w52 U50 ts) := World.ownsRow.kept HR0_51.out g (own_tag HR0_51.out HR2_51.out (by decide))
      have hap : Apart U51 U52 := (fun k e e2 => by
        rcases p with h | h
        · exact HA_51.out k e (h.symm.trans e2)
        · rw [h] at e2; cases e2; have := (World.ownsRow.lt HR1_51.out _ e).2; omega)
      have HA_52 : Hid (Apart U51 U52) := hap
      have HK_52 : Hid (Blk w52 P BK 27 ∧ Blk w52 (P + 1) (B3 (.slice none 0 0) (.slice none 0 0) (.slice none 0 0)) 27) := ⟨HK_51.out.1.grown g (row_blk HR2_51.out HK_51.out.1 (by decide)), HK_51.out.2.grown g (row_blk HR2_51.out HK_51.out.2 (by decide))⟩
      have HB_52 : Hid (Below w.heap.size w w52) := HB_51.out.trans (grown_below g HB_51.out.size (fun k e => (World.ownsRow.lt HR2_51.out k e).1))
      clear o g p HK_51 HB_51 HR1_51 HR2_51 HR0_51 HA_51 hap
      go_wp2
      refine ⟨(HS.out _).2 HK_52.out.1, ?_⟩
      obtain ⟨y0, n0, q0, rfl⟩ : ∃ a L c, U50 = .slice a L c := by obtain ⟨a, c, e⟩ := HR0_52.out.form; exact ⟨a, _, c, e⟩
      obtain ⟨y1, n1, q1, rfl⟩ : ∃ a L c, U51 = .slice a L c := by obtain ⟨a, c, e⟩ := HR1_52.out.form; exact ⟨a, _, c, e⟩
      obtain ⟨y2, n2, q2, rfl⟩ : ∃ a L c, U52 = .slice a L c := by obtain ⟨a, c, e⟩ := HR2_52.out.form; exact ⟨a, _, c, e⟩
      refine anyS_one 12 (by kernel_rfl) rfl ?_
      go_wp2
      refine ⟨(HS.out _).2 HK_52.out.1, anyS_one 13 (by kernel_rfl) rfl ?_⟩
      have z0 := HK_52.out.2.cell 0
      have z1 := HK_52.out.2.cell 1
      have z2 := HK_52.out.2.cell 2
      simp at z0 z1 z2
      have f0 := HK_52.out.2.frozen 0
      have f1 := HK_52.out.2.frozen 1
      have f2 := HK_52.out.2.frozen 2
      have HE := HFIN.out _ _ _ _ _ _ _ _ _ _ HB_52.out HK_52.out.2 HR0_52.out HR1_52.out HR2_52.out HA_52.out
      have HEH : Hid (CbR ts ls cs w (.returned (.agg (B3 (.slice y0 n0 q0) (.slice y1 n1 q1) (.slice y2 n2 q2)))) (((w52.setCell ⟨P + 1, 0, none⟩ (.slice y0 n0 q0)).setCell ⟨P + 1, 1, none⟩ (.slice y1 n1 q1)).setCell ⟨P + 1, 2, none⟩ (.slice y2 n2 q2))) := HE
      have hbp := ((HK_52.out.1.other ⟨P + 1, 0, none⟩ (.slice y0 n0 q0) (by dsimp only; omega)).other ⟨P + 1, 1, none⟩ (.slice y1 n1 q1) (by dsimp only; omega)).other ⟨P + 1, 2, none⟩ (.slice y2 n2 q2) (by dsimp only; omega)
      have HBP : Hid (S (((w52.setCell ⟨P + 1, 0, none⟩ (.slice y0 n0 q0)).setCell ⟨P + 1, 1, none⟩ (.slice y1 n1 q1)).setCell ⟨P + 1, 2, none⟩ (.slice y2 n2 q2))) := (HS.out _).2 hbp
      have hbf : Blk (((w52.setCell ⟨P + 1, 0, none⟩ (.slice y0 n0 q0)).setCell ⟨P + 1, 1, none⟩ (.slice y1 n1 q1)).setCell ⟨P + 1, 2, none⟩ (.slice y2 n2 q2)) (P + 1) (B3 (.slice y0 n0 q0) (.slice y1 n1 q1) (.slice y2 n2 q2)) 27 := by
        have := ((HK_52.out.2.set 0 (.slice y0 n0 q0)).set 1 (.slice y1 n1 q1)).set 2 (.slice y2 n2 q2)
        simpa using this
      have HBF : Hid (Blk (((w52.setCell ⟨P + 1, 0, none⟩ (.slice y0 n0 q0)).setCell ⟨P + 1, 1, none⟩ (.slice y1 n1 q1)).setCell ⟨P + 1, 2, none⟩ (.slice y2 n2 q2)) (P + 1) (B3 (.slice y0 n0 q0) (.slice y1 n1 q1) (.slice y2 n2 q2)) 27) := hbf
      clear HE hbp hbf HK_52 HB_52 HR0_52 HR1_52 HR2_52 HA_52
      go_wp2
      refine ⟨HBP.out, anyS_end (by kernel_rfl) ?_⟩
      go_wp2
      exact bodyPost_ret (v := .agg (B3 (.slice y0 n0 q0) (.slice y1 n1 q1) (.slice y2 n2 q2))) (results_cell_row rfl _ _ _ 27 _ (0, 0) _ rfl HBF.out Tryd.underlying27 rfl sizeBk) rfl HEH.out
  · go_wp2
    obtain ⟨w53, hw⟩ : ∃ W, wd.alloc (Obj.cells #[] 3) = W := ⟨_, rfl⟩
    obtain ⟨V2, hv⟩ : ∃ v, Value.slice (some ⟨wd.heap.size, 0, none⟩) 0 0 = v := ⟨_, rfl⟩
    rw [hw, hv]
    have b : Below wd.heap.size wd w53 := by rw [← hw]; exact (Below.refl _ _).alloc (Nat.le_refl _) _
    have HR2_53 : Hid (Ow .i64 3 w.heap.size w53 V2 []) := by rw [← hw, ← hv]; exact World.ownsRow_lit wd #[] 0 HB_0.out.size (by simp) (by simp)
    have HK_53 : Hid (Blk w53 P BK 27 ∧ Blk w53 (P + 1) (B3 (.slice none 0 0) (.slice none 0 0) (.slice none 0 0)) 27) := ⟨HK_0.out.1.below b HK_0.out.1.lt, HK_0.out.2.below b HK_0.out.2.lt⟩
    have HB_53 : Hid (Below w.heap.size w w53) := belowCall HB_0.out b HB_0.out.size
    clear b hw hv HK_0 HB_0
    refine ⟨(HS.out _).2 HK_53.out.1, ?_⟩
    refine anyS_two 0 4 (by kernel_rfl) rfl rfl ?_ ?_
    · go_wp2
      obtain ⟨w54, hw⟩ : ∃ W, w53.alloc (Obj.cells #[] 38) = W := ⟨_, rfl⟩
      obtain ⟨V0, hv⟩ : ∃ v, Value.slice (some ⟨w53.heap.size, 0, none⟩) 0 0 = v := ⟨_, rfl⟩
      rw [hw, hv]
      have b : Below w53.heap.size w53 w54 := by rw [← hw]; exact (Below.refl _ _).alloc (Nat.le_refl _) _
      have HR2_54 : Hid (Ow .i64 3 w.heap.size w54 V2 []) := HR2_53.out.below b
      have HR0_54 : Hid (Og 3 tkC 38 w.heap.size w54 V0 []) := by rw [← hw, ← hv]; exact World.ownsRow_lit w53 #[] 0 HB_53.out.size (by simp) (by simp)
      have HK_54 : Hid (Blk w54 P BK 27 ∧ Blk w54 (P + 1) (B3 (.slice none 0 0) (.slice none 0 0) (.slice none 0 0)) 27) := ⟨HK_53.out.1.below b HK_53.out.1.lt, HK_53.out.2.below b HK_53.out.2.lt⟩
      have HB_54 : Hid (Below w.heap.size w w54) := belowCall HB_53.out b HB_53.out.size
      clear b hw hv HK_53 HB_53 HR2_53
      refine ⟨(HS.out _).2 HK_54.out.1, ?_⟩
      refine anyS_two 3 4 (by kernel_rfl) rfl rfl ?_ ?_
      · refine appTs rfl _ _ rfl w.heap.size _ [] rfl HR0_54.out _ ts rfl (HRD.out _ HB_54.out).1 (by have := HN.out; simp; omega) HB_54.out.size ?_
        intro U55 w55 o g p
        have HR0_55 : Hid (Og 3 tkC 38 w.heap.size w55 U55 ts) := (show Og 3 tkC 38 _ _ _ _ from by simpa using o)
        have HR2_55 : Hid (Ow .i64 3 w.heap.size w55 V2 []) := World.ownsRow.kept HR2_54.out g (own_tag HR2_54.out HR0_54.out (by decide))
        have HK_55 : Hid (Blk w55 P BK 27 ∧ Blk w55 (P + 1) (B3 (.slice none 0 0) (.slice none 0 0) (.slice none 0 0)) 27) := ⟨HK_54.out.1.grown g (row_blk HR0_54.out HK_54.out.1 (by decide)), HK_54.out.2.grown g (row_blk HR0_54.out HK_54.out.2 (by decide))⟩
        have HB_55 : Hid (Below w.heap.size w w55) := HB_54.out.trans (grown_below g HB_54.out.size (fun k e => (World.ownsRow.lt HR0_54.out k e).1))
        clear o g p HK_54 HB_54 HR2_54 HR0_54
        go_wp2
        refine ⟨(HS.out _).2 HK_55.out.1, ?_⟩
        refine anyS_one 4 (by kernel_rfl) rfl ?_
        go_wp2
        obtain ⟨w56, hw⟩ : ∃ W, w55.alloc (Obj.cells #[] 3) = W := ⟨_, rfl⟩
        obtain ⟨V1, hv⟩ : ∃ v, Value.slice (some ⟨w55.heap.size, 0, none⟩) 0 0 = v := ⟨_, rfl⟩
        rw [hw, hv]
        have b : Below w55.heap.size w55 w56 := by rw [← hw]; exact (Below.refl _ _).alloc (Nat.le_refl _) _
        have HR2_56 : Hid (Ow .i64 3 w.heap.size w56 V2 []) := HR2_55.out.below b
        have HR0_56 : Hid (Og 3 tkC 38 w.heap.size w56 U55 ts) := HR0_55.out.below b
        have HR1_56 : Hid (Ow .i64 3 w.heap.size w56 V1 []) := by rw [← hw, ← hv]; exact World.ownsRow_lit w55 #[] 0 HB_55.out.size (by simp) (by simp)
        have HA_56 : Hid (Apart V1 V2) := (Apart.at (P := w55.heap.size) (fun k e => (World.ownsRow.lt HR2_55.out k e).2) (fun k e => by rw [← hv] at e; simp [Value.ownBlock] at e; omega) : Apart V2 V1).symm
        have HK_56 : Hid (Blk w56 P BK 27 ∧ Blk w56 (P + 1) (B3 (.slice none 0 0) (.slice none 0 0) (.slice none 0 0)) 27) := ⟨HK_55.out.1.below b HK_55.out.1.lt, HK_55.out.2.below b HK_55.out.2.lt⟩
        have HB_56 : Hid (Below w.heap.size w w56) := belowCall HB_55.out b HB_55.out.size
        clear b hw hv HK_55 HB_55 HR2_55 HR0_55
        refine ⟨(HS.out _).2 HK_56.out.1, ?_⟩
        refine anyS_one 7 (by kernel_rfl) rfl ?_
        refine appIs rfl _ _ rfl w.heap.size _ [] rfl HR1_56.out _ ls rfl (HRD.out _ HB_56.out).2.1 (by have := HN.out; simp; omega) HB_56.out.size ?_
        intro U57 w57 o g p
        have HR1_57 : Hid (Ow .i64 3 w.heap.size w57 U57 ls) := (show Ow .i64 3 _ _ _ _ from by simpa using o)
        have HR2_57 : Hid (Ow .i64 3 w.heap.size w57 V2 []) := World.ownsRow.kept HR2_56.out g HA_56.out.symm.or
        have HR0_57 : Hid (Og 3 tkC 38 w.heap.size w57 U55 ts) := World.ownsRow.kept HR0_56.out g (own_tag HR0_56.out HR1_56.out (by decide))
        have hap : Apart V2 U57 := (fun k e e2 => by
          rcases p with h | h
          · exact HA_56.out.symm k e (h.symm.trans e2)
          · rw [h] at e2; cases e2; have := (World.ownsRow.lt HR2_56.out _ e).2; omega)
        have HA_57 : Hid (Apart U57 V2) := hap.symm
        have HK_57 : Hid (Blk w57 P BK 27 ∧ Blk w57 (P + 1) (B3 (.slice none 0 0) (.slice none 0 0) (.slice none 0 0)) 27) := ⟨HK_56.out.1.grown g (row_blk HR1_56.out HK_56.out.1 (by decide)), HK_56.out.2.grown g (row_blk HR1_56.out HK_56.out.2 (by decide))⟩
        have HB_57 : Hid (Below w.heap.size w w57) := HB_56.out.trans (grown_below g HB_56.out.size (fun k e => (World.ownsRow.lt HR1_56.out k e).1))
        clear o g p HK_56 HB_56 HR2_56 HR0_56 HR1_56 HA_56 hap
        go_wp2
        refine ⟨(HS.out _).2 HK_57.out.1, ?_⟩
        refine anyS_one 11 (by kernel_rfl) rfl ?_
        refine appIs rfl _ _ rfl w.heap.size _ [] rfl HR2_57.out _ cs rfl (HRD.out _ HB_57.out).2.2 (by have := HN.out; simp; omega) HB_57.out.size ?_
        intro U58 w58 o g p
        have HR2_58 : Hid (Ow .i64 3 w.heap.size w58 U58 cs) := (show Ow .i64 3 _ _ _ _ from by simpa using o)
        have HR0_58 : Hid (Og 3 tkC 38 w.heap.size w58 U55 ts) := World.ownsRow.kept HR0_57.out g (own_tag HR0_57.out HR2_57.out (by decide))
        have HR1_58 : Hid (Ow .i64 3 w.heap.size w58 U57 ls) := World.ownsRow.kept HR1_57.out g HA_57.out.or
        have hap : Apart U57 U58 := (fun k e e2 => by
          rcases p with h | h
          · exact HA_57.out k e (h.symm.trans e2)
          · rw [h] at e2; cases e2; have := (World.ownsRow.lt HR1_57.out _ e).2; omega)
        have HA_58 : Hid (Apart U57 U58) := hap
        have HK_58 : Hid (Blk w58 P BK 27 ∧ Blk w58 (P + 1) (B3 (.slice none 0 0) (.slice none 0 0) (.slice none 0 0)) 27) := ⟨HK_57.out.1.grown g (row_blk HR2_57.out HK_57.out.1 (by decide)), HK_57.out.2.grown g (row_blk HR2_57.out HK_57.out.2 (by decide))⟩
        have HB_58 : Hid (Below w.heap.size w w58) := HB_57.out.trans (grown_below g HB_57.out.size (fun k e => (World.ownsRow.lt HR2_57.out k e).1))
        clear o g p HK_57 HB_57 HR2_57 HR0_57 HR1_57 HA_57 hap
        go_wp2
        refine ⟨(HS.out _).2 HK_58.out.1, ?_⟩
        obtain ⟨y0, n0, q0, rfl⟩ : ∃ a L c, U55 = .slice a L c := by obtain ⟨a, c, e⟩ := HR0_58.out.form; exact ⟨a, _, c, e⟩
        obtain ⟨y1, n1, q1, rfl⟩ : ∃ a L c, U57 = .slice a L c := by obtain ⟨a, c, e⟩ := HR1_58.out.form; exact ⟨a, _, c, e⟩
        obtain ⟨y2, n2, q2, rfl⟩ : ∃ a L c, U58 = .slice a L c := by obtain ⟨a, c, e⟩ := HR2_58.out.form; exact ⟨a, _, c, e⟩
        refine anyS_one 12 (by kernel_rfl) rfl ?_
        go_wp2
        refine ⟨(HS.out _).2 HK_58.out.1, anyS_one 13 (by kernel_rfl) rfl ?_⟩
        have z0 := HK_58.out.2.cell 0
        have z1 := HK_58.out.2.cell 1
        have z2 := HK_58.out.2.cell 2
        simp at z0 z1 z2
        have f0 := HK_58.out.2.frozen 0
        have f1 := HK_58.out.2.frozen 1
        have f2 := HK_58.out.2.frozen 2
        have HE := HFIN.out _ _ _ _ _ _ _ _ _ _ HB_58.out HK_58.out.2 HR0_58.out HR1_58.out HR2_58.out HA_58.out
        have HEH : Hid (CbR ts ls cs w (.returned (.agg (B3 (.slice y0 n0 q0) (.slice y1 n1 q1) (.slice y2 n2 q2)))) (((w58.setCell ⟨P + 1, 0, none⟩ (.slice y0 n0 q0)).setCell ⟨P + 1, 1, none⟩ (.slice y1 n1 q1)).setCell ⟨P + 1, 2, none⟩ (.slice y2 n2 q2))) := HE
        have hbp := ((HK_58.out.1.other ⟨P + 1, 0, none⟩ (.slice y0 n0 q0) (by dsimp only; omega)).other ⟨P + 1, 1, none⟩ (.slice y1 n1 q1) (by dsimp only; omega)).other ⟨P + 1, 2, none⟩ (.slice y2 n2 q2) (by dsimp only; omega)
        have HBP : Hid (S (((w58.setCell ⟨P + 1, 0, none⟩ (.slice y0 n0 q0)).setCell ⟨P + 1, 1, none⟩ (.slice y1 n1 q1)).setCell ⟨P + 1, 2, none⟩ (.slice y2 n2 q2))) := (HS.out _).2 hbp
        have hbf : Blk (((w58.setCell ⟨P + 1, 0, none⟩ (.slice y0 n0 q0)).setCell ⟨P + 1, 1, none⟩ (.slice y1 n1 q1)).setCell ⟨P + 1, 2, none⟩ (.slice y2 n2 q2)) (P + 1) (B3 (.slice y0 n0 q0) (.slice y1 n1 q1) (.slice y2 n2 q2)) 27 := by
          have := ((HK_58.out.2.set 0 (.slice y0 n0 q0)).set 1 (.slice y1 n1 q1)).set 2 (.slice y2 n2 q2)
          simpa using this
        have HBF : Hid (Blk (((w58.setCell ⟨P + 1, 0, none⟩ (.slice y0 n0 q0)).setCell ⟨P + 1, 1, none⟩ (.slice y1 n1 q1)).setCell ⟨P + 1, 2, none⟩ (.slice y2 n2 q2)) (P + 1) (B3 (.slice y0 n0 q0) (.slice y1 n1 q1) (.slice y2 n2 q2)) 27) := hbf
        clear HE hbp hbf HK_58 HB_58 HR0_58 HR1_58 HR2_58 HA_58
        go_wp2
        refine ⟨HBP.out, anyS_end (by kernel_rfl) ?_⟩
        go_wp2
        exact bodyPost_ret (v := .agg (B3 (.slice y0 n0 q0) (.slice y1 n1 q1) (.slice y2 n2 q2))) (results_cell_row rfl _ _ _ 27 _ (0, 0) _ rfl HBF.out Tryd.underlying27 rfl sizeBk) rfl HEH.out
      · go_wp2
        obtain ⟨w59, hw⟩ : ∃ W, w54.alloc (Obj.cells #[] 3) = W := ⟨_, rfl⟩
        obtain ⟨V1, hv⟩ : ∃ v, Value.slice (some ⟨w54.heap.size, 0, none⟩) 0 0 = v := ⟨_, rfl⟩
        rw [hw, hv]
        have b : Below w54.heap.size w54 w59 := by rw [← hw]; exact (Below.refl _ _).alloc (Nat.le_refl _) _
        have HR2_59 : Hid (Ow .i64 3 w.heap.size w59 V2 []) := HR2_54.out.below b
        have HR0_59 : Hid (Og 3 tkC 38 w.heap.size w59 V0 []) := HR0_54.out.below b
        have HR1_59 : Hid (Ow .i64 3 w.heap.size w59 V1 []) := by rw [← hw, ← hv]; exact World.ownsRow_lit w54 #[] 0 HB_54.out.size (by simp) (by simp)
        have HA_59 : Hid (Apart V1 V2) := (Apart.at (P := w54.heap.size) (fun k e => (World.ownsRow.lt HR2_54.out k e).2) (fun k e => by rw [← hv] at e; simp [Value.ownBlock] at e; omega) : Apart V2 V1).symm
        have HK_59 : Hid (Blk w59 P BK 27 ∧ Blk w59 (P + 1) (B3 (.slice none 0 0) (.slice none 0 0) (.slice none 0 0)) 27) := ⟨HK_54.out.1.below b HK_54.out.1.lt, HK_54.out.2.below b HK_54.out.2.lt⟩
        have HB_59 : Hid (Below w.heap.size w w59) := belowCall HB_54.out b HB_54.out.size
        clear b hw hv HK_54 HB_54 HR2_54 HR0_54
        refine ⟨(HS.out _).2 HK_59.out.1, ?_⟩
        refine anyS_one 3 (by kernel_rfl) rfl ?_
        refine appTs rfl _ _ rfl w.heap.size _ [] rfl HR0_59.out _ ts rfl (HRD.out _ HB_59.out).1 (by have := HN.out; simp; omega) HB_59.out.size ?_
        intro U60 w60 o g p
        have HR0_60 : Hid (Og 3 tkC 38 w.heap.size w60 U60 ts) := (show Og 3 tkC 38 _ _ _ _ from by simpa using o)
        have HR2_60 : Hid (Ow .i64 3 w.heap.size w60 V2 []) := World.ownsRow.kept HR2_59.out g (own_tag HR2_59.out HR0_59.out (by decide))
        have HR1_60 : Hid (Ow .i64 3 w.heap.size w60 V1 []) := World.ownsRow.kept HR1_59.out g (own_tag HR1_59.out HR0_59.out (by decide))
        have HA_60 : Hid (Apart V1 V2) := HA_59.out
        have HK_60 : Hid (Blk w60 P BK 27 ∧ Blk w60 (P + 1) (B3 (.slice none 0 0) (.slice none 0 0) (.slice none 0 0)) 27) := ⟨HK_59.out.1.grown g (row_blk HR0_59.out HK_59.out.1 (by decide)), HK_59.out.2.grown g (row_blk HR0_59.out HK_59.out.2 (by decide))⟩
        have HB_60 : Hid (Below w.heap.size w w60) := HB_59.out.trans (grown_below g HB_59.out.size (fun k e => (World.ownsRow.lt HR0_59.out k e).1))
        clear o g p HK_59 HB_59 HR2_59 HR0_59 HR1_59 HA_59
        go_wp2
        refine ⟨(HS.out _).2 HK_60.out.1, ?_⟩
        refine anyS_one 7 (by kernel_rfl) rfl ?_
        refine appIs rfl _ _ rfl w.heap.size _ [] rfl HR1_60.out _ ls rfl (HRD.out _ HB_60.out).2.1 (by have := HN.out; simp; omega) HB_60.out.size ?_
        intro U61 w61 o g p
        have HR1_61 : Hid (Ow .i64 3 w.heap.size w61 U61 ls) := (show Ow .i64 3 _ _ _ _ from by simpa using o)
        have HR2_61 : Hid (Ow .i64 3 w.heap.size w61 V2 []) := World.ownsRow.kept HR2_60.out g HA_60.out.symm.or
        have HR0_61 : Hid (Og 3 tkC 38 w.heap.size w61 U60 ts) := World.ownsRow.kept HR0_60.out g (own_tag HR0_60.out HR1_60.out (by decide))
        have hap : Apart V2 U61 := (fun k e e2 => by
          rcases p with h | h
          · exact HA_60.out.symm k e (h.symm.trans e2)
          · rw [h] at e2; cases e2; have := (World.ownsRow.lt HR2_60.out _ e).2; omega)
        have HA_61 : Hid (Apart U61 V2) := hap.symm
        have HK_61 : Hid (Blk w61 P BK 27 ∧ Blk w61 (P + 1) (B3 (.slice none 0 0) (.slice none 0 0) (.slice none 0 0)) 27) := ⟨HK_60.out.1.grown g (row_blk HR1_60.out HK_60.out.1 (by decide)), HK_60.out.2.grown g (row_blk HR1_60.out HK_60.out.2 (by decide))⟩
        have HB_61 : Hid (Below w.heap.size w w61) := HB_60.out.trans (grown_below g HB_60.out.size (fun k e => (World.ownsRow.lt HR1_60.out k e).1))
        clear o g p HK_60 HB_60 HR2_60 HR0_60 HR1_60 HA_60 hap
        go_wp2
        refine ⟨(HS.out _).2 HK_61.out.1, ?_⟩
        refine anyS_one 11 (by kernel_rfl) rfl ?_
        refine appIs rfl _ _ rfl w.heap.size _ [] rfl HR2_61.out _ cs rfl (HRD.out _ HB_61.out).2.2 (by have := HN.out; simp; omega) HB_61.out.size ?_
        intro U62 w62 o g p
        have HR2_62 : Hid (Ow .i64 3 w.heap.size w62 U62 cs) := (show Ow .i64 3 _ _ _ _ from by simpa using o)
        have HR0_62 : Hid (Og 3 tkC 38 w.heap.size w62 U60 ts) := World.ownsRow.kept HR0_61.out g (own_tag HR0_61.out HR2_61.out (by decide))
        have HR1_62 : Hid (Ow .i64 3 w.heap.size w62 U61 ls) := World.ownsRow.kept HR1_61.out g HA_61.out.or
        have hap : Apart U61 U62 := (fun k e e2 => by
          rcases p with h | h
          · exact HA_61.out k e (h.symm.trans e2)
          · rw [h] at e2; cases e2; have := (World.ownsRow.lt HR1_61.out _ e).2; omega)
        have HA_62 : Hid (Apart U61 U62) := hap
        have HK_62 : Hid (Blk w62 P BK 27 ∧ Blk w62 (P + 1) (B3 (.slice none 0 0) (.slice none 0 0) (.slice none 0 0)) 27) := ⟨HK_61.out.1.grown g (row_blk HR2_61.out HK_61.out.1 (by decide)), HK_61.out.2.grown g (row_blk HR2_61.out HK_61.out.2 (by decide))⟩
        have HB_62 : Hid (Below w.heap.size w w62) := HB_61.out.trans (grown_below g HB_61.out.size (fun k e => (World.ownsRow.lt HR2_61.out k e).1))
        clear o g p HK_61 HB_61 HR2_61 HR0_61 HR1_61 HA_61 hap
        go_wp2
        refine ⟨(HS.out _).2 HK_62.out.1, ?_⟩
        obtain ⟨y0, n0, q0, rfl⟩ : ∃ a L c, U60 = .slice a L c := by obtain ⟨a, c, e⟩ := HR0_62.out.form; exact ⟨a, _, c, e⟩
        obtain ⟨y1, n1, q1, rfl⟩ : ∃ a L c, U61 = .slice a L c := by obtain ⟨a, c, e⟩ := HR1_62.out.form; exact ⟨a, _, c, e⟩
        obtain ⟨y2, n2, q2, rfl⟩ : ∃ a L c, U62 = .slice a L c := by obtain ⟨a, c, e⟩ := HR2_62.out.form; exact ⟨a, _, c, e⟩
        refine anyS_one 12 (by kernel_rfl) rfl ?_
        go_wp2
        refine ⟨(HS.out _).2 HK_62.out.1, anyS_one 13 (by kernel_rfl) rfl ?_⟩
        have z0 := HK_62.out.2.cell 0
        have z1 := HK_62.out.2.cell 1
        have z2 := HK_62.out.2.cell 2
        simp at z0 z1 z2
        have f0 := HK_62.out.2.frozen 0
        have f1 := HK_62.out.2.frozen 1
        have f2 := HK_62.out.2.frozen 2
        have HE := HFIN.out _ _ _ _ _ _ _ _ _ _ HB_62.out HK_62.out.2 HR0_62.out HR1_62.out HR2_62.out HA_62.out
        have HEH : Hid (CbR ts ls cs w (.returned (.agg (B3 (.slice y0 n0 q0) (.slice y1 n1 q1) (.slice y2 n2 q2)))) (((w62.setCell ⟨P + 1, 0, none⟩ (.slice y0 n0 q0)).setCell ⟨P + 1, 1, none⟩ (.slice y1 n1 q1)).setCell ⟨P + 1, 2, none⟩ (.slice y2 n2 q2))) := HE
        have hbp := ((HK_62.out.1.other ⟨P + 1, 0, none⟩ (.slice y0 n0 q0) (by dsimp only; omega)).other ⟨P + 1, 1, none⟩ (.slice y1 n1 q1) (by dsimp only; omega)).other ⟨P + 1, 2, none⟩ (.slice y2 n2 q2) (by dsimp only; omega)
        have HBP : Hid (S (((w62.setCell ⟨P + 1, 0, none⟩ (.slice y0 n0 q0)).setCell ⟨P + 1, 1, none⟩ (.slice y1 n1 q1)).setCell ⟨P + 1, 2, none⟩ (.slice y2 n2 q2))) := (HS.out _).2 hbp
        have hbf : Blk (((w62.setCell ⟨P + 1, 0, none⟩ (.slice y0 n0 q0)).setCell ⟨P + 1, 1, none⟩ (.slice y1 n1 q1)).setCell ⟨P + 1, 2, none⟩ (.slice y2 n2 q2)) (P + 1) (B3 (.slice y0 n0 q0) (.slice y1 n1 q1) (.slice y2 n2 q2)) 27 := by
          have := ((HK_62.out.2.set 0 (.slice y0 n0 q0)).set 1 (.slice y1 n1 q1)).set 2 (.slice y2 n2 q2)
          simpa using this
        have HBF : Hid (Blk (((w62.setCell ⟨P + 1, 0, none⟩ (.slice y0 n0 q0)).setCell ⟨P + 1, 1, none⟩ (.slice y1 n1 q1)).setCell ⟨P + 1, 2, none⟩ (.slice y2 n2 q2)) (P + 1) (B3 (.slice y0 n0 q0) (.slice y1 n1 q1) (.slice y2 n2 q2)) 27) := hbf
        clear HE hbp hbf HK_62 HB_62 HR0_62 HR1_62 HR2_62 HA_62
        go_wp2
        refine ⟨HBP.out, anyS_end (by kernel_rfl) ?_⟩
        go_wp2
        exact bodyPost_ret (v := .agg (B3 (.slice y0 n0 q0) (.slice y1 n1 q1) (.slice y2 n2 q2))) (results_cell_row rfl _ _ _ 27 _ (0, 0) _ rfl HBF.out Tryd.underlying27 rfl sizeBk) rfl HEH.out
    · go_wp2
      obtain ⟨w63, hw⟩ : ∃ W, w53.alloc (Obj.cells #[] 3) = W := ⟨_, rfl⟩
      obtain ⟨V1, hv⟩ : ∃ v, Value.slice (some ⟨w53.heap.size, 0, none⟩) 0 0 = v := ⟨_, rfl⟩
      rw [hw, hv]
      have b : Below w53.heap.size w53 w63 := by rw [← hw]; exact (Below.refl _ _).alloc (Nat.le_refl _) _
      have HR2_63 : Hid (Ow .i64 3 w.heap.size w63 V2 []) := HR2_53.out.below b
      have HR1_63 : Hid (Ow .i64 3 w.heap.size w63 V1 []) := by rw [← hw, ← hv]; exact World.ownsRow_lit w53 #[] 0 HB_53.out.size (by simp) (by simp)
      have HA_63 : Hid (Apart V1 V2) := (Apart.at (P := w53.heap.size) (fun k e => (World.ownsRow.lt HR2_53.out k e).2) (fun k e => by rw [← hv] at e; simp [Value.ownBlock] at e; omega) : Apart V2 V1).symm
      have HK_63 : Hid (Blk w63 P BK 27 ∧ Blk w63 (P + 1) (B3 (.slice none 0 0) (.slice none 0 0) (.slice none 0 0)) 27) := ⟨HK_53.out.1.below b HK_53.out.1.lt, HK_53.out.2.below b HK_53.out.2.lt⟩
      have HB_63 : Hid (Below w.heap.size w w63) := belowCall HB_53.out b HB_53.out.size
      clear b hw hv HK_53 HB_53 HR2_53
      refine ⟨(HS.out _).2 HK_63.out.1, ?_⟩
      refine anyS_one 0 (by kernel_rfl) rfl ?_
      go_wp2
      obtain ⟨w64, hw⟩ : ∃ W, w63.alloc (Obj.cells #[] 38) = W := ⟨_, rfl⟩
      obtain ⟨V0, hv⟩ : ∃ v, Value.slice (some ⟨w63.heap.size, 0, none⟩) 0 0 = v := ⟨_, rfl⟩
      rw [hw, hv]
      have b : Below w63.heap.size w63 w64 := by rw [← hw]; exact (Below.refl _ _).alloc (Nat.le_refl _) _
      have HR2_64 : Hid (Ow .i64 3 w.heap.size w64 V2 []) := HR2_63.out.below b
      have HR1_64 : Hid (Ow .i64 3 w.heap.size w64 V1 []) := HR1_63.out.below b
      have HR0_64 : Hid (Og 3 tkC 38 w.heap.size w64 V0 []) := by rw [← hw, ← hv]; exact World.ownsRow_lit w63 #[] 0 HB_63.out.size (by simp) (by simp)
      have HA_64 : Hid (Apart V1 V2) := HA_63.out
      have HK_64 : Hid (Blk w64 P BK 27 ∧ Blk w64 (P + 1) (B3 (.slice none 0 0) (.slice none 0 0) (.slice none 0 0)) 27) := ⟨HK_63.out.1.below b HK_63.out.1.lt, HK_63.out.2.below b HK_63.out.2.lt⟩
      have HB_64 : Hid (Below w.heap.size w w64) := belowCall HB_63.out b HB_63.out.size
      clear b hw hv HK_63 HB_63 HR2_63 HR1_63 HA_63
      refine ⟨(HS.out _).2 HK_64.out.1, ?_⟩
      refine anyS_one 3 (by kernel_rfl) rfl ?_
      refine appTs rfl _ _ rfl w.heap.size _ [] rfl HR0_64.out _ ts rfl (HRD.out _ HB_64.out).1 (by have := HN.out; simp; omega) HB_64.out.size ?_
      intro U65 w65 o g p
      have HR0_65 : Hid (Og 3 tkC 38 w.heap.size w65 U65 ts) := (show Og 3 tkC 38 _ _ _ _ from by simpa using o)
      have HR2_65 : Hid (Ow .i64 3 w.heap.size w65 V2 []) := World.ownsRow.kept HR2_64.out g (own_tag HR2_64.out HR0_64.out (by decide))
      have HR1_65 : Hid (Ow .i64 3 w.heap.size w65 V1 []) := World.ownsRow.kept HR1_64.out g (own_tag HR1_64.out HR0_64.out (by decide))
      have HA_65 : Hid (Apart V1 V2) := HA_64.out
      have HK_65 : Hid (Blk w65 P BK 27 ∧ Blk w65 (P + 1) (B3 (.slice none 0 0) (.slice none 0 0) (.slice none 0 0)) 27) := ⟨HK_64.out.1.grown g (row_blk HR0_64.out HK_64.out.1 (by decide)), HK_64.out.2.grown g (row_blk HR0_64.out HK_64.out.2 (by decide))⟩
      have HB_65 : Hid (Below w.heap.size w w65) := HB_64.out.trans (grown_below g HB_64.out.size (fun k e => (World.ownsRow.lt HR0_64.out k e).1))
      clear o g p HK_64 HB_64 HR2_64 HR1_64 HR0_64 HA_64
      go_wp2
      refine ⟨(HS.out _).2 HK_65.out.1, ?_⟩
      refine anyS_one 7 (by kernel_rfl) rfl ?_
      refine appIs rfl _ _ rfl w.heap.size _ [] rfl HR1_65.out _ ls rfl (HRD.out _ HB_65.out).2.1 (by have := HN.out; simp; omega) HB_65.out.size ?_
      intro U66 w66 o g p
      have HR1_66 : Hid (Ow .i64 3 w.heap.size w66 U66 ls) := (show Ow .i64 3 _ _ _ _ from by simpa using o)
      have HR2_66 : Hid (Ow .i64 3 w.heap.size w66 V2 []) := World.ownsRow.kept HR2_65.out g HA_65.out.symm.or
      have HR0_66 : Hid (Og 3 tkC 38 w.heap.size w66 U65 ts) := World.ownsRow.kept HR0_65.out g (own_tag HR0_65.out HR1_65.out (by decide))
      have hap : Apart V2 U66 := (fun k e e2 => by
        rcases p with h | h
        · exact HA_65.out.symm k e (h.symm.trans e2)
        · rw [h] at e2; cases e2; have := (World.ownsRow.lt HR2_65.out _ e).2; omega)
      have HA_66 : Hid (Apart U66 V2) := hap.symm
      have HK_66 : Hid (Blk w66 P BK 27 ∧ Blk w66 (P + 1) (B3 (.slice none 0 0) (.slice none 0 0) (.slice none 0 0)) 27) := ⟨HK_65.out.1.grown g (row_blk HR1_65.out HK_65.out.1 (by decide)), HK_65.out.2.grown g (row_blk HR1_65.out HK_65.out.2 (by decide))⟩
      have HB_66 : Hid (Below w.heap.size w w66) := HB_65.out.trans (grown_below g HB_65.out.size (fun k e => (World.ownsRow.lt HR1_65.out k e).1))
      clear o g p HK_65 HB_65 HR2_65 HR1_65 HR0_65 HA_65 hap
      go_wp2
      refine ⟨(HS.out _).2 HK_66.out.1, ?_⟩
      refine anyS_one 11 (by kernel_rfl) rfl ?_
      refine appIs rfl _ _ rfl w.heap.size _ [] rfl HR2_66.out _ cs rfl (HRD.out _ HB_66.out).2.2 (by have := HN.out; simp; omega) HB_66.out.size ?_
      intro U67 w67 o g p
      have HR2_67 : Hid (Ow .i64 3 w.heap.size w67 U67 cs) := (show Ow .i64 3 _ _ _ _ from by simpa using o)
      have HR1_67 : Hid (Ow .i64 3 w.heap.size w67 U66 ls) := World.ownsRow.kept HR1_66.out g HA_66.out.or
      have HR0_67 : Hid (Og 3 tkC 38 w.heap.size w67 U65 ts) := World.ownsRow.kept HR0_66.out g (own_tag HR0_66.out HR2_66.out (by decide))
      have hap : Apart U66 U67 := (fun k e e2 => by
        rcases p with h | h
        · exact HA_66.out k e (h.symm.trans e2)
        · rw [h] at e2; cases e2; have := (World.ownsRow.lt HR1_66.out _ e).2; omega)
      have HA_67 : Hid (Apart U66 U67) := hap
      have HK_67 : Hid (Blk w67 P BK 27 ∧ Blk w67 (P + 1) (B3 (.slice none 0 0) (.slice none 0 0) (.slice none 0 0)) 27) := ⟨HK_66.out.1.grown g (row_blk HR2_66.out HK_66.out.1 (by decide)), HK_66.out.2.grown g (row_blk HR2_66.out HK_66.out.2 (by decide))⟩
      have HB_67 : Hid (Below w.heap.size w w67) := HB_66.out.trans (grown_below g HB_66.out.size (fun k e => (World.ownsRow.lt HR2_66.out k e).1))
      clear o g p HK_66 HB_66 HR2_66 HR1_66 HR0_66 HA_66 hap
      go_wp2
      refine ⟨(HS.out _).2 HK_67.out.1, ?_⟩
      obtain ⟨y0, n0, q0, rfl⟩ : ∃ a L c, U65 = .slice a L c := by obtain ⟨a, c, e⟩ := HR0_67.out.form; exact ⟨a, _, c, e⟩
      obtain ⟨y1, n1, q1, rfl⟩ : ∃ a L c, U66 = .slice a L c := by obtain ⟨a, c, e⟩ := HR1_67.out.form; exact ⟨a, _, c, e⟩
      obtain ⟨y2, n2, q2, rfl⟩ : ∃ a L c, U67 = .slice a L c := by obtain ⟨a, c, e⟩ := HR2_67.out.form; exact ⟨a, _, c, e⟩
      refine anyS_one 12 (by kernel_rfl) rfl ?_
      go_wp2
      refine ⟨(HS.out _).2 HK_67.out.1, anyS_one 13 (by kernel_rfl) rfl ?_⟩
      have z0 := HK_67.out.2.cell 0
      have z1 := HK_67.out.2.cell 1
      have z2 := HK_67.out.2.cell 2
      simp at z0 z1 z2
      have f0 := HK_67.out.2.frozen 0
      have f1 := HK_67.out.2.frozen 1
      have f2 := HK_67.out.2.frozen 2
      have HE := HFIN.out _ _ _ _ _ _ _ _ _ _ HB_67.out HK_67.out.2 HR0_67.out HR1_67.out HR2_67.out HA_67.out
      have HEH : Hid (CbR ts ls cs w (.returned (.agg (B3 (.slice y0 n0 q0) (.slice y1 n1 q1) (.slice y2 n2 q2)))) (((w67.setCell ⟨P + 1, 0, none⟩ (.slice y0 n0 q0)).setCell ⟨P + 1, 1, none⟩ (.slice y1 n1 q1)).setCell ⟨P + 1, 2, none⟩ (.slice y2 n2 q2))) := HE
      have hbp := ((HK_67.out.1.other ⟨P + 1, 0, none⟩ (.slice y0 n0 q0) (by dsimp only; omega)).other ⟨P + 1, 1, none⟩ (.slice y1 n1 q1) (by dsimp only; omega)).other ⟨P + 1, 2, none⟩ (.slice y2 n2 q2) (by dsimp only; omega)
      have HBP : Hid (S (((w67.setCell ⟨P + 1, 0, none⟩ (.slice y0 n0 q0)).setCell ⟨P + 1, 1, none⟩ (.slice y1 n1 q1)).setCell ⟨P + 1, 2, none⟩ (.slice y2 n2 q2))) := (HS.out _).2 hbp
      have hbf : Blk (((w67.setCell ⟨P + 1, 0, none⟩ (.slice y0 n0 q0)).setCell ⟨P + 1, 1, none⟩ (.slice y1 n1 q1)).setCell ⟨P + 1, 2, none⟩ (.slice y2 n2 q2)) (P + 1) (B3 (.slice y0 n0 q0) (.slice y1 n1 q1) (.slice y2 n2 q2)) 27 := by
        have := ((HK_67.out.2.set 0 (.slice y0 n0 q0)).set 1 (.slice y1 n1 q1)).set 2 (.slice y2 n2 q2)
        simpa using this
      have HBF : Hid (Blk (((w67.setCell ⟨P + 1, 0, none⟩ (.slice y0 n0 q0)).setCell ⟨P + 1, 1, none⟩ (.slice y1 n1 q1)).setCell ⟨P + 1, 2, none⟩ (.slice y2 n2 q2)) (P + 1) (B3 (.slice y0 n0 q0) (.slice y1 n1 q1) (.slice y2 n2 q2)) 27) := hbf
      clear HE hbp hbf HK_67 HB_67 HR0_67 HR1_67 HR2_67 HA_67
      go_wp2
      refine ⟨HBP.out, anyS_end (by kernel_rfl) ?_⟩
      go_wp2
      exact bodyPost_ret (v := .agg (B3 (.slice y0 n0 q0) (.slice y1 n1 q1) (.slice y2 n2 q2))) (results_cell_row rfl _ _ _ 27 _ (0, 0) _ rfl HBF.out Tryd.underlying27 rfl sizeBk) rfl HEH.out

end Go.Proofs.YtmfmlbiplagmiaaDoor

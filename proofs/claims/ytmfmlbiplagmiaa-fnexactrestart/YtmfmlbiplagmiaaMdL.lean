/- FnExactMendBook at all books; no condition. -/
import Derived.Test.YtmfmlbiplagmiaaMbi
import Derived.Test.YtmfmlbiplagmiaaBoi
import Derived.Test.YtmfmlbiplagmiaaOver
import Derived.Test.YtmfmlbiplagmiaaMixT
import Derived.Test.YtmfmlbiplagmiaaIvm
namespace Go.Proofs.Ytmfmlbiplagmiaa
open Go.RowKit Go.ChangeShapes Go.WideShapes Go.ChangeAt
set_option linter.unusedVariables false
set_option linter.unusedSimpArgs false
set_option maxRecDepth 8000

/-- what MendBook answers, its parts named -/
def MbQ (T : List Tk) (L C G : List Int) (w : World) (e : Ending) (w' : World) : Prop := ∃ va vl vc vg, e = .returned (.tuple #[.agg (B3 va vl vc), vg]) ∧ Obk w.heap.size w' va vl vc T L C ∧ Ow .i64 3 w.heap.size w' vg G ∧ Apart va vg ∧ Apart vl vg ∧ Apart vc vg ∧ Below w.heap.size w w'
theorem mb_len (ts : List Tk) (ls cs : List Int) : (mbT ts ls cs).length ≤ 30 ∧ (mbL ts ls cs).length ≤ 30 ∧ (mbC ts ls cs).length ≤ 30 ∧ (mbG ts ls cs).length ≤ 30 := by
  unfold mbT mbL mbC mbG
  cases h : bkB ts ls cs with
  | false => simp
  | true =>
    have h1 := bkB_len h
    have h2 := mdS_len ts ts.length
    simp only [if_true, wr18_len]
    omega
set_option maxHeartbeats 12800000 in
theorem mendLaw (va vl vc : Value) (ts : List Tk) (ls cs : List Int) (w : World) (h : Rbk w va vl vc ts ls cs) :
    Calls Try.prog 4 #[.agg (B3 va vl vc)] w fun e w' => e = .returned (.bool true) ∧ Below w.heap.size w w' := by
  have hlen : (mbT ts ls cs).length ≤ 30 ∧ (mbL ts ls cs).length ≤ 30 ∧ (mbC ts ls cs).length ≤ 30 ∧ (mbG ts ls cs).length ≤ 30 := mb_len ts ls cs
  have hci : ∀ W va vl vc, Rbk W va vl vc ts ls cs → Calls Try.prog 12 #[.agg (B3 va vl vc)] W (MbQ (mbT ts ls cs) (mbL ts ls cs) (mbC ts ls cs) (mbG ts ls cs) W) := fun W va vl vc h => mendI_c va vl vc ts ls cs W h
  have hcm : ∀ W va vl vc, Rbk W va vl vc ts ls cs → Calls Try.prog 11 #[.agg (B3 va vl vc)] W (MbQ (mbT ts ls cs) (mbL ts ls cs) (mbC ts ls cs) (mbG ts ls cs) W) := fun W va vl vc h => mendM_c va vl vc ts ls cs W h
  obtain ⟨T, hT⟩ : ∃ T, mbT ts ls cs = T := ⟨_, rfl⟩
  obtain ⟨L, hL⟩ : ∃ T, mbL ts ls cs = T := ⟨_, rfl⟩
  obtain ⟨C, hC⟩ : ∃ T, mbC ts ls cs = T := ⟨_, rfl⟩
  obtain ⟨G, hG⟩ : ∃ T, mbG ts ls cs = T := ⟨_, rfl⟩
  rw [hT, hL, hC, hG] at hlen hci hcm
  have HLG : Hid (T.length ≤ 30 ∧ L.length ≤ 30 ∧ C.length ≤ 30 ∧ G.length ≤ 30) := hlen
  have HCI : Hid (∀ W va vl vc, Rbk W va vl vc ts ls cs → Calls Try.prog 12 #[.agg (B3 va vl vc)] W (MbQ T L C G W)) := hci
  have HCM : Hid (∀ W va vl vc, Rbk W va vl vc ts ls cs → Calls Try.prog 11 #[.agg (B3 va vl vc)] W (MbQ T L C G W)) := hcm
  clear hlen hci hcm hT hL hC hG
  obtain ⟨W0, hW0⟩ : ∃ W0, w.alloc (Obj.cells (B3 va vl vc) 25) = W0 := ⟨_, rfl⟩
  have hb0 : Below w.heap.size w W0 := by rw [← hW0]; exact (Below.refl _ _).alloc (Nat.le_refl _) _
  have HB0 : Hid (Below w.heap.size w W0) := hb0
  have HK0 : Hid (Blk W0 w.heap.size (B3 va vl vc) 25) := by show Blk _ _ _ _; rw [← hW0]; exact Blk.new _ _ _
  have HH0 : Hid (Rbk W0 va vl vc ts ls cs) := h.below hb0
  obtain ⟨⟨a, cap, rfl, -⟩, ⟨a', cap', rfl, -⟩, ⟨a'', cap'', rfl, -⟩⟩ := h
  have x0 := HK0.out.cell 0
  have x1 := HK0.out.cell 1
  have x2 := HK0.out.cell 2
  simp at x0 x1 x2
  have HW0 : Hid (_ = W0) := hW0
  clear hb0 hW0
  go_enter Try.func4, Try.ntmps4
  go_wp2_with (fail)
  rw [HW0.out]
  refine (szBook_c _ _ _ ts ls cs W0 HH0.out).mono ?_
  rintro e w1 ⟨z, rfl, hz, b1⟩
  have HB1 : Hid (Below W0.heap.size W0 w1) := b1
  have HZ : Hid (¬ z < 0 → ts.length ≤ 1048576 ∧ ls.length ≤ 1048576 ∧ cs.length ≤ 1048576) := fun h => by omega
  clear b1 hz x0 x1 x2 HW0
  by_cases hneg : z < 0
  · go_wp2
    go_ret
    exact ⟨rfl, belowCall HB0.out HB1.out HB0.out.size⟩
  have HL : Hid (ts.length ≤ 1048576 ∧ ls.length ≤ 1048576 ∧ cs.length ≤ 1048576) := HZ.out hneg
  clear HZ
  have B_w1 : Hid (Below W0.heap.size W0 w1) := HB1.out
  have KA := HK0.out.below B_w1.out HK0.out.lt
  have x0 := KA.cell 0
  have x1 := KA.cell 1
  have x2 := KA.cell 2
  simp at x0 x1 x2
  go_wp2_with (fail)
  refine (toBook_c _ _ _ ts ls cs w1 (HH0.out.below B_w1.out) HL.out.1 HL.out.2.1 HL.out.2.2).mono ?_
  rintro e w2 ⟨m0, m1, m2, rfl, o, b⟩
  have B_w2 : Hid (Below W0.heap.size W0 w2) := belowCall B_w1.out b B_w1.out.size
  clear b B_w1 x0 x1 x2 KA
  have M_w2 : Hid (Obk w1.heap.size w2 m0 m1 m2 ts ls cs) := o
  clear o
  go_wp2_with (fail)
  refine (HCM.out w2 _ _ _ M_w2.out.rd).mono ?_
  rintro e w3 ⟨qa, ql, qc, qg, rfl, o, og, p1, p2, p3, b⟩
  have B_w3 : Hid (Below W0.heap.size W0 w3) := belowCall B_w2.out b B_w2.out.size
  have M_w3 : Hid (Obk w1.heap.size w3 m0 m1 m2 ts ls cs) := M_w2.out.below b
  clear b B_w2 M_w2
  obtain ⟨qa0, qan, qaq, rfl⟩ : ∃ a L c, qa = .slice a L c := by obtain ⟨a, c, e⟩ := o.1.form; exact ⟨a, _, c, e⟩
  obtain ⟨ql0, qln, qlq, rfl⟩ : ∃ a L c, ql = .slice a L c := by obtain ⟨a, c, e⟩ := o.2.1.form; exact ⟨a, _, c, e⟩
  obtain ⟨qc0, qcn, qcq, rfl⟩ : ∃ a L c, qc = .slice a L c := by obtain ⟨a, c, e⟩ := o.2.2.1.form; exact ⟨a, _, c, e⟩
  obtain ⟨qg0, qgn, qgq, rfl⟩ : ∃ a L c, qg = .slice a L c := by obtain ⟨a, c, e⟩ := og.form; exact ⟨a, _, c, e⟩
  have q_w3 : Hid (Obk w2.heap.size w3 (.slice qa0 qan qaq) (.slice ql0 qln qlq) (.slice qc0 qcn qcq) T L C) := o
  have qg_w3 : Hid (Ow .i64 3 w2.heap.size w3 (.slice qg0 qgn qgq) G) := og
  have Pq : Hid (Apart (.slice qa0 qan qaq) (.slice qg0 qgn qgq) ∧ Apart (.slice ql0 qln qlq) (.slice qg0 qgn qgq) ∧ Apart (.slice qc0 qcn qcq) (.slice qg0 qgn qgq)) := ⟨p1, p2, p3⟩
  clear o og p1 p2 p3
  have ba : Below w3.heap.size w3 (w3.alloc (Obj.cells (B3 (.slice qa0 qan qaq) (.slice ql0 qln qlq) (.slice qc0 qcn qcq)) 30)) := (Below.refl _ _).alloc (Nat.le_refl _) _
  have kb : Blk (w3.alloc (Obj.cells (B3 (.slice qa0 qan qaq) (.slice ql0 qln qlq) (.slice qc0 qcn qcq)) 30)) w3.heap.size (B3 (.slice qa0 qan qaq) (.slice ql0 qln qlq) (.slice qc0 qcn qcq)) 30 := Blk.new _ _ _
  obtain ⟨X4, hX4⟩ : ∃ X, w3.heap.size = X := ⟨_, rfl⟩
  obtain ⟨W4, hW4⟩ : ∃ W, w3.alloc (Obj.cells (B3 (.slice qa0 qan qaq) (.slice ql0 qln qlq) (.slice qc0 qcn qcq)) 30) = W := ⟨_, rfl⟩
  rw [hW4] at ba kb
  rw [hX4] at kb
  have B_W4 : Hid (Below W0.heap.size W0 W4) := belowCall B_w3.out ba B_w3.out.size
  have q_W4 : Hid (Obk w2.heap.size W4 (.slice qa0 qan qaq) (.slice ql0 qln qlq) (.slice qc0 qcn qcq) T L C) := q_w3.out.below ba
  have qg_W4 : Hid (Ow .i64 3 w2.heap.size W4 (.slice qg0 qgn qgq) G) := qg_w3.out.below ba
  have QB_W4 : Hid (Blk W4 X4 (B3 (.slice qa0 qan qaq) (.slice ql0 qln qlq) (.slice qc0 qcn qcq)) 30) := kb
  clear ba kb B_w3 q_w3 qg_w3
  have HM : Hid (Rbk W4 (.slice qa0 qan qaq) (.slice ql0 qln qlq) (.slice qc0 qcn qcq) T L C ∧ Rd .i64 W4 (.slice qg0 qgn qgq) G) := ⟨q_W4.out.rd, qg_W4.out.rd⟩
  have HMB : Hid (Blk W4 X4 (B3 (.slice qa0 qan qaq) (.slice ql0 qln qlq) (.slice qc0 qcn qcq)) 30) := QB_W4.out
  have HMS : Hid (W0.heap.size ≤ W4.heap.size) := B_W4.out.size
  have BM_W4 : Hid (Below W4.heap.size W4 W4) := Below.refl _ _
  clear Pq
  have KA := HK0.out.below B_W4.out HK0.out.lt
  have x0 := KA.cell 0
  have x1 := KA.cell 1
  have x2 := KA.cell 2
  simp at x0 x1 x2
  go_wp2_with (fail)
  refine (toBook_c _ _ _ ts ls cs W4 (HH0.out.below B_W4.out) HL.out.1 HL.out.2.1 HL.out.2.2).mono ?_
  rintro e w5 ⟨u0, u1, u2, rfl, o, b⟩
  have B_w5 : Hid (Below W0.heap.size W0 w5) := belowCall B_W4.out b B_W4.out.size
  have BM_w5 : Hid (Below W4.heap.size W4 w5) := belowCall BM_W4.out b BM_W4.out.size
  clear b B_W4 BM_W4 M_w3 hW4 hX4 q_W4 qg_W4 QB_W4 x0 x1 x2 KA
  have X_w5 : Hid (Obk W4.heap.size w5 u0 u1 u2 ts ls cs) := o
  clear o
  obtain ⟨e0, q0, hq0⟩ := X_w5.out.1.form
  obtain ⟨e1, q1, hq1⟩ := X_w5.out.2.1.form
  obtain ⟨e2, q2, hq2⟩ := X_w5.out.2.2.1.form
  subst hq0 hq1 hq2
  have XX_w5 : Hid (Obk W4.heap.size w5 (.slice e0 ts.length q0) (.slice e1 ls.length q1) (.slice e2 cs.length q2) ts ls cs) := X_w5.out
  have ba : Below w5.heap.size w5 (w5.alloc (Obj.cells (B3 (.slice e0 ts.length q0) (.slice e1 ls.length q1) (.slice e2 cs.length q2)) 30)) := (Below.refl _ _).alloc (Nat.le_refl _) _
  have kb : Blk (w5.alloc (Obj.cells (B3 (.slice e0 ts.length q0) (.slice e1 ls.length q1) (.slice e2 cs.length q2)) 30)) w5.heap.size (B3 (.slice e0 ts.length q0) (.slice e1 ls.length q1) (.slice e2 cs.length q2)) 30 := Blk.new _ _ _
  obtain ⟨X6, hX6⟩ : ∃ X, w5.heap.size = X := ⟨_, rfl⟩
  obtain ⟨W6, hW6⟩ : ∃ W, w5.alloc (Obj.cells (B3 (.slice e0 ts.length q0) (.slice e1 ls.length q1) (.slice e2 cs.length q2)) 30) = W := ⟨_, rfl⟩
  rw [hW6] at ba kb
  rw [hX6] at kb
  have B_W6 : Hid (Below W0.heap.size W0 W6) := belowCall B_w5.out ba B_w5.out.size
  have BM_W6 : Hid (Below W4.heap.size W4 W6) := belowCall BM_w5.out ba BM_w5.out.size
  have XX_W6 : Hid (Obk W4.heap.size W6 (.slice e0 ts.length q0) (.slice e1 ls.length q1) (.slice e2 cs.length q2) ts ls cs) := XX_w5.out.below ba
  have XB_W6 : Hid (Blk W6 X6 (B3 (.slice e0 ts.length q0) (.slice e1 ls.length q1) (.slice e2 cs.length q2)) 30) := kb
  clear ba kb B_w5 BM_w5 XX_w5
  have HSX : Hid (W4.heap.size ≤ W6.heap.size) := BM_W6.out.size
  have HXL : Hid (∀ k, InB (.slice e0 ts.length q0) (.slice e1 ls.length q1) (.slice e2 cs.length q2) k → W4.heap.size ≤ k ∧ k < W6.heap.size) := fun k hk => XX_W6.out.lt k hk
  have t0 := XB_W6.out.cell 0
  have t1 := XB_W6.out.cell 1
  have t2 := XB_W6.out.cell 2
  simp at t0 t1 t2
  go_wp2_with (fail)
  refine (HCI.out W6 _ _ _ XX_W6.out.rd).mono ?_
  rintro e w7 ⟨ga, gl, gc, gg, rfl, o, og, p1, p2, p3, b⟩
  have HGS : Hid (W6.heap.size ≤ w7.heap.size) := b.size
  have B_w7 : Hid (Below W0.heap.size W0 w7) := belowCall B_W6.out b B_W6.out.size
  have BM_w7 : Hid (Below W4.heap.size W4 w7) := belowCall BM_W6.out b BM_W6.out.size
  have XX_w7 : Hid (Obk W4.heap.size w7 (.slice e0 ts.length q0) (.slice e1 ls.length q1) (.slice e2 cs.length q2) ts ls cs) := XX_W6.out.below b
  have XB_w7 : Hid (Blk w7 X6 (B3 (.slice e0 ts.length q0) (.slice e1 ls.length q1) (.slice e2 cs.length q2)) 30) := XB_W6.out.below b XB_W6.out.lt
  clear b B_W6 BM_W6 XX_W6 XB_W6 X_w5 hW6 hX6 t0 t1 t2
  obtain ⟨ga0, gan, gaq, rfl⟩ : ∃ a L c, ga = .slice a L c := by obtain ⟨a, c, e⟩ := o.1.form; exact ⟨a, _, c, e⟩
  obtain ⟨gl0, gln, glq, rfl⟩ : ∃ a L c, gl = .slice a L c := by obtain ⟨a, c, e⟩ := o.2.1.form; exact ⟨a, _, c, e⟩
  obtain ⟨gc0, gcn, gcq, rfl⟩ : ∃ a L c, gc = .slice a L c := by obtain ⟨a, c, e⟩ := o.2.2.1.form; exact ⟨a, _, c, e⟩
  obtain ⟨gg0, ggn, ggq, rfl⟩ : ∃ a L c, gg = .slice a L c := by obtain ⟨a, c, e⟩ := og.form; exact ⟨a, _, c, e⟩
  have g_w7 : Hid (Obk W6.heap.size w7 (.slice ga0 gan gaq) (.slice gl0 gln glq) (.slice gc0 gcn gcq) T L C) := o
  have gg_w7 : Hid (Ow .i64 3 W6.heap.size w7 (.slice gg0 ggn ggq) G) := og
  have Pg : Hid (Apart (.slice ga0 gan gaq) (.slice gg0 ggn ggq) ∧ Apart (.slice gl0 gln glq) (.slice gg0 ggn ggq) ∧ Apart (.slice gc0 gcn gcq) (.slice gg0 ggn ggq)) := ⟨p1, p2, p3⟩
  clear o og p1 p2 p3
  have GBS : Hid (W6.heap.size ≤ w7.heap.size) := HGS.out
  have ba : Below w7.heap.size w7 (w7.alloc (Obj.cells (B3 (.slice ga0 gan gaq) (.slice gl0 gln glq) (.slice gc0 gcn gcq)) 30)) := (Below.refl _ _).alloc (Nat.le_refl _) _
  have kb : Blk (w7.alloc (Obj.cells (B3 (.slice ga0 gan gaq) (.slice gl0 gln glq) (.slice gc0 gcn gcq)) 30)) w7.heap.size (B3 (.slice ga0 gan gaq) (.slice gl0 gln glq) (.slice gc0 gcn gcq)) 30 := Blk.new _ _ _
  obtain ⟨X8, hX8⟩ : ∃ X, w7.heap.size = X := ⟨_, rfl⟩
  obtain ⟨W8, hW8⟩ : ∃ W, w7.alloc (Obj.cells (B3 (.slice ga0 gan gaq) (.slice gl0 gln glq) (.slice gc0 gcn gcq)) 30) = W := ⟨_, rfl⟩
  rw [hW8] at ba kb
  rw [hX8] at kb
  have B_W8 : Hid (Below W0.heap.size W0 W8) := belowCall B_w7.out ba B_w7.out.size
  have BM_W8 : Hid (Below W4.heap.size W4 W8) := belowCall BM_w7.out ba BM_w7.out.size
  have XX_W8 : Hid (Obk W4.heap.size W8 (.slice e0 ts.length q0) (.slice e1 ls.length q1) (.slice e2 cs.length q2) ts ls cs) := XX_w7.out.below ba
  have XB_W8 : Hid (Blk W8 X6 (B3 (.slice e0 ts.length q0) (.slice e1 ls.length q1) (.slice e2 cs.length q2)) 30) := XB_w7.out.below ba XB_w7.out.lt
  have g_W8 : Hid (Obk W6.heap.size W8 (.slice ga0 gan gaq) (.slice gl0 gln glq) (.slice gc0 gcn gcq) T L C) := g_w7.out.below ba
  have gg_W8 : Hid (Ow .i64 3 W6.heap.size W8 (.slice gg0 ggn ggq) G) := gg_w7.out.below ba
  have GB_W8 : Hid (Blk W8 X8 (B3 (.slice ga0 gan gaq) (.slice gl0 gln glq) (.slice gc0 gcn gcq)) 30) := kb
  have HGX : Hid (W6.heap.size ≤ X8) := by show _ ≤ _; rw [← hX8]; exact GBS.out
  clear ba kb B_w7 BM_w7 XX_w7 XB_w7 g_w7 gg_w7
  have KM := HMB.out.below BM_W8.out HMB.out.lt
  have m0 := KM.cell 0
  have m1 := KM.cell 1
  have m2 := KM.cell 2
  simp at m0 m1 m2
  have t0 := GB_W8.out.cell 0
  have t1 := GB_W8.out.cell 1
  have t2 := GB_W8.out.cell 2
  simp at t0 t1 t2
  go_wp2_with (fail)
  refine (eqBook_c _ _ _ _ _ _ T T L C L C W8 g_W8.out.rd (HM.out.1.below BM_W8.out)).mono ?_
  rintro e w9 ⟨rfl, b⟩
  have B_w9 : Hid (Below W0.heap.size W0 w9) := belowCall B_W8.out b B_W8.out.size
  have BM_w9 : Hid (Below W4.heap.size W4 w9) := belowCall BM_W8.out b BM_W8.out.size
  have XX_w9 : Hid (Obk W4.heap.size w9 (.slice e0 ts.length q0) (.slice e1 ls.length q1) (.slice e2 cs.length q2) ts ls cs) := XX_W8.out.below b
  have XB_w9 : Hid (Blk w9 X6 (B3 (.slice e0 ts.length q0) (.slice e1 ls.length q1) (.slice e2 cs.length q2)) 30) := XB_W8.out.below b XB_W8.out.lt
  have g_w9 : Hid (Obk W6.heap.size w9 (.slice ga0 gan gaq) (.slice gl0 gln glq) (.slice gc0 gcn gcq) T L C) := g_W8.out.below b
  have gg_w9 : Hid (Ow .i64 3 W6.heap.size w9 (.slice gg0 ggn ggq) G) := gg_W8.out.below b
  have GB_w9 : Hid (Blk w9 X8 (B3 (.slice ga0 gan gaq) (.slice gl0 gln glq) (.slice gc0 gcn gcq)) 30) := GB_W8.out.below b GB_W8.out.lt
  clear b B_W8 BM_W8 XX_W8 XB_W8 g_W8 gg_W8 GB_W8 hW8 hX8 m0 m1 m2 KM t0 t1 t2
  rw [decide_eq_true (⟨rfl, rfl, rfl⟩ : T = T ∧ L = L ∧ C = C)]
  go_wp2_with (fail)
  refine (eqI _ _ G G w9 gg_w9.out.rd (HM.out.2.below BM_w9.out)).mono ?_
  rintro e w10 ⟨rfl, b⟩
  have B_w10 : Hid (Below W0.heap.size W0 w10) := belowCall B_w9.out b B_w9.out.size
  have BM_w10 : Hid (Below W4.heap.size W4 w10) := belowCall BM_w9.out b BM_w9.out.size
  have XX_w10 : Hid (Obk W4.heap.size w10 (.slice e0 ts.length q0) (.slice e1 ls.length q1) (.slice e2 cs.length q2) ts ls cs) := XX_w9.out.below b
  have XB_w10 : Hid (Blk w10 X6 (B3 (.slice e0 ts.length q0) (.slice e1 ls.length q1) (.slice e2 cs.length q2)) 30) := XB_w9.out.below b XB_w9.out.lt
  have g_w10 : Hid (Obk W6.heap.size w10 (.slice ga0 gan gaq) (.slice gl0 gln glq) (.slice gc0 gcn gcq) T L C) := g_w9.out.below b
  have gg_w10 : Hid (Ow .i64 3 W6.heap.size w10 (.slice gg0 ggn ggq) G) := gg_w9.out.below b
  have GB_w10 : Hid (Blk w10 X8 (B3 (.slice ga0 gan gaq) (.slice gl0 gln glq) (.slice gc0 gcn gcq)) 30) := GB_w9.out.below b GB_w9.out.lt
  clear b B_w9 BM_w9 XX_w9 XB_w9 g_w9 gg_w9 GB_w9
  rw [decide_eq_true (Eq.refl G)]
  obtain ⟨S, hS⟩ : ∃ S : World → Prop, ∀ W, S W ↔ Below w10.heap.size w10 W := ⟨_, fun _ => Iff.rfl⟩
  have KA := HK0.out.below B_w10.out HK0.out.lt
  have KX := XB_w10.out
  have zc0 : ∀ W : At S, W.wd.cell? ⟨w.heap.size, 0, none⟩ = some (.slice a ts.length cap) := fun W => by rw [(KA.below ((hS _).1 W.ok) KA.lt).cell 0]; rfl
  have zc1 : ∀ W : At S, W.wd.cell? ⟨w.heap.size, 1, none⟩ = some (.slice a' ls.length cap') := fun W => by rw [(KA.below ((hS _).1 W.ok) KA.lt).cell 1]; rfl
  have zc2 : ∀ W : At S, W.wd.cell? ⟨w.heap.size, 2, none⟩ = some (.slice a'' cs.length cap'') := fun W => by rw [(KA.below ((hS _).1 W.ok) KA.lt).cell 2]; rfl
  have zx0 : ∀ W : At S, W.wd.cell? ⟨X6, 0, none⟩ = some (.slice e0 ts.length q0) := fun W => by rw [(KX.below ((hS _).1 W.ok) KX.lt).cell 0]; rfl
  have zx1 : ∀ W : At S, W.wd.cell? ⟨X6, 1, none⟩ = some (.slice e1 ls.length q1) := fun W => by rw [(KX.below ((hS _).1 W.ok) KX.lt).cell 1]; rfl
  have zx2 : ∀ W : At S, W.wd.cell? ⟨X6, 2, none⟩ = some (.slice e2 cs.length q2) := fun W => by rw [(KX.below ((hS _).1 W.ok) KX.lt).cell 2]; rfl
  have HS : Hid (∀ W, S W ↔ Below w10.heap.size w10 W) := hS
  have ne : Nonempty (At S) := ⟨⟨w10, (hS _).2 (Below.refl _ _)⟩⟩
  clear hS KA KX
  go_wp2
  refine region_mixA [true, true, false, false, false] 5 3 S (by kernel_rfl) rfl (by kernel_rfl) (fun _ _ _ _ _ h => h) ((HS.out _).2 (Below.refl _ _).drew) ?_
  simp only [selT, selF]
  repeat (go_big_quiet_step (fail))
  refine wpQuiet_nil ?_
  refine tail_step ?_
  go_wp2_with (fail)
  refine (toBook_c _ _ _ ts ls cs w10.drew (HH0.out.below B_w10.out.drew) HL.out.1 HL.out.2.1 HL.out.2.2).mono ?_
  rintro e wd ⟨d0, d1, d2, rfl, o, b⟩
  have Bd : Below w10.heap.size w10 wd := (Below.refl _ _).drew.trans b
  have HBd : Hid (Below w10.heap.size w10 wd) := Bd
  have HOd : Hid (Rbk wd d0 d1 d2 ts ls cs ∧ Rbk wd (.slice e0 ts.length q0) (.slice e1 ls.length q1) (.slice e2 cs.length q2) ts ls cs) := ⟨o.rd, XX_w10.out.rd.below Bd⟩
  clear o b Bd zc0 zc1 zc2 zx0 zx1 zx2
  go_wp2
  refine ⟨(HS.out _).2 HBd.out, tail_step ?_⟩
  go_wp2_with (fail)
  refine (eqBook_c _ _ _ _ _ _ ts ts ls cs ls cs wd HOd.out.2 HOd.out.1).mono ?_
  rintro e we ⟨rfl, b8⟩
  rw [decide_eq_true (⟨rfl, rfl, rfl⟩ : ts = ts ∧ ls = ls ∧ cs = cs)]
  have HBe : Hid (Below w10.heap.size w10 we) := belowCall HBd.out b8 HBd.out.size
  clear b8 HOd HBd
  go_wp2
  refine ⟨(HS.out _).2 HBe.out, tail_step ?_⟩
  go_wp2
  refine ⟨(HS.out _).2 HBe.out, tail_end ?_⟩
  have B_we : Hid (Below W0.heap.size W0 we) := belowCall B_w10.out HBe.out B_w10.out.size
  have BM_we : Hid (Below W4.heap.size W4 we) := belowCall BM_w10.out HBe.out BM_w10.out.size
  have XX_we : Hid (Obk W4.heap.size we (.slice e0 ts.length q0) (.slice e1 ls.length q1) (.slice e2 cs.length q2) ts ls cs) := XX_w10.out.below HBe.out
  have XB_we : Hid (Blk we X6 (B3 (.slice e0 ts.length q0) (.slice e1 ls.length q1) (.slice e2 cs.length q2)) 30) := XB_w10.out.below HBe.out XB_w10.out.lt
  have g_we : Hid (Obk W6.heap.size we (.slice ga0 gan gaq) (.slice gl0 gln glq) (.slice gc0 gcn gcq) T L C) := g_w10.out.below HBe.out
  have gg_we : Hid (Ow .i64 3 W6.heap.size we (.slice gg0 ggn ggq) G) := gg_w10.out.below HBe.out
  have GB_we : Hid (Blk we X8 (B3 (.slice ga0 gan gaq) (.slice gl0 gln glq) (.slice gc0 gcn gcq)) 30) := GB_w10.out.below HBe.out GB_w10.out.lt
  clear HBe HS ne B_w10 BM_w10 XX_w10 XB_w10 g_w10 gg_w10 GB_w10
  have t0 := XB_we.out.cell 0
  have t1 := XB_we.out.cell 1
  have t2 := XB_we.out.cell 2
  simp at t0 t1 t2
  go_wp2_with (fail)
  refine (markBook_c W4.heap.size 1 _ _ _ ts ls cs we XX_we.out (by decide) (by have := HL.out; omega)).mono ?_
  rintro e w11 ⟨rfl, o, f⟩
  have B_w11 : Hid (Below W0.heap.size W0 w11) := B_we.out.trans (f.below (Nat.le_trans HMS.out BM_we.out.size) (fun k hk => Nat.le_trans HMS.out (HXL.out k hk).1))
  have BM_w11 : Hid (Below W4.heap.size W4 w11) := BM_we.out.trans (f.below BM_we.out.size (fun k hk => (HXL.out k hk).1))
  have g_w11 : Hid (Obk W6.heap.size w11 (.slice ga0 gan gaq) (.slice gl0 gln glq) (.slice gc0 gcn gcq) T L C) := g_we.out.fr f (fun k hk h => by have h1 := (HXL.out k h).2; have h2 := (g_we.out.lt k hk).1; omega)
  have gg_w11 : Hid (Ow .i64 3 W6.heap.size w11 (.slice gg0 ggn ggq) G) := ownsRow_fr gg_we.out f (fun k e h => by have h1 := (HXL.out k h).2; have h2 := (World.ownsRow.lt gg_we.out k e).1; omega)
  have GB_w11 : Hid (Blk w11 X8 (B3 (.slice ga0 gan gaq) (.slice gl0 gln glq) (.slice gc0 gcn gcq)) 30) := GB_we.out.fr f (fun h => by have h1 := (HXL.out _ h).2; have h2 := HGX.out; omega)
  clear o f B_we BM_we g_we gg_we GB_we t0 t1 t2 XX_we XB_we
  obtain ⟨kk, hkk⟩ : ∃ z, (1 : Int) + 3 * ts.length + ls.length + cs.length = z := ⟨_, rfl⟩
  have hkn : ¬ kk < 0 := by omega
  rw [hkk]
  clear hkk
  have KM := HMB.out.below BM_w11.out HMB.out.lt
  have m0 := KM.cell 0
  have m1 := KM.cell 1
  have m2 := KM.cell 2
  simp at m0 m1 m2
  have t0 := GB_w11.out.cell 0
  have t1 := GB_w11.out.cell 1
  have t2 := GB_w11.out.cell 2
  simp at t0 t1 t2
  go_wp2_with (fail)
  refine (eqBook_c _ _ _ _ _ _ T T L C L C w11 g_w11.out.rd (HM.out.1.below BM_w11.out)).mono ?_
  rintro e w12 ⟨rfl, b⟩
  have B_w12 : Hid (Below W0.heap.size W0 w12) := belowCall B_w11.out b B_w11.out.size
  have BM_w12 : Hid (Below W4.heap.size W4 w12) := belowCall BM_w11.out b BM_w11.out.size
  have g_w12 : Hid (Obk W6.heap.size w12 (.slice ga0 gan gaq) (.slice gl0 gln glq) (.slice gc0 gcn gcq) T L C) := g_w11.out.below b
  have gg_w12 : Hid (Ow .i64 3 W6.heap.size w12 (.slice gg0 ggn ggq) G) := gg_w11.out.below b
  have GB_w12 : Hid (Blk w12 X8 (B3 (.slice ga0 gan gaq) (.slice gl0 gln glq) (.slice gc0 gcn gcq)) 30) := GB_w11.out.below b GB_w11.out.lt
  clear b B_w11 BM_w11 g_w11 gg_w11 GB_w11 m0 m1 m2 KM t0 t1 t2
  rw [decide_eq_true (⟨rfl, rfl, rfl⟩ : T = T ∧ L = L ∧ C = C)]
  go_wp2_with (fail)
  refine (eqI _ _ G G w12 gg_w12.out.rd (HM.out.2.below BM_w12.out)).mono ?_
  rintro e w13 ⟨rfl, b⟩
  have B_w13 : Hid (Below W0.heap.size W0 w13) := belowCall B_w12.out b B_w12.out.size
  have BM_w13 : Hid (Below W4.heap.size W4 w13) := belowCall BM_w12.out b BM_w12.out.size
  have g_w13 : Hid (Obk W6.heap.size w13 (.slice ga0 gan gaq) (.slice gl0 gln glq) (.slice gc0 gcn gcq) T L C) := g_w12.out.below b
  have gg_w13 : Hid (Ow .i64 3 W6.heap.size w13 (.slice gg0 ggn ggq) G) := gg_w12.out.below b
  have GB_w13 : Hid (Blk w13 X8 (B3 (.slice ga0 gan gaq) (.slice gl0 gln glq) (.slice gc0 gcn gcq)) 30) := GB_w12.out.below b GB_w12.out.lt
  clear b B_w12 BM_w12 g_w12 gg_w12 GB_w12
  rw [decide_eq_true (Eq.refl G)]
  have t0 := GB_w13.out.cell 0
  have t1 := GB_w13.out.cell 1
  have t2 := GB_w13.out.cell 2
  simp at t0 t1 t2
  go_wp2_with (fail)
  refine (markBook_c W6.heap.size 1 _ _ _ T L C w13 g_w13.out (by decide) (by have := HLG.out; omega)).mono ?_
  rintro e w14 ⟨rfl, o, f⟩
  have B_w14 : Hid (Below W0.heap.size W0 w14) := B_w13.out.trans (f.below (Nat.le_trans HMS.out BM_w13.out.size) (fun k hk => Nat.le_trans (Nat.le_trans HMS.out HSX.out) (g_w13.out.lt k hk).1))
  have BM_w14 : Hid (Below W4.heap.size W4 w14) := BM_w13.out.trans (f.below BM_w13.out.size (fun k hk => Nat.le_trans HSX.out (g_w13.out.lt k hk).1))
  have gg_w14 : Hid (Ow .i64 3 W6.heap.size w14 (.slice gg0 ggn ggq) G) := ownsRow_fr gg_w13.out f (fun k e h => by rcases h with h | h | h; exact Pg.out.1 k h e; exact Pg.out.2.1 k h e; exact Pg.out.2.2 k h e)
  have GB_w14 : Hid (Blk w14 X8 (B3 (.slice ga0 gan gaq) (.slice gl0 gln glq) (.slice gc0 gcn gcq)) 30) := GB_w13.out.fr f (fun h => by rcases h with h | h | h; exact row_blk g_w13.out.1 GB_w13.out (by decide) h; exact row_blk g_w13.out.2.1 GB_w13.out (by decide) h; exact row_blk g_w13.out.2.2.1 GB_w13.out (by decide) h)
  clear f B_w13 BM_w13 gg_w13 GB_w13 t0 t1 t2 g_w13
  have g_w14 : Hid (Obk W6.heap.size w14 (.slice ga0 gan gaq) (.slice gl0 gln glq) (.slice gc0 gcn gcq) (mkT 1 T.length) (marks .i64 (1 + 3 * T.length) L.length) (marks .i64 (1 + 3 * T.length + L.length) C.length)) := o
  clear o
  obtain ⟨mm, hmm⟩ : ∃ z, (1 : Int) + 3 * T.length + L.length + C.length = z := ⟨_, rfl⟩
  have HMM : Hid ((1 : Int) + 3 * T.length + L.length + C.length = mm) := hmm
  rw [hmm]
  clear hmm
  go_wp2_with (fail)
  refine (markI _ G mm W6.heap.size w14 gg_w14.out (by have := HMM.out; omega) (by have := HMM.out; have := HLG.out; omega)).mono ?_
  rintro e w15 ⟨rfl, o, gr⟩
  have B_w15 : Hid (Below W0.heap.size W0 w15) := B_w14.out.trans (grown_below gr (Nat.le_trans HMS.out BM_w14.out.size) (fun k hk => Nat.le_trans (Nat.le_trans HMS.out HSX.out) (World.ownsRow.lt gg_w14.out k hk).1))
  have BM_w15 : Hid (Below W4.heap.size W4 w15) := BM_w14.out.trans (grown_below gr BM_w14.out.size (fun k hk => Nat.le_trans HSX.out (World.ownsRow.lt gg_w14.out k hk).1))
  have GB_w15 : Hid (Blk w15 X8 (B3 (.slice ga0 gan gaq) (.slice gl0 gln glq) (.slice gc0 gcn gcq)) 30) := GB_w14.out.grown gr (row_blk gg_w14.out GB_w14.out (by decide))
  have g_w15 : Hid (Obk W6.heap.size w15 (.slice ga0 gan gaq) (.slice gl0 gln glq) (.slice gc0 gcn gcq) (mkT 1 T.length) (marks .i64 (1 + 3 * T.length) L.length) (marks .i64 (1 + 3 * T.length + L.length) C.length)) := ⟨World.ownsRow.kept g_w14.out.1 gr Pg.out.1.or, World.ownsRow.kept g_w14.out.2.1 gr Pg.out.2.1.or, World.ownsRow.kept g_w14.out.2.2.1 gr Pg.out.2.2.or, g_w14.out.2.2.2⟩
  clear gr B_w14 BM_w14 GB_w14 g_w14 gg_w14
  have gg_w15 : Hid (Ow .i64 3 W6.heap.size w15 (.slice gg0 ggn ggq) (marks .i64 mm G.length)) := o
  clear o
  have t0 := GB_w15.out.cell 0
  have t1 := GB_w15.out.cell 1
  have t2 := GB_w15.out.cell 2
  simp at t0 t1 t2
  go_wp2_with (fail)
  refine (heldBook_c 1 _ _ _ T.length L.length C.length w15 g_w15.out.rd (by decide) (by have := HLG.out; omega)).mono ?_
  rintro e w16 ⟨rfl, b⟩
  have B_w16 : Hid (Below W0.heap.size W0 w16) := belowCall B_w15.out b B_w15.out.size
  have BM_w16 : Hid (Below W4.heap.size W4 w16) := belowCall BM_w15.out b BM_w15.out.size
  have GB_w16 : Hid (Blk w16 X8 (B3 (.slice ga0 gan gaq) (.slice gl0 gln glq) (.slice gc0 gcn gcq)) 30) := GB_w15.out.below b GB_w15.out.lt
  have g_w16 : Hid (Obk W6.heap.size w16 (.slice ga0 gan gaq) (.slice gl0 gln glq) (.slice gc0 gcn gcq) (mkT 1 T.length) (marks .i64 (1 + 3 * T.length) L.length) (marks .i64 (1 + 3 * T.length + L.length) C.length)) := g_w15.out.below b
  have gg_w16 : Hid (Ow .i64 3 W6.heap.size w16 (.slice gg0 ggn ggq) (marks .i64 mm G.length)) := gg_w15.out.below b
  clear b B_w15 BM_w15 GB_w15 g_w15 gg_w15 t0 t1 t2
  rw [HMM.out]
  have hmn : ¬ mm < 0 := by have := HMM.out; omega
  go_wp2_with (fail)
  refine (heldI _ mm G.length w16 gg_w16.out.rd (by have := HMM.out; omega) (by have := HMM.out; have := HLG.out; omega)).mono ?_
  rintro e w17 ⟨rfl, b⟩
  have B_w17 : Hid (Below W0.heap.size W0 w17) := belowCall B_w16.out b B_w16.out.size
  have BM_w17 : Hid (Below W4.heap.size W4 w17) := belowCall BM_w16.out b BM_w16.out.size
  have GB_w17 : Hid (Blk w17 X8 (B3 (.slice ga0 gan gaq) (.slice gl0 gln glq) (.slice gc0 gcn gcq)) 30) := GB_w16.out.below b GB_w16.out.lt
  have g_w17 : Hid (Obk W6.heap.size w17 (.slice ga0 gan gaq) (.slice gl0 gln glq) (.slice gc0 gcn gcq) (mkT 1 T.length) (marks .i64 (1 + 3 * T.length) L.length) (marks .i64 (1 + 3 * T.length + L.length) C.length)) := g_w16.out.below b
  have gg_w17 : Hid (Ow .i64 3 W6.heap.size w17 (.slice gg0 ggn ggq) (marks .i64 mm G.length)) := gg_w16.out.below b
  clear b B_w16 BM_w16 GB_w16 g_w16 gg_w16
  clear hmn
  have hqn : ¬ mm + (G.length : Int) < 0 := by have := HMM.out; omega
  have hqm : (mm + (G.length : Int) != mm + (G.length : Int)) = false := by simp
  have KA := HK0.out.below B_w17.out HK0.out.lt
  have x0 := KA.cell 0
  have x1 := KA.cell 1
  have x2 := KA.cell 2
  simp at x0 x1 x2
  go_wp2_with (fail)
  refine (toBook_c _ _ _ ts ls cs w17 (HH0.out.below B_w17.out) HL.out.1 HL.out.2.1 HL.out.2.2).mono ?_
  rintro e w18 ⟨y0, y1, y2, rfl, o, b⟩
  have B_w18 : Hid (Below W0.heap.size W0 w18) := belowCall B_w17.out b B_w17.out.size
  have BM_w18 : Hid (Below W4.heap.size W4 w18) := belowCall BM_w17.out b BM_w17.out.size
  have GB_w18 : Hid (Blk w18 X8 (B3 (.slice ga0 gan gaq) (.slice gl0 gln glq) (.slice gc0 gcn gcq)) 30) := GB_w17.out.below b GB_w17.out.lt
  have g_w18 : Hid (Obk W6.heap.size w18 (.slice ga0 gan gaq) (.slice gl0 gln glq) (.slice gc0 gcn gcq) (mkT 1 T.length) (marks .i64 (1 + 3 * T.length) L.length) (marks .i64 (1 + 3 * T.length + L.length) C.length)) := g_w17.out.below b
  have gg_w18 : Hid (Ow .i64 3 W6.heap.size w18 (.slice gg0 ggn ggq) (marks .i64 mm G.length)) := gg_w17.out.below b
  clear b B_w17 BM_w17 GB_w17 g_w17 gg_w17 x0 x1 x2 KA
  have Y_w18 : Hid (Obk w17.heap.size w18 y0 y1 y2 ts ls cs) := o
  clear o
  clear hqn hqm
  go_wp2_with (fail)
  refine (HCI.out w18 _ _ _ Y_w18.out.rd).mono ?_
  rintro e w19 ⟨ha, hl, hc, hg, rfl, o, og, p1, p2, p3, b⟩
  have B_w19 : Hid (Below W0.heap.size W0 w19) := belowCall B_w18.out b B_w18.out.size
  have BM_w19 : Hid (Below W4.heap.size W4 w19) := belowCall BM_w18.out b BM_w18.out.size
  have GB_w19 : Hid (Blk w19 X8 (B3 (.slice ga0 gan gaq) (.slice gl0 gln glq) (.slice gc0 gcn gcq)) 30) := GB_w18.out.below b GB_w18.out.lt
  have g_w19 : Hid (Obk W6.heap.size w19 (.slice ga0 gan gaq) (.slice gl0 gln glq) (.slice gc0 gcn gcq) (mkT 1 T.length) (marks .i64 (1 + 3 * T.length) L.length) (marks .i64 (1 + 3 * T.length + L.length) C.length)) := g_w18.out.below b
  have gg_w19 : Hid (Ow .i64 3 W6.heap.size w19 (.slice gg0 ggn ggq) (marks .i64 mm G.length)) := gg_w18.out.below b
  have Y_w19 : Hid (Obk w17.heap.size w19 y0 y1 y2 ts ls cs) := Y_w18.out.below b
  clear b B_w18 BM_w18 GB_w18 g_w18 gg_w18 Y_w18
  obtain ⟨ha0, han, haq, rfl⟩ : ∃ a L c, ha = .slice a L c := by obtain ⟨a, c, e⟩ := o.1.form; exact ⟨a, _, c, e⟩
  obtain ⟨hl0, hln, hlq, rfl⟩ : ∃ a L c, hl = .slice a L c := by obtain ⟨a, c, e⟩ := o.2.1.form; exact ⟨a, _, c, e⟩
  obtain ⟨hc0, hcn, hcq, rfl⟩ : ∃ a L c, hc = .slice a L c := by obtain ⟨a, c, e⟩ := o.2.2.1.form; exact ⟨a, _, c, e⟩
  obtain ⟨hg0, hgn, hgq, rfl⟩ : ∃ a L c, hg = .slice a L c := by obtain ⟨a, c, e⟩ := og.form; exact ⟨a, _, c, e⟩
  have h_w19 : Hid (Obk w18.heap.size w19 (.slice ha0 han haq) (.slice hl0 hln hlq) (.slice hc0 hcn hcq) T L C) := o
  have hg_w19 : Hid (Ow .i64 3 w18.heap.size w19 (.slice hg0 hgn hgq) G) := og
  have Ph : Hid (Apart (.slice ha0 han haq) (.slice hg0 hgn hgq) ∧ Apart (.slice hl0 hln hlq) (.slice hg0 hgn hgq) ∧ Apart (.slice hc0 hcn hcq) (.slice hg0 hgn hgq)) := ⟨p1, p2, p3⟩
  clear o og p1 p2 p3
  clear Ph
  have ba : Below w19.heap.size w19 (w19.alloc (Obj.cells (B3 (.slice ha0 han haq) (.slice hl0 hln hlq) (.slice hc0 hcn hcq)) 30)) := (Below.refl _ _).alloc (Nat.le_refl _) _
  have kb : Blk (w19.alloc (Obj.cells (B3 (.slice ha0 han haq) (.slice hl0 hln hlq) (.slice hc0 hcn hcq)) 30)) w19.heap.size (B3 (.slice ha0 han haq) (.slice hl0 hln hlq) (.slice hc0 hcn hcq)) 30 := Blk.new _ _ _
  obtain ⟨X20, hX20⟩ : ∃ X, w19.heap.size = X := ⟨_, rfl⟩
  obtain ⟨W20, hW20⟩ : ∃ W, w19.alloc (Obj.cells (B3 (.slice ha0 han haq) (.slice hl0 hln hlq) (.slice hc0 hcn hcq)) 30) = W := ⟨_, rfl⟩
  rw [hW20] at ba kb
  rw [hX20] at kb
  have B_W20 : Hid (Below W0.heap.size W0 W20) := belowCall B_w19.out ba B_w19.out.size
  have BM_W20 : Hid (Below W4.heap.size W4 W20) := belowCall BM_w19.out ba BM_w19.out.size
  have GB_W20 : Hid (Blk W20 X8 (B3 (.slice ga0 gan gaq) (.slice gl0 gln glq) (.slice gc0 gcn gcq)) 30) := GB_w19.out.below ba GB_w19.out.lt
  have g_W20 : Hid (Obk W6.heap.size W20 (.slice ga0 gan gaq) (.slice gl0 gln glq) (.slice gc0 gcn gcq) (mkT 1 T.length) (marks .i64 (1 + 3 * T.length) L.length) (marks .i64 (1 + 3 * T.length + L.length) C.length)) := g_w19.out.below ba
  have gg_W20 : Hid (Ow .i64 3 W6.heap.size W20 (.slice gg0 ggn ggq) (marks .i64 mm G.length)) := gg_w19.out.below ba
  have h_W20 : Hid (Obk w18.heap.size W20 (.slice ha0 han haq) (.slice hl0 hln hlq) (.slice hc0 hcn hcq) T L C) := h_w19.out.below ba
  have hg_W20 : Hid (Ow .i64 3 w18.heap.size W20 (.slice hg0 hgn hgq) G) := hg_w19.out.below ba
  have HB_W20 : Hid (Blk W20 X20 (B3 (.slice ha0 han haq) (.slice hl0 hln hlq) (.slice hc0 hcn hcq)) 30) := kb
  clear ba kb B_w19 BM_w19 GB_w19 g_w19 gg_w19 h_w19 hg_w19
  have KM := HMB.out.below BM_W20.out HMB.out.lt
  have m0 := KM.cell 0
  have m1 := KM.cell 1
  have m2 := KM.cell 2
  simp at m0 m1 m2
  have t0 := HB_W20.out.cell 0
  have t1 := HB_W20.out.cell 1
  have t2 := HB_W20.out.cell 2
  simp at t0 t1 t2
  go_wp2_with (fail)
  refine (eqBook_c _ _ _ _ _ _ T T L C L C W20 h_W20.out.rd (HM.out.1.below BM_W20.out)).mono ?_
  rintro e w21 ⟨rfl, b⟩
  have B_w21 : Hid (Below W0.heap.size W0 w21) := belowCall B_W20.out b B_W20.out.size
  have BM_w21 : Hid (Below W4.heap.size W4 w21) := belowCall BM_W20.out b BM_W20.out.size
  have GB_w21 : Hid (Blk w21 X8 (B3 (.slice ga0 gan gaq) (.slice gl0 gln glq) (.slice gc0 gcn gcq)) 30) := GB_W20.out.below b GB_W20.out.lt
  have g_w21 : Hid (Obk W6.heap.size w21 (.slice ga0 gan gaq) (.slice gl0 gln glq) (.slice gc0 gcn gcq) (mkT 1 T.length) (marks .i64 (1 + 3 * T.length) L.length) (marks .i64 (1 + 3 * T.length + L.length) C.length)) := g_W20.out.below b
  have gg_w21 : Hid (Ow .i64 3 W6.heap.size w21 (.slice gg0 ggn ggq) (marks .i64 mm G.length)) := gg_W20.out.below b
  have h_w21 : Hid (Obk w18.heap.size w21 (.slice ha0 han haq) (.slice hl0 hln hlq) (.slice hc0 hcn hcq) T L C) := h_W20.out.below b
  have hg_w21 : Hid (Ow .i64 3 w18.heap.size w21 (.slice hg0 hgn hgq) G) := hg_W20.out.below b
  have HB_w21 : Hid (Blk w21 X20 (B3 (.slice ha0 han haq) (.slice hl0 hln hlq) (.slice hc0 hcn hcq)) 30) := HB_W20.out.below b HB_W20.out.lt
  clear b B_W20 BM_W20 GB_W20 g_W20 gg_W20 h_W20 hg_W20 HB_W20 Y_w19 hW20 hX20 m0 m1 m2 KM t0 t1 t2
  rw [decide_eq_true (⟨rfl, rfl, rfl⟩ : T = T ∧ L = L ∧ C = C)]
  go_wp2_with (fail)
  refine (eqI _ _ G G w21 hg_w21.out.rd (HM.out.2.below BM_w21.out)).mono ?_
  rintro e w22 ⟨rfl, b⟩
  have B_w22 : Hid (Below W0.heap.size W0 w22) := belowCall B_w21.out b B_w21.out.size
  have BM_w22 : Hid (Below W4.heap.size W4 w22) := belowCall BM_w21.out b BM_w21.out.size
  have GB_w22 : Hid (Blk w22 X8 (B3 (.slice ga0 gan gaq) (.slice gl0 gln glq) (.slice gc0 gcn gcq)) 30) := GB_w21.out.below b GB_w21.out.lt
  have g_w22 : Hid (Obk W6.heap.size w22 (.slice ga0 gan gaq) (.slice gl0 gln glq) (.slice gc0 gcn gcq) (mkT 1 T.length) (marks .i64 (1 + 3 * T.length) L.length) (marks .i64 (1 + 3 * T.length + L.length) C.length)) := g_w21.out.below b
  have gg_w22 : Hid (Ow .i64 3 W6.heap.size w22 (.slice gg0 ggn ggq) (marks .i64 mm G.length)) := gg_w21.out.below b
  have h_w22 : Hid (Obk w18.heap.size w22 (.slice ha0 han haq) (.slice hl0 hln hlq) (.slice hc0 hcn hcq) T L C) := h_w21.out.below b
  have hg_w22 : Hid (Ow .i64 3 w18.heap.size w22 (.slice hg0 hgn hgq) G) := hg_w21.out.below b
  have HB_w22 : Hid (Blk w22 X20 (B3 (.slice ha0 han haq) (.slice hl0 hln hlq) (.slice hc0 hcn hcq)) 30) := HB_w21.out.below b HB_w21.out.lt
  clear b B_w21 BM_w21 GB_w21 g_w21 gg_w21 h_w21 hg_w21 HB_w21
  rw [decide_eq_true (Eq.refl G)]
  have t0 := GB_w22.out.cell 0
  have t1 := GB_w22.out.cell 1
  have t2 := GB_w22.out.cell 2
  simp at t0 t1 t2
  go_wp2_with (fail)
  refine (heldBook_c 1 _ _ _ T.length L.length C.length w22 g_w22.out.rd (by decide) (by have := HLG.out; omega)).mono ?_
  rintro e w23 ⟨rfl, b⟩
  have B_w23 : Hid (Below W0.heap.size W0 w23) := belowCall B_w22.out b B_w22.out.size
  have BM_w23 : Hid (Below W4.heap.size W4 w23) := belowCall BM_w22.out b BM_w22.out.size
  have GB_w23 : Hid (Blk w23 X8 (B3 (.slice ga0 gan gaq) (.slice gl0 gln glq) (.slice gc0 gcn gcq)) 30) := GB_w22.out.below b GB_w22.out.lt
  have g_w23 : Hid (Obk W6.heap.size w23 (.slice ga0 gan gaq) (.slice gl0 gln glq) (.slice gc0 gcn gcq) (mkT 1 T.length) (marks .i64 (1 + 3 * T.length) L.length) (marks .i64 (1 + 3 * T.length + L.length) C.length)) := g_w22.out.below b
  have gg_w23 : Hid (Ow .i64 3 W6.heap.size w23 (.slice gg0 ggn ggq) (marks .i64 mm G.length)) := gg_w22.out.below b
  clear b B_w22 BM_w22 GB_w22 g_w22 gg_w22 h_w22 hg_w22 HB_w22 t0 t1 t2
  rw [HMM.out]
  have hmn : ¬ mm < 0 := by have := HMM.out; omega
  go_wp2_with (fail)
  refine (heldI _ mm G.length w23 gg_w23.out.rd (by have := HMM.out; omega) (by have := HMM.out; have := HLG.out; omega)).mono ?_
  rintro e w24 ⟨rfl, b⟩
  have B_w24 : Hid (Below W0.heap.size W0 w24) := belowCall B_w23.out b B_w23.out.size
  have BM_w24 : Hid (Below W4.heap.size W4 w24) := belowCall BM_w23.out b BM_w23.out.size
  have GB_w24 : Hid (Blk w24 X8 (B3 (.slice ga0 gan gaq) (.slice gl0 gln glq) (.slice gc0 gcn gcq)) 30) := GB_w23.out.below b GB_w23.out.lt
  have g_w24 : Hid (Obk W6.heap.size w24 (.slice ga0 gan gaq) (.slice gl0 gln glq) (.slice gc0 gcn gcq) (mkT 1 T.length) (marks .i64 (1 + 3 * T.length) L.length) (marks .i64 (1 + 3 * T.length + L.length) C.length)) := g_w23.out.below b
  have gg_w24 : Hid (Ow .i64 3 W6.heap.size w24 (.slice gg0 ggn ggq) (marks .i64 mm G.length)) := gg_w23.out.below b
  clear b B_w23 BM_w23 GB_w23 g_w23 gg_w23
  clear hmn
  have hqn : ¬ mm + (G.length : Int) < 0 := by have := HMM.out; omega
  have hqm : (mm + (G.length : Int) != mm + (G.length : Int)) = false := by simp
  go_wp2
  go_ret
  exact ⟨rfl, belowCall HB0.out B_w24.out HB0.out.size⟩

end Go.Proofs.Ytmfmlbiplagmiaa

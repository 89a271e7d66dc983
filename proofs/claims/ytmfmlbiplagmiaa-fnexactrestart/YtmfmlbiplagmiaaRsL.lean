/- FnExactRestart at all books and depths; no condition. -/
import Derived.Test.YtmfmlbiplagmiaaMdL
import Derived.Test.YtmfmlbiplagmiaaRsm
namespace Go.Proofs.Ytmfmlbiplagmiaa
open Go.RowKit Go.ChangeShapes Go.WideShapes Go.ChangeAt
set_option linter.unusedVariables false
set_option linter.unusedSimpArgs false
set_option maxRecDepth 8000

theorem rs_len (ts : List Tk) (ls cs : List Int) (d : Int) : (rsT ts ls cs d).length ≤ 30 ∧ (rsL ts ls cs d).length ≤ 30 ∧ (rsC ts ls cs d).length ≤ 30 := by
  unfold rsT rsL rsC
  cases h : bkB ts ls cs with
  | false => simp
  | true =>
    have h1 := bkB_len h
    have h2 := mb_len ts ls cs
    simp only [if_true]
    refine ⟨?_, ?_, ?_⟩
    · split
      · omega
      · split
        · omega
        · simp
    · split
      · omega
      · split
        · omega
        · split
          · simp; omega
          · simp
    · split
      · omega
      · split
        · omega
        · split
          · simp; omega
          · simp
set_option maxHeartbeats 12800000 in
theorem restartLaw (va vl vc : Value) (ts : List Tk) (ls cs : List Int) (d : Int) (w : World) (h : Rbk w va vl vc ts ls cs) :
    Calls Try.prog 5 #[.agg (B3 va vl vc), .int .i64 d] w fun e w' => e = .returned (.bool true) ∧ Below w.heap.size w w' := by
  have hlen : (rsT ts ls cs d).length ≤ 30 ∧ (rsL ts ls cs d).length ≤ 30 ∧ (rsC ts ls cs d).length ≤ 30 := rs_len ts ls cs d
  have hci : ∀ W va vl vc, Rbk W va vl vc ts ls cs → Calls Try.prog 19 #[.agg (B3 va vl vc), .int .i64 d] W (RsQ (rsT ts ls cs d) (rsL ts ls cs d) (rsC ts ls cs d) (rsB ts ls cs d) W) := fun W va vl vc h => restartI_c va vl vc ts ls cs d W h
  have hcm : ∀ W va vl vc, Rbk W va vl vc ts ls cs → Calls Try.prog 18 #[.agg (B3 va vl vc), .int .i64 d] W (RsQ (rsT ts ls cs d) (rsL ts ls cs d) (rsC ts ls cs d) (rsB ts ls cs d) W) := fun W va vl vc h => restartM_c va vl vc ts ls cs d W h
  obtain ⟨T, hT⟩ : ∃ T, rsT ts ls cs d = T := ⟨_, rfl⟩
  obtain ⟨L, hL⟩ : ∃ T, rsL ts ls cs d = T := ⟨_, rfl⟩
  obtain ⟨C, hC⟩ : ∃ T, rsC ts ls cs d = T := ⟨_, rfl⟩
  obtain ⟨B, hB⟩ : ∃ T, rsB ts ls cs d = T := ⟨_, rfl⟩
  rw [hT, hL, hC] at hlen
  rw [hT, hL, hC, hB] at hci hcm
  have hbb : (B != B) = false := by simp
  have HLG : Hid (T.length ≤ 30 ∧ L.length ≤ 30 ∧ C.length ≤ 30) := hlen
  have HCI : Hid (∀ W va vl vc, Rbk W va vl vc ts ls cs → Calls Try.prog 19 #[.agg (B3 va vl vc), .int .i64 d] W (RsQ T L C B W)) := hci
  have HCM : Hid (∀ W va vl vc, Rbk W va vl vc ts ls cs → Calls Try.prog 18 #[.agg (B3 va vl vc), .int .i64 d] W (RsQ T L C B W)) := hcm
  clear hlen hci hcm hT hL hC hB
  obtain ⟨W0, hW0⟩ : ∃ W0, w.alloc (Obj.cells (B3 va vl vc) 25) = W0 := ⟨_, rfl⟩
  have hb0 : Below w.heap.size w W0 := by rw [← hW0]; exact (Below.refl _ _).alloc (Nat.le_refl _) _
  have HB0 : Hid (Below w.heap.size w W0) := hb0
  have HK0 : Hid (Blk W0 w.heap.size (B3 va vl vc) 25) := by show Blk _ _ _ _; rw [← hW0]; exact Blk.new _ _ _
  have HH0 : Hid (Rbk W0 va vl vc ts ls cs) := h.below hb0
  obtain ⟨⟨a, cap, rfl, -⟩, ⟨a', cap', rfl, -⟩, ⟨a'', cap'', rfl, -⟩⟩ := h
  have x0 := HK0.out.cell 0
  have x1 := HK0.out.cell 1
  have x2 := HK0.out.cell 2
  simp at x0 x1 x2
  have HW0 : Hid (_ = W0) := hW0
  clear hb0 hW0
  go_enter Try.func5, Try.ntmps5
  go_wp2_with (fail)
  rw [HW0.out]
  refine (szBook_c _ _ _ ts ls cs W0 HH0.out).mono ?_
  rintro e w1 ⟨z, rfl, hz, b1⟩
  have HB1 : Hid (Below W0.heap.size W0 w1) := b1
  have HZ : Hid (¬ z < 0 → ts.length ≤ 1048576 ∧ ls.length ≤ 1048576 ∧ cs.length ≤ 1048576) := fun h => by omega
  clear b1 hz x0 x1 x2 HW0
  by_cases hneg : z < 0
  · go_wp2
    go_ret
    exact ⟨rfl, belowCall HB0.out HB1.out HB0.out.size⟩
  have HL : Hid (ts.length ≤ 1048576 ∧ ls.length ≤ 1048576 ∧ cs.length ≤ 1048576) := HZ.out hneg
  clear HZ
  have B_w1 : Hid (Below W0.heap.size W0 w1) := HB1.out
  have KA := HK0.out.below B_w1.out HK0.out.lt
  have x0 := KA.cell 0
  have x1 := KA.cell 1
  have x2 := KA.cell 2
  simp at x0 x1 x2
  go_wp2_with (fail)
  refine (toBook_c _ _ _ ts ls cs w1 (HH0.out.below B_w1.out) HL.out.1 HL.out.2.1 HL.out.2.2).mono ?_
  rintro e w2 ⟨m0, m1, m2, rfl, o, b⟩
  have B_w2 : Hid (Below W0.heap.size W0 w2) := belowCall B_w1.out b B_w1.out.size
  clear b B_w1 x0 x1 x2 KA
  have M_w2 : Hid (Obk w1.heap.size w2 m0 m1 m2 ts ls cs) := o
  clear o
  go_wp2_with (fail)
  refine (HCM.out w2 _ _ _ M_w2.out.rd).mono ?_
  rintro e w3 ⟨qa, ql, qc, rfl, o, b⟩
  have B_w3 : Hid (Below W0.heap.size W0 w3) := belowCall B_w2.out b B_w2.out.size
  have M_w3 : Hid (Obk w1.heap.size w3 m0 m1 m2 ts ls cs) := M_w2.out.below b
  clear b B_w2 M_w2
  obtain ⟨qa0, qan, qaq, rfl⟩ : ∃ a L c, qa = .slice a L c := by obtain ⟨a, c, e⟩ := o.1.form; exact ⟨a, _, c, e⟩
  obtain ⟨ql0, qln, qlq, rfl⟩ : ∃ a L c, ql = .slice a L c := by obtain ⟨a, c, e⟩ := o.2.1.form; exact ⟨a, _, c, e⟩
  obtain ⟨qc0, qcn, qcq, rfl⟩ : ∃ a L c, qc = .slice a L c := by obtain ⟨a, c, e⟩ := o.2.2.1.form; exact ⟨a, _, c, e⟩
  have q_w3 : Hid (Obk w2.heap.size w3 (.slice qa0 qan qaq) (.slice ql0 qln qlq) (.slice qc0 qcn qcq) T L C) := o
  clear o
  have ba : Below w3.heap.size w3 (w3.alloc (Obj.cells (B3 (.slice qa0 qan qaq) (.slice ql0 qln qlq) (.slice qc0 qcn qcq)) 30)) := (Below.refl _ _).alloc (Nat.le_refl _) _
  have kb : Blk (w3.alloc (Obj.cells (B3 (.slice qa0 qan qaq) (.slice ql0 qln qlq) (.slice qc0 qcn qcq)) 30)) w3.heap.size (B3 (.slice qa0 qan qaq) (.slice ql0 qln qlq) (.slice qc0 qcn qcq)) 30 := Blk.new _ _ _
  obtain ⟨X4, hX4⟩ : ∃ X, w3.heap.size = X := ⟨_, rfl⟩
  obtain ⟨W4, hW4⟩ : ∃ W, w3.alloc (Obj.cells (B3 (.slice qa0 qan qaq) (.slice ql0 qln qlq) (.slice qc0 qcn qcq)) 30) = W := ⟨_, rfl⟩
  rw [hW4] at ba kb
  rw [hX4] at kb
  have B_W4 : Hid (Below W0.heap.size W0 W4) := belowCall B_w3.out ba B_w3.out.size
  have q_W4 : Hid (Obk w2.heap.size W4 (.slice qa0 qan qaq) (.slice ql0 qln qlq) (.slice qc0 qcn qcq) T L C) := q_w3.out.below ba
  have QB_W4 : Hid (Blk W4 X4 (B3 (.slice qa0 qan qaq) (.slice ql0 qln qlq) (.slice qc0 qcn qcq)) 30) := kb
  clear ba kb B_w3 q_w3
  have HM : Hid (Rbk W4 (.slice qa0 qan qaq) (.slice ql0 qln qlq) (.slice qc0 qcn qcq) T L C ∧ True) := ⟨q_W4.out.rd, trivial⟩
  have HMB : Hid (Blk W4 X4 (B3 (.slice qa0 qan qaq) (.slice ql0 qln qlq) (.slice qc0 qcn qcq)) 30) := QB_W4.out
  have HMS : Hid (W0.heap.size ≤ W4.heap.size) := B_W4.out.size
  have BM_W4 : Hid (Below W4.heap.size W4 W4) := Below.refl _ _
  have KA := HK0.out.below B_W4.out HK0.out.lt
  have x0 := KA.cell 0
  have x1 := KA.cell 1
  have x2 := KA.cell 2
  simp at x0 x1 x2
  go_wp2_with (fail)
  refine (toBook_c _ _ _ ts ls cs W4 (HH0.out.below B_W4.out) HL.out.1 HL.out.2.1 HL.out.2.2).mono ?_
  rintro e w5 ⟨u0, u1, u2, rfl, o, b⟩
  have B_w5 : Hid (Below W0.heap.size W0 w5) := belowCall B_W4.out b B_W4.out.size
  have BM_w5 : Hid (Below W4.heap.size W4 w5) := belowCall BM_W4.out b BM_W4.out.size
  clear b B_W4 BM_W4 M_w3 hW4 hX4 q_W4 QB_W4 x0 x1 x2 KA
  have X_w5 : Hid (Obk W4.heap.size w5 u0 u1 u2 ts ls cs) := o
  clear o
  obtain ⟨e0, q0, hq0⟩ := X_w5.out.1.form
  obtain ⟨e1, q1, hq1⟩ := X_w5.out.2.1.form
  obtain ⟨e2, q2, hq2⟩ := X_w5.out.2.2.1.form
  subst hq0 hq1 hq2
  have XX_w5 : Hid (Obk W4.heap.size w5 (.slice e0 ts.length q0) (.slice e1 ls.length q1) (.slice e2 cs.length q2) ts ls cs) := X_w5.out
  have ba : Below w5.heap.size w5 (w5.alloc (Obj.cells (B3 (.slice e0 ts.length q0) (.slice e1 ls.length q1) (.slice e2 cs.length q2)) 30)) := (Below.refl _ _).alloc (Nat.le_refl _) _
  have kb : Blk (w5.alloc (Obj.cells (B3 (.slice e0 ts.length q0) (.slice e1 ls.length q1) (.slice e2 cs.length q2)) 30)) w5.heap.size (B3 (.slice e0 ts.length q0) (.slice e1 ls.length q1) (.slice e2 cs.length q2)) 30 := Blk.new _ _ _
  obtain ⟨X6, hX6⟩ : ∃ X, w5.heap.size = X := ⟨_, rfl⟩
  obtain ⟨W6, hW6⟩ : ∃ W, w5.alloc (Obj.cells (B3 (.slice e0 ts.length q0) (.slice e1 ls.length q1) (.slice e2 cs.length q2)) 30) = W := ⟨_, rfl⟩
  rw [hW6] at ba kb
  rw [hX6] at kb
  have B_W6 : Hid (Below W0.heap.size W0 W6) := belowCall B_w5.out ba B_w5.out.size
  have BM_W6 : Hid (Below W4.heap.size W4 W6) := belowCall BM_w5.out ba BM_w5.out.size
  have XX_W6 : Hid (Obk W4.heap.size W6 (.slice e0 ts.length q0) (.slice e1 ls.length q1) (.slice e2 cs.length q2) ts ls cs) := XX_w5.out.below ba
  have XB_W6 : Hid (Blk W6 X6 (B3 (.slice e0 ts.length q0) (.slice e1 ls.length q1) (.slice e2 cs.length q2)) 30) := kb
  clear ba kb B_w5 BM_w5 XX_w5
  have HSX : Hid (W4.heap.size ≤ W6.heap.size) := BM_W6.out.size
  have HXL : Hid (∀ k, InB (.slice e0 ts.length q0) (.slice e1 ls.length q1) (.slice e2 cs.length q2) k → W4.heap.size ≤ k ∧ k < W6.heap.size) := fun k hk => XX_W6.out.lt k hk
  have t0 := XB_W6.out.cell 0
  have t1 := XB_W6.out.cell 1
  have t2 := XB_W6.out.cell 2
  simp at t0 t1 t2
  go_wp2_with (fail)
  refine (HCI.out W6 _ _ _ XX_W6.out.rd).mono ?_
  rintro e w7 ⟨ga, gl, gc, rfl, o, b⟩
  have HGS : Hid (W6.heap.size ≤ w7.heap.size) := b.size
  have B_w7 : Hid (Below W0.heap.size W0 w7) := belowCall B_W6.out b B_W6.out.size
  have BM_w7 : Hid (Below W4.heap.size W4 w7) := belowCall BM_W6.out b BM_W6.out.size
  have XX_w7 : Hid (Obk W4.heap.size w7 (.slice e0 ts.length q0) (.slice e1 ls.length q1) (.slice e2 cs.length q2) ts ls cs) := XX_W6.out.below b
  have XB_w7 : Hid (Blk w7 X6 (B3 (.slice e0 ts.length q0) (.slice e1 ls.length q1) (.slice e2 cs.length q2)) 30) := XB_W6.out.below b XB_W6.out.lt
  clear b B_W6 BM_W6 XX_W6 XB_W6 X_w5 hW6 hX6 t0 t1 t2
  obtain ⟨ga0, gan, gaq, rfl⟩ : ∃ a L c, ga = .slice a L c := by obtain ⟨a, c, e⟩ := o.1.form; exact ⟨a, _, c, e⟩
  obtain ⟨gl0, gln, glq, rfl⟩ : ∃ a L c, gl = .slice a L c := by obtain ⟨a, c, e⟩ := o.2.1.form; exact ⟨a, _, c, e⟩
  obtain ⟨gc0, gcn, gcq, rfl⟩ : ∃ a L c, gc = .slice a L c := by obtain ⟨a, c, e⟩ := o.2.2.1.form; exact ⟨a, _, c, e⟩
  have g_w7 : Hid (Obk W6.heap.size w7 (.slice ga0 gan gaq) (.slice gl0 gln glq) (.slice gc0 gcn gcq) T L C) := o
  clear o
  have GBS : Hid (W6.heap.size ≤ w7.heap.size) := HGS.out
  have ba : Below w7.heap.size w7 (w7.alloc (Obj.cells (B3 (.slice ga0 gan gaq) (.slice gl0 gln glq) (.slice gc0 gcn gcq)) 30)) := (Below.refl _ _).alloc (Nat.le_refl _) _
  have kb : Blk (w7.alloc (Obj.cells (B3 (.slice ga0 gan gaq) (.slice gl0 gln glq) (.slice gc0 gcn gcq)) 30)) w7.heap.size (B3 (.slice ga0 gan gaq) (.slice gl0 gln glq) (.slice gc0 gcn gcq)) 30 := Blk.new _ _ _
  obtain ⟨X8, hX8⟩ : ∃ X, w7.heap.size = X := ⟨_, rfl⟩
  obtain ⟨W8, hW8⟩ : ∃ W, w7.alloc (Obj.cells (B3 (.slice ga0 gan gaq) (.slice gl0 gln glq) (.slice gc0 gcn gcq)) 30) = W := ⟨_, rfl⟩
  rw [hW8] at ba kb
  rw [hX8] at kb
  have B_W8 : Hid (Below W0.heap.size W0 W8) := belowCall B_w7.out ba B_w7.out.size
  have BM_W8 : Hid (Below W4.heap.size W4 W8) := belowCall BM_w7.out ba BM_w7.out.size
  have XX_W8 : Hid (Obk W4.heap.size W8 (.slice e0 ts.length q0) (.slice e1 ls.length q1) (.slice e2 cs.length q2) ts ls cs) := XX_w7.out.below ba
  have XB_W8 : Hid (Blk W8 X6 (B3 (.slice e0 ts.length q0) (.slice e1 ls.length q1) (.slice e2 cs.length q2)) 30) := XB_w7.out.below ba XB_w7.out.lt
  have g_W8 : Hid (Obk W6.heap.size W8 (.slice ga0 gan gaq) (.slice gl0 gln glq) (.slice gc0 gcn gcq) T L C) := g_w7.out.below ba
  have GB_W8 : Hid (Blk W8 X8 (B3 (.slice ga0 gan gaq) (.slice gl0 gln glq) (.slice gc0 gcn gcq)) 30) := kb
  have HGX : Hid (W6.heap.size ≤ X8) := by show _ ≤ _; rw [← hX8]; exact GBS.out
  clear ba kb B_w7 BM_w7 XX_w7 XB_w7 g_w7
  have KM := HMB.out.below BM_W8.out HMB.out.lt
  have m0 := KM.cell 0
  have m1 := KM.cell 1
  have m2 := KM.cell 2
  simp at m0 m1 m2
  have t0 := GB_W8.out.cell 0
  have t1 := GB_W8.out.cell 1
  have t2 := GB_W8.out.cell 2
  simp at t0 t1 t2
  go_wp2_with (fail)
  refine (eqBook_c _ _ _ _ _ _ T T L C L C W8 g_W8.out.rd (HM.out.1.below BM_W8.out)).mono ?_
  rintro e w9 ⟨rfl, b⟩
  have B_w9 : Hid (Below W0.heap.size W0 w9) := belowCall B_W8.out b B_W8.out.size
  have BM_w9 : Hid (Below W4.heap.size W4 w9) := belowCall BM_W8.out b BM_W8.out.size
  have XX_w9 : Hid (Obk W4.heap.size w9 (.slice e0 ts.length q0) (.slice e1 ls.length q1) (.slice e2 cs.length q2) ts ls cs) := XX_W8.out.below b
  have XB_w9 : Hid (Blk w9 X6 (B3 (.slice e0 ts.length q0) (.slice e1 ls.length q1) (.slice e2 cs.length q2)) 30) := XB_W8.out.below b XB_W8.out.lt
  have g_w9 : Hid (Obk W6.heap.size w9 (.slice ga0 gan gaq) (.slice gl0 gln glq) (.slice gc0 gcn gcq) T L C) := g_W8.out.below b
  have GB_w9 : Hid (Blk w9 X8 (B3 (.slice ga0 gan gaq) (.slice gl0 gln glq) (.slice gc0 gcn gcq)) 30) := GB_W8.out.below b GB_W8.out.lt
  clear b B_W8 BM_W8 XX_W8 XB_W8 g_W8 GB_W8 hW8 hX8 m0 m1 m2 KM t0 t1 t2
  rw [decide_eq_true (⟨rfl, rfl, rfl⟩ : T = T ∧ L = L ∧ C = C)]
  obtain ⟨S, hS⟩ : ∃ S : World → Prop, ∀ W, S W ↔ Below w9.heap.size w9 W := ⟨_, fun _ => Iff.rfl⟩
  have KA := HK0.out.below B_w9.out HK0.out.lt
  have KX := XB_w9.out
  have zc0 : ∀ W : At S, W.wd.cell? ⟨w.heap.size, 0, none⟩ = some (.slice a ts.length cap) := fun W => by rw [(KA.below ((hS _).1 W.ok) KA.lt).cell 0]; rfl
  have zc1 : ∀ W : At S, W.wd.cell? ⟨w.heap.size, 1, none⟩ = some (.slice a' ls.length cap') := fun W => by rw [(KA.below ((hS _).1 W.ok) KA.lt).cell 1]; rfl
  have zc2 : ∀ W : At S, W.wd.cell? ⟨w.heap.size, 2, none⟩ = some (.slice a'' cs.length cap'') := fun W => by rw [(KA.below ((hS _).1 W.ok) KA.lt).cell 2]; rfl
  have zx0 : ∀ W : At S, W.wd.cell? ⟨X6, 0, none⟩ = some (.slice e0 ts.length q0) := fun W => by rw [(KX.below ((hS _).1 W.ok) KX.lt).cell 0]; rfl
  have zx1 : ∀ W : At S, W.wd.cell? ⟨X6, 1, none⟩ = some (.slice e1 ls.length q1) := fun W => by rw [(KX.below ((hS _).1 W.ok) KX.lt).cell 1]; rfl
  have zx2 : ∀ W : At S, W.wd.cell? ⟨X6, 2, none⟩ = some (.slice e2 cs.length q2) := fun W => by rw [(KX.below ((hS _).1 W.ok) KX.lt).cell 2]; rfl
  have HS : Hid (∀ W, S W ↔ Below w9.heap.size w9 W) := hS
  have ne : Nonempty (At S) := ⟨⟨w9, (hS _).2 (Below.refl _ _)⟩⟩
  clear hS KA KX
  go_wp2
  refine region_mixA [true, true, false, false, false] 5 3 S (by kernel_rfl) rfl (by kernel_rfl) (fun _ _ _ _ _ h => h) ((HS.out _).2 (Below.refl _ _).drew) ?_
  simp only [selT, selF]
  repeat (go_big_quiet_step (fail))
  refine wpQuiet_nil ?_
  refine tail_step ?_
  go_wp2_with (fail)
  refine (toBook_c _ _ _ ts ls cs w9.drew (HH0.out.below B_w9.out.drew) HL.out.1 HL.out.2.1 HL.out.2.2).mono ?_
  rintro e wd ⟨d0, d1, d2, rfl, o, b⟩
  have Bd : Below w9.heap.size w9 wd := (Below.refl _ _).drew.trans b
  have HBd : Hid (Below w9.heap.size w9 wd) := Bd
  have HOd : Hid (Rbk wd d0 d1 d2 ts ls cs ∧ Rbk wd (.slice e0 ts.length q0) (.slice e1 ls.length q1) (.slice e2 cs.length q2) ts ls cs) := ⟨o.rd, XX_w9.out.rd.below Bd⟩
  clear o b Bd zc0 zc1 zc2 zx0 zx1 zx2
  go_wp2
  refine ⟨(HS.out _).2 HBd.out, tail_step ?_⟩
  go_wp2_with (fail)
  refine (eqBook_c _ _ _ _ _ _ ts ts ls cs ls cs wd HOd.out.2 HOd.out.1).mono ?_
  rintro e we ⟨rfl, b8⟩
  rw [decide_eq_true (⟨rfl, rfl, rfl⟩ : ts = ts ∧ ls = ls ∧ cs = cs)]
  have HBe : Hid (Below w9.heap.size w9 we) := belowCall HBd.out b8 HBd.out.size
  clear b8 HOd HBd
  go_wp2
  refine ⟨(HS.out _).2 HBe.out, tail_step ?_⟩
  go_wp2
  refine ⟨(HS.out _).2 HBe.out, tail_end ?_⟩
  have B_we : Hid (Below W0.heap.size W0 we) := belowCall B_w9.out HBe.out B_w9.out.size
  have BM_we : Hid (Below W4.heap.size W4 we) := belowCall BM_w9.out HBe.out BM_w9.out.size
  have XX_we : Hid (Obk W4.heap.size we (.slice e0 ts.length q0) (.slice e1 ls.length q1) (.slice e2 cs.length q2) ts ls cs) := XX_w9.out.below HBe.out
  have XB_we : Hid (Blk we X6 (B3 (.slice e0 ts.length q0) (.slice e1 ls.length q1) (.slice e2 cs.length q2)) 30) := XB_w9.out.below HBe.out XB_w9.out.lt
  have g_we : Hid (Obk W6.heap.size we (.slice ga0 gan gaq) (.slice gl0 gln glq) (.slice gc0 gcn gcq) T L C) := g_w9.out.below HBe.out
  have GB_we : Hid (Blk we X8 (B3 (.slice ga0 gan gaq) (.slice gl0 gln glq) (.slice gc0 gcn gcq)) 30) := GB_w9.out.below HBe.out GB_w9.out.lt
  clear HBe HS ne B_w9 BM_w9 XX_w9 XB_w9 g_w9 GB_w9
  have t0 := XB_we.out.cell 0
  have t1 := XB_we.out.cell 1
  have t2 := XB_we.out.cell 2
  simp at t0 t1 t2
  go_wp2_with (fail)
  refine (markBook_c W4.heap.size 1 _ _ _ ts ls cs we XX_we.out (by decide) (by have := HL.out; omega)).mono ?_
  rintro e w10 ⟨rfl, o, f⟩
  have B_w10 : Hid (Below W0.heap.size W0 w10) := B_we.out.trans (f.below (Nat.le_trans HMS.out BM_we.out.size) (fun k hk => Nat.le_trans HMS.out (HXL.out k hk).1))
  have BM_w10 : Hid (Below W4.heap.size W4 w10) := BM_we.out.trans (f.below BM_we.out.size (fun k hk => (HXL.out k hk).1))
  have g_w10 : Hid (Obk W6.heap.size w10 (.slice ga0 gan gaq) (.slice gl0 gln glq) (.slice gc0 gcn gcq) T L C) := g_we.out.fr f (fun k hk h => by have h1 := (HXL.out k h).2; have h2 := (g_we.out.lt k hk).1; omega)
  have GB_w10 : Hid (Blk w10 X8 (B3 (.slice ga0 gan gaq) (.slice gl0 gln glq) (.slice gc0 gcn gcq)) 30) := GB_we.out.fr f (fun h => by have h1 := (HXL.out _ h).2; have h2 := HGX.out; omega)
  clear o f B_we BM_we g_we GB_we t0 t1 t2 XX_we XB_we
  obtain ⟨kk, hkk⟩ : ∃ z, (1 : Int) + 3 * ts.length + ls.length + cs.length = z := ⟨_, rfl⟩
  have hkn : ¬ kk < 0 := by omega
  rw [hkk]
  clear hkk
  have KM := HMB.out.below BM_w10.out HMB.out.lt
  have m0 := KM.cell 0
  have m1 := KM.cell 1
  have m2 := KM.cell 2
  simp at m0 m1 m2
  have t0 := GB_w10.out.cell 0
  have t1 := GB_w10.out.cell 1
  have t2 := GB_w10.out.cell 2
  simp at t0 t1 t2
  go_wp2_with (fail)
  refine (eqBook_c _ _ _ _ _ _ T T L C L C w10 g_w10.out.rd (HM.out.1.below BM_w10.out)).mono ?_
  rintro e w11 ⟨rfl, b⟩
  have B_w11 : Hid (Below W0.heap.size W0 w11) := belowCall B_w10.out b B_w10.out.size
  have BM_w11 : Hid (Below W4.heap.size W4 w11) := belowCall BM_w10.out b BM_w10.out.size
  have g_w11 : Hid (Obk W6.heap.size w11 (.slice ga0 gan gaq) (.slice gl0 gln glq) (.slice gc0 gcn gcq) T L C) := g_w10.out.below b
  have GB_w11 : Hid (Blk w11 X8 (B3 (.slice ga0 gan gaq) (.slice gl0 gln glq) (.slice gc0 gcn gcq)) 30) := GB_w10.out.below b GB_w10.out.lt
  clear b B_w10 BM_w10 g_w10 GB_w10 m0 m1 m2 KM t0 t1 t2
  rw [decide_eq_true (⟨rfl, rfl, rfl⟩ : T = T ∧ L = L ∧ C = C)]
  have t0 := GB_w11.out.cell 0
  have t1 := GB_w11.out.cell 1
  have t2 := GB_w11.out.cell 2
  simp at t0 t1 t2
  go_wp2_with (fail)
  refine (markBook_c W6.heap.size 1 _ _ _ T L C w11 g_w11.out (by decide) (by have := HLG.out; omega)).mono ?_
  rintro e w12 ⟨rfl, o, f⟩
  have B_w12 : Hid (Below W0.heap.size W0 w12) := B_w11.out.trans (f.below (Nat.le_trans HMS.out BM_w11.out.size) (fun k hk => Nat.le_trans (Nat.le_trans HMS.out HSX.out) (g_w11.out.lt k hk).1))
  have BM_w12 : Hid (Below W4.heap.size W4 w12) := BM_w11.out.trans (f.below BM_w11.out.size (fun k hk => Nat.le_trans HSX.out (g_w11.out.lt k hk).1))
  have GB_w12 : Hid (Blk w12 X8 (B3 (.slice ga0 gan gaq) (.slice gl0 gln glq) (.slice gc0 gcn gcq)) 30) := GB_w11.out.fr f (fun h => by rcases h with h | h | h; exact row_blk g_w11.out.1 GB_w11.out (by decide) h; exact row_blk g_w11.out.2.1 GB_w11.out (by decide) h; exact row_blk g_w11.out.2.2.1 GB_w11.out (by decide) h)
  clear f B_w11 BM_w11 GB_w11 t0 t1 t2 g_w11
  have g_w12 : Hid (Obk W6.heap.size w12 (.slice ga0 gan gaq) (.slice gl0 gln glq) (.slice gc0 gcn gcq) (mkT 1 T.length) (marks .i64 (1 + 3 * T.length) L.length) (marks .i64 (1 + 3 * T.length + L.length) C.length)) := o
  clear o
  obtain ⟨mm, hmm⟩ : ∃ z, (1 : Int) + 3 * T.length + L.length + C.length = z := ⟨_, rfl⟩
  have HMM : Hid ((1 : Int) + 3 * T.length + L.length + C.length = mm) := hmm
  rw [hmm]
  clear hmm
  have t0 := GB_w12.out.cell 0
  have t1 := GB_w12.out.cell 1
  have t2 := GB_w12.out.cell 2
  simp at t0 t1 t2
  go_wp2_with (fail)
  refine (heldBook_c 1 _ _ _ T.length L.length C.length w12 g_w12.out.rd (by decide) (by have := HLG.out; omega)).mono ?_
  rintro e w13 ⟨rfl, b⟩
  have B_w13 : Hid (Below W0.heap.size W0 w13) := belowCall B_w12.out b B_w12.out.size
  have BM_w13 : Hid (Below W4.heap.size W4 w13) := belowCall BM_w12.out b BM_w12.out.size
  have GB_w13 : Hid (Blk w13 X8 (B3 (.slice ga0 gan gaq) (.slice gl0 gln glq) (.slice gc0 gcn gcq)) 30) := GB_w12.out.below b GB_w12.out.lt
  have g_w13 : Hid (Obk W6.heap.size w13 (.slice ga0 gan gaq) (.slice gl0 gln glq) (.slice gc0 gcn gcq) (mkT 1 T.length) (marks .i64 (1 + 3 * T.length) L.length) (marks .i64 (1 + 3 * T.length + L.length) C.length)) := g_w12.out.below b
  clear b B_w12 BM_w12 GB_w12 g_w12 t0 t1 t2
  rw [HMM.out]
  have hmn : ¬ mm < 0 := by have := HMM.out; omega
  have hqm : (mm != mm) = false := by simp
  have KA := HK0.out.below B_w13.out HK0.out.lt
  have x0 := KA.cell 0
  have x1 := KA.cell 1
  have x2 := KA.cell 2
  simp at x0 x1 x2
  go_wp2_with (fail)
  refine (toBook_c _ _ _ ts ls cs w13 (HH0.out.below B_w13.out) HL.out.1 HL.out.2.1 HL.out.2.2).mono ?_
  rintro e w14 ⟨y0, y1, y2, rfl, o, b⟩
  have B_w14 : Hid (Below W0.heap.size W0 w14) := belowCall B_w13.out b B_w13.out.size
  have BM_w14 : Hid (Below W4.heap.size W4 w14) := belowCall BM_w13.out b BM_w13.out.size
  have GB_w14 : Hid (Blk w14 X8 (B3 (.slice ga0 gan gaq) (.slice gl0 gln glq) (.slice gc0 gcn gcq)) 30) := GB_w13.out.below b GB_w13.out.lt
  have g_w14 : Hid (Obk W6.heap.size w14 (.slice ga0 gan gaq) (.slice gl0 gln glq) (.slice gc0 gcn gcq) (mkT 1 T.length) (marks .i64 (1 + 3 * T.length) L.length) (marks .i64 (1 + 3 * T.length + L.length) C.length)) := g_w13.out.below b
  clear b B_w13 BM_w13 GB_w13 g_w13 x0 x1 x2 KA
  have Y_w14 : Hid (Obk w13.heap.size w14 y0 y1 y2 ts ls cs) := o
  clear o
  clear hmn hqm
  go_wp2_with (fail)
  refine (HCI.out w14 _ _ _ Y_w14.out.rd).mono ?_
  rintro e w15 ⟨ha, hl, hc, rfl, o, b⟩
  have B_w15 : Hid (Below W0.heap.size W0 w15) := belowCall B_w14.out b B_w14.out.size
  have BM_w15 : Hid (Below W4.heap.size W4 w15) := belowCall BM_w14.out b BM_w14.out.size
  have GB_w15 : Hid (Blk w15 X8 (B3 (.slice ga0 gan gaq) (.slice gl0 gln glq) (.slice gc0 gcn gcq)) 30) := GB_w14.out.below b GB_w14.out.lt
  have g_w15 : Hid (Obk W6.heap.size w15 (.slice ga0 gan gaq) (.slice gl0 gln glq) (.slice gc0 gcn gcq) (mkT 1 T.length) (marks .i64 (1 + 3 * T.length) L.length) (marks .i64 (1 + 3 * T.length + L.length) C.length)) := g_w14.out.below b
  have Y_w15 : Hid (Obk w13.heap.size w15 y0 y1 y2 ts ls cs) := Y_w14.out.below b
  clear b B_w14 BM_w14 GB_w14 g_w14 Y_w14
  obtain ⟨ha0, han, haq, rfl⟩ : ∃ a L c, ha = .slice a L c := by obtain ⟨a, c, e⟩ := o.1.form; exact ⟨a, _, c, e⟩
  obtain ⟨hl0, hln, hlq, rfl⟩ : ∃ a L c, hl = .slice a L c := by obtain ⟨a, c, e⟩ := o.2.1.form; exact ⟨a, _, c, e⟩
  obtain ⟨hc0, hcn, hcq, rfl⟩ : ∃ a L c, hc = .slice a L c := by obtain ⟨a, c, e⟩ := o.2.2.1.form; exact ⟨a, _, c, e⟩
  have h_w15 : Hid (Obk w14.heap.size w15 (.slice ha0 han haq) (.slice hl0 hln hlq) (.slice hc0 hcn hcq) T L C) := o
  clear o
  have ba : Below w15.heap.size w15 (w15.alloc (Obj.cells (B3 (.slice ha0 han haq) (.slice hl0 hln hlq) (.slice hc0 hcn hcq)) 30)) := (Below.refl _ _).alloc (Nat.le_refl _) _
  have kb : Blk (w15.alloc (Obj.cells (B3 (.slice ha0 han haq) (.slice hl0 hln hlq) (.slice hc0 hcn hcq)) 30)) w15.heap.size (B3 (.slice ha0 han haq) (.slice hl0 hln hlq) (.slice hc0 hcn hcq)) 30 := Blk.new _ _ _
  obtain ⟨X16, hX16⟩ : ∃ X, w15.heap.size = X := ⟨_, rfl⟩
  obtain ⟨W16, hW16⟩ : ∃ W, w15.alloc (Obj.cells (B3 (.slice ha0 han haq) (.slice hl0 hln hlq) (.slice hc0 hcn hcq)) 30) = W := ⟨_, rfl⟩
  rw [hW16] at ba kb
  rw [hX16] at kb
  have B_W16 : Hid (Below W0.heap.size W0 W16) := belowCall B_w15.out ba B_w15.out.size
  have BM_W16 : Hid (Below W4.heap.size W4 W16) := belowCall BM_w15.out ba BM_w15.out.size
  have GB_W16 : Hid (Blk W16 X8 (B3 (.slice ga0 gan gaq) (.slice gl0 gln glq) (.slice gc0 gcn gcq)) 30) := GB_w15.out.below ba GB_w15.out.lt
  have g_W16 : Hid (Obk W6.heap.size W16 (.slice ga0 gan gaq) (.slice gl0 gln glq) (.slice gc0 gcn gcq) (mkT 1 T.length) (marks .i64 (1 + 3 * T.length) L.length) (marks .i64 (1 + 3 * T.length + L.length) C.length)) := g_w15.out.below ba
  have h_W16 : Hid (Obk w14.heap.size W16 (.slice ha0 han haq) (.slice hl0 hln hlq) (.slice hc0 hcn hcq) T L C) := h_w15.out.below ba
  have HB_W16 : Hid (Blk W16 X16 (B3 (.slice ha0 han haq) (.slice hl0 hln hlq) (.slice hc0 hcn hcq)) 30) := kb
  clear ba kb B_w15 BM_w15 GB_w15 g_w15 h_w15
  have KM := HMB.out.below BM_W16.out HMB.out.lt
  have m0 := KM.cell 0
  have m1 := KM.cell 1
  have m2 := KM.cell 2
  simp at m0 m1 m2
  have t0 := HB_W16.out.cell 0
  have t1 := HB_W16.out.cell 1
  have t2 := HB_W16.out.cell 2
  simp at t0 t1 t2
  go_wp2_with (fail)
  refine (eqBook_c _ _ _ _ _ _ T T L C L C W16 h_W16.out.rd (HM.out.1.below BM_W16.out)).mono ?_
  rintro e w17 ⟨rfl, b⟩
  have B_w17 : Hid (Below W0.heap.size W0 w17) := belowCall B_W16.out b B_W16.out.size
  have BM_w17 : Hid (Below W4.heap.size W4 w17) := belowCall BM_W16.out b BM_W16.out.size
  have GB_w17 : Hid (Blk w17 X8 (B3 (.slice ga0 gan gaq) (.slice gl0 gln glq) (.slice gc0 gcn gcq)) 30) := GB_W16.out.below b GB_W16.out.lt
  have g_w17 : Hid (Obk W6.heap.size w17 (.slice ga0 gan gaq) (.slice gl0 gln glq) (.slice gc0 gcn gcq) (mkT 1 T.length) (marks .i64 (1 + 3 * T.length) L.length) (marks .i64 (1 + 3 * T.length + L.length) C.length)) := g_W16.out.below b
  have h_w17 : Hid (Obk w14.heap.size w17 (.slice ha0 han haq) (.slice hl0 hln hlq) (.slice hc0 hcn hcq) T L C) := h_W16.out.below b
  have HB_w17 : Hid (Blk w17 X16 (B3 (.slice ha0 han haq) (.slice hl0 hln hlq) (.slice hc0 hcn hcq)) 30) := HB_W16.out.below b HB_W16.out.lt
  clear b B_W16 BM_W16 GB_W16 g_W16 h_W16 HB_W16 Y_w15 hW16 hX16 m0 m1 m2 KM t0 t1 t2
  rw [decide_eq_true (⟨rfl, rfl, rfl⟩ : T = T ∧ L = L ∧ C = C)]
  have t0 := GB_w17.out.cell 0
  have t1 := GB_w17.out.cell 1
  have t2 := GB_w17.out.cell 2
  simp at t0 t1 t2
  go_wp2_with (fail)
  refine (heldBook_c 1 _ _ _ T.length L.length C.length w17 g_w17.out.rd (by decide) (by have := HLG.out; omega)).mono ?_
  rintro e w18 ⟨rfl, b⟩
  have B_w18 : Hid (Below W0.heap.size W0 w18) := belowCall B_w17.out b B_w17.out.size
  have BM_w18 : Hid (Below W4.heap.size W4 w18) := belowCall BM_w17.out b BM_w17.out.size
  have GB_w18 : Hid (Blk w18 X8 (B3 (.slice ga0 gan gaq) (.slice gl0 gln glq) (.slice gc0 gcn gcq)) 30) := GB_w17.out.below b GB_w17.out.lt
  have g_w18 : Hid (Obk W6.heap.size w18 (.slice ga0 gan gaq) (.slice gl0 gln glq) (.slice gc0 gcn gcq) (mkT 1 T.length) (marks .i64 (1 + 3 * T.length) L.length) (marks .i64 (1 + 3 * T.length + L.length) C.length)) := g_w17.out.below b
  clear b B_w17 BM_w17 GB_w17 g_w17 h_w17 HB_w17 t0 t1 t2
  rw [HMM.out]
  have hmn : ¬ mm < 0 := by have := HMM.out; omega
  have hqm : (mm != mm) = false := by simp
  go_wp2
  go_ret
  exact ⟨rfl, belowCall HB0.out B_w18.out HB0.out.size⟩

end Go.Proofs.Ytmfmlbiplagmiaa

/- FnExactFaults at all books; the library has laid its variable. -/
import Derived.Test.YtmfmlbiplagmiaaDoorFan
import Derived.Test.YtmfmlbiplagmiaaDoorFai
import Derived.Test.YtmfmlbiplagmiaaDoorFls
import Derived.Test.YtmfmlbiplagmiaaDoorBoi
import Derived.Test.YtmfmlbiplagmiaaDoorOver
import Derived.Test.YtmfmlbiplagmiaaDoorMixT
import Derived.Test.YtmfmlbiplagmiaaDoorIvm
namespace Go.Proofs.YtmfmlbiplagmiaaDoor
open Go.RowKit Go.ChangeShapes Go.WideShapes Go.ChangeAt
set_option linter.unusedVariables false
set_option linter.unusedSimpArgs false
set_option maxRecDepth 8000

theorem fa_len (ts : List Tk) (ls cs : List Int) : (faL ts ls cs).length ≤ 200 := by
  cases h : bkB ts ls cs with
  | false => rw [faL_no h]; simp
  | true => rw [faL_yes h]; obtain ⟨h1, h2, h3⟩ := bkB_len h; exact ftL_len h1 h2 h3
set_option maxHeartbeats 12800000 in
theorem faultsLaw (va vl vc : Value) (ts : List Tk) (ls cs : List Int) (w : World) (h : Rbk w va vl vc ts ls cs) (hg : HgV w) :
    Calls Tryd.prog 5 #[.agg (B3 va vl vc)] w fun e w' => e = .returned (.bool true) ∧ Below w.heap.size w w' := by
  have hlen : (faL ts ls cs).length ≤ 200 := fa_len ts ls cs
  have hci : ∀ W va vl vc, HgV W → Rbk W va vl vc ts ls cs → Calls Tryd.prog 11 #[.agg (B3 va vl vc)] W (FaR (faL ts ls cs) W) := fun W va vl vc hg h => faultsI_c va vl vc ts ls cs W hg h
  have hcm : ∀ W va vl vc, Rbk W va vl vc ts ls cs → Calls Tryd.prog 13 #[.agg (B3 va vl vc)] W (FaR (faL ts ls cs) W) := fun W va vl vc h => faultsM_c va vl vc ts ls cs W h
  obtain ⟨F, hF⟩ : ∃ T, faL ts ls cs = T := ⟨_, rfl⟩
  rw [hF] at hlen hci hcm
  have HLG : Hid (F.length ≤ 200) := hlen
  have HCI : Hid (∀ W va vl vc, HgV W → Rbk W va vl vc ts ls cs → Calls Tryd.prog 11 #[.agg (B3 va vl vc)] W (FaR F W)) := hci
  have HCM : Hid (∀ W va vl vc, Rbk W va vl vc ts ls cs → Calls Tryd.prog 13 #[.agg (B3 va vl vc)] W (FaR F W)) := hcm
  clear hlen hci hcm hF
  obtain ⟨W0, hW0⟩ : ∃ W0, w.alloc (Obj.cells (B3 va vl vc) 44) = W0 := ⟨_, rfl⟩
  have hb0 : Below w.heap.size w W0 := by rw [← hW0]; exact (Below.refl _ _).alloc (Nat.le_refl _) _
  have HB0 : Hid (Below w.heap.size w W0) := hb0
  have HK0 : Hid (Blk W0 w.heap.size (B3 va vl vc) 44) := by show Blk _ _ _ _; rw [← hW0]; exact Blk.new _ _ _
  have HG0 : Hid (HgV W0) := hg.below hb0
  have HH0 : Hid (Rbk W0 va vl vc ts ls cs) := h.below hb0
  obtain ⟨⟨a, cap, rfl, -⟩, ⟨a', cap', rfl, -⟩, ⟨a'', cap'', rfl, -⟩⟩ := h
  have x0 := HK0.out.cell 0
  have x1 := HK0.out.cell 1
  have x2 := HK0.out.cell 2
  simp at x0 x1 x2
  have HW0 : Hid (_ = W0) := hW0
  clear hb0 hW0
  go_enter Tryd.func5, Tryd.ntmps5
  go_wp2_with (fail)
  rw [HW0.out]
  refine (szBook_c _ _ _ ts ls cs W0 HH0.out).mono ?_
  rintro e w1 ⟨z, rfl, hz, b1⟩
  have HB1 : Hid (Below W0.heap.size W0 w1) := b1
  have HZ : Hid (¬ z < 0 → ts.length ≤ 1048576 ∧ ls.length ≤ 1048576 ∧ cs.length ≤ 1048576) := fun h => by omega
  clear b1 hz x0 x1 x2 HW0
  by_cases hneg : z < 0
  · go_wp2
    go_ret
    exact ⟨rfl, belowCall HB0.out HB1.out HB0.out.size⟩
  have HL : Hid (ts.length ≤ 1048576 ∧ ls.length ≤ 1048576 ∧ cs.length ≤ 1048576) := HZ.out hneg
  clear HZ
  have B_w1 : Hid (Below W0.heap.size W0 w1) := HB1.out
  have KA := HK0.out.below B_w1.out HK0.out.lt
  have x0 := KA.cell 0
  have x1 := KA.cell 1
  have x2 := KA.cell 2
  simp at x0 x1 x2
  go_wp2_with (fail)
  refine (toBook_c _ _ _ ts ls cs w1 (HH0.out.below B_w1.out) HL.out.1 HL.out.2.1 HL.out.2.2).mono ?_
  rintro e w2 ⟨m0, m1, m2, rfl, o, b⟩
  have B_w2 : Hid (Below W0.heap.size W0 w2) := belowCall B_w1.out b B_w1.out.size
  clear b B_w1 x0 x1 x2 KA
  have M_w2 : Hid (Obk w1.heap.size w2 m0 m1 m2 ts ls cs) := o
  clear o
  go_wp2_with (fail)
  refine (HCM.out w2 _ _ _ M_w2.out.rd).mono ?_
  rintro e w3 ⟨qv, rfl, o, b⟩
  have B_w3 : Hid (Below W0.heap.size W0 w3) := belowCall B_w2.out b B_w2.out.size
  have M_w3 : Hid (Obk w1.heap.size w3 m0 m1 m2 ts ls cs) := M_w2.out.below b
  clear b B_w2 M_w2
  have q_w3 : Hid (Og 2 flC 65 w2.heap.size w3 qv F) := o
  clear o
  have HM : Hid (Rg 2 flC w3 qv F) := q_w3.out.rd flC_len
  have HMS : Hid (W0.heap.size ≤ w3.heap.size) := B_w3.out.size
  have BM_w3 : Hid (Below w3.heap.size w3 w3) := Below.refl _ _
  have KA := HK0.out.below B_w3.out HK0.out.lt
  have x0 := KA.cell 0
  have x1 := KA.cell 1
  have x2 := KA.cell 2
  simp at x0 x1 x2
  go_wp2_with (fail)
  refine (toBook_c _ _ _ ts ls cs w3 (HH0.out.below B_w3.out) HL.out.1 HL.out.2.1 HL.out.2.2).mono ?_
  rintro e w4 ⟨u0, u1, u2, rfl, o, b⟩
  have B_w4 : Hid (Below W0.heap.size W0 w4) := belowCall B_w3.out b B_w3.out.size
  have BM_w4 : Hid (Below w3.heap.size w3 w4) := belowCall BM_w3.out b BM_w3.out.size
  clear b B_w3 BM_w3 M_w3 q_w3 x0 x1 x2 KA
  have X_w4 : Hid (Obk w3.heap.size w4 u0 u1 u2 ts ls cs) := o
  clear o
  obtain ⟨e0, q0, hq0⟩ := X_w4.out.1.form
  obtain ⟨e1, q1, hq1⟩ := X_w4.out.2.1.form
  obtain ⟨e2, q2, hq2⟩ := X_w4.out.2.2.1.form
  subst hq0 hq1 hq2
  have XX_w4 : Hid (Obk w3.heap.size w4 (.slice e0 ts.length q0) (.slice e1 ls.length q1) (.slice e2 cs.length q2) ts ls cs) := X_w4.out
  have ba : Below w4.heap.size w4 (w4.alloc (Obj.cells (B3 (.slice e0 ts.length q0) (.slice e1 ls.length q1) (.slice e2 cs.length q2)) 27)) := (Below.refl _ _).alloc (Nat.le_refl _) _
  have kb : Blk (w4.alloc (Obj.cells (B3 (.slice e0 ts.length q0) (.slice e1 ls.length q1) (.slice e2 cs.length q2)) 27)) w4.heap.size (B3 (.slice e0 ts.length q0) (.slice e1 ls.length q1) (.slice e2 cs.length q2)) 27 := Blk.new _ _ _
  obtain ⟨X5, hX5⟩ : ∃ X, w4.heap.size = X := ⟨_, rfl⟩
  obtain ⟨W5, hW5⟩ : ∃ W, w4.alloc (Obj.cells (B3 (.slice e0 ts.length q0) (.slice e1 ls.length q1) (.slice e2 cs.length q2)) 27) = W := ⟨_, rfl⟩
  rw [hW5] at ba kb
  rw [hX5] at kb
  have B_W5 : Hid (Below W0.heap.size W0 W5) := belowCall B_w4.out ba B_w4.out.size
  have BM_W5 : Hid (Below w3.heap.size w3 W5) := belowCall BM_w4.out ba BM_w4.out.size
  have XX_W5 : Hid (Obk w3.heap.size W5 (.slice e0 ts.length q0) (.slice e1 ls.length q1) (.slice e2 cs.length q2) ts ls cs) := XX_w4.out.below ba
  have XB_W5 : Hid (Blk W5 X5 (B3 (.slice e0 ts.length q0) (.slice e1 ls.length q1) (.slice e2 cs.length q2)) 27) := kb
  clear ba kb B_w4 BM_w4 XX_w4
  have HSX : Hid (w3.heap.size ≤ W5.heap.size) := BM_W5.out.size
  have HXL : Hid (∀ k, InB (.slice e0 ts.length q0) (.slice e1 ls.length q1) (.slice e2 cs.length q2) k → w3.heap.size ≤ k ∧ k < W5.heap.size) := fun k hk => XX_W5.out.lt k hk
  have t0 := XB_W5.out.cell 0
  have t1 := XB_W5.out.cell 1
  have t2 := XB_W5.out.cell 2
  simp at t0 t1 t2
  go_wp2_with (fail)
  refine (HCI.out W5 _ _ _ (HG0.out.bel B_W5.out (HgV.pos HG0.out)) XX_W5.out.rd).mono ?_
  rintro e w6 ⟨gv, rfl, o, b⟩
  have B_w6 : Hid (Below W0.heap.size W0 w6) := belowCall B_W5.out b B_W5.out.size
  have BM_w6 : Hid (Below w3.heap.size w3 w6) := belowCall BM_W5.out b BM_W5.out.size
  have XX_w6 : Hid (Obk w3.heap.size w6 (.slice e0 ts.length q0) (.slice e1 ls.length q1) (.slice e2 cs.length q2) ts ls cs) := XX_W5.out.below b
  have XB_w6 : Hid (Blk w6 X5 (B3 (.slice e0 ts.length q0) (.slice e1 ls.length q1) (.slice e2 cs.length q2)) 27) := XB_W5.out.below b XB_W5.out.lt
  clear b B_W5 BM_W5 XX_W5 XB_W5 X_w4 hW5 hX5 t0 t1 t2
  have g_w6 : Hid (Og 2 flC 65 W5.heap.size w6 gv F) := o
  clear o
  go_wp2_with (fail)
  refine (eqFlS_c _ _ F F w6 (g_w6.out.rd flC_len) (HM.out.below BM_w6.out)).mono ?_
  rintro e w7 ⟨rfl, b⟩
  have B_w7 : Hid (Below W0.heap.size W0 w7) := belowCall B_w6.out b B_w6.out.size
  have BM_w7 : Hid (Below w3.heap.size w3 w7) := belowCall BM_w6.out b BM_w6.out.size
  have XX_w7 : Hid (Obk w3.heap.size w7 (.slice e0 ts.length q0) (.slice e1 ls.length q1) (.slice e2 cs.length q2) ts ls cs) := XX_w6.out.below b
  have XB_w7 : Hid (Blk w7 X5 (B3 (.slice e0 ts.length q0) (.slice e1 ls.length q1) (.slice e2 cs.length q2)) 27) := XB_w6.out.below b XB_w6.out.lt
  have g_w7 : Hid (Og 2 flC 65 W5.heap.size w7 gv F) := g_w6.out.below b
  clear b B_w6 BM_w6 XX_w6 XB_w6 g_w6
  rw [decide_eq_true (Eq.refl F)]
  obtain ⟨S, hS⟩ : ∃ S : World → Prop, ∀ W, S W ↔ Below w7.heap.size w7 W := ⟨_, fun _ => Iff.rfl⟩
  have KA := HK0.out.below B_w7.out HK0.out.lt
  have KX := XB_w7.out
  have zc0 : ∀ W : At S, W.wd.cell? ⟨w.heap.size, 0, none⟩ = some (.slice a ts.length cap) := fun W => by rw [(KA.below ((hS _).1 W.ok) KA.lt).cell 0]; rfl
  have zc1 : ∀ W : At S, W.wd.cell? ⟨w.heap.size, 1, none⟩ = some (.slice a' ls.length cap') := fun W => by rw [(KA.below ((hS _).1 W.ok) KA.lt).cell 1]; rfl
  have zc2 : ∀ W : At S, W.wd.cell? ⟨w.heap.size, 2, none⟩ = some (.slice a'' cs.length cap'') := fun W => by rw [(KA.below ((hS _).1 W.ok) KA.lt).cell 2]; rfl
  have zx0 : ∀ W : At S, W.wd.cell? ⟨X5, 0, none⟩ = some (.slice e0 ts.length q0) := fun W => by rw [(KX.below ((hS _).1 W.ok) KX.lt).cell 0]; rfl
  have zx1 : ∀ W : At S, W.wd.cell? ⟨X5, 1, none⟩ = some (.slice e1 ls.length q1) := fun W => by rw [(KX.below ((hS _).1 W.ok) KX.lt).cell 1]; rfl
  have zx2 : ∀ W : At S, W.wd.cell? ⟨X5, 2, none⟩ = some (.slice e2 cs.length q2) := fun W => by rw [(KX.below ((hS _).1 W.ok) KX.lt).cell 2]; rfl
  have HS : Hid (∀ W, S W ↔ Below w7.heap.size w7 W) := hS
  have ne : Nonempty (At S) := ⟨⟨w7, (hS _).2 (Below.refl _ _)⟩⟩
  clear hS KA KX
  go_wp2
  refine region_mixA [true, true, false, false, false] 5 3 S (by kernel_rfl) rfl (by kernel_rfl) (fun _ _ _ _ _ h => h) ((HS.out _).2 (Below.refl _ _).drew) ?_
  simp only [selT, selF]
  repeat (go_big_quiet_step (fail))
  refine wpQuiet_nil ?_
  refine tail_step ?_
  go_wp2_with (fail)
  refine (toBook_c _ _ _ ts ls cs w7.drew (HH0.out.below B_w7.out.drew) HL.out.1 HL.out.2.1 HL.out.2.2).mono ?_
  rintro e wd ⟨d0, d1, d2, rfl, o, b⟩
  have Bd : Below w7.heap.size w7 wd := (Below.refl _ _).drew.trans b
  have HBd : Hid (Below w7.heap.size w7 wd) := Bd
  have HOd : Hid (Rbk wd d0 d1 d2 ts ls cs ∧ Rbk wd (.slice e0 ts.length q0) (.slice e1 ls.length q1) (.slice e2 cs.length q2) ts ls cs) := ⟨o.rd, XX_w7.out.rd.below Bd⟩
  clear o b Bd zc0 zc1 zc2 zx0 zx1 zx2
  go_wp2
  refine ⟨(HS.out _).2 HBd.out, tail_step ?_⟩
  go_wp2_with (fail)
  refine (eqBook_c _ _ _ _ _ _ ts ts ls cs ls cs wd HOd.out.2 HOd.out.1).mono ?_
  rintro e we ⟨rfl, b8⟩
  rw [decide_eq_true (⟨rfl, rfl, rfl⟩ : ts = ts ∧ ls = ls ∧ cs = cs)]
  have HBe : Hid (Below w7.heap.size w7 we) := belowCall HBd.out b8 HBd.out.size
  clear b8 HOd HBd
  go_wp2
  refine ⟨(HS.out _).2 HBe.out, tail_step ?_⟩
  go_wp2
  refine ⟨(HS.out _).2 HBe.out, tail_end ?_⟩
  have B_we : Hid (Below W0.heap.size W0 we) := belowCall B_w7.out HBe.out B_w7.out.size
  have BM_we : Hid (Below w3.heap.size w3 we) := belowCall BM_w7.out HBe.out BM_w7.out.size
  have XX_we : Hid (Obk w3.heap.size we (.slice e0 ts.length q0) (.slice e1 ls.length q1) (.slice e2 cs.length q2) ts ls cs) := XX_w7.out.below HBe.out
  have XB_we : Hid (Blk we X5 (B3 (.slice e0 ts.length q0) (.slice e1 ls.length q1) (.slice e2 cs.length q2)) 27) := XB_w7.out.below HBe.out XB_w7.out.lt
  have g_we : Hid (Og 2 flC 65 W5.heap.size we gv F) := g_w7.out.below HBe.out
  clear HBe HS ne B_w7 BM_w7 XX_w7 XB_w7 g_w7
  have t0 := XB_we.out.cell 0
  have t1 := XB_we.out.cell 1
  have t2 := XB_we.out.cell 2
  simp at t0 t1 t2
  go_wp2_with (fail)
  refine (markBook_c w3.heap.size 1 _ _ _ ts ls cs we XX_we.out (by decide) (by have := HL.out; omega)).mono ?_
  rintro e w8 ⟨rfl, o, f⟩
  have B_w8 : Hid (Below W0.heap.size W0 w8) := B_we.out.trans (f.below (Nat.le_trans HMS.out BM_we.out.size) (fun k hk => Nat.le_trans HMS.out (HXL.out k hk).1))
  have BM_w8 : Hid (Below w3.heap.size w3 w8) := BM_we.out.trans (f.below BM_we.out.size (fun k hk => (HXL.out k hk).1))
  have g_w8 : Hid (Og 2 flC 65 W5.heap.size w8 gv F) := ownsRow_fr g_we.out f (fun k e h => by have h1 := (HXL.out k h).2; have h2 := (World.ownsRow.lt g_we.out k e).1; omega)
  clear o f B_we BM_we g_we t0 t1 t2 XX_we XB_we
  obtain ⟨kk, hkk⟩ : ∃ z, (1 : Int) + 3 * ts.length + ls.length + cs.length = z := ⟨_, rfl⟩
  have hkn : ¬ kk < 0 := by omega
  rw [hkk]
  clear hkk
  go_wp2_with (fail)
  refine (eqFlS_c _ _ F F w8 (g_w8.out.rd flC_len) (HM.out.below BM_w8.out)).mono ?_
  rintro e w9 ⟨rfl, b⟩
  have B_w9 : Hid (Below W0.heap.size W0 w9) := belowCall B_w8.out b B_w8.out.size
  have BM_w9 : Hid (Below w3.heap.size w3 w9) := belowCall BM_w8.out b BM_w8.out.size
  have g_w9 : Hid (Og 2 flC 65 W5.heap.size w9 gv F) := g_w8.out.below b
  clear b B_w8 BM_w8 g_w8
  rw [decide_eq_true (Eq.refl F)]
  go_wp2_with (fail)
  refine (markFlS_c _ F 1 W5.heap.size w9 g_w9.out (by decide) (by have := HLG.out; omega)).mono ?_
  rintro e w10 ⟨rfl, o, gr⟩
  have B_w10 : Hid (Below W0.heap.size W0 w10) := B_w9.out.trans (grown_below gr (Nat.le_trans HMS.out BM_w9.out.size) (fun k hk => Nat.le_trans (Nat.le_trans HMS.out HSX.out) (World.ownsRow.lt g_w9.out k hk).1))
  have BM_w10 : Hid (Below w3.heap.size w3 w10) := BM_w9.out.trans (grown_below gr BM_w9.out.size (fun k hk => Nat.le_trans HSX.out (World.ownsRow.lt g_w9.out k hk).1))
  clear gr B_w9 BM_w9 g_w9
  have g_w10 : Hid (Og 2 flC 65 W5.heap.size w10 gv (mkg (mkFl 1) F.length)) := o
  clear o
  obtain ⟨mm, hmm⟩ : ∃ z, (1 : Int) + 2 * F.length = z := ⟨_, rfl⟩
  have HMM : Hid ((1 : Int) + 2 * F.length = mm) := hmm
  rw [hmm]
  clear hmm
  go_wp2_with (fail)
  refine (heldFlS_c _ 1 F.length w10 (g_w10.out.rd flC_len) (by decide) (by have := HLG.out; omega)).mono ?_
  rintro e w11 ⟨rfl, b⟩
  have B_w11 : Hid (Below W0.heap.size W0 w11) := belowCall B_w10.out b B_w10.out.size
  have BM_w11 : Hid (Below w3.heap.size w3 w11) := belowCall BM_w10.out b BM_w10.out.size
  have g_w11 : Hid (Og 2 flC 65 W5.heap.size w11 gv (mkg (mkFl 1) F.length)) := g_w10.out.below b
  clear b B_w10 BM_w10 g_w10
  rw [HMM.out]
  have hmn : ¬ mm < 0 := by have := HMM.out; omega
  have hqm : (mm != mm) = false := by simp
  have KA := HK0.out.below B_w11.out HK0.out.lt
  have x0 := KA.cell 0
  have x1 := KA.cell 1
  have x2 := KA.cell 2
  simp at x0 x1 x2
  go_wp2_with (fail)
  refine (toBook_c _ _ _ ts ls cs w11 (HH0.out.below B_w11.out) HL.out.1 HL.out.2.1 HL.out.2.2).mono ?_
  rintro e w12 ⟨y0, y1, y2, rfl, o, b⟩
  have B_w12 : Hid (Below W0.heap.size W0 w12) := belowCall B_w11.out b B_w11.out.size
  have BM_w12 : Hid (Below w3.heap.size w3 w12) := belowCall BM_w11.out b BM_w11.out.size
  have g_w12 : Hid (Og 2 flC 65 W5.heap.size w12 gv (mkg (mkFl 1) F.length)) := g_w11.out.below b
  clear b B_w11 BM_w11 g_w11 x0 x1 x2 KA
  have Y_w12 : Hid (Obk w11.heap.size w12 y0 y1 y2 ts ls cs) := o
  clear o
  clear hmn hqm
  go_wp2_with (fail)
  refine (HCI.out w12 _ _ _ (HG0.out.bel B_w12.out (HgV.pos HG0.out)) Y_w12.out.rd).mono ?_
  rintro e w13 ⟨hv, rfl, o, b⟩
  have B_w13 : Hid (Below W0.heap.size W0 w13) := belowCall B_w12.out b B_w12.out.size
  have BM_w13 : Hid (Below w3.heap.size w3 w13) := belowCall BM_w12.out b BM_w12.out.size
  have g_w13 : Hid (Og 2 flC 65 W5.heap.size w13 gv (mkg (mkFl 1) F.length)) := g_w12.out.below b
  have Y_w13 : Hid (Obk w11.heap.size w13 y0 y1 y2 ts ls cs) := Y_w12.out.below b
  clear b B_w12 BM_w12 g_w12 Y_w12
  have h_w13 : Hid (Og 2 flC 65 w12.heap.size w13 hv F) := o
  clear o
  go_wp2_with (fail)
  refine (eqFlS_c _ _ F F w13 (h_w13.out.rd flC_len) (HM.out.below BM_w13.out)).mono ?_
  rintro e w14 ⟨rfl, b⟩
  have B_w14 : Hid (Below W0.heap.size W0 w14) := belowCall B_w13.out b B_w13.out.size
  have BM_w14 : Hid (Below w3.heap.size w3 w14) := belowCall BM_w13.out b BM_w13.out.size
  have g_w14 : Hid (Og 2 flC 65 W5.heap.size w14 gv (mkg (mkFl 1) F.length)) := g_w13.out.below b
  have h_w14 : Hid (Og 2 flC 65 w12.heap.size w14 hv F) := h_w13.out.below b
  clear b B_w13 BM_w13 g_w13 h_w13 Y_w13
  rw [decide_eq_true (Eq.refl F)]
  go_wp2_with (fail)
  refine (heldFlS_c _ 1 F.length w14 (g_w14.out.rd flC_len) (by decide) (by have := HLG.out; omega)).mono ?_
  rintro e w15 ⟨rfl, b⟩
  have B_w15 : Hid (Below W0.heap.size W0 w15) := belowCall B_w14.out b B_w14.out.size
  have BM_w15 : Hid (Below w3.heap.size w3 w15) := belowCall BM_w14.out b BM_w14.out.size
  have g_w15 : Hid (Og 2 flC 65 W5.heap.size w15 gv (mkg (mkFl 1) F.length)) := g_w14.out.below b
  clear b B_w14 BM_w14 g_w14 h_w14
  rw [HMM.out]
  have hmn : ¬ mm < 0 := by have := HMM.out; omega
  have hqm : (mm != mm) = false := by simp
  go_wp2
  go_ret
  exact ⟨rfl, belowCall HB0.out B_w15.out HB0.out.size⟩

end Go.Proofs.YtmfmlbiplagmiaaDoor

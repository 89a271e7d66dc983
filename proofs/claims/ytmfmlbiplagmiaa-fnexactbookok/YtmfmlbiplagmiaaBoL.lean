/- FnExactBookOk at all books; no condition. -/
import Derived.Test.YtmfmlbiplagmiaaBoi
import Derived.Test.YtmfmlbiplagmiaaOver
import Derived.Test.YtmfmlbiplagmiaaMixT
namespace Go.Proofs.Ytmfmlbiplagmiaa
open Go.RowKit Go.ChangeShapes Go.WideShapes Go.ChangeAt
set_option linter.unusedVariables false
set_option linter.unusedSimpArgs false
set_option maxRecDepth 8000
set_option maxHeartbeats 12800000 in
theorem bookOkLaw (va vl vc : Value) (ts : List Tk) (ls cs : List Int) (w : World) (h : Rbk w va vl vc ts ls cs) :
    Calls Try.prog 3 #[.agg (B3 va vl vc)] w fun e w' => e = .returned (.bool true) ∧ Below w.heap.size w w' := by
  obtain ⟨W0, hW0⟩ : ∃ W0, w.alloc (Obj.cells (B3 va vl vc) 25) = W0 := ⟨_, rfl⟩
  have hb0 : Below w.heap.size w W0 := by rw [← hW0]; exact (Below.refl _ _).alloc (Nat.le_refl _) _
  have HB0 : Hid (Below w.heap.size w W0) := hb0
  have HK0 : Hid (Blk W0 w.heap.size (B3 va vl vc) 25) := by show Blk _ _ _ _; rw [← hW0]; exact Blk.new _ _ _
  have HH0 : Hid (Rbk W0 va vl vc ts ls cs) := h.below hb0
  obtain ⟨⟨a, cap, rfl, -⟩, ⟨a', cap', rfl, -⟩, ⟨a'', cap'', rfl, -⟩⟩ := h
  have x0 := HK0.out.cell 0
  have x1 := HK0.out.cell 1
  have x2 := HK0.out.cell 2
  simp at x0 x1 x2
  have HW0 : Hid (_ = W0) := hW0
  clear hb0 hW0
  go_enter Try.func3, Try.ntmps3
  go_wp2_with (fail)
  rw [HW0.out]
  refine (szBook_c _ _ _ ts ls cs W0 HH0.out).mono ?_
  rintro e w1 ⟨z, rfl, hz, b1⟩
  have HB1 : Hid (Below W0.heap.size W0 w1) := b1
  have HZ : Hid (¬ z < 0 → ts.length ≤ 1048576 ∧ ls.length ≤ 1048576 ∧ cs.length ≤ 1048576) := fun h => by omega
  clear b1 hz x0 x1 x2 HW0
  by_cases hneg : z < 0
  · go_wp2
    go_ret
    exact ⟨rfl, belowCall HB0.out HB1.out HB0.out.size⟩
  have HL : Hid (ts.length ≤ 1048576 ∧ ls.length ≤ 1048576 ∧ cs.length ≤ 1048576) := HZ.out hneg
  clear HZ
  have B_w1 : Hid (Below W0.heap.size W0 w1) := HB1.out
  have KA := HK0.out.below B_w1.out HK0.out.lt
  have x0 := KA.cell 0
  have x1 := KA.cell 1
  have x2 := KA.cell 2
  simp at x0 x1 x2
  go_wp2_with (fail)
  refine (toBook_c _ _ _ ts ls cs w1 (HH0.out.below B_w1.out) HL.out.1 HL.out.2.1 HL.out.2.2).mono ?_
  rintro e w2 ⟨m0, m1, m2, rfl, o, b⟩
  have B_w2 : Hid (Below W0.heap.size W0 w2) := belowCall B_w1.out b B_w1.out.size
  clear b B_w1 x0 x1 x2 KA
  have M_w2 : Hid (Obk w1.heap.size w2 m0 m1 m2 ts ls cs) := o
  clear o
  go_wp2_with (fail)
  refine (okM_c _ _ _ ts ls cs w2 M_w2.out.rd).mono ?_
  rintro e w3 ⟨rfl, b⟩
  have B_w3 : Hid (Below W0.heap.size W0 w3) := belowCall B_w2.out b B_w2.out.size
  have M_w3 : Hid (Obk w1.heap.size w3 m0 m1 m2 ts ls cs) := M_w2.out.below b
  clear b B_w2 M_w2
  have KA := HK0.out.below B_w3.out HK0.out.lt
  have x0 := KA.cell 0
  have x1 := KA.cell 1
  have x2 := KA.cell 2
  simp at x0 x1 x2
  go_wp2_with (fail)
  refine (toBook_c _ _ _ ts ls cs w3 (HH0.out.below B_w3.out) HL.out.1 HL.out.2.1 HL.out.2.2).mono ?_
  rintro e w4 ⟨y0, y1, y2, rfl, o, b⟩
  have B_w4 : Hid (Below W0.heap.size W0 w4) := belowCall B_w3.out b B_w3.out.size
  clear b B_w3 M_w3 x0 x1 x2 KA
  have X_w4 : Hid (Obk w3.heap.size w4 y0 y1 y2 ts ls cs) := o
  clear o
  obtain ⟨e0, q0, hq0⟩ := X_w4.out.1.form
  obtain ⟨e1, q1, hq1⟩ := X_w4.out.2.1.form
  obtain ⟨e2, q2, hq2⟩ := X_w4.out.2.2.1.form
  subst hq0 hq1 hq2
  have X_w4 : Hid (Obk w3.heap.size w4 (.slice e0 ts.length q0) (.slice e1 ls.length q1) (.slice e2 cs.length q2) ts ls cs) := X_w4.out
  have ba : Below w4.heap.size w4 (w4.alloc (Obj.cells (B3 (.slice e0 ts.length q0) (.slice e1 ls.length q1) (.slice e2 cs.length q2)) 30)) := (Below.refl _ _).alloc (Nat.le_refl _) _
  have kb : Blk (w4.alloc (Obj.cells (B3 (.slice e0 ts.length q0) (.slice e1 ls.length q1) (.slice e2 cs.length q2)) 30)) w4.heap.size (B3 (.slice e0 ts.length q0) (.slice e1 ls.length q1) (.slice e2 cs.length q2)) 30 := Blk.new _ _ _
  obtain ⟨X5, hX5⟩ : ∃ X, w4.heap.size = X := ⟨_, rfl⟩
  obtain ⟨W5, hW5⟩ : ∃ W, w4.alloc (Obj.cells (B3 (.slice e0 ts.length q0) (.slice e1 ls.length q1) (.slice e2 cs.length q2)) 30) = W := ⟨_, rfl⟩
  rw [hW5] at ba kb
  rw [hX5] at kb
  have B_W5 : Hid (Below W0.heap.size W0 W5) := belowCall B_w4.out ba B_w4.out.size
  have X_W5 : Hid (Obk w3.heap.size W5 (.slice e0 ts.length q0) (.slice e1 ls.length q1) (.slice e2 cs.length q2) ts ls cs) := X_w4.out.below ba
  have G_W5 : Hid (Blk W5 X5 (B3 (.slice e0 ts.length q0) (.slice e1 ls.length q1) (.slice e2 cs.length q2)) 30) := kb
  clear ba kb B_w4 X_w4
  have s0 := G_W5.out.cell 0
  have s1 := G_W5.out.cell 1
  have s2 := G_W5.out.cell 2
  simp at s0 s1 s2
  go_wp2_with (fail)
  clear hW5 hX5
  refine (okI_c _ _ _ ts ls cs W5 X_W5.out.rd).mono ?_
  rintro e w6 ⟨rfl, b⟩
  have B_w6 : Hid (Below W0.heap.size W0 w6) := belowCall B_W5.out b B_W5.out.size
  have X_w6 : Hid (Obk w3.heap.size w6 (.slice e0 ts.length q0) (.slice e1 ls.length q1) (.slice e2 cs.length q2) ts ls cs) := X_W5.out.below b
  have G_w6 : Hid (Blk w6 X5 (B3 (.slice e0 ts.length q0) (.slice e1 ls.length q1) (.slice e2 cs.length q2)) 30) := G_W5.out.below b G_W5.out.lt
  clear b B_W5 X_W5 G_W5 s0 s1 s2
  have hbb : (bkB ts ls cs != bkB ts ls cs) = false := by simp
  obtain ⟨r, hr⟩ : ∃ r, bkB ts ls cs = r := ⟨_, rfl⟩
  rw [hr] at hbb ⊢
  clear hr
  obtain ⟨S, hS⟩ : ∃ S : World → Prop, ∀ W, S W ↔ Below w6.heap.size w6 W := ⟨_, fun _ => Iff.rfl⟩
  have KA := HK0.out.below B_w6.out HK0.out.lt
  have KX := G_w6.out
  have zc0 : ∀ W : At S, W.wd.cell? ⟨w.heap.size, 0, none⟩ = some (.slice a ts.length cap) := fun W => by rw [(KA.below ((hS _).1 W.ok) KA.lt).cell 0]; rfl
  have zc1 : ∀ W : At S, W.wd.cell? ⟨w.heap.size, 1, none⟩ = some (.slice a' ls.length cap') := fun W => by rw [(KA.below ((hS _).1 W.ok) KA.lt).cell 1]; rfl
  have zc2 : ∀ W : At S, W.wd.cell? ⟨w.heap.size, 2, none⟩ = some (.slice a'' cs.length cap'') := fun W => by rw [(KA.below ((hS _).1 W.ok) KA.lt).cell 2]; rfl
  have zx0 : ∀ W : At S, W.wd.cell? ⟨X5, 0, none⟩ = some (.slice e0 ts.length q0) := fun W => by rw [(KX.below ((hS _).1 W.ok) KX.lt).cell 0]; rfl
  have zx1 : ∀ W : At S, W.wd.cell? ⟨X5, 1, none⟩ = some (.slice e1 ls.length q1) := fun W => by rw [(KX.below ((hS _).1 W.ok) KX.lt).cell 1]; rfl
  have zx2 : ∀ W : At S, W.wd.cell? ⟨X5, 2, none⟩ = some (.slice e2 cs.length q2) := fun W => by rw [(KX.below ((hS _).1 W.ok) KX.lt).cell 2]; rfl
  have HS : Hid (∀ W, S W ↔ Below w6.heap.size w6 W) := hS
  have ne : Nonempty (At S) := ⟨⟨w6, (hS _).2 (Below.refl _ _)⟩⟩
  clear hS KA KX
  go_wp2
  refine region_mixA [true, true, false, false, false] 5 3 S (by kernel_rfl) rfl (by kernel_rfl) (fun _ _ _ _ _ h => h) ((HS.out _).2 (Below.refl _ _).drew) ?_
  simp only [selT, selF]
  repeat (go_big_quiet_step (fail))
  refine wpQuiet_nil ?_
  refine tail_step ?_
  go_wp2_with (fail)
  refine (toBook_c _ _ _ ts ls cs w6.drew (HH0.out.below B_w6.out.drew) HL.out.1 HL.out.2.1 HL.out.2.2).mono ?_
  rintro e wd ⟨d0, d1, d2, rfl, o, b⟩
  have Bd : Below w6.heap.size w6 wd := (Below.refl _ _).drew.trans b
  have HBd : Hid (Below w6.heap.size w6 wd) := Bd
  have HOd : Hid (Rbk wd d0 d1 d2 ts ls cs ∧ Rbk wd (.slice e0 ts.length q0) (.slice e1 ls.length q1) (.slice e2 cs.length q2) ts ls cs) := ⟨o.rd, X_w6.out.rd.below Bd⟩
  clear o b Bd zc0 zc1 zc2 zx0 zx1 zx2
  go_wp2
  refine ⟨(HS.out _).2 HBd.out, tail_step ?_⟩
  go_wp2_with (fail)
  refine (eqBook_c _ _ _ _ _ _ ts ts ls cs ls cs wd HOd.out.2 HOd.out.1).mono ?_
  rintro e we ⟨rfl, b8⟩
  rw [decide_eq_true (⟨rfl, rfl, rfl⟩ : ts = ts ∧ ls = ls ∧ cs = cs)]
  have HBe : Hid (Below w6.heap.size w6 we) := belowCall HBd.out b8 HBd.out.size
  clear b8 HOd HBd
  go_wp2
  refine ⟨(HS.out _).2 HBe.out, tail_step ?_⟩
  go_wp2
  refine ⟨(HS.out _).2 HBe.out, tail_end ?_⟩
  have B_we : Hid (Below W0.heap.size W0 we) := belowCall B_w6.out HBe.out B_w6.out.size
  have X_we : Hid (Obk w3.heap.size we (.slice e0 ts.length q0) (.slice e1 ls.length q1) (.slice e2 cs.length q2) ts ls cs) := X_w6.out.below HBe.out
  have G_we : Hid (Blk we X5 (B3 (.slice e0 ts.length q0) (.slice e1 ls.length q1) (.slice e2 cs.length q2)) 30) := G_w6.out.below HBe.out G_w6.out.lt
  clear HBe HS ne B_w6 X_w6 G_w6
  go_wp2
  go_ret
  exact ⟨rfl, belowCall HB0.out B_we.out HB0.out.size⟩

end Go.Proofs.Ytmfmlbiplagmiaa

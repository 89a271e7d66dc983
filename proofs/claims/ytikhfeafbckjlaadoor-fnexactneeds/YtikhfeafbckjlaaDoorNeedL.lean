/- FnExactNeeds's body answers true at every fabric; no condition. -/
import Derived.Test.YtikhfeafbckjlaaDoorFNeedM
import Derived.Test.YtikhfeafbckjlaaDoorFMk
namespace Go.Proofs.YtikhfeafbckjlaaDoor
open Go.RowKit Go.ChangeShapes Go.WideShapes Go.ChangeAt
set_option linter.unusedVariables false
set_option linter.unusedSimpArgs false
set_option maxRecDepth 8000
theorem markH_c (v : Value) (ls : Tri) (q : Int) (base hi : Nat) (w : World) (h : OtH base hi w v ls) (h0 : 0 ≤ q) (hq : q + 3 * ls.length ≤ 1152921504606846976) :
   Calls Tryd.prog 31 #[v, .int .i64 q] w fun e w' => e = .returned (.int .i64 (q + 3 * ls.length)) ∧ OtH base hi w' v (mkT q ls.length) ∧ Mid base hi w w' :=
  (markPathS_c v ls q base w h.1 h0 hq).mono fun e w' ⟨he, ho, hg⟩ => ⟨he, ⟨ho, h.2⟩, Mid.ofGrown hg (fun k e => ⟨(World.ownsRow.lt h.1 k e).1, h.2 k e⟩)⟩
set_option maxHeartbeats 3200000 in
theorem needsLaw (s p m : Int) (v : Value) (cs : Tri) (w : World) (h : Rt w v cs) (hN : NoP w ∧ Tab w) :
   Calls Tryd.prog 7 #[.agg (F4 s p m v)] w fun e w' => e = .returned (.bool true) ∧ Below w.heap.size w w' := by
  have bel0 : Below w.heap.size w (w.alloc (Obj.cells (F4 s p m (v)) 43)) := (Below.refl _ _).alloc (Nat.le_refl _) _
  have HZ : Hid (Calls Tryd.prog 21 #[.agg (F4 s p m v), .int .i64 1048576] (w.alloc (Obj.cells (F4 s p m (v)) 43)) fun e w' => e = .returned (.int .i64 (lft 1048576 cs.length)) ∧ Below (w.alloc (Obj.cells (F4 s p m (v)) 43)).heap.size (w.alloc (Obj.cells (F4 s p m (v)) 43)) w') := szFabric_c s p m v cs 1048576 _ (h.below bel0) (by decide) (by decide)
  have HB : Hid (Below w.heap.size w (w.alloc (Obj.cells (F4 s p m (v)) 43))) := bel0
  have HH : Hid (Rt w v cs) := h
  have HKA : Hid (Blk (w.alloc (Obj.cells (F4 s p m (v)) 43)) w.heap.size (F4 s p m (v)) 43) := Blk.new _ _ _
  have HNP : Hid (∀ W, Below w.heap.size w W → NoP W ∧ Tab W) := fun W hb => ⟨hN.1.below hb hN.1.lt, hN.2.below hb hN.2.lt⟩
  clear hN
  obtain ⟨a, cap, rfl, -⟩ := h
  obtain ⟨ln, hln⟩ : ∃ ln, cs.length = ln := ⟨_, rfl⟩
  rw [hln] at HB HH HKA HZ ⊢
  obtain ⟨z, hz⟩ : ∃ z, lft 1048576 ln = z := ⟨_, rfl⟩
  rw [hz] at HZ
  have HZ2 : Hid (0 ≤ z → cs.length ≤ 1048576) := fun h0 => (by rw [hln]; rw [← hz] at h0; unfold lft at h0; split at h0 <;> omega)
  clear bel0 hz hln
  go_enter Tryd.func7, Tryd.ntmps7
  go_wp2_with (fail)
  refine HZ.out.mono ?_
  rintro e w1 ⟨rfl, b1⟩
  have sA : (w.alloc (Obj.cells (F4 s p m (.slice a ln cap)) 43)).heap.size = w.heap.size + 1 := by simp
  have z1 : w.heap.size + 1 ≤ w1.heap.size := by have := b1.size; rw [sA] at this; exact this
  have HB' : Hid (Below w.heap.size w w1) := belowCall HB.out b1 HB.out.size
  have HKA' : Hid (Blk w1 w.heap.size (F4 s p m (.slice a ln cap)) 43) := HKA.out.below b1 (by simp)
  clear HB HKA
  have HB := HB'
  have HKA := HKA'
  clear HB' HKA' b1 HZ sA
  have cKA0 : w1.cell? ⟨w.heap.size, 0, none⟩ = some (.int .i64 s) := by have := HKA.out.cell 0; simpa using this
  have cKA1 : w1.cell? ⟨w.heap.size, 1, none⟩ = some (.int .i64 p) := by have := HKA.out.cell 1; simpa using this
  have cKA2 : w1.cell? ⟨w.heap.size, 2, none⟩ = some (.int .i64 m) := by have := HKA.out.cell 2; simpa using this
  have cKA3 : w1.cell? ⟨w.heap.size, 3, none⟩ = some (.slice a ln cap) := by have := HKA.out.cell 3; simpa using this
  have lKA : w.heap.size < w1.heap.size := HKA.out.lt
  by_cases hneg : z < 0
  · go_wp2
    go_ret
    exact ⟨rfl, HB.out⟩
  have hl := HZ2.out (by omega)
  have HL : Hid (cs.length ≤ 1048576) := hl
  clear hl HZ2
  clear cKA0 cKA1 cKA2 cKA3 lKA
  have cKA0 : w1.cell? ⟨w.heap.size, 0, none⟩ = some (.int .i64 s) := by have := HKA.out.cell 0; simpa using this
  have cKA1 : w1.cell? ⟨w.heap.size, 1, none⟩ = some (.int .i64 p) := by have := HKA.out.cell 1; simpa using this
  have cKA2 : w1.cell? ⟨w.heap.size, 2, none⟩ = some (.int .i64 m) := by have := HKA.out.cell 2; simpa using this
  have cKA3 : w1.cell? ⟨w.heap.size, 3, none⟩ = some (.slice a ln cap) := by have := HKA.out.cell 3; simpa using this
  have lKA : w.heap.size < w1.heap.size := HKA.out.lt
  go_wp2_with (fail)
  refine (toFabric_c s p m _ cs w1 (HH.out.below HB.out) HL.out).mono ?_
  rintro e w2 ⟨vs, rfl, os, b⟩
  have HOS : Hid (Rt w2 vs cs) := os.rd
  clear os
  clear cKA0 cKA1 cKA2 cKA3 lKA
  have z2 : w1.heap.size ≤ w2.heap.size := b.size
  have HB' : Hid (Below w.heap.size w w2) := belowCall HB.out b HB.out.size
  have HKA' : Hid (Blk w2 w.heap.size (F4 s p m (.slice a ln cap)) 43) := HKA.out.below b HKA.out.lt
  clear HB HKA
  have HB := HB'
  have HKA := HKA'
  clear HB' HKA'
  clear b
  have cKA0 : w2.cell? ⟨w.heap.size, 0, none⟩ = some (.int .i64 s) := by have := HKA.out.cell 0; simpa using this
  have cKA1 : w2.cell? ⟨w.heap.size, 1, none⟩ = some (.int .i64 p) := by have := HKA.out.cell 1; simpa using this
  have cKA2 : w2.cell? ⟨w.heap.size, 2, none⟩ = some (.int .i64 m) := by have := HKA.out.cell 2; simpa using this
  have cKA3 : w2.cell? ⟨w.heap.size, 3, none⟩ = some (.slice a ln cap) := by have := HKA.out.cell 3; simpa using this
  have lKA : w.heap.size < w2.heap.size := HKA.out.lt
  go_wp2_with (fail)
  refine (needsM_c s p m _ cs w2 HOS.out (by have := HL.out; omega)).mono ?_
  rintro e w3 ⟨vw, zw, rfl, hsw, ow, b⟩
  have HSW : Hid (NeedsS s p m cs zw) := hsw
  obtain ⟨aw, cpw, hvw, -⟩ := own_form ow
  subst hvw
  have HW : Hid (OtH w2.heap.size w3.heap.size w3 (.slice aw zw.length cpw) zw) := ow.toH
  clear ow hsw
  clear cKA0 cKA1 cKA2 cKA3 lKA
  have z3 : w2.heap.size ≤ w3.heap.size := b.size
  have HB' : Hid (Below w.heap.size w w3) := belowCall HB.out b HB.out.size
  have HKA' : Hid (Blk w3 w.heap.size (F4 s p m (.slice a ln cap)) 43) := HKA.out.below b HKA.out.lt
  clear HB HKA
  have HB := HB'
  have HKA := HKA'
  clear HB' HKA'
  clear b
  clear HOS
  have cKA0 : w3.cell? ⟨w.heap.size, 0, none⟩ = some (.int .i64 s) := by have := HKA.out.cell 0; simpa using this
  have cKA1 : w3.cell? ⟨w.heap.size, 1, none⟩ = some (.int .i64 p) := by have := HKA.out.cell 1; simpa using this
  have cKA2 : w3.cell? ⟨w.heap.size, 2, none⟩ = some (.int .i64 m) := by have := HKA.out.cell 2; simpa using this
  have cKA3 : w3.cell? ⟨w.heap.size, 3, none⟩ = some (.slice a ln cap) := by have := HKA.out.cell 3; simpa using this
  have lKA : w.heap.size < w3.heap.size := HKA.out.lt
  go_wp2_with (fail)
  refine (toFabric_c s p m _ cs w3 (HH.out.below HB.out) HL.out).mono ?_
  rintro e w4 ⟨vx, rfl, ox, b⟩
  obtain ⟨ax, cx, hvx, -⟩ := own_form ox
  subst hvx
  have HX : Hid (OtH w3.heap.size w4.heap.size w4 (.slice ax cs.length cx) cs) := ox.toH
  clear ox
  clear cKA0 cKA1 cKA2 cKA3 lKA
  have z4 : w3.heap.size ≤ w4.heap.size := b.size
  have HB' : Hid (Below w.heap.size w w4) := belowCall HB.out b HB.out.size
  have HKA' : Hid (Blk w4 w.heap.size (F4 s p m (.slice a ln cap)) 43) := HKA.out.below b HKA.out.lt
  have HW' : Hid (OtH w2.heap.size w3.heap.size w4 (.slice aw zw.length cpw) zw) := HW.out.below b
  clear HB HKA HW
  have HB := HB'
  have HKA := HKA'
  have HW := HW'
  clear HB' HKA' HW'
  clear b
  have cKA0 : w4.cell? ⟨w.heap.size, 0, none⟩ = some (.int .i64 s) := by have := HKA.out.cell 0; simpa using this
  have cKA1 : w4.cell? ⟨w.heap.size, 1, none⟩ = some (.int .i64 p) := by have := HKA.out.cell 1; simpa using this
  have cKA2 : w4.cell? ⟨w.heap.size, 2, none⟩ = some (.int .i64 m) := by have := HKA.out.cell 2; simpa using this
  have cKA3 : w4.cell? ⟨w.heap.size, 3, none⟩ = some (.slice a ln cap) := by have := HKA.out.cell 3; simpa using this
  have lKA : w.heap.size < w4.heap.size := HKA.out.lt
  go_wp2_with (fail)
  clear cKA0 cKA1 cKA2 cKA3 lKA
  have ba : Below w4.heap.size w4 (w4.alloc (Obj.cells (F4 s p m (.slice ax cs.length cx)) 26)) := (Below.refl _ _).alloc (Nat.le_refl _) _
  have HB' : Hid (Below w.heap.size w (w4.alloc (Obj.cells (F4 s p m (.slice ax cs.length cx)) 26))) := belowCall HB.out ba HB.out.size
  have HKA' : Hid (Blk (w4.alloc (Obj.cells (F4 s p m (.slice ax cs.length cx)) 26)) w.heap.size (F4 s p m (.slice a ln cap)) 43) := HKA.out.below ba HKA.out.lt
  have HW' : Hid (OtH w2.heap.size w3.heap.size (w4.alloc (Obj.cells (F4 s p m (.slice ax cs.length cx)) 26)) (.slice aw zw.length cpw) zw) := HW.out.below ba
  have HX' : Hid (OtH w3.heap.size w4.heap.size (w4.alloc (Obj.cells (F4 s p m (.slice ax cs.length cx)) 26)) (.slice ax cs.length cx) cs) := HX.out.below ba
  clear HB HKA HW HX
  have HB := HB'
  have HKA := HKA'
  have HW := HW'
  have HX := HX'
  clear HB' HKA' HW' HX'
  have HKX : Hid (Blk (w4.alloc (Obj.cells (F4 s p m (.slice ax cs.length cx)) 26)) w4.heap.size (F4 s p m (.slice ax cs.length cx)) 26) := Blk.new _ _ _
  have z5 : w4.heap.size < (w4.alloc (Obj.cells (F4 s p m (.slice ax cs.length cx)) 26)).heap.size := by simp
  obtain ⟨w5, hnw⟩ : ∃ W, (w4.alloc (Obj.cells (F4 s p m (.slice ax cs.length cx)) 26)) = W := ⟨_, rfl⟩
  rw [hnw] at z5 HB HKA HW HX HKX ⊢
  clear hnw ba
  refine (needsI_c s p m _ cs w5 HX.out.rd (HNP.out _ HB.out) (by have := HL.out; omega)).mono ?_
  rintro e w6 ⟨vg, zg, rfl, hsg, og, b⟩
  obtain ⟨ag, cpg, hvg, -⟩ := own_form og
  subst hvg
  have HG : Hid (OtH w5.heap.size w6.heap.size w6 (.slice ag zg.length cpg) zg) := og.toH
  obtain rfl := NeedsS.same hsg HSW.out
  clear og hsg
  have z6 : w5.heap.size ≤ w6.heap.size := b.size
  have HB' : Hid (Below w.heap.size w w6) := belowCall HB.out b HB.out.size
  have HKA' : Hid (Blk w6 w.heap.size (F4 s p m (.slice a ln cap)) 43) := HKA.out.below b HKA.out.lt
  have HW' : Hid (OtH w2.heap.size w3.heap.size w6 (.slice aw zg.length cpw) zg) := HW.out.below b
  have HX' : Hid (OtH w3.heap.size w4.heap.size w6 (.slice ax cs.length cx) cs) := HX.out.below b
  have HKX' : Hid (Blk w6 w4.heap.size (F4 s p m (.slice ax cs.length cx)) 26) := HKX.out.below b HKX.out.lt
  clear HB HKA HW HX HKX
  have HB := HB'
  have HKA := HKA'
  have HW := HW'
  have HX := HX'
  have HKX := HKX'
  clear HB' HKA' HW' HX' HKX'
  clear b
  have hzl : zg.length ≤ 1048576 := Nat.le_trans HSW.out.len (by decide)
  have cKA0 : w6.cell? ⟨w.heap.size, 0, none⟩ = some (.int .i64 s) := by have := HKA.out.cell 0; simpa using this
  have cKA1 : w6.cell? ⟨w.heap.size, 1, none⟩ = some (.int .i64 p) := by have := HKA.out.cell 1; simpa using this
  have cKA2 : w6.cell? ⟨w.heap.size, 2, none⟩ = some (.int .i64 m) := by have := HKA.out.cell 2; simpa using this
  have cKA3 : w6.cell? ⟨w.heap.size, 3, none⟩ = some (.slice a ln cap) := by have := HKA.out.cell 3; simpa using this
  have lKA : w.heap.size < w6.heap.size := HKA.out.lt
  have cKX0 : w6.cell? ⟨w4.heap.size, 0, none⟩ = some (.int .i64 s) := by have := HKX.out.cell 0; simpa using this
  have cKX1 : w6.cell? ⟨w4.heap.size, 1, none⟩ = some (.int .i64 p) := by have := HKX.out.cell 1; simpa using this
  have cKX2 : w6.cell? ⟨w4.heap.size, 2, none⟩ = some (.int .i64 m) := by have := HKX.out.cell 2; simpa using this
  have cKX3 : w6.cell? ⟨w4.heap.size, 3, none⟩ = some (.slice ax cs.length cx) := by have := HKX.out.cell 3; simpa using this
  have lKX : w4.heap.size < w6.heap.size := HKX.out.lt
  go_wp2_with (fail)
  refine (eqPathS_c (.slice ag zg.length cpg) (.slice aw zg.length cpw) zg zg w6 HG.out.rd HW.out.rd).mono ?_
  rintro e w7 ⟨rfl, b⟩
  have hde : decide (zg = zg) = true := by simp
  rw [hde]
  clear hde
  clear cKA0 cKA1 cKA2 cKA3 lKA cKX0 cKX1 cKX2 cKX3 lKX
  have z7 : w6.heap.size ≤ w7.heap.size := b.size
  have HB' : Hid (Below w.heap.size w w7) := belowCall HB.out b HB.out.size
  have HKA' : Hid (Blk w7 w.heap.size (F4 s p m (.slice a ln cap)) 43) := HKA.out.below b HKA.out.lt
  have HW' : Hid (OtH w2.heap.size w3.heap.size w7 (.slice aw zg.length cpw) zg) := HW.out.below b
  have HX' : Hid (OtH w3.heap.size w4.heap.size w7 (.slice ax cs.length cx) cs) := HX.out.below b
  have HKX' : Hid (Blk w7 w4.heap.size (F4 s p m (.slice ax cs.length cx)) 26) := HKX.out.below b HKX.out.lt
  have HG' : Hid (OtH w5.heap.size w6.heap.size w7 (.slice ag zg.length cpg) zg) := HG.out.below b
  clear HB HKA HW HX HKX HG
  have HB := HB'
  have HKA := HKA'
  have HW := HW'
  have HX := HX'
  have HKX := HKX'
  have HG := HG'
  clear HB' HKA' HW' HX' HKX' HG'
  clear b
  have cKA0 : w7.cell? ⟨w.heap.size, 0, none⟩ = some (.int .i64 s) := by have := HKA.out.cell 0; simpa using this
  have cKA1 : w7.cell? ⟨w.heap.size, 1, none⟩ = some (.int .i64 p) := by have := HKA.out.cell 1; simpa using this
  have cKA2 : w7.cell? ⟨w.heap.size, 2, none⟩ = some (.int .i64 m) := by have := HKA.out.cell 2; simpa using this
  have cKA3 : w7.cell? ⟨w.heap.size, 3, none⟩ = some (.slice a ln cap) := by have := HKA.out.cell 3; simpa using this
  have lKA : w.heap.size < w7.heap.size := HKA.out.lt
  have cKX0 : w7.cell? ⟨w4.heap.size, 0, none⟩ = some (.int .i64 s) := by have := HKX.out.cell 0; simpa using this
  have cKX1 : w7.cell? ⟨w4.heap.size, 1, none⟩ = some (.int .i64 p) := by have := HKX.out.cell 1; simpa using this
  have cKX2 : w7.cell? ⟨w4.heap.size, 2, none⟩ = some (.int .i64 m) := by have := HKX.out.cell 2; simpa using this
  have cKX3 : w7.cell? ⟨w4.heap.size, 3, none⟩ = some (.slice ax cs.length cx) := by have := HKX.out.cell 3; simpa using this
  have lKX : w4.heap.size < w7.heap.size := HKX.out.lt
  go_wp2
  obtain ⟨S, hS⟩ : ∃ S : World → Prop, ∀ W, S W ↔ Below w7.heap.size w7 W := ⟨_, fun _ => Iff.rfl⟩
  have y0 : ∀ W : At S, W.wd.cell? ⟨w.heap.size, 0, none⟩ = some (.int .i64 s) := fun W => (((hS _).1 W.ok).cell HKA.out.lt).trans cKA0
  have x0 : ∀ W : At S, W.wd.cell? ⟨w4.heap.size, 0, none⟩ = some (.int .i64 s) := fun W => (((hS _).1 W.ok).cell HKX.out.lt).trans cKX0
  have y1 : ∀ W : At S, W.wd.cell? ⟨w.heap.size, 1, none⟩ = some (.int .i64 p) := fun W => (((hS _).1 W.ok).cell HKA.out.lt).trans cKA1
  have x1 : ∀ W : At S, W.wd.cell? ⟨w4.heap.size, 1, none⟩ = some (.int .i64 p) := fun W => (((hS _).1 W.ok).cell HKX.out.lt).trans cKX1
  have y2 : ∀ W : At S, W.wd.cell? ⟨w.heap.size, 2, none⟩ = some (.int .i64 m) := fun W => (((hS _).1 W.ok).cell HKA.out.lt).trans cKA2
  have x2 : ∀ W : At S, W.wd.cell? ⟨w4.heap.size, 2, none⟩ = some (.int .i64 m) := fun W => (((hS _).1 W.ok).cell HKX.out.lt).trans cKX2
  have y3 : ∀ W : At S, W.wd.cell? ⟨w.heap.size, 3, none⟩ = some (.slice a ln cap) := fun W => (((hS _).1 W.ok).cell HKA.out.lt).trans cKA3
  have x3 : ∀ W : At S, W.wd.cell? ⟨w4.heap.size, 3, none⟩ = some (.slice ax cs.length cx) := fun W => (((hS _).1 W.ok).cell HKX.out.lt).trans cKX3
  have HS : Hid (∀ W, S W ↔ Below w7.heap.size w7 W) := hS
  have ne : Nonempty (At S) := ⟨⟨w7, (hS _).2 (Below.refl _ _)⟩⟩
  clear hS
  refine region_mixA [true, true, false, false, false] 5 3 S (by kernel_rfl) rfl (by kernel_rfl) (fun _ _ _ _ _ h => h) ((HS.out _).2 (Below.refl _ _).drew) ?_
  simp only [selT, selF]
  repeat (go_big_quiet_step (fail))
  refine wpQuiet_nil ?_
  refine tail_step ?_
  clear cKA0 cKA1 cKA2 cKA3 lKA cKX0 cKX1 cKX2 cKX3 lKX
  clear y0 y1 y2 y3 x0 x1 x2 x3 ne
  go_wp2_with (fail)
  refine (toFabric_c s p m _ cs w7.drew (HH.out.below HB.out.drew) HL.out).mono ?_
  rintro e w8 ⟨vr, rfl, orr, b⟩
  have b' : Below w7.heap.size w7 w8 := (Below.refl _ _).drew.trans b
  have HB7 : Hid (Below w7.heap.size w7 w8) := b'
  have HOR : Hid (Rt w8 vr cs) := orr.rd
  clear orr b
  have z8 : w7.heap.size ≤ w8.heap.size := b'.size
  have HB' : Hid (Below w.heap.size w w8) := belowCall HB.out b' HB.out.size
  have HKA' : Hid (Blk w8 w.heap.size (F4 s p m (.slice a ln cap)) 43) := HKA.out.below b' HKA.out.lt
  have HW' : Hid (OtH w2.heap.size w3.heap.size w8 (.slice aw zg.length cpw) zg) := HW.out.below b'
  have HX' : Hid (OtH w3.heap.size w4.heap.size w8 (.slice ax cs.length cx) cs) := HX.out.below b'
  have HKX' : Hid (Blk w8 w4.heap.size (F4 s p m (.slice ax cs.length cx)) 26) := HKX.out.below b' HKX.out.lt
  have HG' : Hid (OtH w5.heap.size w6.heap.size w8 (.slice ag zg.length cpg) zg) := HG.out.below b'
  clear HB HKA HW HX HKX HG
  have HB := HB'
  have HKA := HKA'
  have HW := HW'
  have HX := HX'
  have HKX := HKX'
  have HG := HG'
  clear HB' HKA' HW' HX' HKX' HG'
  clear b'
  go_wp2
  refine ⟨(HS.out _).2 HB7.out, tail_step ?_⟩
  go_wp2_with (fail)
  refine (eqFabric_c s p m s p m _ _ cs cs w8 HX.out.rd HOR.out).mono ?_
  rintro e w9 ⟨rfl, b⟩
  have hde : decide ((s, p, m, cs) = (s, p, m, cs)) = true := by simp
  rw [hde]
  have HB8 : Hid (Below w7.heap.size w7 w9) := belowCall HB7.out b HB7.out.size
  clear hde HOR
  have z9 : w8.heap.size ≤ w9.heap.size := b.size
  have HB' : Hid (Below w.heap.size w w9) := belowCall HB.out b HB.out.size
  have HKA' : Hid (Blk w9 w.heap.size (F4 s p m (.slice a ln cap)) 43) := HKA.out.below b HKA.out.lt
  have HW' : Hid (OtH w2.heap.size w3.heap.size w9 (.slice aw zg.length cpw) zg) := HW.out.below b
  have HX' : Hid (OtH w3.heap.size w4.heap.size w9 (.slice ax cs.length cx) cs) := HX.out.below b
  have HKX' : Hid (Blk w9 w4.heap.size (F4 s p m (.slice ax cs.length cx)) 26) := HKX.out.below b HKX.out.lt
  have HG' : Hid (OtH w5.heap.size w6.heap.size w9 (.slice ag zg.length cpg) zg) := HG.out.below b
  clear HB HKA HW HX HKX HG
  have HB := HB'
  have HKA := HKA'
  have HW := HW'
  have HX := HX'
  have HKX := HKX'
  have HG := HG'
  clear HB' HKA' HW' HX' HKX' HG'
  clear b
  go_wp2
  refine ⟨(HS.out _).2 HB8.out, tail_step ?_⟩
  go_wp2
  refine ⟨(HS.out _).2 HB8.out, tail_end ?_⟩
  clear HB7 HB8 HS S
  have hcl : cs.length ≤ 1048576 := HL.out
  have cKA0 : w9.cell? ⟨w.heap.size, 0, none⟩ = some (.int .i64 s) := by have := HKA.out.cell 0; simpa using this
  have cKA1 : w9.cell? ⟨w.heap.size, 1, none⟩ = some (.int .i64 p) := by have := HKA.out.cell 1; simpa using this
  have cKA2 : w9.cell? ⟨w.heap.size, 2, none⟩ = some (.int .i64 m) := by have := HKA.out.cell 2; simpa using this
  have cKA3 : w9.cell? ⟨w.heap.size, 3, none⟩ = some (.slice a ln cap) := by have := HKA.out.cell 3; simpa using this
  have lKA : w.heap.size < w9.heap.size := HKA.out.lt
  have cKX0 : w9.cell? ⟨w4.heap.size, 0, none⟩ = some (.int .i64 s) := by have := HKX.out.cell 0; simpa using this
  have cKX1 : w9.cell? ⟨w4.heap.size, 1, none⟩ = some (.int .i64 p) := by have := HKX.out.cell 1; simpa using this
  have cKX2 : w9.cell? ⟨w4.heap.size, 2, none⟩ = some (.int .i64 m) := by have := HKX.out.cell 2; simpa using this
  have cKX3 : w9.cell? ⟨w4.heap.size, 3, none⟩ = some (.slice ax cs.length cx) := by have := HKX.out.cell 3; simpa using this
  have lKX : w4.heap.size < w9.heap.size := HKX.out.lt
  go_wp2_with (fail)
  refine (markFabric_c s p m _ cs 1 w3.heap.size w4.heap.size w9 HX.out (by decide) (by omega)).mono ?_
  rintro e w10 ⟨rfl, -, mm⟩
  clear HX
  clear cKA0 cKA1 cKA2 cKA3 lKA cKX0 cKX1 cKX2 cKX3 lKX
  have z10 : w9.heap.size ≤ w10.heap.size := mm.size
  have HB' : Hid (Below w.heap.size w w10) := HB.out.trans ((mm.below (by omega)).mono (by omega))
  have HKA' : Hid (Blk w10 w.heap.size (F4 s p m (.slice a ln cap)) 43) := HKA.out.mid mm (by omega)
  have HW' : Hid (OtH w2.heap.size w3.heap.size w10 (.slice aw zg.length cpw) zg) := HW.out.mid mm (by omega)
  have HKX' : Hid (Blk w10 w4.heap.size (F4 s p m (.slice ax cs.length cx)) 26) := HKX.out.mid mm (by omega)
  have HG' : Hid (OtH w5.heap.size w6.heap.size w10 (.slice ag zg.length cpg) zg) := HG.out.mid mm (by omega)
  clear HB HKA HW HKX HG
  have HB := HB'
  have HKA := HKA'
  have HW := HW'
  have HKX := HKX'
  have HG := HG'
  clear HB' HKA' HW' HKX' HG'
  clear mm
  have hn1 : ((1 : Int) + 3 * (cs.length : Int) < 0) = False := by simp; omega
  have hn2 : ¬ ((1 : Int) + 3 * (cs.length : Int) < 0) := by omega
  have cKA0 : w10.cell? ⟨w.heap.size, 0, none⟩ = some (.int .i64 s) := by have := HKA.out.cell 0; simpa using this
  have cKA1 : w10.cell? ⟨w.heap.size, 1, none⟩ = some (.int .i64 p) := by have := HKA.out.cell 1; simpa using this
  have cKA2 : w10.cell? ⟨w.heap.size, 2, none⟩ = some (.int .i64 m) := by have := HKA.out.cell 2; simpa using this
  have cKA3 : w10.cell? ⟨w.heap.size, 3, none⟩ = some (.slice a ln cap) := by have := HKA.out.cell 3; simpa using this
  have lKA : w.heap.size < w10.heap.size := HKA.out.lt
  have cKX0 : w10.cell? ⟨w4.heap.size, 0, none⟩ = some (.int .i64 s) := by have := HKX.out.cell 0; simpa using this
  have cKX1 : w10.cell? ⟨w4.heap.size, 1, none⟩ = some (.int .i64 p) := by have := HKX.out.cell 1; simpa using this
  have cKX2 : w10.cell? ⟨w4.heap.size, 2, none⟩ = some (.int .i64 m) := by have := HKX.out.cell 2; simpa using this
  have cKX3 : w10.cell? ⟨w4.heap.size, 3, none⟩ = some (.slice ax cs.length cx) := by have := HKX.out.cell 3; simpa using this
  have lKX : w4.heap.size < w10.heap.size := HKX.out.lt
  go_wp2_with (fail)
  refine (eqPathS_c (.slice ag zg.length cpg) (.slice aw zg.length cpw) zg zg w10 HG.out.rd HW.out.rd).mono ?_
  rintro e w11 ⟨rfl, b⟩
  have hde : decide (zg = zg) = true := by simp
  rw [hde]
  clear hde
  clear cKA0 cKA1 cKA2 cKA3 lKA cKX0 cKX1 cKX2 cKX3 lKX
  have z11 : w10.heap.size ≤ w11.heap.size := b.size
  have HB' : Hid (Below w.heap.size w w11) := belowCall HB.out b HB.out.size
  have HKA' : Hid (Blk w11 w.heap.size (F4 s p m (.slice a ln cap)) 43) := HKA.out.below b HKA.out.lt
  have HW' : Hid (OtH w2.heap.size w3.heap.size w11 (.slice aw zg.length cpw) zg) := HW.out.below b
  have HKX' : Hid (Blk w11 w4.heap.size (F4 s p m (.slice ax cs.length cx)) 26) := HKX.out.below b HKX.out.lt
  have HG' : Hid (OtH w5.heap.size w6.heap.size w11 (.slice ag zg.length cpg) zg) := HG.out.below b
  clear HB HKA HW HKX HG
  have HB := HB'
  have HKA := HKA'
  have HW := HW'
  have HKX := HKX'
  have HG := HG'
  clear HB' HKA' HW' HKX' HG'
  clear b
  have cKA0 : w11.cell? ⟨w.heap.size, 0, none⟩ = some (.int .i64 s) := by have := HKA.out.cell 0; simpa using this
  have cKA1 : w11.cell? ⟨w.heap.size, 1, none⟩ = some (.int .i64 p) := by have := HKA.out.cell 1; simpa using this
  have cKA2 : w11.cell? ⟨w.heap.size, 2, none⟩ = some (.int .i64 m) := by have := HKA.out.cell 2; simpa using this
  have cKA3 : w11.cell? ⟨w.heap.size, 3, none⟩ = some (.slice a ln cap) := by have := HKA.out.cell 3; simpa using this
  have lKA : w.heap.size < w11.heap.size := HKA.out.lt
  have cKX0 : w11.cell? ⟨w4.heap.size, 0, none⟩ = some (.int .i64 s) := by have := HKX.out.cell 0; simpa using this
  have cKX1 : w11.cell? ⟨w4.heap.size, 1, none⟩ = some (.int .i64 p) := by have := HKX.out.cell 1; simpa using this
  have cKX2 : w11.cell? ⟨w4.heap.size, 2, none⟩ = some (.int .i64 m) := by have := HKX.out.cell 2; simpa using this
  have cKX3 : w11.cell? ⟨w4.heap.size, 3, none⟩ = some (.slice ax cs.length cx) := by have := HKX.out.cell 3; simpa using this
  have lKX : w4.heap.size < w11.heap.size := HKX.out.lt
  go_wp2_with (fail)
  refine (markH_c _ zg 1 w5.heap.size w6.heap.size w11 HG.out (by decide) (by omega)).mono ?_
  rintro e w12 ⟨rfl, og, mm⟩
  have HG2 : Hid (OtH w5.heap.size w6.heap.size w12 (.slice ag zg.length cpg) (mkT 1 zg.length)) := og
  clear HG og
  clear cKA0 cKA1 cKA2 cKA3 lKA cKX0 cKX1 cKX2 cKX3 lKX
  have z12 : w11.heap.size ≤ w12.heap.size := mm.size
  have HB' : Hid (Below w.heap.size w w12) := HB.out.trans ((mm.below (by omega)).mono (by omega))
  have HKA' : Hid (Blk w12 w.heap.size (F4 s p m (.slice a ln cap)) 43) := HKA.out.mid mm (by omega)
  have HW' : Hid (OtH w2.heap.size w3.heap.size w12 (.slice aw zg.length cpw) zg) := HW.out.mid mm (by omega)
  have HKX' : Hid (Blk w12 w4.heap.size (F4 s p m (.slice ax cs.length cx)) 26) := HKX.out.mid mm (by omega)
  clear HB HKA HW HKX
  have HB := HB'
  have HKA := HKA'
  have HW := HW'
  have HKX := HKX'
  clear HB' HKA' HW' HKX'
  clear mm
  have cKA0 : w12.cell? ⟨w.heap.size, 0, none⟩ = some (.int .i64 s) := by have := HKA.out.cell 0; simpa using this
  have cKA1 : w12.cell? ⟨w.heap.size, 1, none⟩ = some (.int .i64 p) := by have := HKA.out.cell 1; simpa using this
  have cKA2 : w12.cell? ⟨w.heap.size, 2, none⟩ = some (.int .i64 m) := by have := HKA.out.cell 2; simpa using this
  have cKA3 : w12.cell? ⟨w.heap.size, 3, none⟩ = some (.slice a ln cap) := by have := HKA.out.cell 3; simpa using this
  have lKA : w.heap.size < w12.heap.size := HKA.out.lt
  have cKX0 : w12.cell? ⟨w4.heap.size, 0, none⟩ = some (.int .i64 s) := by have := HKX.out.cell 0; simpa using this
  have cKX1 : w12.cell? ⟨w4.heap.size, 1, none⟩ = some (.int .i64 p) := by have := HKX.out.cell 1; simpa using this
  have cKX2 : w12.cell? ⟨w4.heap.size, 2, none⟩ = some (.int .i64 m) := by have := HKX.out.cell 2; simpa using this
  have cKX3 : w12.cell? ⟨w4.heap.size, 3, none⟩ = some (.slice ax cs.length cx) := by have := HKX.out.cell 3; simpa using this
  have lKX : w4.heap.size < w12.heap.size := HKX.out.lt
  go_wp2_with (fail)
  refine (heldPathS_c _ 1 zg.length w12 HG2.out.rd (by decide) (by omega)).mono ?_
  rintro e w13 ⟨rfl, b⟩
  clear cKA0 cKA1 cKA2 cKA3 lKA cKX0 cKX1 cKX2 cKX3 lKX
  have z13 : w12.heap.size ≤ w13.heap.size := b.size
  have HB' : Hid (Below w.heap.size w w13) := belowCall HB.out b HB.out.size
  have HKA' : Hid (Blk w13 w.heap.size (F4 s p m (.slice a ln cap)) 43) := HKA.out.below b HKA.out.lt
  have HW' : Hid (OtH w2.heap.size w3.heap.size w13 (.slice aw zg.length cpw) zg) := HW.out.below b
  have HKX' : Hid (Blk w13 w4.heap.size (F4 s p m (.slice ax cs.length cx)) 26) := HKX.out.below b HKX.out.lt
  have HG2' : Hid (OtH w5.heap.size w6.heap.size w13 (.slice ag zg.length cpg) (mkT 1 zg.length)) := HG2.out.below b
  clear HB HKA HW HKX HG2
  have HB := HB'
  have HKA := HKA'
  have HW := HW'
  have HKX := HKX'
  have HG2 := HG2'
  clear HB' HKA' HW' HKX' HG2'
  clear b
  have hnn : ((1 : Int) + 3 * (zg.length : Int) < 0) = False := by simp; omega
  have hnn2 : ¬ ((1 : Int) + 3 * (zg.length : Int) < 0) := by omega
  have hmm : ((1 : Int) + 3 * (zg.length : Int) != 1 + 3 * (zg.length : Int)) = false := by simp
  have cKA0 : w13.cell? ⟨w.heap.size, 0, none⟩ = some (.int .i64 s) := by have := HKA.out.cell 0; simpa using this
  have cKA1 : w13.cell? ⟨w.heap.size, 1, none⟩ = some (.int .i64 p) := by have := HKA.out.cell 1; simpa using this
  have cKA2 : w13.cell? ⟨w.heap.size, 2, none⟩ = some (.int .i64 m) := by have := HKA.out.cell 2; simpa using this
  have cKA3 : w13.cell? ⟨w.heap.size, 3, none⟩ = some (.slice a ln cap) := by have := HKA.out.cell 3; simpa using this
  have lKA : w.heap.size < w13.heap.size := HKA.out.lt
  have cKX0 : w13.cell? ⟨w4.heap.size, 0, none⟩ = some (.int .i64 s) := by have := HKX.out.cell 0; simpa using this
  have cKX1 : w13.cell? ⟨w4.heap.size, 1, none⟩ = some (.int .i64 p) := by have := HKX.out.cell 1; simpa using this
  have cKX2 : w13.cell? ⟨w4.heap.size, 2, none⟩ = some (.int .i64 m) := by have := HKX.out.cell 2; simpa using this
  have cKX3 : w13.cell? ⟨w4.heap.size, 3, none⟩ = some (.slice ax cs.length cx) := by have := HKX.out.cell 3; simpa using this
  have lKX : w4.heap.size < w13.heap.size := HKX.out.lt
  go_wp2_with (fail)
  refine (toFabric_c s p m _ cs w13 (HH.out.below HB.out) HL.out).mono ?_
  rintro e w14 ⟨vh, rfl, oh, b⟩
  have HOH : Hid (Rt w14 vh cs) := oh.rd
  clear oh
  clear cKA0 cKA1 cKA2 cKA3 lKA cKX0 cKX1 cKX2 cKX3 lKX
  have z14 : w13.heap.size ≤ w14.heap.size := b.size
  have HB' : Hid (Below w.heap.size w w14) := belowCall HB.out b HB.out.size
  have HKA' : Hid (Blk w14 w.heap.size (F4 s p m (.slice a ln cap)) 43) := HKA.out.below b HKA.out.lt
  have HW' : Hid (OtH w2.heap.size w3.heap.size w14 (.slice aw zg.length cpw) zg) := HW.out.below b
  have HKX' : Hid (Blk w14 w4.heap.size (F4 s p m (.slice ax cs.length cx)) 26) := HKX.out.below b HKX.out.lt
  have HG2' : Hid (OtH w5.heap.size w6.heap.size w14 (.slice ag zg.length cpg) (mkT 1 zg.length)) := HG2.out.below b
  clear HB HKA HW HKX HG2
  have HB := HB'
  have HKA := HKA'
  have HW := HW'
  have HKX := HKX'
  have HG2 := HG2'
  clear HB' HKA' HW' HKX' HG2'
  clear b
  have cKA0 : w14.cell? ⟨w.heap.size, 0, none⟩ = some (.int .i64 s) := by have := HKA.out.cell 0; simpa using this
  have cKA1 : w14.cell? ⟨w.heap.size, 1, none⟩ = some (.int .i64 p) := by have := HKA.out.cell 1; simpa using this
  have cKA2 : w14.cell? ⟨w.heap.size, 2, none⟩ = some (.int .i64 m) := by have := HKA.out.cell 2; simpa using this
  have cKA3 : w14.cell? ⟨w.heap.size, 3, none⟩ = some (.slice a ln cap) := by have := HKA.out.cell 3; simpa using this
  have lKA : w.heap.size < w14.heap.size := HKA.out.lt
  have cKX0 : w14.cell? ⟨w4.heap.size, 0, none⟩ = some (.int .i64 s) := by have := HKX.out.cell 0; simpa using this
  have cKX1 : w14.cell? ⟨w4.heap.size, 1, none⟩ = some (.int .i64 p) := by have := HKX.out.cell 1; simpa using this
  have cKX2 : w14.cell? ⟨w4.heap.size, 2, none⟩ = some (.int .i64 m) := by have := HKX.out.cell 2; simpa using this
  have cKX3 : w14.cell? ⟨w4.heap.size, 3, none⟩ = some (.slice ax cs.length cx) := by have := HKX.out.cell 3; simpa using this
  have lKX : w4.heap.size < w14.heap.size := HKX.out.lt
  go_wp2_with (fail)
  refine (needsI_c s p m _ cs w14 HOH.out (HNP.out _ HB.out) (by omega)).mono ?_
  rintro e w15 ⟨vq, zh, rfl, hsh, oq, b⟩
  obtain ⟨aq, cpq, hvq, -⟩ := own_form oq
  subst hvq
  have HR : Hid (Rt w15 (.slice aq zh.length cpq) zh) := oq.rd
  obtain rfl := NeedsS.same hsh HSW.out
  clear oq hsh HOH
  clear cKA0 cKA1 cKA2 cKA3 lKA cKX0 cKX1 cKX2 cKX3 lKX
  have z15 : w14.heap.size ≤ w15.heap.size := b.size
  have HB' : Hid (Below w.heap.size w w15) := belowCall HB.out b HB.out.size
  have HKA' : Hid (Blk w15 w.heap.size (F4 s p m (.slice a ln cap)) 43) := HKA.out.below b HKA.out.lt
  have HW' : Hid (OtH w2.heap.size w3.heap.size w15 (.slice aw zh.length cpw) zh) := HW.out.below b
  have HKX' : Hid (Blk w15 w4.heap.size (F4 s p m (.slice ax cs.length cx)) 26) := HKX.out.below b HKX.out.lt
  have HG2' : Hid (OtH w5.heap.size w6.heap.size w15 (.slice ag zh.length cpg) (mkT 1 zh.length)) := HG2.out.below b
  clear HB HKA HW HKX HG2
  have HB := HB'
  have HKA := HKA'
  have HW := HW'
  have HKX := HKX'
  have HG2 := HG2'
  clear HB' HKA' HW' HKX' HG2'
  clear b
  have cKA0 : w15.cell? ⟨w.heap.size, 0, none⟩ = some (.int .i64 s) := by have := HKA.out.cell 0; simpa using this
  have cKA1 : w15.cell? ⟨w.heap.size, 1, none⟩ = some (.int .i64 p) := by have := HKA.out.cell 1; simpa using this
  have cKA2 : w15.cell? ⟨w.heap.size, 2, none⟩ = some (.int .i64 m) := by have := HKA.out.cell 2; simpa using this
  have cKA3 : w15.cell? ⟨w.heap.size, 3, none⟩ = some (.slice a ln cap) := by have := HKA.out.cell 3; simpa using this
  have lKA : w.heap.size < w15.heap.size := HKA.out.lt
  have cKX0 : w15.cell? ⟨w4.heap.size, 0, none⟩ = some (.int .i64 s) := by have := HKX.out.cell 0; simpa using this
  have cKX1 : w15.cell? ⟨w4.heap.size, 1, none⟩ = some (.int .i64 p) := by have := HKX.out.cell 1; simpa using this
  have cKX2 : w15.cell? ⟨w4.heap.size, 2, none⟩ = some (.int .i64 m) := by have := HKX.out.cell 2; simpa using this
  have cKX3 : w15.cell? ⟨w4.heap.size, 3, none⟩ = some (.slice ax cs.length cx) := by have := HKX.out.cell 3; simpa using this
  have lKX : w4.heap.size < w15.heap.size := HKX.out.lt
  go_wp2_with (fail)
  refine (eqPathS_c (.slice aq zh.length cpq) (.slice aw zh.length cpw) zh zh w15 HR.out HW.out.rd).mono ?_
  rintro e w16 ⟨rfl, b⟩
  have hde : decide (zh = zh) = true := by simp
  rw [hde]
  clear hde
  clear cKA0 cKA1 cKA2 cKA3 lKA cKX0 cKX1 cKX2 cKX3 lKX
  have z16 : w15.heap.size ≤ w16.heap.size := b.size
  have HB' : Hid (Below w.heap.size w w16) := belowCall HB.out b HB.out.size
  have HKA' : Hid (Blk w16 w.heap.size (F4 s p m (.slice a ln cap)) 43) := HKA.out.below b HKA.out.lt
  have HW' : Hid (OtH w2.heap.size w3.heap.size w16 (.slice aw zh.length cpw) zh) := HW.out.below b
  have HKX' : Hid (Blk w16 w4.heap.size (F4 s p m (.slice ax cs.length cx)) 26) := HKX.out.below b HKX.out.lt
  have HG2' : Hid (OtH w5.heap.size w6.heap.size w16 (.slice ag zh.length cpg) (mkT 1 zh.length)) := HG2.out.below b
  have HR' : Hid (Rt w16 (.slice aq zh.length cpq) zh) := HR.out.below b
  clear HB HKA HW HKX HG2 HR
  have HB := HB'
  have HKA := HKA'
  have HW := HW'
  have HKX := HKX'
  have HG2 := HG2'
  have HR := HR'
  clear HB' HKA' HW' HKX' HG2' HR'
  clear b
  have cKA0 : w16.cell? ⟨w.heap.size, 0, none⟩ = some (.int .i64 s) := by have := HKA.out.cell 0; simpa using this
  have cKA1 : w16.cell? ⟨w.heap.size, 1, none⟩ = some (.int .i64 p) := by have := HKA.out.cell 1; simpa using this
  have cKA2 : w16.cell? ⟨w.heap.size, 2, none⟩ = some (.int .i64 m) := by have := HKA.out.cell 2; simpa using this
  have cKA3 : w16.cell? ⟨w.heap.size, 3, none⟩ = some (.slice a ln cap) := by have := HKA.out.cell 3; simpa using this
  have lKA : w.heap.size < w16.heap.size := HKA.out.lt
  have cKX0 : w16.cell? ⟨w4.heap.size, 0, none⟩ = some (.int .i64 s) := by have := HKX.out.cell 0; simpa using this
  have cKX1 : w16.cell? ⟨w4.heap.size, 1, none⟩ = some (.int .i64 p) := by have := HKX.out.cell 1; simpa using this
  have cKX2 : w16.cell? ⟨w4.heap.size, 2, none⟩ = some (.int .i64 m) := by have := HKX.out.cell 2; simpa using this
  have cKX3 : w16.cell? ⟨w4.heap.size, 3, none⟩ = some (.slice ax cs.length cx) := by have := HKX.out.cell 3; simpa using this
  have lKX : w4.heap.size < w16.heap.size := HKX.out.lt
  go_wp2_with (fail)
  refine (heldPathS_c _ 1 zh.length w16 HG2.out.rd (by decide) (by omega)).mono ?_
  rintro e w17 ⟨rfl, b⟩
  clear cKA0 cKA1 cKA2 cKA3 lKA cKX0 cKX1 cKX2 cKX3 lKX
  have z17 : w16.heap.size ≤ w17.heap.size := b.size
  have HB' : Hid (Below w.heap.size w w17) := belowCall HB.out b HB.out.size
  have HKA' : Hid (Blk w17 w.heap.size (F4 s p m (.slice a ln cap)) 43) := HKA.out.below b HKA.out.lt
  have HW' : Hid (OtH w2.heap.size w3.heap.size w17 (.slice aw zh.length cpw) zh) := HW.out.below b
  have HKX' : Hid (Blk w17 w4.heap.size (F4 s p m (.slice ax cs.length cx)) 26) := HKX.out.below b HKX.out.lt
  have HG2' : Hid (OtH w5.heap.size w6.heap.size w17 (.slice ag zh.length cpg) (mkT 1 zh.length)) := HG2.out.below b
  have HR' : Hid (Rt w17 (.slice aq zh.length cpq) zh) := HR.out.below b
  clear HB HKA HW HKX HG2 HR
  have HB := HB'
  have HKA := HKA'
  have HW := HW'
  have HKX := HKX'
  have HG2 := HG2'
  have HR := HR'
  clear HB' HKA' HW' HKX' HG2' HR'
  clear b
  have cKA0 : w17.cell? ⟨w.heap.size, 0, none⟩ = some (.int .i64 s) := by have := HKA.out.cell 0; simpa using this
  have cKA1 : w17.cell? ⟨w.heap.size, 1, none⟩ = some (.int .i64 p) := by have := HKA.out.cell 1; simpa using this
  have cKA2 : w17.cell? ⟨w.heap.size, 2, none⟩ = some (.int .i64 m) := by have := HKA.out.cell 2; simpa using this
  have cKA3 : w17.cell? ⟨w.heap.size, 3, none⟩ = some (.slice a ln cap) := by have := HKA.out.cell 3; simpa using this
  have lKA : w.heap.size < w17.heap.size := HKA.out.lt
  have cKX0 : w17.cell? ⟨w4.heap.size, 0, none⟩ = some (.int .i64 s) := by have := HKX.out.cell 0; simpa using this
  have cKX1 : w17.cell? ⟨w4.heap.size, 1, none⟩ = some (.int .i64 p) := by have := HKX.out.cell 1; simpa using this
  have cKX2 : w17.cell? ⟨w4.heap.size, 2, none⟩ = some (.int .i64 m) := by have := HKX.out.cell 2; simpa using this
  have cKX3 : w17.cell? ⟨w4.heap.size, 3, none⟩ = some (.slice ax cs.length cx) := by have := HKX.out.cell 3; simpa using this
  have lKX : w4.heap.size < w17.heap.size := HKX.out.lt
  go_wp2
  go_ret
  exact ⟨rfl, HB.out⟩
end Go.Proofs.YtikhfeafbckjlaaDoor

/- The program's Mix answers as the model's at every panel and all levels; it writes into neither, and its answer owns its memory; no condition. -/
import Derived.Test.YtcbeaimpmjljjaaMixI
import Derived.Test.YtcbeaimpmjljjaaOwH
namespace Go.Proofs.Ytcbeaimpmjljjaa
open Go.RowKit Go.ChangeShapes Go.WideShapes Go.ChangeAt
set_option linter.unusedVariables false
set_option linter.unusedSimpArgs false
set_option maxRecDepth 8000
set_option maxHeartbeats 3200000 in
theorem mixLaw (n : Int) (v : Value) (cs : Calls2) (u : Value) (lev : List Int) (w : World) (h : RdC w v cs) (hu : Rd .i64 w u lev) :
   Calls Try.prog 11 #[.agg #[.int .i64 n, v], u] w fun e w' => e = .returned (.bool true) ∧ Below w.heap.size w w' := by
  have bel0 : Below w.heap.size w (w.alloc (Obj.cells #[.int .i64 n, v] 55)) := (Below.refl _ _).alloc (Nat.le_refl _) _
  have HZ : Hid (Calls Try.prog 31 #[.agg #[.int .i64 n, v], .int .i64 1048576] (w.alloc (Obj.cells #[.int .i64 n, v] 55)) fun e w' => e = .returned (.int .i64 (lft 1048576 (cs.length + legsTo cs cs.length))) ∧ Below (w.alloc (Obj.cells #[.int .i64 n, v] 55)).heap.size (w.alloc (Obj.cells #[.int .i64 n, v] 55)) w') := szPanel_c n v cs 1048576 _ (h.below bel0) (by decide) (by decide)
  have HB : Hid (Below w.heap.size w (w.alloc (Obj.cells #[.int .i64 n, v] 55))) := bel0
  have HH : Hid (RdC w v cs) := h
  have HKA : Hid (Blk (w.alloc (Obj.cells #[.int .i64 n, v] 55)) w.heap.size #[.int .i64 n, v] 55) := Blk.new _ _ _
  have HU : Hid (Rd .i64 w u lev) := hu
  obtain ⟨au, cu, rfl, u1, u2, -⟩ := hu
  unfold maxLen at u2
  obtain ⟨lv, -, ⟨a, cap, rfl, -⟩, -⟩ := h
  obtain ⟨z, hz⟩ : ∃ z, lft 1048576 (cs.length + legsTo cs cs.length) = z := ⟨_, rfl⟩
  rw [hz] at HZ
  have HZ2 : Hid (0 ≤ z → (cs.length ≤ 1048576 ∧ ∀ c ∈ cs, c.2.length ≤ 1048576) ∧ mkEnd 1 cs ≤ 4194304) := fun h0 => ⟨lft_lens (hz ▸ h0), mkEnd_lft (hz ▸ h0)⟩
  clear bel0 hz
  by_cases hbig : 1048576 < (lev.length : Int)
  · go_enter Try.func11, Try.ntmps11
    go_wp2
    go_ret
    exact ⟨rfl, HB.out⟩
  have hsm : lev.length ≤ 1048576 := by omega
  go_enter Try.func11, Try.ntmps11
  go_wp2_with (fail)
  refine HZ.out.mono ?_
  rintro e w1 ⟨rfl, b1⟩
  have sA : (w.alloc (Obj.cells #[.int .i64 n, .slice a lv.length cap] 55)).heap.size = w.heap.size + 1 := by simp
  have z1 : w.heap.size + 1 ≤ w1.heap.size := by have := b1.size; rw [sA] at this; exact this
  have HB' : Hid (Below w.heap.size w w1) := belowCall HB.out b1 HB.out.size
  have HKA' : Hid (Blk w1 w.heap.size #[.int .i64 n, .slice a lv.length cap] 55) := HKA.out.below b1 (by simp)
  clear HB HKA
  have HB := HB'
  have HKA := HKA'
  clear HB' HKA' b1 HZ sA
  have cKA0 : w1.cell? ⟨w.heap.size, 0, none⟩ = some (.int .i64 n) := by have := HKA.out.cell 0; simpa using this
  have cKA1 : w1.cell? ⟨w.heap.size, 1, none⟩ = some (.slice a lv.length cap) := by have := HKA.out.cell 1; simpa using this
  by_cases hneg : z < 0
  · go_wp2
    go_ret
    exact ⟨rfl, HB.out⟩
  obtain ⟨HL, hke⟩ := HZ2.out (by omega)
  have HLL : Hid (cs.length ≤ 1048576 ∧ ∀ c ∈ cs, c.2.length ≤ 1048576) := HL
  obtain ⟨ke, hkd⟩ : ∃ ke, mkEnd 1 cs = ke := ⟨_, rfl⟩
  have hk1 : 1 ≤ ke := by rw [← hkd]; exact mkEnd_ge cs 1
  rw [hkd] at hke
  have HKE : Hid (mkEnd 1 cs = ke) := hkd
  clear HL hkd HZ2
  go_wp2_with (fail)
  refine (toPanel_c n _ cs w1 (HH.out.below HB.out) HLL.out.1 HLL.out.2).mono ?_
  rintro e w2 ⟨vs, rfl, os, b⟩
  have HOS : Hid (RdC w2 vs cs) := os.rd
  clear os
  clear cKA0 cKA1
  have z2 : w1.heap.size ≤ w2.heap.size := b.size
  have HB' : Hid (Below w.heap.size w w2) := belowCall HB.out b HB.out.size
  have HKA' : Hid (Blk w2 w.heap.size #[.int .i64 n, .slice a lv.length cap] 55) := HKA.out.below b HKA.out.lt
  clear HB HKA
  have HB := HB'
  have HKA := HKA'
  clear HB' HKA'
  clear b
  have cKA0 : w2.cell? ⟨w.heap.size, 0, none⟩ = some (.int .i64 n) := by have := HKA.out.cell 0; simpa using this
  have cKA1 : w2.cell? ⟨w.heap.size, 1, none⟩ = some (.slice a lv.length cap) := by have := HKA.out.cell 1; simpa using this
  go_wp2_with (fail)
  refine (toI _ lev w2 (HU.out.below HB.out) hsm).mono ?_
  rintro e w3 ⟨us, rfl, ou, b⟩
  have HUS : Hid (Rd .i64 w3 us lev) := ou.rd
  clear ou
  clear cKA0 cKA1
  have z3 : w2.heap.size ≤ w3.heap.size := b.size
  have HB' : Hid (Below w.heap.size w w3) := belowCall HB.out b HB.out.size
  have HKA' : Hid (Blk w3 w.heap.size #[.int .i64 n, .slice a lv.length cap] 55) := HKA.out.below b HKA.out.lt
  have HOS' : Hid (RdC w3 vs cs) := HOS.out.below b
  clear HB HKA HOS
  have HB := HB'
  have HKA := HKA'
  have HOS := HOS'
  clear HB' HKA' HOS'
  clear b
  have cKA0 : w3.cell? ⟨w.heap.size, 0, none⟩ = some (.int .i64 n) := by have := HKA.out.cell 0; simpa using this
  have cKA1 : w3.cell? ⟨w.heap.size, 1, none⟩ = some (.slice a lv.length cap) := by have := HKA.out.cell 1; simpa using this
  go_wp2_with (fail)
  refine (specMix_c n _ cs us lev w3 HOS.out HUS.out).mono ?_
  rintro e w4 ⟨vw, rw, zw, rfl, ow, hsw, b⟩
  have HW : Hid (OwH w3.heap.size w4.heap.size w4 vw zw) := ow.toH
  have HSW : Hid (MS n cs lev rw zw) := hsw
  clear ow hsw
  clear cKA0 cKA1
  have z4 : w3.heap.size ≤ w4.heap.size := b.size
  have HB' : Hid (Below w.heap.size w w4) := belowCall HB.out b HB.out.size
  have HKA' : Hid (Blk w4 w.heap.size #[.int .i64 n, .slice a lv.length cap] 55) := HKA.out.below b HKA.out.lt
  have HOS' : Hid (RdC w4 vs cs) := HOS.out.below b
  have HUS' : Hid (Rd .i64 w4 us lev) := HUS.out.below b
  clear HB HKA HOS HUS
  have HB := HB'
  have HKA := HKA'
  have HOS := HOS'
  have HUS := HUS'
  clear HB' HKA' HOS' HUS'
  clear b
  clear HOS HUS
  have cKA0 : w4.cell? ⟨w.heap.size, 0, none⟩ = some (.int .i64 n) := by have := HKA.out.cell 0; simpa using this
  have cKA1 : w4.cell? ⟨w.heap.size, 1, none⟩ = some (.slice a lv.length cap) := by have := HKA.out.cell 1; simpa using this
  go_wp2_with (fail)
  refine (toPanel_c n _ cs w4 (HH.out.below HB.out) HLL.out.1 HLL.out.2).mono ?_
  rintro e w5 ⟨vx, rfl, ox, b⟩
  have HX : Hid (OwCH w4.heap.size w5.heap.size w5 vx cs) := ox.hi
  obtain ⟨ax, cx, hvx⟩ : ∃ ax cx, vx = .slice ax cs.length cx := by
    obtain ⟨lv', hl', ⟨a', cap', rfl, -⟩, -⟩ := ox.rd
    exact ⟨a', cap', by rw [hl']⟩
  subst hvx
  clear ox
  clear cKA0 cKA1
  have z5 : w4.heap.size ≤ w5.heap.size := b.size
  have HB' : Hid (Below w.heap.size w w5) := belowCall HB.out b HB.out.size
  have HKA' : Hid (Blk w5 w.heap.size #[.int .i64 n, .slice a lv.length cap] 55) := HKA.out.below b HKA.out.lt
  have HW' : Hid (OwH w3.heap.size w4.heap.size w5 vw zw) := HW.out.below b
  clear HB HKA HW
  have HB := HB'
  have HKA := HKA'
  have HW := HW'
  clear HB' HKA' HW'
  clear b
  have cKA0 : w5.cell? ⟨w.heap.size, 0, none⟩ = some (.int .i64 n) := by have := HKA.out.cell 0; simpa using this
  have cKA1 : w5.cell? ⟨w.heap.size, 1, none⟩ = some (.slice a lv.length cap) := by have := HKA.out.cell 1; simpa using this
  go_wp2_with (fail)
  clear cKA0 cKA1
  have ba : Below w5.heap.size w5 (w5.alloc (Obj.cells #[.int .i64 n, .slice ax cs.length cx] 26)) := (Below.refl _ _).alloc (Nat.le_refl _) _
  have sX : (w5.alloc (Obj.cells #[.int .i64 n, .slice ax cs.length cx] 26)).heap.size = w5.heap.size + 1 := by simp
  have HB' : Hid (Below w.heap.size w (w5.alloc (Obj.cells #[.int .i64 n, .slice ax cs.length cx] 26))) := belowCall HB.out ba HB.out.size
  have HKA' : Hid (Blk (w5.alloc (Obj.cells #[.int .i64 n, .slice ax cs.length cx] 26)) w.heap.size #[.int .i64 n, .slice a lv.length cap] 55) := HKA.out.below ba HKA.out.lt
  have HW' : Hid (OwH w3.heap.size w4.heap.size (w5.alloc (Obj.cells #[.int .i64 n, .slice ax cs.length cx] 26)) vw zw) := HW.out.below ba
  have HX' : Hid (OwCH w4.heap.size w5.heap.size (w5.alloc (Obj.cells #[.int .i64 n, .slice ax cs.length cx] 26)) (.slice ax cs.length cx) cs) := HX.out.below ba
  clear HB HKA HW HX
  have HB := HB'
  have HKA := HKA'
  have HW := HW'
  have HX := HX'
  clear HB' HKA' HW' HX'
  have HKX : Hid (Blk (w5.alloc (Obj.cells #[.int .i64 n, .slice ax cs.length cx] 26)) w5.heap.size #[.int .i64 n, .slice ax cs.length cx] 26) := Blk.new _ _ _
  clear ba
  refine (toI _ lev (w5.alloc (Obj.cells #[.int .i64 n, .slice ax cs.length cx] 26)) (HU.out.below HB.out) hsm).mono ?_
  rintro e w6 ⟨ux, rfl, oux, b⟩
  have HX1 : Hid (OwH (w5.heap.size + 1) w6.heap.size w6 ux lev) := (by have := oux.toH; rw [sX] at this; exact this)
  clear oux
  have z6 : (w5.alloc (Obj.cells #[.int .i64 n, .slice ax cs.length cx] 26)).heap.size ≤ w6.heap.size := b.size
  have HB' : Hid (Below w.heap.size w w6) := belowCall HB.out b HB.out.size
  have HKA' : Hid (Blk w6 w.heap.size #[.int .i64 n, .slice a lv.length cap] 55) := HKA.out.below b HKA.out.lt
  have HW' : Hid (OwH w3.heap.size w4.heap.size w6 vw zw) := HW.out.below b
  have HX' : Hid (OwCH w4.heap.size w5.heap.size w6 (.slice ax cs.length cx) cs) := HX.out.below b
  have HKX' : Hid (Blk w6 w5.heap.size #[.int .i64 n, .slice ax cs.length cx] 26) := HKX.out.below b HKX.out.lt
  clear HB HKA HW HX HKX
  have HB := HB'
  have HKA := HKA'
  have HW := HW'
  have HX := HX'
  have HKX := HKX'
  clear HB' HKA' HW' HX' HKX'
  clear b
  have zz : w5.heap.size + 1 ≤ w6.heap.size := by have := z6; rw [sX] at this; exact this
  clear z6
  have z6 := zz
  clear zz sX
  have cKA0 : w6.cell? ⟨w.heap.size, 0, none⟩ = some (.int .i64 n) := by have := HKA.out.cell 0; simpa using this
  have cKA1 : w6.cell? ⟨w.heap.size, 1, none⟩ = some (.slice a lv.length cap) := by have := HKA.out.cell 1; simpa using this
  have cKX0 : w6.cell? ⟨w5.heap.size, 0, none⟩ = some (.int .i64 n) := by have := HKX.out.cell 0; simpa using this
  have cKX1 : w6.cell? ⟨w5.heap.size, 1, none⟩ = some (.slice ax cs.length cx) := by have := HKX.out.cell 1; simpa using this
  go_wp2_with (fail)
  refine (mix_c n _ cs ux lev w6 HX.out.ow.rd HX1.out.rd).mono ?_
  rintro e w7 ⟨vg, rg, zg, rfl, og, hsg, b⟩
  have HG : Hid (OwH w6.heap.size w7.heap.size w7 vg zg) := og.toH
  obtain ⟨rfl, rfl⟩ := MS.same hsg HSW.out
  clear og hsg
  clear cKA0 cKA1 cKX0 cKX1
  have z7 : w6.heap.size ≤ w7.heap.size := b.size
  have HB' : Hid (Below w.heap.size w w7) := belowCall HB.out b HB.out.size
  have HKA' : Hid (Blk w7 w.heap.size #[.int .i64 n, .slice a lv.length cap] 55) := HKA.out.below b HKA.out.lt
  have HW' : Hid (OwH w3.heap.size w4.heap.size w7 vw zg) := HW.out.below b
  have HX' : Hid (OwCH w4.heap.size w5.heap.size w7 (.slice ax cs.length cx) cs) := HX.out.below b
  have HKX' : Hid (Blk w7 w5.heap.size #[.int .i64 n, .slice ax cs.length cx] 26) := HKX.out.below b HKX.out.lt
  have HX1' : Hid (OwH (w5.heap.size + 1) w6.heap.size w7 ux lev) := HX1.out.below b
  clear HB HKA HW HX HKX HX1
  have HB := HB'
  have HKA := HKA'
  have HW := HW'
  have HX := HX'
  have HKX := HKX'
  have HX1 := HX1'
  clear HB' HKA' HW' HX' HKX' HX1'
  clear b
  have hzl : zg.length ≤ 1048576 := Nat.le_trans HSW.out.len (by first | exact hsm | decide)
  have hbb : (rg != rg) = false := by simp
  have cKA0 : w7.cell? ⟨w.heap.size, 0, none⟩ = some (.int .i64 n) := by have := HKA.out.cell 0; simpa using this
  have cKA1 : w7.cell? ⟨w.heap.size, 1, none⟩ = some (.slice a lv.length cap) := by have := HKA.out.cell 1; simpa using this
  have cKX0 : w7.cell? ⟨w5.heap.size, 0, none⟩ = some (.int .i64 n) := by have := HKX.out.cell 0; simpa using this
  have cKX1 : w7.cell? ⟨w5.heap.size, 1, none⟩ = some (.slice ax cs.length cx) := by have := HKX.out.cell 1; simpa using this
  go_wp2_with (fail)
  refine (eqIS vg vw zg w7 HG.out.rd HW.out.rd).mono ?_
  rintro e w8 ⟨rfl, b⟩
  clear cKA0 cKA1 cKX0 cKX1
  have z8 : w7.heap.size ≤ w8.heap.size := b.size
  have HB' : Hid (Below w.heap.size w w8) := belowCall HB.out b HB.out.size
  have HKA' : Hid (Blk w8 w.heap.size #[.int .i64 n, .slice a lv.length cap] 55) := HKA.out.below b HKA.out.lt
  have HW' : Hid (OwH w3.heap.size w4.heap.size w8 vw zg) := HW.out.below b
  have HX' : Hid (OwCH w4.heap.size w5.heap.size w8 (.slice ax cs.length cx) cs) := HX.out.below b
  have HKX' : Hid (Blk w8 w5.heap.size #[.int .i64 n, .slice ax cs.length cx] 26) := HKX.out.below b HKX.out.lt
  have HX1' : Hid (OwH (w5.heap.size + 1) w6.heap.size w8 ux lev) := HX1.out.below b
  have HG' : Hid (OwH w6.heap.size w7.heap.size w8 vg zg) := HG.out.below b
  clear HB HKA HW HX HKX HX1 HG
  have HB := HB'
  have HKA := HKA'
  have HW := HW'
  have HX := HX'
  have HKX := HKX'
  have HX1 := HX1'
  have HG := HG'
  clear HB' HKA' HW' HX' HKX' HX1' HG'
  clear b
  have cKA0 : w8.cell? ⟨w.heap.size, 0, none⟩ = some (.int .i64 n) := by have := HKA.out.cell 0; simpa using this
  have cKA1 : w8.cell? ⟨w.heap.size, 1, none⟩ = some (.slice a lv.length cap) := by have := HKA.out.cell 1; simpa using this
  have cKX0 : w8.cell? ⟨w5.heap.size, 0, none⟩ = some (.int .i64 n) := by have := HKX.out.cell 0; simpa using this
  have cKX1 : w8.cell? ⟨w5.heap.size, 1, none⟩ = some (.slice ax cs.length cx) := by have := HKX.out.cell 1; simpa using this
  go_wp2
  obtain ⟨S, hS⟩ : ∃ S : World → Prop, ∀ W, S W ↔ Below w8.heap.size w8 W := ⟨_, fun _ => Iff.rfl⟩
  have y0 : ∀ W : At S, W.wd.cell? ⟨w.heap.size, 0, none⟩ = some (.int .i64 n) := fun W => (((hS _).1 W.ok).cell HKA.out.lt).trans cKA0
  have y1 : ∀ W : At S, W.wd.cell? ⟨w.heap.size, 1, none⟩ = some (.slice a lv.length cap) := fun W => (((hS _).1 W.ok).cell HKA.out.lt).trans cKA1
  have y2 : ∀ W : At S, W.wd.cell? ⟨w5.heap.size, 0, none⟩ = some (.int .i64 n) := fun W => (((hS _).1 W.ok).cell HKX.out.lt).trans cKX0
  have y3 : ∀ W : At S, W.wd.cell? ⟨w5.heap.size, 1, none⟩ = some (.slice ax cs.length cx) := fun W => (((hS _).1 W.ok).cell HKX.out.lt).trans cKX1
  have HS : Hid (∀ W, S W ↔ Below w8.heap.size w8 W) := hS
  have ne : Nonempty (At S) := ⟨⟨w8, (hS _).2 (Below.refl _ _)⟩⟩
  clear hS
  refine region_mixA [true, true, false, false, false] 5 3 S (by kernel_rfl) rfl (by kernel_rfl) (fun _ _ _ _ _ h => h) ((HS.out _).2 (Below.refl _ _).drew) ?_
  simp only [selT, selF]
  repeat (go_big_quiet_step (fail))
  refine wpQuiet_nil ?_
  refine tail_step ?_
  clear cKA0 cKA1 cKX0 cKX1
  clear y0 y1 y2 y3 ne
  go_wp2_with (fail)
  refine (toPanel_c n _ cs w8.drew (HH.out.below HB.out.drew) HLL.out.1 HLL.out.2).mono ?_
  rintro e w9 ⟨vr, rfl, orr, b⟩
  have b' : Below w8.heap.size w8 w9 := (Below.refl _ _).drew.trans b
  have HB7 : Hid (Below w8.heap.size w8 w9) := b'
  have HOR : Hid (RdC w9 vr cs) := orr.rd
  clear orr b
  have z9 : w8.heap.size ≤ w9.heap.size := b'.size
  have HB' : Hid (Below w.heap.size w w9) := belowCall HB.out b' HB.out.size
  have HKA' : Hid (Blk w9 w.heap.size #[.int .i64 n, .slice a lv.length cap] 55) := HKA.out.below b' HKA.out.lt
  have HW' : Hid (OwH w3.heap.size w4.heap.size w9 vw zg) := HW.out.below b'
  have HX' : Hid (OwCH w4.heap.size w5.heap.size w9 (.slice ax cs.length cx) cs) := HX.out.below b'
  have HKX' : Hid (Blk w9 w5.heap.size #[.int .i64 n, .slice ax cs.length cx] 26) := HKX.out.below b' HKX.out.lt
  have HX1' : Hid (OwH (w5.heap.size + 1) w6.heap.size w9 ux lev) := HX1.out.below b'
  have HG' : Hid (OwH w6.heap.size w7.heap.size w9 vg zg) := HG.out.below b'
  clear HB HKA HW HX HKX HX1 HG
  have HB := HB'
  have HKA := HKA'
  have HW := HW'
  have HX := HX'
  have HKX := HKX'
  have HX1 := HX1'
  have HG := HG'
  clear HB' HKA' HW' HX' HKX' HX1' HG'
  clear b'
  go_wp2
  refine ⟨(HS.out _).2 HB7.out, tail_step ?_⟩
  go_wp2_with (fail)
  refine (eqPanel_c n n _ _ cs cs w9 HX.out.ow.rd HOR.out).mono ?_
  rintro e w10 ⟨rfl, b⟩
  have hde : decide ((n, cs) = (n, cs)) = true := by simp
  rw [hde]
  have HB8 : Hid (Below w8.heap.size w8 w10) := belowCall HB7.out b HB7.out.size
  clear hde HOR
  have z10 : w9.heap.size ≤ w10.heap.size := b.size
  have HB' : Hid (Below w.heap.size w w10) := belowCall HB.out b HB.out.size
  have HKA' : Hid (Blk w10 w.heap.size #[.int .i64 n, .slice a lv.length cap] 55) := HKA.out.below b HKA.out.lt
  have HW' : Hid (OwH w3.heap.size w4.heap.size w10 vw zg) := HW.out.below b
  have HX' : Hid (OwCH w4.heap.size w5.heap.size w10 (.slice ax cs.length cx) cs) := HX.out.below b
  have HKX' : Hid (Blk w10 w5.heap.size #[.int .i64 n, .slice ax cs.length cx] 26) := HKX.out.below b HKX.out.lt
  have HX1' : Hid (OwH (w5.heap.size + 1) w6.heap.size w10 ux lev) := HX1.out.below b
  have HG' : Hid (OwH w6.heap.size w7.heap.size w10 vg zg) := HG.out.below b
  clear HB HKA HW HX HKX HX1 HG
  have HB := HB'
  have HKA := HKA'
  have HW := HW'
  have HX := HX'
  have HKX := HKX'
  have HX1 := HX1'
  have HG := HG'
  clear HB' HKA' HW' HX' HKX' HX1' HG'
  clear b
  go_wp2
  refine ⟨(HS.out _).2 HB8.out, tail_step ?_⟩
  go_wp2
  refine ⟨(HS.out _).2 HB8.out, tail_end ?_⟩
  clear HB7 HB8 HS S
  have cKA0 : w10.cell? ⟨w.heap.size, 0, none⟩ = some (.int .i64 n) := by have := HKA.out.cell 0; simpa using this
  have cKA1 : w10.cell? ⟨w.heap.size, 1, none⟩ = some (.slice a lv.length cap) := by have := HKA.out.cell 1; simpa using this
  have cKX0 : w10.cell? ⟨w5.heap.size, 0, none⟩ = some (.int .i64 n) := by have := HKX.out.cell 0; simpa using this
  have cKX1 : w10.cell? ⟨w5.heap.size, 1, none⟩ = some (.slice ax cs.length cx) := by have := HKX.out.cell 1; simpa using this
  go_wp2_with (fail)
  refine (toI _ lev w10 (HU.out.below HB.out) hsm).mono ?_
  rintro e w11 ⟨uq, rfl, oq, b⟩
  have HUQ : Hid (Rd .i64 w11 uq lev) := oq.rd
  clear oq
  clear cKA0 cKA1 cKX0 cKX1
  have z11 : w10.heap.size ≤ w11.heap.size := b.size
  have HB' : Hid (Below w.heap.size w w11) := belowCall HB.out b HB.out.size
  have HKA' : Hid (Blk w11 w.heap.size #[.int .i64 n, .slice a lv.length cap] 55) := HKA.out.below b HKA.out.lt
  have HW' : Hid (OwH w3.heap.size w4.heap.size w11 vw zg) := HW.out.below b
  have HX' : Hid (OwCH w4.heap.size w5.heap.size w11 (.slice ax cs.length cx) cs) := HX.out.below b
  have HKX' : Hid (Blk w11 w5.heap.size #[.int .i64 n, .slice ax cs.length cx] 26) := HKX.out.below b HKX.out.lt
  have HX1' : Hid (OwH (w5.heap.size + 1) w6.heap.size w11 ux lev) := HX1.out.below b
  have HG' : Hid (OwH w6.heap.size w7.heap.size w11 vg zg) := HG.out.below b
  clear HB HKA HW HX HKX HX1 HG
  have HB := HB'
  have HKA := HKA'
  have HW := HW'
  have HX := HX'
  have HKX := HKX'
  have HX1 := HX1'
  have HG := HG'
  clear HB' HKA' HW' HX' HKX' HX1' HG'
  clear b
  have cKA0 : w11.cell? ⟨w.heap.size, 0, none⟩ = some (.int .i64 n) := by have := HKA.out.cell 0; simpa using this
  have cKA1 : w11.cell? ⟨w.heap.size, 1, none⟩ = some (.slice a lv.length cap) := by have := HKA.out.cell 1; simpa using this
  have cKX0 : w11.cell? ⟨w5.heap.size, 0, none⟩ = some (.int .i64 n) := by have := HKX.out.cell 0; simpa using this
  have cKX1 : w11.cell? ⟨w5.heap.size, 1, none⟩ = some (.slice ax cs.length cx) := by have := HKX.out.cell 1; simpa using this
  go_wp2_with (fail)
  refine (eqIS ux uq lev w11 HX1.out.rd HUQ.out).mono ?_
  rintro e w12 ⟨rfl, b⟩
  clear HUQ
  clear cKA0 cKA1 cKX0 cKX1
  have z12 : w11.heap.size ≤ w12.heap.size := b.size
  have HB' : Hid (Below w.heap.size w w12) := belowCall HB.out b HB.out.size
  have HKA' : Hid (Blk w12 w.heap.size #[.int .i64 n, .slice a lv.length cap] 55) := HKA.out.below b HKA.out.lt
  have HW' : Hid (OwH w3.heap.size w4.heap.size w12 vw zg) := HW.out.below b
  have HX' : Hid (OwCH w4.heap.size w5.heap.size w12 (.slice ax cs.length cx) cs) := HX.out.below b
  have HKX' : Hid (Blk w12 w5.heap.size #[.int .i64 n, .slice ax cs.length cx] 26) := HKX.out.below b HKX.out.lt
  have HX1' : Hid (OwH (w5.heap.size + 1) w6.heap.size w12 ux lev) := HX1.out.below b
  have HG' : Hid (OwH w6.heap.size w7.heap.size w12 vg zg) := HG.out.below b
  clear HB HKA HW HX HKX HX1 HG
  have HB := HB'
  have HKA := HKA'
  have HW := HW'
  have HX := HX'
  have HKX := HKX'
  have HX1 := HX1'
  have HG := HG'
  clear HB' HKA' HW' HX' HKX' HX1' HG'
  clear b
  have cKA0 : w12.cell? ⟨w.heap.size, 0, none⟩ = some (.int .i64 n) := by have := HKA.out.cell 0; simpa using this
  have cKA1 : w12.cell? ⟨w.heap.size, 1, none⟩ = some (.slice a lv.length cap) := by have := HKA.out.cell 1; simpa using this
  have cKX0 : w12.cell? ⟨w5.heap.size, 0, none⟩ = some (.int .i64 n) := by have := HKX.out.cell 0; simpa using this
  have cKX1 : w12.cell? ⟨w5.heap.size, 1, none⟩ = some (.slice ax cs.length cx) := by have := HKX.out.cell 1; simpa using this
  go_wp2_with (fail)
  refine (markPanel_c n _ cs 1 w4.heap.size w5.heap.size w12 HX.out (by decide) (by rw [HKE.out]; omega)).mono ?_
  rintro e w13 ⟨rfl, -, m⟩
  rw [HKE.out]
  clear HX
  clear cKA0 cKA1 cKX0 cKX1
  have z13 : w12.heap.size ≤ w13.heap.size := m.size
  have HB' : Hid (Below w.heap.size w w13) := HB.out.trans ((m.below (by omega)).mono (by omega))
  have HKA' : Hid (Blk w13 w.heap.size #[.int .i64 n, .slice a lv.length cap] 55) := HKA.out.mid m (by omega)
  have HW' : Hid (OwH w3.heap.size w4.heap.size w13 vw zg) := HW.out.mid m (by omega)
  have HKX' : Hid (Blk w13 w5.heap.size #[.int .i64 n, .slice ax cs.length cx] 26) := HKX.out.mid m (by omega)
  have HX1' : Hid (OwH (w5.heap.size + 1) w6.heap.size w13 ux lev) := HX1.out.mid m (by omega)
  have HG' : Hid (OwH w6.heap.size w7.heap.size w13 vg zg) := HG.out.mid m (by omega)
  clear HB HKA HW HKX HX1 HG
  have HB := HB'
  have HKA := HKA'
  have HW := HW'
  have HKX := HKX'
  have HX1 := HX1'
  have HG := HG'
  clear HB' HKA' HW' HKX' HX1' HG'
  clear m
  have cKA0 : w13.cell? ⟨w.heap.size, 0, none⟩ = some (.int .i64 n) := by have := HKA.out.cell 0; simpa using this
  have cKA1 : w13.cell? ⟨w.heap.size, 1, none⟩ = some (.slice a lv.length cap) := by have := HKA.out.cell 1; simpa using this
  have cKX0 : w13.cell? ⟨w5.heap.size, 0, none⟩ = some (.int .i64 n) := by have := HKX.out.cell 0; simpa using this
  have cKX1 : w13.cell? ⟨w5.heap.size, 1, none⟩ = some (.slice ax cs.length cx) := by have := HKX.out.cell 1; simpa using this
  go_wp2_with (fail)
  refine (markH ux lev ke (w5.heap.size + 1) w6.heap.size w13 HX1.out (by omega) (by omega)).mono ?_
  rintro e w14 ⟨rfl, -, m⟩
  clear HX1
  clear cKA0 cKA1 cKX0 cKX1
  have z14 : w13.heap.size ≤ w14.heap.size := m.size
  have HB' : Hid (Below w.heap.size w w14) := HB.out.trans ((m.below (by omega)).mono (by omega))
  have HKA' : Hid (Blk w14 w.heap.size #[.int .i64 n, .slice a lv.length cap] 55) := HKA.out.mid m (by omega)
  have HW' : Hid (OwH w3.heap.size w4.heap.size w14 vw zg) := HW.out.mid m (by omega)
  have HKX' : Hid (Blk w14 w5.heap.size #[.int .i64 n, .slice ax cs.length cx] 26) := HKX.out.mid m (by omega)
  have HG' : Hid (OwH w6.heap.size w7.heap.size w14 vg zg) := HG.out.mid m (by omega)
  clear HB HKA HW HKX HG
  have HB := HB'
  have HKA := HKA'
  have HW := HW'
  have HKX := HKX'
  have HG := HG'
  clear HB' HKA' HW' HKX' HG'
  clear m
  have cKA0 : w14.cell? ⟨w.heap.size, 0, none⟩ = some (.int .i64 n) := by have := HKA.out.cell 0; simpa using this
  have cKA1 : w14.cell? ⟨w.heap.size, 1, none⟩ = some (.slice a lv.length cap) := by have := HKA.out.cell 1; simpa using this
  have cKX0 : w14.cell? ⟨w5.heap.size, 0, none⟩ = some (.int .i64 n) := by have := HKX.out.cell 0; simpa using this
  have cKX1 : w14.cell? ⟨w5.heap.size, 1, none⟩ = some (.slice ax cs.length cx) := by have := HKX.out.cell 1; simpa using this
  go_wp2_with (fail)
  refine (eqIS vg vw zg w14 HG.out.rd HW.out.rd).mono ?_
  rintro e w15 ⟨rfl, b⟩
  clear cKA0 cKA1 cKX0 cKX1
  have z15 : w14.heap.size ≤ w15.heap.size := b.size
  have HB' : Hid (Below w.heap.size w w15) := belowCall HB.out b HB.out.size
  have HKA' : Hid (Blk w15 w.heap.size #[.int .i64 n, .slice a lv.length cap] 55) := HKA.out.below b HKA.out.lt
  have HW' : Hid (OwH w3.heap.size w4.heap.size w15 vw zg) := HW.out.below b
  have HKX' : Hid (Blk w15 w5.heap.size #[.int .i64 n, .slice ax cs.length cx] 26) := HKX.out.below b HKX.out.lt
  have HG' : Hid (OwH w6.heap.size w7.heap.size w15 vg zg) := HG.out.below b
  clear HB HKA HW HKX HG
  have HB := HB'
  have HKA := HKA'
  have HW := HW'
  have HKX := HKX'
  have HG := HG'
  clear HB' HKA' HW' HKX' HG'
  clear b
  have cKA0 : w15.cell? ⟨w.heap.size, 0, none⟩ = some (.int .i64 n) := by have := HKA.out.cell 0; simpa using this
  have cKA1 : w15.cell? ⟨w.heap.size, 1, none⟩ = some (.slice a lv.length cap) := by have := HKA.out.cell 1; simpa using this
  have cKX0 : w15.cell? ⟨w5.heap.size, 0, none⟩ = some (.int .i64 n) := by have := HKX.out.cell 0; simpa using this
  have cKX1 : w15.cell? ⟨w5.heap.size, 1, none⟩ = some (.slice ax cs.length cx) := by have := HKX.out.cell 1; simpa using this
  go_wp2_with (fail)
  refine (markH vg zg 1 w6.heap.size w7.heap.size w15 HG.out (by decide) (by have h := hzl; omega)).mono ?_
  rintro e w16 ⟨rfl, og, m⟩
  have HG2 : Hid (OwH w6.heap.size w7.heap.size w16 vg (marks .i64 1 zg.length)) := og
  clear HG og
  clear cKA0 cKA1 cKX0 cKX1
  have z16 : w15.heap.size ≤ w16.heap.size := m.size
  have HB' : Hid (Below w.heap.size w w16) := HB.out.trans ((m.below (by omega)).mono (by omega))
  have HKA' : Hid (Blk w16 w.heap.size #[.int .i64 n, .slice a lv.length cap] 55) := HKA.out.mid m (by omega)
  have HW' : Hid (OwH w3.heap.size w4.heap.size w16 vw zg) := HW.out.mid m (by omega)
  have HKX' : Hid (Blk w16 w5.heap.size #[.int .i64 n, .slice ax cs.length cx] 26) := HKX.out.mid m (by omega)
  clear HB HKA HW HKX
  have HB := HB'
  have HKA := HKA'
  have HW := HW'
  have HKX := HKX'
  clear HB' HKA' HW' HKX'
  clear m
  have cKA0 : w16.cell? ⟨w.heap.size, 0, none⟩ = some (.int .i64 n) := by have := HKA.out.cell 0; simpa using this
  have cKA1 : w16.cell? ⟨w.heap.size, 1, none⟩ = some (.slice a lv.length cap) := by have := HKA.out.cell 1; simpa using this
  have cKX0 : w16.cell? ⟨w5.heap.size, 0, none⟩ = some (.int .i64 n) := by have := HKX.out.cell 0; simpa using this
  have cKX1 : w16.cell? ⟨w5.heap.size, 1, none⟩ = some (.slice ax cs.length cx) := by have := HKX.out.cell 1; simpa using this
  go_wp2_with (fail)
  refine (heldI vg 1 zg.length w16 HG2.out.rd (by decide) (by have h := hzl; omega)).mono ?_
  rintro e w17 ⟨rfl, b⟩
  clear cKA0 cKA1 cKX0 cKX1
  have z17 : w16.heap.size ≤ w17.heap.size := b.size
  have HB' : Hid (Below w.heap.size w w17) := belowCall HB.out b HB.out.size
  have HKA' : Hid (Blk w17 w.heap.size #[.int .i64 n, .slice a lv.length cap] 55) := HKA.out.below b HKA.out.lt
  have HW' : Hid (OwH w3.heap.size w4.heap.size w17 vw zg) := HW.out.below b
  have HKX' : Hid (Blk w17 w5.heap.size #[.int .i64 n, .slice ax cs.length cx] 26) := HKX.out.below b HKX.out.lt
  have HG2' : Hid (OwH w6.heap.size w7.heap.size w17 vg (marks .i64 1 zg.length)) := HG2.out.below b
  clear HB HKA HW HKX HG2
  have HB := HB'
  have HKA := HKA'
  have HW := HW'
  have HKX := HKX'
  have HG2 := HG2'
  clear HB' HKA' HW' HKX' HG2'
  clear b
  have hnn : ((1 : Int) + (zg.length : Int) < 0) = False := by simp; omega
  have hmm : ((1 : Int) + (zg.length : Int) != 1 + (zg.length : Int)) = false := by simp
  have cKA0 : w17.cell? ⟨w.heap.size, 0, none⟩ = some (.int .i64 n) := by have := HKA.out.cell 0; simpa using this
  have cKA1 : w17.cell? ⟨w.heap.size, 1, none⟩ = some (.slice a lv.length cap) := by have := HKA.out.cell 1; simpa using this
  have cKX0 : w17.cell? ⟨w5.heap.size, 0, none⟩ = some (.int .i64 n) := by have := HKX.out.cell 0; simpa using this
  have cKX1 : w17.cell? ⟨w5.heap.size, 1, none⟩ = some (.slice ax cs.length cx) := by have := HKX.out.cell 1; simpa using this
  go_wp2_with (fail)
  refine (toPanel_c n _ cs w17 (HH.out.below HB.out) HLL.out.1 HLL.out.2).mono ?_
  rintro e w18 ⟨vh, rfl, oh, b⟩
  have HOH : Hid (RdC w18 vh cs) := oh.rd
  clear oh
  clear cKA0 cKA1 cKX0 cKX1
  have z18 : w17.heap.size ≤ w18.heap.size := b.size
  have HB' : Hid (Below w.heap.size w w18) := belowCall HB.out b HB.out.size
  have HKA' : Hid (Blk w18 w.heap.size #[.int .i64 n, .slice a lv.length cap] 55) := HKA.out.below b HKA.out.lt
  have HW' : Hid (OwH w3.heap.size w4.heap.size w18 vw zg) := HW.out.below b
  have HKX' : Hid (Blk w18 w5.heap.size #[.int .i64 n, .slice ax cs.length cx] 26) := HKX.out.below b HKX.out.lt
  have HG2' : Hid (OwH w6.heap.size w7.heap.size w18 vg (marks .i64 1 zg.length)) := HG2.out.below b
  clear HB HKA HW HKX HG2
  have HB := HB'
  have HKA := HKA'
  have HW := HW'
  have HKX := HKX'
  have HG2 := HG2'
  clear HB' HKA' HW' HKX' HG2'
  clear b
  have cKA0 : w18.cell? ⟨w.heap.size, 0, none⟩ = some (.int .i64 n) := by have := HKA.out.cell 0; simpa using this
  have cKA1 : w18.cell? ⟨w.heap.size, 1, none⟩ = some (.slice a lv.length cap) := by have := HKA.out.cell 1; simpa using this
  have cKX0 : w18.cell? ⟨w5.heap.size, 0, none⟩ = some (.int .i64 n) := by have := HKX.out.cell 0; simpa using this
  have cKX1 : w18.cell? ⟨w5.heap.size, 1, none⟩ = some (.slice ax cs.length cx) := by have := HKX.out.cell 1; simpa using this
  go_wp2_with (fail)
  refine (toI _ lev w18 (HU.out.below HB.out) hsm).mono ?_
  rintro e w19 ⟨uh, rfl, ouh, b⟩
  have HUH : Hid (Rd .i64 w19 uh lev) := ouh.rd
  clear ouh
  clear cKA0 cKA1 cKX0 cKX1
  have z19 : w18.heap.size ≤ w19.heap.size := b.size
  have HB' : Hid (Below w.heap.size w w19) := belowCall HB.out b HB.out.size
  have HKA' : Hid (Blk w19 w.heap.size #[.int .i64 n, .slice a lv.length cap] 55) := HKA.out.below b HKA.out.lt
  have HW' : Hid (OwH w3.heap.size w4.heap.size w19 vw zg) := HW.out.below b
  have HKX' : Hid (Blk w19 w5.heap.size #[.int .i64 n, .slice ax cs.length cx] 26) := HKX.out.below b HKX.out.lt
  have HG2' : Hid (OwH w6.heap.size w7.heap.size w19 vg (marks .i64 1 zg.length)) := HG2.out.below b
  have HOH' : Hid (RdC w19 vh cs) := HOH.out.below b
  clear HB HKA HW HKX HG2 HOH
  have HB := HB'
  have HKA := HKA'
  have HW := HW'
  have HKX := HKX'
  have HG2 := HG2'
  have HOH := HOH'
  clear HB' HKA' HW' HKX' HG2' HOH'
  clear b
  have cKA0 : w19.cell? ⟨w.heap.size, 0, none⟩ = some (.int .i64 n) := by have := HKA.out.cell 0; simpa using this
  have cKA1 : w19.cell? ⟨w.heap.size, 1, none⟩ = some (.slice a lv.length cap) := by have := HKA.out.cell 1; simpa using this
  have cKX0 : w19.cell? ⟨w5.heap.size, 0, none⟩ = some (.int .i64 n) := by have := HKX.out.cell 0; simpa using this
  have cKX1 : w19.cell? ⟨w5.heap.size, 1, none⟩ = some (.slice ax cs.length cx) := by have := HKX.out.cell 1; simpa using this
  go_wp2_with (fail)
  refine (mix_c n _ cs uh lev w19 HOH.out HUH.out).mono ?_
  rintro e w20 ⟨vhh, rh, zh, rfl, ohh, hsh, b⟩
  have HR : Hid (Rd .i64 w20 vhh zh) := ohh.rd
  obtain ⟨rfl, rfl⟩ := MS.same hsh HSW.out
  clear ohh hsh HOH HUH
  clear cKA0 cKA1 cKX0 cKX1
  have z20 : w19.heap.size ≤ w20.heap.size := b.size
  have HB' : Hid (Below w.heap.size w w20) := belowCall HB.out b HB.out.size
  have HKA' : Hid (Blk w20 w.heap.size #[.int .i64 n, .slice a lv.length cap] 55) := HKA.out.below b HKA.out.lt
  have HW' : Hid (OwH w3.heap.size w4.heap.size w20 vw zh) := HW.out.below b
  have HKX' : Hid (Blk w20 w5.heap.size #[.int .i64 n, .slice ax cs.length cx] 26) := HKX.out.below b HKX.out.lt
  have HG2' : Hid (OwH w6.heap.size w7.heap.size w20 vg (marks .i64 1 zh.length)) := HG2.out.below b
  clear HB HKA HW HKX HG2
  have HB := HB'
  have HKA := HKA'
  have HW := HW'
  have HKX := HKX'
  have HG2 := HG2'
  clear HB' HKA' HW' HKX' HG2'
  clear b
  have hb2 : (rh != rh) = false := by simp
  have cKA0 : w20.cell? ⟨w.heap.size, 0, none⟩ = some (.int .i64 n) := by have := HKA.out.cell 0; simpa using this
  have cKA1 : w20.cell? ⟨w.heap.size, 1, none⟩ = some (.slice a lv.length cap) := by have := HKA.out.cell 1; simpa using this
  have cKX0 : w20.cell? ⟨w5.heap.size, 0, none⟩ = some (.int .i64 n) := by have := HKX.out.cell 0; simpa using this
  have cKX1 : w20.cell? ⟨w5.heap.size, 1, none⟩ = some (.slice ax cs.length cx) := by have := HKX.out.cell 1; simpa using this
  go_wp2_with (fail)
  refine (eqIS vhh vw zh w20 HR.out HW.out.rd).mono ?_
  rintro e w21 ⟨rfl, b⟩
  clear cKA0 cKA1 cKX0 cKX1
  have z21 : w20.heap.size ≤ w21.heap.size := b.size
  have HB' : Hid (Below w.heap.size w w21) := belowCall HB.out b HB.out.size
  have HKA' : Hid (Blk w21 w.heap.size #[.int .i64 n, .slice a lv.length cap] 55) := HKA.out.below b HKA.out.lt
  have HW' : Hid (OwH w3.heap.size w4.heap.size w21 vw zh) := HW.out.below b
  have HKX' : Hid (Blk w21 w5.heap.size #[.int .i64 n, .slice ax cs.length cx] 26) := HKX.out.below b HKX.out.lt
  have HG2' : Hid (OwH w6.heap.size w7.heap.size w21 vg (marks .i64 1 zh.length)) := HG2.out.below b
  clear HB HKA HW HKX HG2
  have HB := HB'
  have HKA := HKA'
  have HW := HW'
  have HKX := HKX'
  have HG2 := HG2'
  clear HB' HKA' HW' HKX' HG2'
  clear b
  have cKA0 : w21.cell? ⟨w.heap.size, 0, none⟩ = some (.int .i64 n) := by have := HKA.out.cell 0; simpa using this
  have cKA1 : w21.cell? ⟨w.heap.size, 1, none⟩ = some (.slice a lv.length cap) := by have := HKA.out.cell 1; simpa using this
  have cKX0 : w21.cell? ⟨w5.heap.size, 0, none⟩ = some (.int .i64 n) := by have := HKX.out.cell 0; simpa using this
  have cKX1 : w21.cell? ⟨w5.heap.size, 1, none⟩ = some (.slice ax cs.length cx) := by have := HKX.out.cell 1; simpa using this
  go_wp2_with (fail)
  refine (heldI vg 1 zh.length w21 HG2.out.rd (by decide) (by have h := hzl; omega)).mono ?_
  rintro e w22 ⟨rfl, b⟩
  clear cKA0 cKA1 cKX0 cKX1
  have z22 : w21.heap.size ≤ w22.heap.size := b.size
  have HB' : Hid (Below w.heap.size w w22) := belowCall HB.out b HB.out.size
  have HKA' : Hid (Blk w22 w.heap.size #[.int .i64 n, .slice a lv.length cap] 55) := HKA.out.below b HKA.out.lt
  have HW' : Hid (OwH w3.heap.size w4.heap.size w22 vw zh) := HW.out.below b
  have HKX' : Hid (Blk w22 w5.heap.size #[.int .i64 n, .slice ax cs.length cx] 26) := HKX.out.below b HKX.out.lt
  have HG2' : Hid (OwH w6.heap.size w7.heap.size w22 vg (marks .i64 1 zh.length)) := HG2.out.below b
  clear HB HKA HW HKX HG2
  have HB := HB'
  have HKA := HKA'
  have HW := HW'
  have HKX := HKX'
  have HG2 := HG2'
  clear HB' HKA' HW' HKX' HG2'
  clear b
  go_wp2
  go_ret
  exact ⟨rfl, HB.out⟩
end Go.Proofs.Ytcbeaimpmjljjaa

/- The program's Heard answers as the model's, at any panel the judge's mark stands for; no condition. -/
import Derived.Test.YtcbeaimpmjljjaaHearI
import Derived.Test.YtcbeaimpmjljjaaOwH
namespace Go.Proofs.Ytcbeaimpmjljjaa
open Go.RowKit Go.ChangeShapes Go.WideShapes Go.ChangeAt
set_option linter.unusedVariables false
set_option linter.unusedSimpArgs false
set_option maxRecDepth 8000
set_option maxHeartbeats 3200000 in
theorem heardLaw (n : Int) (v : Value) (cs : Calls2) (l : Int) (w : World) (h : RdC w v cs) :
   Calls Try.prog 10 #[.agg #[.int .i64 n, v], .int .i64 l] w fun e w' => e = .returned (.bool true) ∧ Below w.heap.size w w' := by
  have bel0 : Below w.heap.size w (w.alloc (Obj.cells #[.int .i64 n, v] 55)) := (Below.refl _ _).alloc (Nat.le_refl _) _
  have HZ : Hid (Calls Try.prog 31 #[.agg #[.int .i64 n, v], .int .i64 1048576] (w.alloc (Obj.cells #[.int .i64 n, v] 55)) fun e w' => e = .returned (.int .i64 (lft 1048576 (cs.length + legsTo cs cs.length))) ∧ Below (w.alloc (Obj.cells #[.int .i64 n, v] 55)).heap.size (w.alloc (Obj.cells #[.int .i64 n, v] 55)) w') := szPanel_c n v cs 1048576 _ (h.below bel0) (by decide) (by decide)
  have HB : Hid (Below w.heap.size w (w.alloc (Obj.cells #[.int .i64 n, v] 55))) := bel0
  have HH : Hid (RdC w v cs) := h
  have HKA : Hid (Blk (w.alloc (Obj.cells #[.int .i64 n, v] 55)) w.heap.size #[.int .i64 n, v] 55) := Blk.new _ _ _
  obtain ⟨lv, -, ⟨a, cap, rfl, -⟩, -⟩ := h
  obtain ⟨z, hz⟩ : ∃ z, lft 1048576 (cs.length + legsTo cs cs.length) = z := ⟨_, rfl⟩
  rw [hz] at HZ
  have HZ2 : Hid (0 ≤ z → (cs.length ≤ 1048576 ∧ ∀ c ∈ cs, c.2.length ≤ 1048576) ∧ mkEnd 1 cs ≤ 4194304) := fun h0 => ⟨lft_lens (hz ▸ h0), mkEnd_lft (hz ▸ h0)⟩
  clear bel0 hz
  go_enter Try.func10, Try.ntmps10
  go_wp2_with (fail)
  refine HZ.out.mono ?_
  rintro e w1 ⟨rfl, b1⟩
  have sA : (w.alloc (Obj.cells #[.int .i64 n, .slice a lv.length cap] 55)).heap.size = w.heap.size + 1 := by simp
  have z1 : w.heap.size + 1 ≤ w1.heap.size := by have := b1.size; rw [sA] at this; exact this
  have HB' : Hid (Below w.heap.size w w1) := belowCall HB.out b1 HB.out.size
  have HKA' : Hid (Blk w1 w.heap.size #[.int .i64 n, .slice a lv.length cap] 55) := HKA.out.below b1 (by simp)
  clear HB HKA
  have HB := HB'
  have HKA := HKA'
  clear HB' HKA' b1 HZ sA
  have cKA0 : w1.cell? ⟨w.heap.size, 0, none⟩ = some (.int .i64 n) := by have := HKA.out.cell 0; simpa using this
  have cKA1 : w1.cell? ⟨w.heap.size, 1, none⟩ = some (.slice a lv.length cap) := by have := HKA.out.cell 1; simpa using this
  by_cases hneg : z < 0
  · go_wp2
    go_ret
    exact ⟨rfl, HB.out⟩
  obtain ⟨HL, hke⟩ := HZ2.out (by omega)
  have HLL : Hid (cs.length ≤ 1048576 ∧ ∀ c ∈ cs, c.2.length ≤ 1048576) := HL
  obtain ⟨ke, hkd⟩ : ∃ ke, mkEnd 1 cs = ke := ⟨_, rfl⟩
  have hk1 : 1 ≤ ke := by rw [← hkd]; exact mkEnd_ge cs 1
  rw [hkd] at hke
  have HKE : Hid (mkEnd 1 cs = ke) := hkd
  clear HL hkd HZ2
  go_wp2_with (fail)
  refine (toPanel_c n _ cs w1 (HH.out.below HB.out) HLL.out.1 HLL.out.2).mono ?_
  rintro e w2 ⟨vs, rfl, os, b⟩
  have HOS : Hid (RdC w2 vs cs) := os.rd
  clear os
  clear cKA0 cKA1
  have z2 : w1.heap.size ≤ w2.heap.size := b.size
  have HB' : Hid (Below w.heap.size w w2) := belowCall HB.out b HB.out.size
  have HKA' : Hid (Blk w2 w.heap.size #[.int .i64 n, .slice a lv.length cap] 55) := HKA.out.below b HKA.out.lt
  clear HB HKA
  have HB := HB'
  have HKA := HKA'
  clear HB' HKA'
  clear b
  have cKA0 : w2.cell? ⟨w.heap.size, 0, none⟩ = some (.int .i64 n) := by have := HKA.out.cell 0; simpa using this
  have cKA1 : w2.cell? ⟨w.heap.size, 1, none⟩ = some (.slice a lv.length cap) := by have := HKA.out.cell 1; simpa using this
  go_wp2_with (fail)
  refine (specHeard_c n _ cs l w2 HOS.out).mono ?_
  rintro e w3 ⟨vw, zw, rfl, ow, hsw, b⟩
  have HW : Hid (OwH w2.heap.size w3.heap.size w3 vw zw) := ow.toH
  have HSW : Hid (HS n cs l zw) := hsw
  clear ow hsw
  clear cKA0 cKA1
  have z3 : w2.heap.size ≤ w3.heap.size := b.size
  have HB' : Hid (Below w.heap.size w w3) := belowCall HB.out b HB.out.size
  have HKA' : Hid (Blk w3 w.heap.size #[.int .i64 n, .slice a lv.length cap] 55) := HKA.out.below b HKA.out.lt
  have HOS' : Hid (RdC w3 vs cs) := HOS.out.below b
  clear HB HKA HOS
  have HB := HB'
  have HKA := HKA'
  have HOS := HOS'
  clear HB' HKA' HOS'
  clear b
  clear HOS
  have cKA0 : w3.cell? ⟨w.heap.size, 0, none⟩ = some (.int .i64 n) := by have := HKA.out.cell 0; simpa using this
  have cKA1 : w3.cell? ⟨w.heap.size, 1, none⟩ = some (.slice a lv.length cap) := by have := HKA.out.cell 1; simpa using this
  go_wp2_with (fail)
  refine (toPanel_c n _ cs w3 (HH.out.below HB.out) HLL.out.1 HLL.out.2).mono ?_
  rintro e w4 ⟨vx, rfl, ox, b⟩
  have HX : Hid (OwCH w3.heap.size w4.heap.size w4 vx cs) := ox.hi
  obtain ⟨ax, cx, hvx⟩ : ∃ ax cx, vx = .slice ax cs.length cx := by
    obtain ⟨lv', hl', ⟨a', cap', rfl, -⟩, -⟩ := ox.rd
    exact ⟨a', cap', by rw [hl']⟩
  subst hvx
  clear ox
  clear cKA0 cKA1
  have z4 : w3.heap.size ≤ w4.heap.size := b.size
  have HB' : Hid (Below w.heap.size w w4) := belowCall HB.out b HB.out.size
  have HKA' : Hid (Blk w4 w.heap.size #[.int .i64 n, .slice a lv.length cap] 55) := HKA.out.below b HKA.out.lt
  have HW' : Hid (OwH w2.heap.size w3.heap.size w4 vw zw) := HW.out.below b
  clear HB HKA HW
  have HB := HB'
  have HKA := HKA'
  have HW := HW'
  clear HB' HKA' HW'
  clear b
  have cKA0 : w4.cell? ⟨w.heap.size, 0, none⟩ = some (.int .i64 n) := by have := HKA.out.cell 0; simpa using this
  have cKA1 : w4.cell? ⟨w.heap.size, 1, none⟩ = some (.slice a lv.length cap) := by have := HKA.out.cell 1; simpa using this
  go_wp2_with (fail)
  clear cKA0 cKA1
  have ba : Below w4.heap.size w4 (w4.alloc (Obj.cells #[.int .i64 n, .slice ax cs.length cx] 26)) := (Below.refl _ _).alloc (Nat.le_refl _) _
  have sX : (w4.alloc (Obj.cells #[.int .i64 n, .slice ax cs.length cx] 26)).heap.size = w4.heap.size + 1 := by simp
  have HB' : Hid (Below w.heap.size w (w4.alloc (Obj.cells #[.int .i64 n, .slice ax cs.length cx] 26))) := belowCall HB.out ba HB.out.size
  have HKA' : Hid (Blk (w4.alloc (Obj.cells #[.int .i64 n, .slice ax cs.length cx] 26)) w.heap.size #[.int .i64 n, .slice a lv.length cap] 55) := HKA.out.below ba HKA.out.lt
  have HW' : Hid (OwH w2.heap.size w3.heap.size (w4.alloc (Obj.cells #[.int .i64 n, .slice ax cs.length cx] 26)) vw zw) := HW.out.below ba
  have HX' : Hid (OwCH w3.heap.size w4.heap.size (w4.alloc (Obj.cells #[.int .i64 n, .slice ax cs.length cx] 26)) (.slice ax cs.length cx) cs) := HX.out.below ba
  clear HB HKA HW HX
  have HB := HB'
  have HKA := HKA'
  have HW := HW'
  have HX := HX'
  clear HB' HKA' HW' HX'
  have HKX : Hid (Blk (w4.alloc (Obj.cells #[.int .i64 n, .slice ax cs.length cx] 26)) w4.heap.size #[.int .i64 n, .slice ax cs.length cx] 26) := Blk.new _ _ _
  clear ba
  refine (heard_c n _ cs l (w4.alloc (Obj.cells #[.int .i64 n, .slice ax cs.length cx] 26)) HX.out.ow.rd).mono ?_
  rintro e w5 ⟨vg, zg, rfl, og, hsg, b⟩
  have HG : Hid (OwH (w4.heap.size + 1) w5.heap.size w5 vg zg) := (by have := og.toH; rw [sX] at this; exact this)
  obtain rfl := HS.same hsg HSW.out
  clear og hsg
  have z5 : (w4.alloc (Obj.cells #[.int .i64 n, .slice ax cs.length cx] 26)).heap.size ≤ w5.heap.size := b.size
  have HB' : Hid (Below w.heap.size w w5) := belowCall HB.out b HB.out.size
  have HKA' : Hid (Blk w5 w.heap.size #[.int .i64 n, .slice a lv.length cap] 55) := HKA.out.below b HKA.out.lt
  have HW' : Hid (OwH w2.heap.size w3.heap.size w5 vw zg) := HW.out.below b
  have HX' : Hid (OwCH w3.heap.size w4.heap.size w5 (.slice ax cs.length cx) cs) := HX.out.below b
  have HKX' : Hid (Blk w5 w4.heap.size #[.int .i64 n, .slice ax cs.length cx] 26) := HKX.out.below b HKX.out.lt
  clear HB HKA HW HX HKX
  have HB := HB'
  have HKA := HKA'
  have HW := HW'
  have HX := HX'
  have HKX := HKX'
  clear HB' HKA' HW' HX' HKX'
  clear b
  have zz : w4.heap.size + 1 ≤ w5.heap.size := by have := z5; rw [sX] at this; exact this
  clear z5
  have z5 := zz
  clear zz sX
  have hzl : zg.length ≤ 1048576 := Nat.le_trans HSW.out.len (by first | exact hsm | decide)
  have cKA0 : w5.cell? ⟨w.heap.size, 0, none⟩ = some (.int .i64 n) := by have := HKA.out.cell 0; simpa using this
  have cKA1 : w5.cell? ⟨w.heap.size, 1, none⟩ = some (.slice a lv.length cap) := by have := HKA.out.cell 1; simpa using this
  have cKX0 : w5.cell? ⟨w4.heap.size, 0, none⟩ = some (.int .i64 n) := by have := HKX.out.cell 0; simpa using this
  have cKX1 : w5.cell? ⟨w4.heap.size, 1, none⟩ = some (.slice ax cs.length cx) := by have := HKX.out.cell 1; simpa using this
  go_wp2_with (fail)
  refine (eqIS vg vw zg w5 HG.out.rd HW.out.rd).mono ?_
  rintro e w6 ⟨rfl, b⟩
  clear cKA0 cKA1 cKX0 cKX1
  have z6 : w5.heap.size ≤ w6.heap.size := b.size
  have HB' : Hid (Below w.heap.size w w6) := belowCall HB.out b HB.out.size
  have HKA' : Hid (Blk w6 w.heap.size #[.int .i64 n, .slice a lv.length cap] 55) := HKA.out.below b HKA.out.lt
  have HW' : Hid (OwH w2.heap.size w3.heap.size w6 vw zg) := HW.out.below b
  have HX' : Hid (OwCH w3.heap.size w4.heap.size w6 (.slice ax cs.length cx) cs) := HX.out.below b
  have HKX' : Hid (Blk w6 w4.heap.size #[.int .i64 n, .slice ax cs.length cx] 26) := HKX.out.below b HKX.out.lt
  have HG' : Hid (OwH (w4.heap.size + 1) w5.heap.size w6 vg zg) := HG.out.below b
  clear HB HKA HW HX HKX HG
  have HB := HB'
  have HKA := HKA'
  have HW := HW'
  have HX := HX'
  have HKX := HKX'
  have HG := HG'
  clear HB' HKA' HW' HX' HKX' HG'
  clear b
  have cKA0 : w6.cell? ⟨w.heap.size, 0, none⟩ = some (.int .i64 n) := by have := HKA.out.cell 0; simpa using this
  have cKA1 : w6.cell? ⟨w.heap.size, 1, none⟩ = some (.slice a lv.length cap) := by have := HKA.out.cell 1; simpa using this
  have cKX0 : w6.cell? ⟨w4.heap.size, 0, none⟩ = some (.int .i64 n) := by have := HKX.out.cell 0; simpa using this
  have cKX1 : w6.cell? ⟨w4.heap.size, 1, none⟩ = some (.slice ax cs.length cx) := by have := HKX.out.cell 1; simpa using this
  go_wp2
  obtain ⟨S, hS⟩ : ∃ S : World → Prop, ∀ W, S W ↔ Below w6.heap.size w6 W := ⟨_, fun _ => Iff.rfl⟩
  have y0 : ∀ W : At S, W.wd.cell? ⟨w.heap.size, 0, none⟩ = some (.int .i64 n) := fun W => (((hS _).1 W.ok).cell HKA.out.lt).trans cKA0
  have y1 : ∀ W : At S, W.wd.cell? ⟨w.heap.size, 1, none⟩ = some (.slice a lv.length cap) := fun W => (((hS _).1 W.ok).cell HKA.out.lt).trans cKA1
  have y2 : ∀ W : At S, W.wd.cell? ⟨w4.heap.size, 0, none⟩ = some (.int .i64 n) := fun W => (((hS _).1 W.ok).cell HKX.out.lt).trans cKX0
  have y3 : ∀ W : At S, W.wd.cell? ⟨w4.heap.size, 1, none⟩ = some (.slice ax cs.length cx) := fun W => (((hS _).1 W.ok).cell HKX.out.lt).trans cKX1
  have HS : Hid (∀ W, S W ↔ Below w6.heap.size w6 W) := hS
  have ne : Nonempty (At S) := ⟨⟨w6, (hS _).2 (Below.refl _ _)⟩⟩
  clear hS
  refine region_mixA [true, true, false, false, false] 5 3 S (by kernel_rfl) rfl (by kernel_rfl) (fun _ _ _ _ _ h => h) ((HS.out _).2 (Below.refl _ _).drew) ?_
  simp only [selT, selF]
  repeat (go_big_quiet_step (fail))
  refine wpQuiet_nil ?_
  refine tail_step ?_
  clear cKA0 cKA1 cKX0 cKX1
  clear y0 y1 y2 y3 ne
  go_wp2_with (fail)
  refine (toPanel_c n _ cs w6.drew (HH.out.below HB.out.drew) HLL.out.1 HLL.out.2).mono ?_
  rintro e w7 ⟨vr, rfl, orr, b⟩
  have b' : Below w6.heap.size w6 w7 := (Below.refl _ _).drew.trans b
  have HB7 : Hid (Below w6.heap.size w6 w7) := b'
  have HOR : Hid (RdC w7 vr cs) := orr.rd
  clear orr b
  have z7 : w6.heap.size ≤ w7.heap.size := b'.size
  have HB' : Hid (Below w.heap.size w w7) := belowCall HB.out b' HB.out.size
  have HKA' : Hid (Blk w7 w.heap.size #[.int .i64 n, .slice a lv.length cap] 55) := HKA.out.below b' HKA.out.lt
  have HW' : Hid (OwH w2.heap.size w3.heap.size w7 vw zg) := HW.out.below b'
  have HX' : Hid (OwCH w3.heap.size w4.heap.size w7 (.slice ax cs.length cx) cs) := HX.out.below b'
  have HKX' : Hid (Blk w7 w4.heap.size #[.int .i64 n, .slice ax cs.length cx] 26) := HKX.out.below b' HKX.out.lt
  have HG' : Hid (OwH (w4.heap.size + 1) w5.heap.size w7 vg zg) := HG.out.below b'
  clear HB HKA HW HX HKX HG
  have HB := HB'
  have HKA := HKA'
  have HW := HW'
  have HX := HX'
  have HKX := HKX'
  have HG := HG'
  clear HB' HKA' HW' HX' HKX' HG'
  clear b'
  go_wp2
  refine ⟨(HS.out _).2 HB7.out, tail_step ?_⟩
  go_wp2_with (fail)
  refine (eqPanel_c n n _ _ cs cs w7 HX.out.ow.rd HOR.out).mono ?_
  rintro e w8 ⟨rfl, b⟩
  have hde : decide ((n, cs) = (n, cs)) = true := by simp
  rw [hde]
  have HB8 : Hid (Below w6.heap.size w6 w8) := belowCall HB7.out b HB7.out.size
  clear hde HOR
  have z8 : w7.heap.size ≤ w8.heap.size := b.size
  have HB' : Hid (Below w.heap.size w w8) := belowCall HB.out b HB.out.size
  have HKA' : Hid (Blk w8 w.heap.size #[.int .i64 n, .slice a lv.length cap] 55) := HKA.out.below b HKA.out.lt
  have HW' : Hid (OwH w2.heap.size w3.heap.size w8 vw zg) := HW.out.below b
  have HX' : Hid (OwCH w3.heap.size w4.heap.size w8 (.slice ax cs.length cx) cs) := HX.out.below b
  have HKX' : Hid (Blk w8 w4.heap.size #[.int .i64 n, .slice ax cs.length cx] 26) := HKX.out.below b HKX.out.lt
  have HG' : Hid (OwH (w4.heap.size + 1) w5.heap.size w8 vg zg) := HG.out.below b
  clear HB HKA HW HX HKX HG
  have HB := HB'
  have HKA := HKA'
  have HW := HW'
  have HX := HX'
  have HKX := HKX'
  have HG := HG'
  clear HB' HKA' HW' HX' HKX' HG'
  clear b
  go_wp2
  refine ⟨(HS.out _).2 HB8.out, tail_step ?_⟩
  go_wp2
  refine ⟨(HS.out _).2 HB8.out, tail_end ?_⟩
  clear HB7 HB8 HS S
  have cKA0 : w8.cell? ⟨w.heap.size, 0, none⟩ = some (.int .i64 n) := by have := HKA.out.cell 0; simpa using this
  have cKA1 : w8.cell? ⟨w.heap.size, 1, none⟩ = some (.slice a lv.length cap) := by have := HKA.out.cell 1; simpa using this
  have cKX0 : w8.cell? ⟨w4.heap.size, 0, none⟩ = some (.int .i64 n) := by have := HKX.out.cell 0; simpa using this
  have cKX1 : w8.cell? ⟨w4.heap.size, 1, none⟩ = some (.slice ax cs.length cx) := by have := HKX.out.cell 1; simpa using this
  go_wp2_with (fail)
  refine (markPanel_c n _ cs 1 w3.heap.size w4.heap.size w8 HX.out (by decide) (by rw [HKE.out]; omega)).mono ?_
  rintro e w9 ⟨rfl, -, m⟩
  rw [HKE.out]
  clear HX
  clear cKA0 cKA1 cKX0 cKX1
  have z9 : w8.heap.size ≤ w9.heap.size := m.size
  have HB' : Hid (Below w.heap.size w w9) := HB.out.trans ((m.below (by omega)).mono (by omega))
  have HKA' : Hid (Blk w9 w.heap.size #[.int .i64 n, .slice a lv.length cap] 55) := HKA.out.mid m (by omega)
  have HW' : Hid (OwH w2.heap.size w3.heap.size w9 vw zg) := HW.out.mid m (by omega)
  have HKX' : Hid (Blk w9 w4.heap.size #[.int .i64 n, .slice ax cs.length cx] 26) := HKX.out.mid m (by omega)
  have HG' : Hid (OwH (w4.heap.size + 1) w5.heap.size w9 vg zg) := HG.out.mid m (by omega)
  clear HB HKA HW HKX HG
  have HB := HB'
  have HKA := HKA'
  have HW := HW'
  have HKX := HKX'
  have HG := HG'
  clear HB' HKA' HW' HKX' HG'
  clear m
  have cKA0 : w9.cell? ⟨w.heap.size, 0, none⟩ = some (.int .i64 n) := by have := HKA.out.cell 0; simpa using this
  have cKA1 : w9.cell? ⟨w.heap.size, 1, none⟩ = some (.slice a lv.length cap) := by have := HKA.out.cell 1; simpa using this
  have cKX0 : w9.cell? ⟨w4.heap.size, 0, none⟩ = some (.int .i64 n) := by have := HKX.out.cell 0; simpa using this
  have cKX1 : w9.cell? ⟨w4.heap.size, 1, none⟩ = some (.slice ax cs.length cx) := by have := HKX.out.cell 1; simpa using this
  go_wp2_with (fail)
  refine (eqIS vg vw zg w9 HG.out.rd HW.out.rd).mono ?_
  rintro e w10 ⟨rfl, b⟩
  clear cKA0 cKA1 cKX0 cKX1
  have z10 : w9.heap.size ≤ w10.heap.size := b.size
  have HB' : Hid (Below w.heap.size w w10) := belowCall HB.out b HB.out.size
  have HKA' : Hid (Blk w10 w.heap.size #[.int .i64 n, .slice a lv.length cap] 55) := HKA.out.below b HKA.out.lt
  have HW' : Hid (OwH w2.heap.size w3.heap.size w10 vw zg) := HW.out.below b
  have HKX' : Hid (Blk w10 w4.heap.size #[.int .i64 n, .slice ax cs.length cx] 26) := HKX.out.below b HKX.out.lt
  have HG' : Hid (OwH (w4.heap.size + 1) w5.heap.size w10 vg zg) := HG.out.below b
  clear HB HKA HW HKX HG
  have HB := HB'
  have HKA := HKA'
  have HW := HW'
  have HKX := HKX'
  have HG := HG'
  clear HB' HKA' HW' HKX' HG'
  clear b
  have cKA0 : w10.cell? ⟨w.heap.size, 0, none⟩ = some (.int .i64 n) := by have := HKA.out.cell 0; simpa using this
  have cKA1 : w10.cell? ⟨w.heap.size, 1, none⟩ = some (.slice a lv.length cap) := by have := HKA.out.cell 1; simpa using this
  have cKX0 : w10.cell? ⟨w4.heap.size, 0, none⟩ = some (.int .i64 n) := by have := HKX.out.cell 0; simpa using this
  have cKX1 : w10.cell? ⟨w4.heap.size, 1, none⟩ = some (.slice ax cs.length cx) := by have := HKX.out.cell 1; simpa using this
  go_wp2_with (fail)
  refine (markH vg zg 1 (w4.heap.size + 1) w5.heap.size w10 HG.out (by decide) (by have h := hzl; omega)).mono ?_
  rintro e w11 ⟨rfl, og, m⟩
  have HG2 : Hid (OwH (w4.heap.size + 1) w5.heap.size w11 vg (marks .i64 1 zg.length)) := og
  clear HG og
  clear cKA0 cKA1 cKX0 cKX1
  have z11 : w10.heap.size ≤ w11.heap.size := m.size
  have HB' : Hid (Below w.heap.size w w11) := HB.out.trans ((m.below (by omega)).mono (by omega))
  have HKA' : Hid (Blk w11 w.heap.size #[.int .i64 n, .slice a lv.length cap] 55) := HKA.out.mid m (by omega)
  have HW' : Hid (OwH w2.heap.size w3.heap.size w11 vw zg) := HW.out.mid m (by omega)
  have HKX' : Hid (Blk w11 w4.heap.size #[.int .i64 n, .slice ax cs.length cx] 26) := HKX.out.mid m (by omega)
  clear HB HKA HW HKX
  have HB := HB'
  have HKA := HKA'
  have HW := HW'
  have HKX := HKX'
  clear HB' HKA' HW' HKX'
  clear m
  have cKA0 : w11.cell? ⟨w.heap.size, 0, none⟩ = some (.int .i64 n) := by have := HKA.out.cell 0; simpa using this
  have cKA1 : w11.cell? ⟨w.heap.size, 1, none⟩ = some (.slice a lv.length cap) := by have := HKA.out.cell 1; simpa using this
  have cKX0 : w11.cell? ⟨w4.heap.size, 0, none⟩ = some (.int .i64 n) := by have := HKX.out.cell 0; simpa using this
  have cKX1 : w11.cell? ⟨w4.heap.size, 1, none⟩ = some (.slice ax cs.length cx) := by have := HKX.out.cell 1; simpa using this
  go_wp2_with (fail)
  refine (heldI vg 1 zg.length w11 HG2.out.rd (by decide) (by have h := hzl; omega)).mono ?_
  rintro e w12 ⟨rfl, b⟩
  clear cKA0 cKA1 cKX0 cKX1
  have z12 : w11.heap.size ≤ w12.heap.size := b.size
  have HB' : Hid (Below w.heap.size w w12) := belowCall HB.out b HB.out.size
  have HKA' : Hid (Blk w12 w.heap.size #[.int .i64 n, .slice a lv.length cap] 55) := HKA.out.below b HKA.out.lt
  have HW' : Hid (OwH w2.heap.size w3.heap.size w12 vw zg) := HW.out.below b
  have HKX' : Hid (Blk w12 w4.heap.size #[.int .i64 n, .slice ax cs.length cx] 26) := HKX.out.below b HKX.out.lt
  have HG2' : Hid (OwH (w4.heap.size + 1) w5.heap.size w12 vg (marks .i64 1 zg.length)) := HG2.out.below b
  clear HB HKA HW HKX HG2
  have HB := HB'
  have HKA := HKA'
  have HW := HW'
  have HKX := HKX'
  have HG2 := HG2'
  clear HB' HKA' HW' HKX' HG2'
  clear b
  have hnn : ((1 : Int) + (zg.length : Int) < 0) = False := by simp; omega
  have hmm : ((1 : Int) + (zg.length : Int) != 1 + (zg.length : Int)) = false := by simp
  have cKA0 : w12.cell? ⟨w.heap.size, 0, none⟩ = some (.int .i64 n) := by have := HKA.out.cell 0; simpa using this
  have cKA1 : w12.cell? ⟨w.heap.size, 1, none⟩ = some (.slice a lv.length cap) := by have := HKA.out.cell 1; simpa using this
  have cKX0 : w12.cell? ⟨w4.heap.size, 0, none⟩ = some (.int .i64 n) := by have := HKX.out.cell 0; simpa using this
  have cKX1 : w12.cell? ⟨w4.heap.size, 1, none⟩ = some (.slice ax cs.length cx) := by have := HKX.out.cell 1; simpa using this
  go_wp2_with (fail)
  refine (toPanel_c n _ cs w12 (HH.out.below HB.out) HLL.out.1 HLL.out.2).mono ?_
  rintro e w13 ⟨vh, rfl, oh, b⟩
  have HOH : Hid (RdC w13 vh cs) := oh.rd
  clear oh
  clear cKA0 cKA1 cKX0 cKX1
  have z13 : w12.heap.size ≤ w13.heap.size := b.size
  have HB' : Hid (Below w.heap.size w w13) := belowCall HB.out b HB.out.size
  have HKA' : Hid (Blk w13 w.heap.size #[.int .i64 n, .slice a lv.length cap] 55) := HKA.out.below b HKA.out.lt
  have HW' : Hid (OwH w2.heap.size w3.heap.size w13 vw zg) := HW.out.below b
  have HKX' : Hid (Blk w13 w4.heap.size #[.int .i64 n, .slice ax cs.length cx] 26) := HKX.out.below b HKX.out.lt
  have HG2' : Hid (OwH (w4.heap.size + 1) w5.heap.size w13 vg (marks .i64 1 zg.length)) := HG2.out.below b
  clear HB HKA HW HKX HG2
  have HB := HB'
  have HKA := HKA'
  have HW := HW'
  have HKX := HKX'
  have HG2 := HG2'
  clear HB' HKA' HW' HKX' HG2'
  clear b
  have cKA0 : w13.cell? ⟨w.heap.size, 0, none⟩ = some (.int .i64 n) := by have := HKA.out.cell 0; simpa using this
  have cKA1 : w13.cell? ⟨w.heap.size, 1, none⟩ = some (.slice a lv.length cap) := by have := HKA.out.cell 1; simpa using this
  have cKX0 : w13.cell? ⟨w4.heap.size, 0, none⟩ = some (.int .i64 n) := by have := HKX.out.cell 0; simpa using this
  have cKX1 : w13.cell? ⟨w4.heap.size, 1, none⟩ = some (.slice ax cs.length cx) := by have := HKX.out.cell 1; simpa using this
  go_wp2_with (fail)
  refine (heard_c n _ cs l w13 HOH.out).mono ?_
  rintro e w14 ⟨vhh, zh, rfl, ohh, hsh, b⟩
  have HR : Hid (Rd .i64 w14 vhh zh) := ohh.rd
  obtain rfl := HS.same hsh HSW.out
  clear ohh hsh HOH
  clear cKA0 cKA1 cKX0 cKX1
  have z14 : w13.heap.size ≤ w14.heap.size := b.size
  have HB' : Hid (Below w.heap.size w w14) := belowCall HB.out b HB.out.size
  have HKA' : Hid (Blk w14 w.heap.size #[.int .i64 n, .slice a lv.length cap] 55) := HKA.out.below b HKA.out.lt
  have HW' : Hid (OwH w2.heap.size w3.heap.size w14 vw zh) := HW.out.below b
  have HKX' : Hid (Blk w14 w4.heap.size #[.int .i64 n, .slice ax cs.length cx] 26) := HKX.out.below b HKX.out.lt
  have HG2' : Hid (OwH (w4.heap.size + 1) w5.heap.size w14 vg (marks .i64 1 zh.length)) := HG2.out.below b
  clear HB HKA HW HKX HG2
  have HB := HB'
  have HKA := HKA'
  have HW := HW'
  have HKX := HKX'
  have HG2 := HG2'
  clear HB' HKA' HW' HKX' HG2'
  clear b
  have cKA0 : w14.cell? ⟨w.heap.size, 0, none⟩ = some (.int .i64 n) := by have := HKA.out.cell 0; simpa using this
  have cKA1 : w14.cell? ⟨w.heap.size, 1, none⟩ = some (.slice a lv.length cap) := by have := HKA.out.cell 1; simpa using this
  have cKX0 : w14.cell? ⟨w4.heap.size, 0, none⟩ = some (.int .i64 n) := by have := HKX.out.cell 0; simpa using this
  have cKX1 : w14.cell? ⟨w4.heap.size, 1, none⟩ = some (.slice ax cs.length cx) := by have := HKX.out.cell 1; simpa using this
  go_wp2_with (fail)
  refine (eqIS vhh vw zh w14 HR.out HW.out.rd).mono ?_
  rintro e w15 ⟨rfl, b⟩
  clear cKA0 cKA1 cKX0 cKX1
  have z15 : w14.heap.size ≤ w15.heap.size := b.size
  have HB' : Hid (Below w.heap.size w w15) := belowCall HB.out b HB.out.size
  have HKA' : Hid (Blk w15 w.heap.size #[.int .i64 n, .slice a lv.length cap] 55) := HKA.out.below b HKA.out.lt
  have HW' : Hid (OwH w2.heap.size w3.heap.size w15 vw zh) := HW.out.below b
  have HKX' : Hid (Blk w15 w4.heap.size #[.int .i64 n, .slice ax cs.length cx] 26) := HKX.out.below b HKX.out.lt
  have HG2' : Hid (OwH (w4.heap.size + 1) w5.heap.size w15 vg (marks .i64 1 zh.length)) := HG2.out.below b
  clear HB HKA HW HKX HG2
  have HB := HB'
  have HKA := HKA'
  have HW := HW'
  have HKX := HKX'
  have HG2 := HG2'
  clear HB' HKA' HW' HKX' HG2'
  clear b
  have cKA0 : w15.cell? ⟨w.heap.size, 0, none⟩ = some (.int .i64 n) := by have := HKA.out.cell 0; simpa using this
  have cKA1 : w15.cell? ⟨w.heap.size, 1, none⟩ = some (.slice a lv.length cap) := by have := HKA.out.cell 1; simpa using this
  have cKX0 : w15.cell? ⟨w4.heap.size, 0, none⟩ = some (.int .i64 n) := by have := HKX.out.cell 0; simpa using this
  have cKX1 : w15.cell? ⟨w4.heap.size, 1, none⟩ = some (.slice ax cs.length cx) := by have := HKX.out.cell 1; simpa using this
  go_wp2_with (fail)
  refine (heldI vg 1 zh.length w15 HG2.out.rd (by decide) (by have h := hzl; omega)).mono ?_
  rintro e w16 ⟨rfl, b⟩
  clear cKA0 cKA1 cKX0 cKX1
  have z16 : w15.heap.size ≤ w16.heap.size := b.size
  have HB' : Hid (Below w.heap.size w w16) := belowCall HB.out b HB.out.size
  have HKA' : Hid (Blk w16 w.heap.size #[.int .i64 n, .slice a lv.length cap] 55) := HKA.out.below b HKA.out.lt
  have HW' : Hid (OwH w2.heap.size w3.heap.size w16 vw zh) := HW.out.below b
  have HKX' : Hid (Blk w16 w4.heap.size #[.int .i64 n, .slice ax cs.length cx] 26) := HKX.out.below b HKX.out.lt
  have HG2' : Hid (OwH (w4.heap.size + 1) w5.heap.size w16 vg (marks .i64 1 zh.length)) := HG2.out.below b
  clear HB HKA HW HKX HG2
  have HB := HB'
  have HKA := HKA'
  have HW := HW'
  have HKX := HKX'
  have HG2 := HG2'
  clear HB' HKA' HW' HKX' HG2'
  clear b
  go_wp2
  go_ret
  exact ⟨rfl, HB.out⟩
end Go.Proofs.Ytcbeaimpmjljjaa

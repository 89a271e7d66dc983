/- The law of RunDuo; no condition; no condition. -/
import Derived.Test.YtljejjfhlpjlfaaRuB
namespace Go.Proofs.Ytljejjfhlpjlfaa
open Go.RowKit Go.ChangeShapes Go.WideShapes Go.ChangeAt
set_option linter.unusedVariables false
set_option linter.unusedSimpArgs false
set_option maxRecDepth 8000

set_option maxHeartbeats 12800000 in
theorem runLaw (s c s' c' : Int) (v : Value) (cs : Tri) (ve : Value) (es : Mvs) (w : World) (h : Rt w v cs) (he : Rp mf mg w ve es) :
   Calls Try.prog 7 #[.agg (D5 s c s' c' v), ve] w fun e w' => e = .returned (.bool true) ∧ Below w.heap.size w w' := by
  have bel0 : Below w.heap.size w (w.alloc (Obj.cells (D5 s c s' c' v) 44)) := (Below.refl _ _).alloc (Nat.le_refl _) _
  have HLb0 : Hid (Lc w (w.alloc (Obj.cells (D5 s c s' c' v) 44)) s c s' c' v) := ⟨bel0, Blk.new _ _ _⟩
  have HZ : Hid (Calls Try.prog 21 #[.agg (D5 s c s' c' v), .int .i64 1048576] (w.alloc (Obj.cells (D5 s c s' c' v) 44)) fun e w' => e = .returned (.int .i64 (lft 1048576 cs.length)) ∧ Below (w.alloc (Obj.cells (D5 s c s' c' v) 44)).heap.size (w.alloc (Obj.cells (D5 s c s' c' v) 44)) w') := szDuo_c s c s' c' v cs 1048576 _ (h.below bel0) (by decide) (by decide)
  have HH : Hid (Rt w v cs) := h
  have HE : Hid (Rp mf mg w ve es) := he
  obtain ⟨ea, ecap, hev, hel, hec, -⟩ := he
  obtain ⟨em, hem⟩ : ∃ n, es.length = n := ⟨_, rfl⟩
  have HEM : Hid (es.length = em) := hem
  rw [hem] at hev hel
  subst hev
  unfold maxLen at hec
  clear hem
  obtain ⟨a, cap, rfl, -⟩ := h
  obtain ⟨ln, hln⟩ : ∃ ln, cs.length = ln := ⟨_, rfl⟩
  have HLL : Hid (cs.length = ln) := hln
  rw [hln] at HH HZ HLb0 ⊢
  obtain ⟨z, hz⟩ : ∃ z, lft 1048576 ln = z := ⟨_, rfl⟩
  rw [hz] at HZ
  have hz1 : z ≤ 1048576 := by rw [← hz]; unfold lft; split <;> omega
  have HZ2 : Hid (0 ≤ z → cs.length ≤ 1048576) := fun h0 => (by rw [hln]; rw [← hz] at h0; unfold lft at h0; split at h0 <;> omega)
  clear bel0 hz hln
  go_enter Try.func7, Try.ntmps7
  go_wp2_with (fail)
  refine HZ.out.mono ?_
  rintro e w1 ⟨rfl, b1⟩
  have HLb : Hid (Lc w w1 s c s' c' (.slice a ln cap)) := HLb0.out.below b1
  clear b1 HZ HLb0
  by_cases hneg : z < 0
  · have HBB : Hid (Below w.heap.size w w1) := HLb.out.bel
    go_wp2
    go_ret
    exact ⟨rfl, HBB.out⟩
  have hl := HZ2.out (by omega)
  have HLN : Hid (cs.length ≤ 1048576) := hl
  have hlnb : ln ≤ 1048576 := by have := HLL.out; omega
  clear hl HZ2
  have hsz := szEventS_c (.slice ea em ecap) es z w1 (HE.out.below HLb.out.bel) (by omega) hz1
  rw [HEM.out] at hsz
  have HSZ : Hid (Calls Try.prog 28 #[.slice ea em ecap, .int .i64 z] w1 fun e w' => e = .returned (.int .i64 (if z < (em : Int) then -1 else z - em)) ∧ w' = w1) := hsz
  clear hsz
  go_wp2_with (fail)
  refine HSZ.out.mono ?_
  rintro e wz ⟨rfl, hwz⟩
  rw [hwz]
  clear hwz wz
  clear HSZ
  by_cases hsm : z < (em : Int)
  · have HBB : Hid (Below w.heap.size w w1) := HLb.out.bel
    rw [if_pos hsm]
    clear hsm
    go_wp2
    go_ret
    exact ⟨rfl, HBB.out⟩
  rw [if_neg hsm]
  have hemb : em ≤ 1048576 := by omega
  have hng2 : (z - (em : Int) < 0) = False := eq_false (by omega)
  obtain ⟨t1, t2, t3, t4, tl, htl, hto⟩ := run_told s c s' c' cs es HLN.out
  have HTO : Hid (∀ d' : Dt, (es.length ≤ 300 → DOt (s, c, s', c', cs) → d' = evL es (s, c, s', c', cs)) → (es.length ≤ 300 → ¬ DOt (s, c, s', c', cs) → d' = (s, c, s', c', cs)) → (300 < es.length → d' = (0, 0, 0, 0, [])) → d' = (t1, t2, t3, t4, tl)) := hto
  obtain ⟨Ln, hLn⟩ : ∃ n, tl.length = n := ⟨_, rfl⟩
  have HLT : Hid (tl.length = Ln) := hLn
  have hLb : Ln ≤ 1048576 := by rw [← hLn]; exact htl
  clear hsm hneg htl hto hLn
  have kd0 := HLb.out.kd.cell 0
  have kd1 := HLb.out.kd.cell 1
  have kd2 := HLb.out.kd.cell 2
  have kd3 := HLb.out.kd.cell 3
  have kd4 := HLb.out.kd.cell 4
  have ldl := HLb.out.kd.lt
  simp at kd0 kd1 kd2 kd3 kd4
  go_wp2_with (fail)
  refine (toDuo_c s c s' c' (.slice a ln cap) cs w1 (HH.out.below HLb.out.bel) HLN.out).mono ?_
  rintro e w2 ⟨vq, rfl, oq, b⟩
  clear kd0 kd1 kd2 kd3 kd4 ldl
  obtain ⟨aq, cq, hvq, -⟩ := own_form oq
  rw [HLL.out] at hvq
  subst hvq
  have HQ : Hid (Rt w2 (.slice aq ln cq) cs) := oq.rd
  have HLb' : Hid (Lc w w2 s c s' c' (.slice a ln cap)) := HLb.out.below b
  have zsw2 : w1.heap.size ≤ w2.heap.size := b.size
  clear HLb 
  have HLb := HLb'
  clear HLb'
  clear b oq
  have kd0 := HLb.out.kd.cell 0
  have kd1 := HLb.out.kd.cell 1
  have kd2 := HLb.out.kd.cell 2
  have kd3 := HLb.out.kd.cell 3
  have kd4 := HLb.out.kd.cell 4
  have ldl := HLb.out.kd.lt
  simp at kd0 kd1 kd2 kd3 kd4
  go_wp2_with (fail)
  refine (toEventS_c (.slice ea em ecap) es w2 (HE.out.below HLb.out.bel) (by have := HEM.out; omega)).mono ?_
  rintro e w3 ⟨vr, rfl, or, b⟩
  clear kd0 kd1 kd2 kd3 kd4 ldl
  obtain ⟨ar, cr, hvr⟩ := own_form2 or
  rw [HEM.out] at hvr
  subst hvr
  have HQ2 : Hid (Rt w3 (.slice aq ln cq) cs) := HQ.out.below b
  have HR : Hid (Rp mf mg w3 (.slice ar em cr) es) := or.rd
  clear HQ
  have HLb' : Hid (Lc w w3 s c s' c' (.slice a ln cap)) := HLb.out.below b
  have zsw3 : w2.heap.size ≤ w3.heap.size := b.size
  clear HLb 
  have HLb := HLb'
  clear HLb'
  clear b or
  have kd0 := HLb.out.kd.cell 0
  have kd1 := HLb.out.kd.cell 1
  have kd2 := HLb.out.kd.cell 2
  have kd3 := HLb.out.kd.cell 3
  have kd4 := HLb.out.kd.cell 4
  have ldl := HLb.out.kd.lt
  simp at kd0 kd1 kd2 kd3 kd4
  go_wp2_with (fail)
  refine (runM_c s c s' c' (.slice aq ln cq) (.slice ar em cr) cs es w3 HQ2.out HLN.out HR.out).mono ?_
  rintro e w4 hru
  clear kd0 kd1 kd2 kd3 kd4 ldl
  obtain ⟨v3, rfl, o3, g3, -⟩ := ru_t hru HTO.out
  clear hru
  have b : Below w3.heap.size w3 w4 := ⟨g3.os, g3.tape, g3.output, g3.size, fun j hj => g3.block j hj (by simp [Value.ownBlock])⟩
  obtain ⟨awa, cwa, hv3, -⟩ := own_form o3
  simp only at hv3 o3
  rw [HLT.out] at hv3
  subst hv3
  clear g3
  obtain ⟨nwa, hnwa⟩ : ∃ n, w3.heap.size = n := ⟨_, rfl⟩
  have zwa := b.size
  rw [hnwa] at zwa
  have hlowa : w.heap.size < nwa := by rw [← hnwa]; exact HLb.out.kd.lt
  have HLb' : Hid (Lc w w4 s c s' c' (.slice a ln cap)) := HLb.out.below b
  have zsw4 : w3.heap.size ≤ w4.heap.size := b.size
  clear HLb 
  have HLb := HLb'
  clear HLb'
  have HXr : Hid (Rw nwa (w4.alloc (Obj.cells (D5 t1 t2 t3 t4 (.slice awa Ln cwa)) 31)).heap.size (w4.alloc (Obj.cells (D5 t1 t2 t3 t4 (.slice awa Ln cwa)) 31)) w4.heap.size t1 t2 t3 t4 (.slice awa Ln cwa) tl) := ⟨_, _, (Ot.toH (by rw [← hnwa]; exact o3)).below ((Below.refl _ _).alloc (Nat.le_refl _) _), Nat.le_refl _, zwa, by simp, zwa, by simp, .inr (Nat.le_refl _), Blk.new _ _ _⟩
  clear o3 b
  obtain ⟨w5, hw5⟩ : ∃ W, (w4.alloc (Obj.cells (D5 t1 t2 t3 t4 (.slice awa Ln cwa)) 31)) = W := ⟨_, rfl⟩
  have bA : Below w4.heap.size w4 w5 := hw5 ▸ (Below.refl _ _).alloc (Nat.le_refl _) _
  have zWwa : w4.heap.size < w5.heap.size := by rw [← hw5]; simp
  have HLb' : Hid (Lc w w5 s c s' c' (.slice a ln cap)) := HLb.out.below bA
  have zsw5 : w4.heap.size ≤ w5.heap.size := bA.size
  clear HLb 
  have HLb := HLb'
  clear HLb'
  rw [hw5] at HXr
  obtain ⟨Nwa, hNwa⟩ : ∃ n, w5.heap.size = n := ⟨_, rfl⟩
  obtain ⟨gwa, hgwa⟩ : ∃ n, w4.heap.size = n := ⟨_, rfl⟩
  rw [hNwa, hgwa] at HXr
  have Hwa := HXr
  clear HXr bA
  rw [hNwa, hgwa] at zWwa
  rw [hgwa] at zwa
  have hwwa := Hwa.out.rng
  clear HQ2 HR
  have kd0 := HLb.out.kd.cell 0
  have kd1 := HLb.out.kd.cell 1
  have kd2 := HLb.out.kd.cell 2
  have kd3 := HLb.out.kd.cell 3
  have kd4 := HLb.out.kd.cell 4
  have ldl := HLb.out.kd.lt
  have wab0 := Hwa.out.box.cell 0
  have wab1 := Hwa.out.box.cell 1
  have wab2 := Hwa.out.box.cell 2
  have wab3 := Hwa.out.box.cell 3
  have wab4 := Hwa.out.box.cell 4
  have wal := Hwa.out.box.lt
  simp at kd0 kd1 kd2 kd3 kd4 wab0 wab1 wab2 wab3 wab4
  go_wp2_with (fail)
  refine (toDuo_c s c s' c' (.slice a ln cap) cs w5 (HH.out.below HLb.out.bel) HLN.out).mono ?_
  rintro e w6 ⟨vx, rfl, ox, b⟩
  clear kd0 kd1 kd2 kd3 kd4 ldl wab0 wab1 wab2 wab3 wab4 wal
  obtain ⟨ax, cx, hvx, -⟩ := own_form ox
  rw [HLL.out] at hvx
  subst hvx
  obtain ⟨nX, hnX⟩ : ∃ n, w5.heap.size = n := ⟨_, rfl⟩
  have zX := b.size
  rw [hnX] at zX
  have hloX : w.heap.size < nX := by rw [← hnX]; exact HLb.out.kd.lt
  have HLb' : Hid (Lc w w6 s c s' c' (.slice a ln cap)) := HLb.out.below b
  have Hwa' : Hid (Rw nwa Nwa w6 gwa t1 t2 t3 t4 (.slice awa Ln cwa) tl) := Hwa.out.below b
  have zsw6 : w5.heap.size ≤ w6.heap.size := b.size
  clear HLb Hwa
  have HLb := HLb'
  clear HLb'
  have Hwa := Hwa'
  clear Hwa'
  have HXr : Hid (Rw nX (w6.alloc (Obj.cells (D5 s c s' c' (.slice ax ln cx)) 31)).heap.size (w6.alloc (Obj.cells (D5 s c s' c' (.slice ax ln cx)) 31)) w6.heap.size s c s' c' (.slice ax ln cx) cs) := ⟨_, _, (Ot.toH (by rw [← hnX]; exact ox)).below ((Below.refl _ _).alloc (Nat.le_refl _) _), Nat.le_refl _, zX, by simp, zX, by simp, .inr (Nat.le_refl _), Blk.new _ _ _⟩
  clear ox b
  obtain ⟨w7, hw7⟩ : ∃ W, (w6.alloc (Obj.cells (D5 s c s' c' (.slice ax ln cx)) 31)) = W := ⟨_, rfl⟩
  have bA : Below w6.heap.size w6 w7 := hw7 ▸ (Below.refl _ _).alloc (Nat.le_refl _) _
  have zWX : w6.heap.size < w7.heap.size := by rw [← hw7]; simp
  have HLb' : Hid (Lc w w7 s c s' c' (.slice a ln cap)) := HLb.out.below bA
  have Hwa' : Hid (Rw nwa Nwa w7 gwa t1 t2 t3 t4 (.slice awa Ln cwa) tl) := Hwa.out.below bA
  have zsw7 : w6.heap.size ≤ w7.heap.size := bA.size
  clear HLb Hwa
  have HLb := HLb'
  clear HLb'
  have Hwa := Hwa'
  clear Hwa'
  rw [hw7] at HXr
  obtain ⟨NX, hNX⟩ : ∃ n, w7.heap.size = n := ⟨_, rfl⟩
  obtain ⟨gX, hgX⟩ : ∃ n, w6.heap.size = n := ⟨_, rfl⟩
  rw [hNX, hgX] at HXr
  have HX := HXr
  clear HXr bA
  rw [hNX, hgX] at zWX
  rw [hgX] at zX
  have hwX := HX.out.rng
  have kd0 := HLb.out.kd.cell 0
  have kd1 := HLb.out.kd.cell 1
  have kd2 := HLb.out.kd.cell 2
  have kd3 := HLb.out.kd.cell 3
  have kd4 := HLb.out.kd.cell 4
  have ldl := HLb.out.kd.lt
  have wab0 := Hwa.out.box.cell 0
  have wab1 := Hwa.out.box.cell 1
  have wab2 := Hwa.out.box.cell 2
  have wab3 := Hwa.out.box.cell 3
  have wab4 := Hwa.out.box.cell 4
  have wal := Hwa.out.box.lt
  have Xb0 := HX.out.box.cell 0
  have Xb1 := HX.out.box.cell 1
  have Xb2 := HX.out.box.cell 2
  have Xb3 := HX.out.box.cell 3
  have Xb4 := HX.out.box.cell 4
  have Xl := HX.out.box.lt
  simp at kd0 kd1 kd2 kd3 kd4 wab0 wab1 wab2 wab3 wab4 Xb0 Xb1 Xb2 Xb3 Xb4
  go_wp2_with (fail)
  refine (toEventS_c (.slice ea em ecap) es w7 (HE.out.below HLb.out.bel) (by have := HEM.out; omega)).mono ?_
  rintro e w8 ⟨vy, rfl, oy, b⟩
  clear kd0 kd1 kd2 kd3 kd4 ldl wab0 wab1 wab2 wab3 wab4 wal Xb0 Xb1 Xb2 Xb3 Xb4 Xl
  obtain ⟨ay, cy, hvy⟩ := own_form2 oy
  rw [HEM.out] at hvy
  subst hvy
  obtain ⟨nE, hnE⟩ : ∃ n, w7.heap.size = n := ⟨_, rfl⟩
  obtain ⟨NE, hNE⟩ : ∃ n, w8.heap.size = n := ⟨_, rfl⟩
  have HX1 : Hid (Ew nE NE w8 (.slice ay em cy) es) := ⟨by rw [← hnE]; exact oy, fun k e => by have := (World.ownsRow.lt oy k e).2; omega⟩
  have HLb' : Hid (Lc w w8 s c s' c' (.slice a ln cap)) := HLb.out.below b
  have Hwa' : Hid (Rw nwa Nwa w8 gwa t1 t2 t3 t4 (.slice awa Ln cwa) tl) := Hwa.out.below b
  have HX' : Hid (Rw nX NX w8 gX s c s' c' (.slice ax ln cx) cs) := HX.out.below b
  have zsw8 : w7.heap.size ≤ w8.heap.size := b.size
  clear HLb Hwa HX
  have HLb := HLb'
  clear HLb'
  have Hwa := Hwa'
  clear Hwa'
  have HX := HX'
  clear HX'
  clear b oy
  have hloE : w.heap.size < nE := by have := HLb.out.kd.lt; have := hwX; omega
  have hNE2 : nE ≤ NE := by omega
  have kd0 := HLb.out.kd.cell 0
  have kd1 := HLb.out.kd.cell 1
  have kd2 := HLb.out.kd.cell 2
  have kd3 := HLb.out.kd.cell 3
  have kd4 := HLb.out.kd.cell 4
  have ldl := HLb.out.kd.lt
  have wab0 := Hwa.out.box.cell 0
  have wab1 := Hwa.out.box.cell 1
  have wab2 := Hwa.out.box.cell 2
  have wab3 := Hwa.out.box.cell 3
  have wab4 := Hwa.out.box.cell 4
  have wal := Hwa.out.box.lt
  have Xb0 := HX.out.box.cell 0
  have Xb1 := HX.out.box.cell 1
  have Xb2 := HX.out.box.cell 2
  have Xb3 := HX.out.box.cell 3
  have Xb4 := HX.out.box.cell 4
  have Xl := HX.out.box.lt
  simp at kd0 kd1 kd2 kd3 kd4 wab0 wab1 wab2 wab3 wab4 Xb0 Xb1 Xb2 Xb3 Xb4
  go_wp2_with (fail)
  refine (runI_c s c s' c' (.slice ax ln cx) (.slice ay em cy) cs es w8 HX.out.rd HLN.out HX1.out.rd).mono ?_
  rintro e w9 hru
  clear kd0 kd1 kd2 kd3 kd4 ldl wab0 wab1 wab2 wab3 wab4 wal Xb0 Xb1 Xb2 Xb3 Xb4 Xl
  obtain ⟨v3, rfl, o3, g3, -⟩ := ru_t hru HTO.out
  clear hru
  have b : Below w8.heap.size w8 w9 := ⟨g3.os, g3.tape, g3.output, g3.size, fun j hj => g3.block j hj (by simp [Value.ownBlock])⟩
  obtain ⟨aga, cga, hv3, -⟩ := own_form o3
  simp only at hv3 o3
  rw [HLT.out] at hv3
  subst hv3
  clear g3
  obtain ⟨nga, hnga⟩ : ∃ n, w8.heap.size = n := ⟨_, rfl⟩
  have zga := b.size
  rw [hnga] at zga
  have hloga : w.heap.size < nga := by rw [← hnga]; exact HLb.out.kd.lt
  have HLb' : Hid (Lc w w9 s c s' c' (.slice a ln cap)) := HLb.out.below b
  have Hwa' : Hid (Rw nwa Nwa w9 gwa t1 t2 t3 t4 (.slice awa Ln cwa) tl) := Hwa.out.below b
  have HX' : Hid (Rw nX NX w9 gX s c s' c' (.slice ax ln cx) cs) := HX.out.below b
  have HX1' : Hid (Ew nE NE w9 (.slice ay em cy) es) := HX1.out.below b
  clear HX1
  have HX1 := HX1'
  clear HX1'
  have zsw9 : w8.heap.size ≤ w9.heap.size := b.size
  clear HLb Hwa HX
  have HLb := HLb'
  clear HLb'
  have Hwa := Hwa'
  clear Hwa'
  have HX := HX'
  clear HX'
  have HXr : Hid (Rw nga (w9.alloc (Obj.cells (D5 t1 t2 t3 t4 (.slice aga Ln cga)) 31)).heap.size (w9.alloc (Obj.cells (D5 t1 t2 t3 t4 (.slice aga Ln cga)) 31)) w9.heap.size t1 t2 t3 t4 (.slice aga Ln cga) tl) := ⟨_, _, (Ot.toH (by rw [← hnga]; exact o3)).below ((Below.refl _ _).alloc (Nat.le_refl _) _), Nat.le_refl _, zga, by simp, zga, by simp, .inr (Nat.le_refl _), Blk.new _ _ _⟩
  clear o3 b
  obtain ⟨w10, hw10⟩ : ∃ W, (w9.alloc (Obj.cells (D5 t1 t2 t3 t4 (.slice aga Ln cga)) 31)) = W := ⟨_, rfl⟩
  have bA : Below w9.heap.size w9 w10 := hw10 ▸ (Below.refl _ _).alloc (Nat.le_refl _) _
  have zWga : w9.heap.size < w10.heap.size := by rw [← hw10]; simp
  have HLb' : Hid (Lc w w10 s c s' c' (.slice a ln cap)) := HLb.out.below bA
  have Hwa' : Hid (Rw nwa Nwa w10 gwa t1 t2 t3 t4 (.slice awa Ln cwa) tl) := Hwa.out.below bA
  have HX' : Hid (Rw nX NX w10 gX s c s' c' (.slice ax ln cx) cs) := HX.out.below bA
  have HX1' : Hid (Ew nE NE w10 (.slice ay em cy) es) := HX1.out.below bA
  clear HX1
  have HX1 := HX1'
  clear HX1'
  have zsw10 : w9.heap.size ≤ w10.heap.size := bA.size
  clear HLb Hwa HX
  have HLb := HLb'
  clear HLb'
  have Hwa := Hwa'
  clear Hwa'
  have HX := HX'
  clear HX'
  rw [hw10] at HXr
  obtain ⟨Nga, hNga⟩ : ∃ n, w10.heap.size = n := ⟨_, rfl⟩
  obtain ⟨gga, hgga⟩ : ∃ n, w9.heap.size = n := ⟨_, rfl⟩
  rw [hNga, hgga] at HXr
  have Hga := HXr
  clear HXr bA
  rw [hNga, hgga] at zWga
  rw [hgga] at zga
  have hwga := Hga.out.rng
  have kd0 := HLb.out.kd.cell 0
  have kd1 := HLb.out.kd.cell 1
  have kd2 := HLb.out.kd.cell 2
  have kd3 := HLb.out.kd.cell 3
  have kd4 := HLb.out.kd.cell 4
  have ldl := HLb.out.kd.lt
  have wab0 := Hwa.out.box.cell 0
  have wab1 := Hwa.out.box.cell 1
  have wab2 := Hwa.out.box.cell 2
  have wab3 := Hwa.out.box.cell 3
  have wab4 := Hwa.out.box.cell 4
  have wal := Hwa.out.box.lt
  have Xb0 := HX.out.box.cell 0
  have Xb1 := HX.out.box.cell 1
  have Xb2 := HX.out.box.cell 2
  have Xb3 := HX.out.box.cell 3
  have Xb4 := HX.out.box.cell 4
  have Xl := HX.out.box.lt
  have gab0 := Hga.out.box.cell 0
  have gab1 := Hga.out.box.cell 1
  have gab2 := Hga.out.box.cell 2
  have gab3 := Hga.out.box.cell 3
  have gab4 := Hga.out.box.cell 4
  have gal := Hga.out.box.lt
  simp at kd0 kd1 kd2 kd3 kd4 wab0 wab1 wab2 wab3 wab4 Xb0 Xb1 Xb2 Xb3 Xb4 gab0 gab1 gab2 gab3 gab4
  go_wp2_with (fail)
  refine (eqDuo_t t1 t2 t3 t4 (.slice aga Ln cga) (.slice awa Ln cwa) tl w10 Hga.out.rd Hwa.out.rd).mono ?_
  rintro e w11 ⟨rfl, b⟩
  clear kd0 kd1 kd2 kd3 kd4 ldl wab0 wab1 wab2 wab3 wab4 wal Xb0 Xb1 Xb2 Xb3 Xb4 Xl gab0 gab1 gab2 gab3 gab4 gal
  have HLb' : Hid (Lc w w11 s c s' c' (.slice a ln cap)) := HLb.out.below b
  have Hwa' : Hid (Rw nwa Nwa w11 gwa t1 t2 t3 t4 (.slice awa Ln cwa) tl) := Hwa.out.below b
  have HX' : Hid (Rw nX NX w11 gX s c s' c' (.slice ax ln cx) cs) := HX.out.below b
  have Hga' : Hid (Rw nga Nga w11 gga t1 t2 t3 t4 (.slice aga Ln cga) tl) := Hga.out.below b
  have HX1' : Hid (Ew nE NE w11 (.slice ay em cy) es) := HX1.out.below b
  clear HX1
  have HX1 := HX1'
  clear HX1'
  have zsw11 : w10.heap.size ≤ w11.heap.size := b.size
  clear HLb Hwa HX Hga
  have HLb := HLb'
  clear HLb'
  have Hwa := Hwa'
  clear Hwa'
  have HX := HX'
  clear HX'
  have Hga := Hga'
  clear Hga'
  clear b
  have kd0 := HLb.out.kd.cell 0
  have kd1 := HLb.out.kd.cell 1
  have kd2 := HLb.out.kd.cell 2
  have kd3 := HLb.out.kd.cell 3
  have kd4 := HLb.out.kd.cell 4
  have ldl := HLb.out.kd.lt
  have wab0 := Hwa.out.box.cell 0
  have wab1 := Hwa.out.box.cell 1
  have wab2 := Hwa.out.box.cell 2
  have wab3 := Hwa.out.box.cell 3
  have wab4 := Hwa.out.box.cell 4
  have wal := Hwa.out.box.lt
  have Xb0 := HX.out.box.cell 0
  have Xb1 := HX.out.box.cell 1
  have Xb2 := HX.out.box.cell 2
  have Xb3 := HX.out.box.cell 3
  have Xb4 := HX.out.box.cell 4
  have Xl := HX.out.box.lt
  have gab0 := Hga.out.box.cell 0
  have gab1 := Hga.out.box.cell 1
  have gab2 := Hga.out.box.cell 2
  have gab3 := Hga.out.box.cell 3
  have gab4 := Hga.out.box.cell 4
  have gal := Hga.out.box.lt
  simp at kd0 kd1 kd2 kd3 kd4 wab0 wab1 wab2 wab3 wab4 Xb0 Xb1 Xb2 Xb3 Xb4 gab0 gab1 gab2 gab3 gab4
  obtain ⟨S, hS⟩ : ∃ S : World → Prop, ∀ W, S W ↔ (Lc w W s c s' c' (.slice a ln cap) ∧ Rw nX NX W gX s c s' c' (.slice ax ln cx) cs) := ⟨_, fun _ => Iff.rfl⟩
  have HSI : Hid (∀ W, S W ↔ (Lc w W s c s' c' (.slice a ln cap) ∧ Rw nX NX W gX s c s' c' (.slice ax ln cx) cs)) := hS
  have HSD : Hid (S w11.drew) := (hS _).2 ⟨HLb.out.below (Below.refl _ _).drew, HX.out.below (Below.refl _ _).drew⟩
  have ne1 : Nonempty (At S) := ⟨⟨_, HSD.out⟩⟩
  have yy0 : ∀ W : At S, W.wd.cell? ⟨w.heap.size, 0, none⟩ = some (.int .i64 s) := fun W => by rw [((hS _).1 W.ok).1.kd.cell 0]; rfl
  have yy1 : ∀ W : At S, W.wd.cell? ⟨w.heap.size, 1, none⟩ = some (.int .i64 c) := fun W => by rw [((hS _).1 W.ok).1.kd.cell 1]; rfl
  have yy2 : ∀ W : At S, W.wd.cell? ⟨w.heap.size, 2, none⟩ = some (.int .i64 s') := fun W => by rw [((hS _).1 W.ok).1.kd.cell 2]; rfl
  have yy3 : ∀ W : At S, W.wd.cell? ⟨w.heap.size, 3, none⟩ = some (.int .i64 c') := fun W => by rw [((hS _).1 W.ok).1.kd.cell 3]; rfl
  have yy4 : ∀ W : At S, W.wd.cell? ⟨w.heap.size, 4, none⟩ = some (.slice a ln cap) := fun W => by rw [((hS _).1 W.ok).1.kd.cell 4]; rfl
  have xx0 : ∀ W : At S, W.wd.cell? ⟨gX, 0, none⟩ = some (.int .i64 s) := fun W => by rw [((hS _).1 W.ok).2.box.cell 0]; rfl
  have xx1 : ∀ W : At S, W.wd.cell? ⟨gX, 1, none⟩ = some (.int .i64 c) := fun W => by rw [((hS _).1 W.ok).2.box.cell 1]; rfl
  have xx2 : ∀ W : At S, W.wd.cell? ⟨gX, 2, none⟩ = some (.int .i64 s') := fun W => by rw [((hS _).1 W.ok).2.box.cell 2]; rfl
  have xx3 : ∀ W : At S, W.wd.cell? ⟨gX, 3, none⟩ = some (.int .i64 c') := fun W => by rw [((hS _).1 W.ok).2.box.cell 3]; rfl
  have xx4 : ∀ W : At S, W.wd.cell? ⟨gX, 4, none⟩ = some (.slice ax ln cx) := fun W => by rw [((hS _).1 W.ok).2.box.cell 4]; rfl
  clear hS
  go_wp2
  refine region_mixA [true, true, false, false, false] 5 3 S (by kernel_rfl) rfl (by kernel_rfl) (fun _ _ _ _ _ h => h) HSD.out ?_
  simp only [selT, selF]
  repeat (go_big_quiet_step (fail))
  refine wpQuiet_nil ?_
  clear yy0 yy1 yy2 yy3 yy4 xx0 xx1 xx2 xx3 xx4 ne1 HSD
  clear kd0 kd1 kd2 kd3 kd4 ldl wab0 wab1 wab2 wab3 wab4 wal Xb0 Xb1 Xb2 Xb3 Xb4 Xl gab0 gab1 gab2 gab3 gab4 gal
  have bd : Below w11.heap.size w11 w11.drew := (Below.refl _ _).drew
  obtain ⟨w12, hw12⟩ : ∃ W, w11.drew = W := ⟨_, rfl⟩
  rw [hw12] at bd ⊢
  clear hw12
  have HLb' : Hid (Lc w w12 s c s' c' (.slice a ln cap)) := HLb.out.below bd
  have Hwa' : Hid (Rw nwa Nwa w12 gwa t1 t2 t3 t4 (.slice awa Ln cwa) tl) := Hwa.out.below bd
  have HX' : Hid (Rw nX NX w12 gX s c s' c' (.slice ax ln cx) cs) := HX.out.below bd
  have Hga' : Hid (Rw nga Nga w12 gga t1 t2 t3 t4 (.slice aga Ln cga) tl) := Hga.out.below bd
  have HX1' : Hid (Ew nE NE w12 (.slice ay em cy) es) := HX1.out.below bd
  clear HX1
  have HX1 := HX1'
  clear HX1'
  have zsw12 : w11.heap.size ≤ w12.heap.size := bd.size
  clear HLb Hwa HX Hga
  have HLb := HLb'
  clear HLb'
  have Hwa := Hwa'
  clear Hwa'
  have HX := HX'
  clear HX'
  have Hga := Hga'
  clear Hga'
  clear bd
  refine tail_step ?_
  go_wp2_with (fail)
  refine (toDuo_c s c s' c' (.slice a ln cap) cs w12 (HH.out.below HLb.out.bel) HLN.out).mono ?_
  rintro e w13 ⟨vk, rfl, ok, b⟩
  have HYY : Hid (Rt w13 vk cs) := ok.rd
  obtain ⟨ak, ck, hvk, -⟩ := own_form ok
  subst hvk
  have HLb' : Hid (Lc w w13 s c s' c' (.slice a ln cap)) := HLb.out.below b
  have Hwa' : Hid (Rw nwa Nwa w13 gwa t1 t2 t3 t4 (.slice awa Ln cwa) tl) := Hwa.out.below b
  have HX' : Hid (Rw nX NX w13 gX s c s' c' (.slice ax ln cx) cs) := HX.out.below b
  have Hga' : Hid (Rw nga Nga w13 gga t1 t2 t3 t4 (.slice aga Ln cga) tl) := Hga.out.below b
  have HX1' : Hid (Ew nE NE w13 (.slice ay em cy) es) := HX1.out.below b
  clear HX1
  have HX1 := HX1'
  clear HX1'
  have zsw13 : w12.heap.size ≤ w13.heap.size := b.size
  clear HLb Hwa HX Hga
  have HLb := HLb'
  clear HLb'
  have Hwa := Hwa'
  clear Hwa'
  have HX := HX'
  clear HX'
  have Hga := Hga'
  clear Hga'
  clear ok b
  go_wp2
  refine ⟨(HSI.out _).2 ⟨HLb.out, HX.out⟩, tail_step ?_⟩
  go_wp2_with (fail)
  refine (eqDuo_t s c s' c' (.slice ax ln cx) (.slice ak cs.length ck) cs w13 HX.out.rd HYY.out).mono ?_
  rintro e w14 ⟨rfl, b⟩
  have HLb' : Hid (Lc w w14 s c s' c' (.slice a ln cap)) := HLb.out.below b
  have Hwa' : Hid (Rw nwa Nwa w14 gwa t1 t2 t3 t4 (.slice awa Ln cwa) tl) := Hwa.out.below b
  have HX' : Hid (Rw nX NX w14 gX s c s' c' (.slice ax ln cx) cs) := HX.out.below b
  have Hga' : Hid (Rw nga Nga w14 gga t1 t2 t3 t4 (.slice aga Ln cga) tl) := Hga.out.below b
  have HX1' : Hid (Ew nE NE w14 (.slice ay em cy) es) := HX1.out.below b
  clear HX1
  have HX1 := HX1'
  clear HX1'
  have zsw14 : w13.heap.size ≤ w14.heap.size := b.size
  clear HLb Hwa HX Hga
  have HLb := HLb'
  clear HLb'
  have Hwa := Hwa'
  clear Hwa'
  have HX := HX'
  clear HX'
  have Hga := Hga'
  clear Hga'
  clear b HYY
  go_wp2
  refine ⟨(HSI.out _).2 ⟨HLb.out, HX.out⟩, tail_step ?_⟩
  go_wp2
  refine ⟨(HSI.out _).2 ⟨HLb.out, HX.out⟩, tail_end ?_⟩
  clear HSI
  have kd0 := HLb.out.kd.cell 0
  have kd1 := HLb.out.kd.cell 1
  have kd2 := HLb.out.kd.cell 2
  have kd3 := HLb.out.kd.cell 3
  have kd4 := HLb.out.kd.cell 4
  have ldl := HLb.out.kd.lt
  have wab0 := Hwa.out.box.cell 0
  have wab1 := Hwa.out.box.cell 1
  have wab2 := Hwa.out.box.cell 2
  have wab3 := Hwa.out.box.cell 3
  have wab4 := Hwa.out.box.cell 4
  have wal := Hwa.out.box.lt
  have Xb0 := HX.out.box.cell 0
  have Xb1 := HX.out.box.cell 1
  have Xb2 := HX.out.box.cell 2
  have Xb3 := HX.out.box.cell 3
  have Xb4 := HX.out.box.cell 4
  have Xl := HX.out.box.lt
  have gab0 := Hga.out.box.cell 0
  have gab1 := Hga.out.box.cell 1
  have gab2 := Hga.out.box.cell 2
  have gab3 := Hga.out.box.cell 3
  have gab4 := Hga.out.box.cell 4
  have gal := Hga.out.box.lt
  simp at kd0 kd1 kd2 kd3 kd4 wab0 wab1 wab2 wab3 wab4 Xb0 Xb1 Xb2 Xb3 Xb4 gab0 gab1 gab2 gab3 gab4
  go_wp2_with (fail)
  refine (toEventS_c (.slice ea em ecap) es w14 (HE.out.below HLb.out.bel) (by have := HEM.out; omega)).mono ?_
  rintro e w15 ⟨vl, rfl, ol, b⟩
  clear kd0 kd1 kd2 kd3 kd4 ldl wab0 wab1 wab2 wab3 wab4 wal Xb0 Xb1 Xb2 Xb3 Xb4 Xl gab0 gab1 gab2 gab3 gab4 gal
  obtain ⟨al, cl, hvl⟩ := own_form2 ol
  rw [HEM.out] at hvl
  subst hvl
  have HR : Hid (Rp mf mg w15 (.slice al em cl) es) := ol.rd
  have HLb' : Hid (Lc w w15 s c s' c' (.slice a ln cap)) := HLb.out.below b
  have Hwa' : Hid (Rw nwa Nwa w15 gwa t1 t2 t3 t4 (.slice awa Ln cwa) tl) := Hwa.out.below b
  have HX' : Hid (Rw nX NX w15 gX s c s' c' (.slice ax ln cx) cs) := HX.out.below b
  have Hga' : Hid (Rw nga Nga w15 gga t1 t2 t3 t4 (.slice aga Ln cga) tl) := Hga.out.below b
  have HX1' : Hid (Ew nE NE w15 (.slice ay em cy) es) := HX1.out.below b
  clear HX1
  have HX1 := HX1'
  clear HX1'
  have zsw15 : w14.heap.size ≤ w15.heap.size := b.size
  clear HLb Hwa HX Hga
  have HLb := HLb'
  clear HLb'
  have Hwa := Hwa'
  clear Hwa'
  have HX := HX'
  clear HX'
  have Hga := Hga'
  clear Hga'
  clear b ol
  have kd0 := HLb.out.kd.cell 0
  have kd1 := HLb.out.kd.cell 1
  have kd2 := HLb.out.kd.cell 2
  have kd3 := HLb.out.kd.cell 3
  have kd4 := HLb.out.kd.cell 4
  have ldl := HLb.out.kd.lt
  have wab0 := Hwa.out.box.cell 0
  have wab1 := Hwa.out.box.cell 1
  have wab2 := Hwa.out.box.cell 2
  have wab3 := Hwa.out.box.cell 3
  have wab4 := Hwa.out.box.cell 4
  have wal := Hwa.out.box.lt
  have Xb0 := HX.out.box.cell 0
  have Xb1 := HX.out.box.cell 1
  have Xb2 := HX.out.box.cell 2
  have Xb3 := HX.out.box.cell 3
  have Xb4 := HX.out.box.cell 4
  have Xl := HX.out.box.lt
  have gab0 := Hga.out.box.cell 0
  have gab1 := Hga.out.box.cell 1
  have gab2 := Hga.out.box.cell 2
  have gab3 := Hga.out.box.cell 3
  have gab4 := Hga.out.box.cell 4
  have gal := Hga.out.box.lt
  simp at kd0 kd1 kd2 kd3 kd4 wab0 wab1 wab2 wab3 wab4 Xb0 Xb1 Xb2 Xb3 Xb4 gab0 gab1 gab2 gab3 gab4
  go_wp2_with (fail)
  refine (eqEventS_t (.slice ay em cy) (.slice al em cl) es w15 HX1.out.rd HR.out).mono ?_
  rintro e w16 ⟨rfl, b⟩
  clear kd0 kd1 kd2 kd3 kd4 ldl wab0 wab1 wab2 wab3 wab4 wal Xb0 Xb1 Xb2 Xb3 Xb4 Xl gab0 gab1 gab2 gab3 gab4 gal
  have HLb' : Hid (Lc w w16 s c s' c' (.slice a ln cap)) := HLb.out.below b
  have Hwa' : Hid (Rw nwa Nwa w16 gwa t1 t2 t3 t4 (.slice awa Ln cwa) tl) := Hwa.out.below b
  have HX' : Hid (Rw nX NX w16 gX s c s' c' (.slice ax ln cx) cs) := HX.out.below b
  have Hga' : Hid (Rw nga Nga w16 gga t1 t2 t3 t4 (.slice aga Ln cga) tl) := Hga.out.below b
  have HX1' : Hid (Ew nE NE w16 (.slice ay em cy) es) := HX1.out.below b
  clear HX1
  have HX1 := HX1'
  clear HX1'
  have zsw16 : w15.heap.size ≤ w16.heap.size := b.size
  clear HLb Hwa HX Hga
  have HLb := HLb'
  clear HLb'
  have Hwa := Hwa'
  clear Hwa'
  have HX := HX'
  clear HX'
  have Hga := Hga'
  clear Hga'
  clear b HR
  have kd0 := HLb.out.kd.cell 0
  have kd1 := HLb.out.kd.cell 1
  have kd2 := HLb.out.kd.cell 2
  have kd3 := HLb.out.kd.cell 3
  have kd4 := HLb.out.kd.cell 4
  have ldl := HLb.out.kd.lt
  have wab0 := Hwa.out.box.cell 0
  have wab1 := Hwa.out.box.cell 1
  have wab2 := Hwa.out.box.cell 2
  have wab3 := Hwa.out.box.cell 3
  have wab4 := Hwa.out.box.cell 4
  have wal := Hwa.out.box.lt
  have Xb0 := HX.out.box.cell 0
  have Xb1 := HX.out.box.cell 1
  have Xb2 := HX.out.box.cell 2
  have Xb3 := HX.out.box.cell 3
  have Xb4 := HX.out.box.cell 4
  have Xl := HX.out.box.lt
  have gab0 := Hga.out.box.cell 0
  have gab1 := Hga.out.box.cell 1
  have gab2 := Hga.out.box.cell 2
  have gab3 := Hga.out.box.cell 3
  have gab4 := Hga.out.box.cell 4
  have gal := Hga.out.box.lt
  simp at kd0 kd1 kd2 kd3 kd4 wab0 wab1 wab2 wab3 wab4 Xb0 Xb1 Xb2 Xb3 Xb4 gab0 gab1 gab2 gab3 gab4
  go_wp2_with (fail)
  refine (HX.out.mark 1 (by decide) (by have := HLL.out; omega)).mono ?_
  rintro e w17 ⟨rfl, o, m⟩
  clear kd0 kd1 kd2 kd3 kd4 ldl wab0 wab1 wab2 wab3 wab4 wal Xb0 Xb1 Xb2 Xb3 Xb4 Xl gab0 gab1 gab2 gab3 gab4 gal
  rw [HLL.out]
  have HLb' : Hid (Lc w w17 s c s' c' (.slice a ln cap)) := HLb.out.mid m (by omega)
  have Hwa' : Hid (Rw nwa Nwa w17 gwa t1 t2 t3 t4 (.slice awa Ln cwa) tl) := Hwa.out.mid m (by omega)
  have Hga' : Hid (Rw nga Nga w17 gga t1 t2 t3 t4 (.slice aga Ln cga) tl) := Hga.out.mid m (by omega)
  have HX1' : Hid (Ew nE NE w17 (.slice ay em cy) es) := HX1.out.mid m (by omega)
  clear HX1
  have HX1 := HX1'
  clear HX1'
  have zsw17 : w16.heap.size ≤ w17.heap.size := m.size
  clear HLb Hwa Hga
  have HLb := HLb'
  clear HLb'
  have Hwa := Hwa'
  clear Hwa'
  have Hga := Hga'
  clear Hga'
  clear HX m
  have HX : Hid (Rw nX NX w17 gX s c s' c' (.slice ax ln cx) (mkT 1 cs.length)) := o
  clear o
  have kd0 := HLb.out.kd.cell 0
  have kd1 := HLb.out.kd.cell 1
  have kd2 := HLb.out.kd.cell 2
  have kd3 := HLb.out.kd.cell 3
  have kd4 := HLb.out.kd.cell 4
  have ldl := HLb.out.kd.lt
  have wab0 := Hwa.out.box.cell 0
  have wab1 := Hwa.out.box.cell 1
  have wab2 := Hwa.out.box.cell 2
  have wab3 := Hwa.out.box.cell 3
  have wab4 := Hwa.out.box.cell 4
  have wal := Hwa.out.box.lt
  have Xb0 := HX.out.box.cell 0
  have Xb1 := HX.out.box.cell 1
  have Xb2 := HX.out.box.cell 2
  have Xb3 := HX.out.box.cell 3
  have Xb4 := HX.out.box.cell 4
  have Xl := HX.out.box.lt
  have gab0 := Hga.out.box.cell 0
  have gab1 := Hga.out.box.cell 1
  have gab2 := Hga.out.box.cell 2
  have gab3 := Hga.out.box.cell 3
  have gab4 := Hga.out.box.cell 4
  have gal := Hga.out.box.lt
  simp at kd0 kd1 kd2 kd3 kd4 wab0 wab1 wab2 wab3 wab4 Xb0 Xb1 Xb2 Xb3 Xb4 gab0 gab1 gab2 gab3 gab4
  go_wp2_with (fail)
  refine (HX1.out.mark (1 + 3 * (ln : Int)) (by omega) (by have := HEM.out; omega)).mono ?_
  rintro e w18 ⟨rfl, m⟩
  clear kd0 kd1 kd2 kd3 kd4 ldl wab0 wab1 wab2 wab3 wab4 wal Xb0 Xb1 Xb2 Xb3 Xb4 Xl gab0 gab1 gab2 gab3 gab4 gal
  rw [HEM.out]
  have HLb' : Hid (Lc w w18 s c s' c' (.slice a ln cap)) := HLb.out.mid m (by omega)
  have Hwa' : Hid (Rw nwa Nwa w18 gwa t1 t2 t3 t4 (.slice awa Ln cwa) tl) := Hwa.out.mid m (by omega)
  have HX' : Hid (Rw nX NX w18 gX s c s' c' (.slice ax ln cx) (mkT 1 cs.length)) := HX.out.mid m (by omega)
  have Hga' : Hid (Rw nga Nga w18 gga t1 t2 t3 t4 (.slice aga Ln cga) tl) := Hga.out.mid m (by omega)
  have zsw18 : w17.heap.size ≤ w18.heap.size := m.size
  clear HLb Hwa HX Hga
  have HLb := HLb'
  clear HLb'
  have Hwa := Hwa'
  clear Hwa'
  have HX := HX'
  clear HX'
  have Hga := Hga'
  clear Hga'
  clear HX1 m
  have hkk : ((1 : Int) + 3 * (ln : Int) + 2 * (em : Int) < 0) = False := eq_false (by omega)
  have kd0 := HLb.out.kd.cell 0
  have kd1 := HLb.out.kd.cell 1
  have kd2 := HLb.out.kd.cell 2
  have kd3 := HLb.out.kd.cell 3
  have kd4 := HLb.out.kd.cell 4
  have ldl := HLb.out.kd.lt
  have wab0 := Hwa.out.box.cell 0
  have wab1 := Hwa.out.box.cell 1
  have wab2 := Hwa.out.box.cell 2
  have wab3 := Hwa.out.box.cell 3
  have wab4 := Hwa.out.box.cell 4
  have wal := Hwa.out.box.lt
  have Xb0 := HX.out.box.cell 0
  have Xb1 := HX.out.box.cell 1
  have Xb2 := HX.out.box.cell 2
  have Xb3 := HX.out.box.cell 3
  have Xb4 := HX.out.box.cell 4
  have Xl := HX.out.box.lt
  have gab0 := Hga.out.box.cell 0
  have gab1 := Hga.out.box.cell 1
  have gab2 := Hga.out.box.cell 2
  have gab3 := Hga.out.box.cell 3
  have gab4 := Hga.out.box.cell 4
  have gal := Hga.out.box.lt
  simp at kd0 kd1 kd2 kd3 kd4 wab0 wab1 wab2 wab3 wab4 Xb0 Xb1 Xb2 Xb3 Xb4 gab0 gab1 gab2 gab3 gab4
  go_wp2_with (fail)
  refine (eqDuo_t t1 t2 t3 t4 (.slice aga Ln cga) (.slice awa Ln cwa) tl w18 Hga.out.rd Hwa.out.rd).mono ?_
  rintro e w19 ⟨rfl, b⟩
  clear kd0 kd1 kd2 kd3 kd4 ldl wab0 wab1 wab2 wab3 wab4 wal Xb0 Xb1 Xb2 Xb3 Xb4 Xl gab0 gab1 gab2 gab3 gab4 gal
  have HLb' : Hid (Lc w w19 s c s' c' (.slice a ln cap)) := HLb.out.below b
  have Hwa' : Hid (Rw nwa Nwa w19 gwa t1 t2 t3 t4 (.slice awa Ln cwa) tl) := Hwa.out.below b
  have HX' : Hid (Rw nX NX w19 gX s c s' c' (.slice ax ln cx) (mkT 1 cs.length)) := HX.out.below b
  have Hga' : Hid (Rw nga Nga w19 gga t1 t2 t3 t4 (.slice aga Ln cga) tl) := Hga.out.below b
  have zsw19 : w18.heap.size ≤ w19.heap.size := b.size
  clear HLb Hwa HX Hga
  have HLb := HLb'
  clear HLb'
  have Hwa := Hwa'
  clear Hwa'
  have HX := HX'
  clear HX'
  have Hga := Hga'
  clear Hga'
  clear b
  have kd0 := HLb.out.kd.cell 0
  have kd1 := HLb.out.kd.cell 1
  have kd2 := HLb.out.kd.cell 2
  have kd3 := HLb.out.kd.cell 3
  have kd4 := HLb.out.kd.cell 4
  have ldl := HLb.out.kd.lt
  have wab0 := Hwa.out.box.cell 0
  have wab1 := Hwa.out.box.cell 1
  have wab2 := Hwa.out.box.cell 2
  have wab3 := Hwa.out.box.cell 3
  have wab4 := Hwa.out.box.cell 4
  have wal := Hwa.out.box.lt
  have Xb0 := HX.out.box.cell 0
  have Xb1 := HX.out.box.cell 1
  have Xb2 := HX.out.box.cell 2
  have Xb3 := HX.out.box.cell 3
  have Xb4 := HX.out.box.cell 4
  have Xl := HX.out.box.lt
  have gab0 := Hga.out.box.cell 0
  have gab1 := Hga.out.box.cell 1
  have gab2 := Hga.out.box.cell 2
  have gab3 := Hga.out.box.cell 3
  have gab4 := Hga.out.box.cell 4
  have gal := Hga.out.box.lt
  simp at kd0 kd1 kd2 kd3 kd4 wab0 wab1 wab2 wab3 wab4 Xb0 Xb1 Xb2 Xb3 Xb4 gab0 gab1 gab2 gab3 gab4
  go_wp2_with (fail)
  refine (Hga.out.mark 1 (by decide) (by have := HLT.out; omega)).mono ?_
  rintro e w20 ⟨rfl, o, m⟩
  clear kd0 kd1 kd2 kd3 kd4 ldl wab0 wab1 wab2 wab3 wab4 wal Xb0 Xb1 Xb2 Xb3 Xb4 Xl gab0 gab1 gab2 gab3 gab4 gal
  rw [HLT.out]
  have HLb' : Hid (Lc w w20 s c s' c' (.slice a ln cap)) := HLb.out.mid m (by omega)
  have Hwa' : Hid (Rw nwa Nwa w20 gwa t1 t2 t3 t4 (.slice awa Ln cwa) tl) := Hwa.out.mid m (by omega)
  have HX' : Hid (Rw nX NX w20 gX s c s' c' (.slice ax ln cx) (mkT 1 cs.length)) := HX.out.mid m (by omega)
  have zsw20 : w19.heap.size ≤ w20.heap.size := m.size
  clear HLb Hwa HX
  have HLb := HLb'
  clear HLb'
  have Hwa := Hwa'
  clear Hwa'
  have HX := HX'
  clear HX'
  clear Hga m
  have Hga : Hid (Rw nga Nga w20 gga t1 t2 t3 t4 (.slice aga Ln cga) (mkT 1 tl.length)) := o
  clear o
  have hqq : (((1 : Int) + 3 * (Ln : Int)) != 1 + 3 * (Ln : Int)) = false := by simp
  have kd0 := HLb.out.kd.cell 0
  have kd1 := HLb.out.kd.cell 1
  have kd2 := HLb.out.kd.cell 2
  have kd3 := HLb.out.kd.cell 3
  have kd4 := HLb.out.kd.cell 4
  have ldl := HLb.out.kd.lt
  have wab0 := Hwa.out.box.cell 0
  have wab1 := Hwa.out.box.cell 1
  have wab2 := Hwa.out.box.cell 2
  have wab3 := Hwa.out.box.cell 3
  have wab4 := Hwa.out.box.cell 4
  have wal := Hwa.out.box.lt
  have Xb0 := HX.out.box.cell 0
  have Xb1 := HX.out.box.cell 1
  have Xb2 := HX.out.box.cell 2
  have Xb3 := HX.out.box.cell 3
  have Xb4 := HX.out.box.cell 4
  have Xl := HX.out.box.lt
  have gab0 := Hga.out.box.cell 0
  have gab1 := Hga.out.box.cell 1
  have gab2 := Hga.out.box.cell 2
  have gab3 := Hga.out.box.cell 3
  have gab4 := Hga.out.box.cell 4
  have gal := Hga.out.box.lt
  simp at kd0 kd1 kd2 kd3 kd4 wab0 wab1 wab2 wab3 wab4 Xb0 Xb1 Xb2 Xb3 Xb4 gab0 gab1 gab2 gab3 gab4
  go_wp2_with (fail)
  refine (heldDuo_c t1 t2 t3 t4 (.slice aga Ln cga) 1 tl.length w20 Hga.out.rd (by decide) (by have := HLT.out; omega)).mono ?_
  rintro e w21 ⟨rfl, b⟩
  clear kd0 kd1 kd2 kd3 kd4 ldl wab0 wab1 wab2 wab3 wab4 wal Xb0 Xb1 Xb2 Xb3 Xb4 Xl gab0 gab1 gab2 gab3 gab4 gal
  rw [HLT.out]
  have HLb' : Hid (Lc w w21 s c s' c' (.slice a ln cap)) := HLb.out.below b
  have Hwa' : Hid (Rw nwa Nwa w21 gwa t1 t2 t3 t4 (.slice awa Ln cwa) tl) := Hwa.out.below b
  have HX' : Hid (Rw nX NX w21 gX s c s' c' (.slice ax ln cx) (mkT 1 cs.length)) := HX.out.below b
  have Hga' : Hid (Rw nga Nga w21 gga t1 t2 t3 t4 (.slice aga Ln cga) (mkT 1 tl.length)) := Hga.out.below b
  have zsw21 : w20.heap.size ≤ w21.heap.size := b.size
  clear HLb Hwa HX Hga
  have HLb := HLb'
  clear HLb'
  have Hwa := Hwa'
  clear Hwa'
  have HX := HX'
  clear HX'
  have Hga := Hga'
  clear Hga'
  clear b
  have kd0 := HLb.out.kd.cell 0
  have kd1 := HLb.out.kd.cell 1
  have kd2 := HLb.out.kd.cell 2
  have kd3 := HLb.out.kd.cell 3
  have kd4 := HLb.out.kd.cell 4
  have ldl := HLb.out.kd.lt
  have wab0 := Hwa.out.box.cell 0
  have wab1 := Hwa.out.box.cell 1
  have wab2 := Hwa.out.box.cell 2
  have wab3 := Hwa.out.box.cell 3
  have wab4 := Hwa.out.box.cell 4
  have wal := Hwa.out.box.lt
  have Xb0 := HX.out.box.cell 0
  have Xb1 := HX.out.box.cell 1
  have Xb2 := HX.out.box.cell 2
  have Xb3 := HX.out.box.cell 3
  have Xb4 := HX.out.box.cell 4
  have Xl := HX.out.box.lt
  have gab0 := Hga.out.box.cell 0
  have gab1 := Hga.out.box.cell 1
  have gab2 := Hga.out.box.cell 2
  have gab3 := Hga.out.box.cell 3
  have gab4 := Hga.out.box.cell 4
  have gal := Hga.out.box.lt
  simp at kd0 kd1 kd2 kd3 kd4 wab0 wab1 wab2 wab3 wab4 Xb0 Xb1 Xb2 Xb3 Xb4 gab0 gab1 gab2 gab3 gab4
  go_wp2_with (fail)
  refine (toDuo_c s c s' c' (.slice a ln cap) cs w21 (HH.out.below HLb.out.bel) HLN.out).mono ?_
  rintro e w22 ⟨vh, rfl, oh, b⟩
  clear kd0 kd1 kd2 kd3 kd4 ldl wab0 wab1 wab2 wab3 wab4 wal Xb0 Xb1 Xb2 Xb3 Xb4 Xl gab0 gab1 gab2 gab3 gab4 gal
  obtain ⟨ah, ch, hvh, -⟩ := own_form oh
  rw [HLL.out] at hvh
  subst hvh
  have HQ : Hid (Rt w22 (.slice ah ln ch) cs) := oh.rd
  have HLb' : Hid (Lc w w22 s c s' c' (.slice a ln cap)) := HLb.out.below b
  have Hwa' : Hid (Rw nwa Nwa w22 gwa t1 t2 t3 t4 (.slice awa Ln cwa) tl) := Hwa.out.below b
  have HX' : Hid (Rw nX NX w22 gX s c s' c' (.slice ax ln cx) (mkT 1 cs.length)) := HX.out.below b
  have Hga' : Hid (Rw nga Nga w22 gga t1 t2 t3 t4 (.slice aga Ln cga) (mkT 1 tl.length)) := Hga.out.below b
  have zsw22 : w21.heap.size ≤ w22.heap.size := b.size
  clear HLb Hwa HX Hga
  have HLb := HLb'
  clear HLb'
  have Hwa := Hwa'
  clear Hwa'
  have HX := HX'
  clear HX'
  have Hga := Hga'
  clear Hga'
  clear b oh
  have kd0 := HLb.out.kd.cell 0
  have kd1 := HLb.out.kd.cell 1
  have kd2 := HLb.out.kd.cell 2
  have kd3 := HLb.out.kd.cell 3
  have kd4 := HLb.out.kd.cell 4
  have ldl := HLb.out.kd.lt
  have wab0 := Hwa.out.box.cell 0
  have wab1 := Hwa.out.box.cell 1
  have wab2 := Hwa.out.box.cell 2
  have wab3 := Hwa.out.box.cell 3
  have wab4 := Hwa.out.box.cell 4
  have wal := Hwa.out.box.lt
  have Xb0 := HX.out.box.cell 0
  have Xb1 := HX.out.box.cell 1
  have Xb2 := HX.out.box.cell 2
  have Xb3 := HX.out.box.cell 3
  have Xb4 := HX.out.box.cell 4
  have Xl := HX.out.box.lt
  have gab0 := Hga.out.box.cell 0
  have gab1 := Hga.out.box.cell 1
  have gab2 := Hga.out.box.cell 2
  have gab3 := Hga.out.box.cell 3
  have gab4 := Hga.out.box.cell 4
  have gal := Hga.out.box.lt
  simp at kd0 kd1 kd2 kd3 kd4 wab0 wab1 wab2 wab3 wab4 Xb0 Xb1 Xb2 Xb3 Xb4 gab0 gab1 gab2 gab3 gab4
  go_wp2_with (fail)
  refine (toEventS_c (.slice ea em ecap) es w22 (HE.out.below HLb.out.bel) (by have := HEM.out; omega)).mono ?_
  rintro e w23 ⟨vi, rfl, oi, b⟩
  clear kd0 kd1 kd2 kd3 kd4 ldl wab0 wab1 wab2 wab3 wab4 wal Xb0 Xb1 Xb2 Xb3 Xb4 Xl gab0 gab1 gab2 gab3 gab4 gal
  obtain ⟨ai, ci, hvi⟩ := own_form2 oi
  rw [HEM.out] at hvi
  subst hvi
  have HQ2 : Hid (Rt w23 (.slice ah ln ch) cs) := HQ.out.below b
  have HR : Hid (Rp mf mg w23 (.slice ai em ci) es) := oi.rd
  clear HQ
  have HLb' : Hid (Lc w w23 s c s' c' (.slice a ln cap)) := HLb.out.below b
  have Hwa' : Hid (Rw nwa Nwa w23 gwa t1 t2 t3 t4 (.slice awa Ln cwa) tl) := Hwa.out.below b
  have HX' : Hid (Rw nX NX w23 gX s c s' c' (.slice ax ln cx) (mkT 1 cs.length)) := HX.out.below b
  have Hga' : Hid (Rw nga Nga w23 gga t1 t2 t3 t4 (.slice aga Ln cga) (mkT 1 tl.length)) := Hga.out.below b
  have zsw23 : w22.heap.size ≤ w23.heap.size := b.size
  clear HLb Hwa HX Hga
  have HLb := HLb'
  clear HLb'
  have Hwa := Hwa'
  clear Hwa'
  have HX := HX'
  clear HX'
  have Hga := Hga'
  clear Hga'
  clear b oi
  have kd0 := HLb.out.kd.cell 0
  have kd1 := HLb.out.kd.cell 1
  have kd2 := HLb.out.kd.cell 2
  have kd3 := HLb.out.kd.cell 3
  have kd4 := HLb.out.kd.cell 4
  have ldl := HLb.out.kd.lt
  have wab0 := Hwa.out.box.cell 0
  have wab1 := Hwa.out.box.cell 1
  have wab2 := Hwa.out.box.cell 2
  have wab3 := Hwa.out.box.cell 3
  have wab4 := Hwa.out.box.cell 4
  have wal := Hwa.out.box.lt
  have Xb0 := HX.out.box.cell 0
  have Xb1 := HX.out.box.cell 1
  have Xb2 := HX.out.box.cell 2
  have Xb3 := HX.out.box.cell 3
  have Xb4 := HX.out.box.cell 4
  have Xl := HX.out.box.lt
  have gab0 := Hga.out.box.cell 0
  have gab1 := Hga.out.box.cell 1
  have gab2 := Hga.out.box.cell 2
  have gab3 := Hga.out.box.cell 3
  have gab4 := Hga.out.box.cell 4
  have gal := Hga.out.box.lt
  simp at kd0 kd1 kd2 kd3 kd4 wab0 wab1 wab2 wab3 wab4 Xb0 Xb1 Xb2 Xb3 Xb4 gab0 gab1 gab2 gab3 gab4
  go_wp2_with (fail)
  refine (runI_c s c s' c' (.slice ah ln ch) (.slice ai em ci) cs es w23 HQ2.out HLN.out HR.out).mono ?_
  rintro e w24 hru
  clear kd0 kd1 kd2 kd3 kd4 ldl wab0 wab1 wab2 wab3 wab4 wal Xb0 Xb1 Xb2 Xb3 Xb4 Xl gab0 gab1 gab2 gab3 gab4 gal
  obtain ⟨v3, rfl, o3, g3, -⟩ := ru_t hru HTO.out
  clear hru
  have b : Below w23.heap.size w23 w24 := ⟨g3.os, g3.tape, g3.output, g3.size, fun j hj => g3.block j hj (by simp [Value.ownBlock])⟩
  obtain ⟨aha, cha, hv3, -⟩ := own_form o3
  simp only at hv3 o3
  rw [HLT.out] at hv3
  subst hv3
  clear g3
  obtain ⟨nha, hnha⟩ : ∃ n, w23.heap.size = n := ⟨_, rfl⟩
  have zha := b.size
  rw [hnha] at zha
  have hloha : w.heap.size < nha := by rw [← hnha]; exact HLb.out.kd.lt
  have HLb' : Hid (Lc w w24 s c s' c' (.slice a ln cap)) := HLb.out.below b
  have Hwa' : Hid (Rw nwa Nwa w24 gwa t1 t2 t3 t4 (.slice awa Ln cwa) tl) := Hwa.out.below b
  have HX' : Hid (Rw nX NX w24 gX s c s' c' (.slice ax ln cx) (mkT 1 cs.length)) := HX.out.below b
  have Hga' : Hid (Rw nga Nga w24 gga t1 t2 t3 t4 (.slice aga Ln cga) (mkT 1 tl.length)) := Hga.out.below b
  have zsw24 : w23.heap.size ≤ w24.heap.size := b.size
  clear HLb Hwa HX Hga
  have HLb := HLb'
  clear HLb'
  have Hwa := Hwa'
  clear Hwa'
  have HX := HX'
  clear HX'
  have Hga := Hga'
  clear Hga'
  have HXr : Hid (Rw nha (w24.alloc (Obj.cells (D5 t1 t2 t3 t4 (.slice aha Ln cha)) 31)).heap.size (w24.alloc (Obj.cells (D5 t1 t2 t3 t4 (.slice aha Ln cha)) 31)) w24.heap.size t1 t2 t3 t4 (.slice aha Ln cha) tl) := ⟨_, _, (Ot.toH (by rw [← hnha]; exact o3)).below ((Below.refl _ _).alloc (Nat.le_refl _) _), Nat.le_refl _, zha, by simp, zha, by simp, .inr (Nat.le_refl _), Blk.new _ _ _⟩
  clear o3 b
  obtain ⟨w25, hw25⟩ : ∃ W, (w24.alloc (Obj.cells (D5 t1 t2 t3 t4 (.slice aha Ln cha)) 31)) = W := ⟨_, rfl⟩
  have bA : Below w24.heap.size w24 w25 := hw25 ▸ (Below.refl _ _).alloc (Nat.le_refl _) _
  have zWha : w24.heap.size < w25.heap.size := by rw [← hw25]; simp
  have HLb' : Hid (Lc w w25 s c s' c' (.slice a ln cap)) := HLb.out.below bA
  have Hwa' : Hid (Rw nwa Nwa w25 gwa t1 t2 t3 t4 (.slice awa Ln cwa) tl) := Hwa.out.below bA
  have HX' : Hid (Rw nX NX w25 gX s c s' c' (.slice ax ln cx) (mkT 1 cs.length)) := HX.out.below bA
  have Hga' : Hid (Rw nga Nga w25 gga t1 t2 t3 t4 (.slice aga Ln cga) (mkT 1 tl.length)) := Hga.out.below bA
  have zsw25 : w24.heap.size ≤ w25.heap.size := bA.size
  clear HLb Hwa HX Hga
  have HLb := HLb'
  clear HLb'
  have Hwa := Hwa'
  clear Hwa'
  have HX := HX'
  clear HX'
  have Hga := Hga'
  clear Hga'
  rw [hw25] at HXr
  obtain ⟨Nha, hNha⟩ : ∃ n, w25.heap.size = n := ⟨_, rfl⟩
  obtain ⟨gha, hgha⟩ : ∃ n, w24.heap.size = n := ⟨_, rfl⟩
  rw [hNha, hgha] at HXr
  have Hha := HXr
  clear HXr bA
  rw [hNha, hgha] at zWha
  rw [hgha] at zha
  have hwha := Hha.out.rng
  clear HQ2 HR
  have kd0 := HLb.out.kd.cell 0
  have kd1 := HLb.out.kd.cell 1
  have kd2 := HLb.out.kd.cell 2
  have kd3 := HLb.out.kd.cell 3
  have kd4 := HLb.out.kd.cell 4
  have ldl := HLb.out.kd.lt
  have wab0 := Hwa.out.box.cell 0
  have wab1 := Hwa.out.box.cell 1
  have wab2 := Hwa.out.box.cell 2
  have wab3 := Hwa.out.box.cell 3
  have wab4 := Hwa.out.box.cell 4
  have wal := Hwa.out.box.lt
  have Xb0 := HX.out.box.cell 0
  have Xb1 := HX.out.box.cell 1
  have Xb2 := HX.out.box.cell 2
  have Xb3 := HX.out.box.cell 3
  have Xb4 := HX.out.box.cell 4
  have Xl := HX.out.box.lt
  have gab0 := Hga.out.box.cell 0
  have gab1 := Hga.out.box.cell 1
  have gab2 := Hga.out.box.cell 2
  have gab3 := Hga.out.box.cell 3
  have gab4 := Hga.out.box.cell 4
  have gal := Hga.out.box.lt
  have hab0 := Hha.out.box.cell 0
  have hab1 := Hha.out.box.cell 1
  have hab2 := Hha.out.box.cell 2
  have hab3 := Hha.out.box.cell 3
  have hab4 := Hha.out.box.cell 4
  have hal := Hha.out.box.lt
  simp at kd0 kd1 kd2 kd3 kd4 wab0 wab1 wab2 wab3 wab4 Xb0 Xb1 Xb2 Xb3 Xb4 gab0 gab1 gab2 gab3 gab4 hab0 hab1 hab2 hab3 hab4
  go_wp2_with (fail)
  refine (eqDuo_t t1 t2 t3 t4 (.slice aha Ln cha) (.slice awa Ln cwa) tl w25 Hha.out.rd Hwa.out.rd).mono ?_
  rintro e w26 ⟨rfl, b⟩
  clear kd0 kd1 kd2 kd3 kd4 ldl wab0 wab1 wab2 wab3 wab4 wal Xb0 Xb1 Xb2 Xb3 Xb4 Xl gab0 gab1 gab2 gab3 gab4 gal hab0 hab1 hab2 hab3 hab4 hal
  have HLb' : Hid (Lc w w26 s c s' c' (.slice a ln cap)) := HLb.out.below b
  have Hwa' : Hid (Rw nwa Nwa w26 gwa t1 t2 t3 t4 (.slice awa Ln cwa) tl) := Hwa.out.below b
  have HX' : Hid (Rw nX NX w26 gX s c s' c' (.slice ax ln cx) (mkT 1 cs.length)) := HX.out.below b
  have Hga' : Hid (Rw nga Nga w26 gga t1 t2 t3 t4 (.slice aga Ln cga) (mkT 1 tl.length)) := Hga.out.below b
  have Hha' : Hid (Rw nha Nha w26 gha t1 t2 t3 t4 (.slice aha Ln cha) tl) := Hha.out.below b
  have zsw26 : w25.heap.size ≤ w26.heap.size := b.size
  clear HLb Hwa HX Hga Hha
  have HLb := HLb'
  clear HLb'
  have Hwa := Hwa'
  clear Hwa'
  have HX := HX'
  clear HX'
  have Hga := Hga'
  clear Hga'
  have Hha := Hha'
  clear Hha'
  clear b
  have kd0 := HLb.out.kd.cell 0
  have kd1 := HLb.out.kd.cell 1
  have kd2 := HLb.out.kd.cell 2
  have kd3 := HLb.out.kd.cell 3
  have kd4 := HLb.out.kd.cell 4
  have ldl := HLb.out.kd.lt
  have wab0 := Hwa.out.box.cell 0
  have wab1 := Hwa.out.box.cell 1
  have wab2 := Hwa.out.box.cell 2
  have wab3 := Hwa.out.box.cell 3
  have wab4 := Hwa.out.box.cell 4
  have wal := Hwa.out.box.lt
  have Xb0 := HX.out.box.cell 0
  have Xb1 := HX.out.box.cell 1
  have Xb2 := HX.out.box.cell 2
  have Xb3 := HX.out.box.cell 3
  have Xb4 := HX.out.box.cell 4
  have Xl := HX.out.box.lt
  have gab0 := Hga.out.box.cell 0
  have gab1 := Hga.out.box.cell 1
  have gab2 := Hga.out.box.cell 2
  have gab3 := Hga.out.box.cell 3
  have gab4 := Hga.out.box.cell 4
  have gal := Hga.out.box.lt
  have hab0 := Hha.out.box.cell 0
  have hab1 := Hha.out.box.cell 1
  have hab2 := Hha.out.box.cell 2
  have hab3 := Hha.out.box.cell 3
  have hab4 := Hha.out.box.cell 4
  have hal := Hha.out.box.lt
  simp at kd0 kd1 kd2 kd3 kd4 wab0 wab1 wab2 wab3 wab4 Xb0 Xb1 Xb2 Xb3 Xb4 gab0 gab1 gab2 gab3 gab4 hab0 hab1 hab2 hab3 hab4
  go_wp2_with (fail)
  refine (heldDuo_c t1 t2 t3 t4 (.slice aga Ln cga) 1 tl.length w26 Hga.out.rd (by decide) (by have := HLT.out; omega)).mono ?_
  rintro e w27 ⟨rfl, b⟩
  clear kd0 kd1 kd2 kd3 kd4 ldl wab0 wab1 wab2 wab3 wab4 wal Xb0 Xb1 Xb2 Xb3 Xb4 Xl gab0 gab1 gab2 gab3 gab4 gal hab0 hab1 hab2 hab3 hab4 hal
  rw [HLT.out]
  have HLb' : Hid (Lc w w27 s c s' c' (.slice a ln cap)) := HLb.out.below b
  have Hwa' : Hid (Rw nwa Nwa w27 gwa t1 t2 t3 t4 (.slice awa Ln cwa) tl) := Hwa.out.below b
  have HX' : Hid (Rw nX NX w27 gX s c s' c' (.slice ax ln cx) (mkT 1 cs.length)) := HX.out.below b
  have Hga' : Hid (Rw nga Nga w27 gga t1 t2 t3 t4 (.slice aga Ln cga) (mkT 1 tl.length)) := Hga.out.below b
  have Hha' : Hid (Rw nha Nha w27 gha t1 t2 t3 t4 (.slice aha Ln cha) tl) := Hha.out.below b
  have zsw27 : w26.heap.size ≤ w27.heap.size := b.size
  clear HLb Hwa HX Hga Hha
  have HLb := HLb'
  clear HLb'
  have Hwa := Hwa'
  clear Hwa'
  have HX := HX'
  clear HX'
  have Hga := Hga'
  clear Hga'
  have Hha := Hha'
  clear Hha'
  clear b
  have HBB : Hid (Below w.heap.size w w27) := HLb.out.bel
  go_wp2
  go_ret
  exact ⟨rfl, HBB.out⟩
end Go.Proofs.Ytljejjfhlpjlfaa

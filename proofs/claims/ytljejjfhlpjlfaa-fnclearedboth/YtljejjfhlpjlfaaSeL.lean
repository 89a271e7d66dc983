/- FnExactSettle's body answers true at every duo and number of rounds; no condition. -/
import Derived.Test.YtljejjfhlpjlfaaSeM
import Derived.Test.YtljejjfhlpjlfaaSeI
import Derived.Test.YtljejjfhlpjlfaaEvT
namespace Go.Proofs.Ytljejjfhlpjlfaa
open Go.RowKit Go.ChangeShapes Go.WideShapes Go.ChangeAt
set_option linter.unusedVariables false
set_option linter.unusedSimpArgs false
set_option maxRecDepth 8000

theorem eqDuo_t (s c s' c' : Int) (v v' : Value) (xs : Tri) (w : World) (h : Rt w v xs) (h' : Rt w v' xs) : Calls Try.prog 24 #[.agg (D5 s c s' c' v), .agg (D5 s c s' c' v')] w fun e w' => e = .returned (.bool true) ∧ Below w.heap.size w w' := by
  refine (eqDuo_c s c s' c' s c s' c' v v' xs xs w h h').mono ?_
  rintro e w' ⟨rfl, b⟩
  exact ⟨by simp, b⟩
/-- the law's own box -/
structure Lc (w W : World) (s c s' c' : Int) (lv : Value) : Prop where
  bel : Below w.heap.size w W
  kd : Blk W w.heap.size (D5 s c s' c' lv) 44
theorem Lc.below {w W W' : World} {s c s' c' : Int} {lv : Value} (h : Lc w W s c s' c' lv) (hb : Below W.heap.size W W') : Lc w W' s c s' c' lv :=
  ⟨belowCall h.bel hb h.bel.size, h.kd.below hb h.kd.lt⟩
theorem Lc.mid {w W W' : World} {lo hi : Nat} {s c s' c' : Int} {lv : Value} (h : Lc w W s c s' c' lv) (hm : Mid lo hi W W') (hl : w.heap.size < lo) : Lc w W' s c s' c' lv :=
  ⟨⟨hm.os.trans h.bel.os, hm.tape.trans h.bel.tape, hm.output.trans h.bel.output, Nat.le_trans h.bel.size hm.size, fun j hj => (hm.block j (Nat.lt_of_lt_of_le hj h.bel.size) (.inl (by omega))).trans (h.bel.block j hj)⟩, h.kd.mid hm (.inl hl)⟩
theorem se_same {d a b : Dt} {n : Int} (ha : ((DOt d ∧ 0 ≤ n ∧ n ≤ 20) → ∃ d1, SetN n.toNat d d1 ∧ Car d1 a) ∧ (¬ (DOt d ∧ 0 ≤ n ∧ n ≤ 20) → a = (0, 0, 0, 0, []))) (hb : ((DOt d ∧ 0 ≤ n ∧ n ≤ 20) → ∃ d1, SetN n.toNat d d1 ∧ Car d1 b) ∧ (¬ (DOt d ∧ 0 ≤ n ∧ n ≤ 20) → b = (0, 0, 0, 0, []))) : a = b := by
  by_cases hc : DOt d ∧ 0 ≤ n ∧ n ≤ 20
  · obtain ⟨x, h1, h2⟩ := ha.1 hc
    obtain ⟨y, h3, h4⟩ := hb.1 hc
    have e := SetN.same _ h1 h3
    subst e
    exact Car.same h2 h4
  · rw [ha.2 hc, hb.2 hc]
set_option maxHeartbeats 12800000 in
theorem settleLaw (s c s' c' : Int) (v : Value) (cs : Tri) (n : Int) (w : World) (h : Rt w v cs) :
   Calls Try.prog 8 #[.agg (D5 s c s' c' v), .int .i64 n] w fun e w' => e = .returned (.bool true) ∧ Below w.heap.size w w' := by
  have bel0 : Below w.heap.size w (w.alloc (Obj.cells (D5 s c s' c' v) 44)) := (Below.refl _ _).alloc (Nat.le_refl _) _
  have HLb0 : Hid (Lc w (w.alloc (Obj.cells (D5 s c s' c' v) 44)) s c s' c' v) := ⟨bel0, Blk.new _ _ _⟩
  have HZ : Hid (Calls Try.prog 21 #[.agg (D5 s c s' c' v), .int .i64 1048576] (w.alloc (Obj.cells (D5 s c s' c' v) 44)) fun e w' => e = .returned (.int .i64 (lft 1048576 cs.length)) ∧ Below (w.alloc (Obj.cells (D5 s c s' c' v) 44)).heap.size (w.alloc (Obj.cells (D5 s c s' c' v) 44)) w') := szDuo_c s c s' c' v cs 1048576 _ (h.below bel0) (by decide) (by decide)
  have HH : Hid (Rt w v cs) := h
  obtain ⟨a, cap, rfl, -⟩ := h
  obtain ⟨ln, hln⟩ : ∃ ln, cs.length = ln := ⟨_, rfl⟩
  have HLL : Hid (cs.length = ln) := hln
  rw [hln] at HH HZ HLb0 ⊢
  obtain ⟨z, hz⟩ : ∃ z, lft 1048576 ln = z := ⟨_, rfl⟩
  rw [hz] at HZ
  have HZ2 : Hid (0 ≤ z → cs.length ≤ 1048576) := fun h0 => (by rw [hln]; rw [← hz] at h0; unfold lft at h0; split at h0 <;> omega)
  clear bel0 hz hln
  go_enter Try.func8, Try.ntmps8
  go_wp2_with (fail)
  refine HZ.out.mono ?_
  rintro e w1 ⟨rfl, b1⟩
  have HLb : Hid (Lc w w1 s c s' c' (.slice a ln cap)) := HLb0.out.below b1
  clear b1 HZ HLb0
  by_cases hneg : z < 0
  · have HBB : Hid (Below w.heap.size w w1) := HLb.out.bel
    go_wp2
    go_ret
    exact ⟨rfl, HBB.out⟩
  have hl := HZ2.out (by omega)
  have HLN : Hid (cs.length ≤ 1048576) := hl
  have hlnb : ln ≤ 1048576 := by have := HLL.out; omega
  clear hl HZ2
  have kd0 := HLb.out.kd.cell 0
  have kd1 := HLb.out.kd.cell 1
  have kd2 := HLb.out.kd.cell 2
  have kd3 := HLb.out.kd.cell 3
  have kd4 := HLb.out.kd.cell 4
  have ldl := HLb.out.kd.lt
  simp at kd0 kd1 kd2 kd3 kd4
  go_wp2_with (fail)
  refine (toDuo_c s c s' c' (.slice a ln cap) cs w1 (HH.out.below HLb.out.bel) HLN.out).mono ?_
  rintro e w2 ⟨vq, rfl, oq, b⟩
  clear kd0 kd1 kd2 kd3 kd4 ldl
  obtain ⟨aq, cq, hvq, -⟩ := own_form oq
  rw [HLL.out] at hvq
  subst hvq
  have HQ : Hid (Rt w2 (.slice aq ln cq) cs) := oq.rd
  have HLb' : Hid (Lc w w2 s c s' c' (.slice a ln cap)) := HLb.out.below b
  have zsw2 : w1.heap.size ≤ w2.heap.size := b.size
  clear HLb 
  have HLb := HLb'
  clear HLb'
  clear b oq
  have kd0 := HLb.out.kd.cell 0
  have kd1 := HLb.out.kd.cell 1
  have kd2 := HLb.out.kd.cell 2
  have kd3 := HLb.out.kd.cell 3
  have kd4 := HLb.out.kd.cell 4
  have ldl := HLb.out.kd.lt
  simp at kd0 kd1 kd2 kd3 kd4
  go_wp2_with (fail)
  refine (setM_c s c s' c' (.slice aq ln cq) cs n w2 HQ.out HLN.out).mono ?_
  rintro e w3 ⟨⟨y1, y2, y3, y4, yl⟩, hy, hyn, hyl, v3, rfl, o3, g3, -⟩
  clear kd0 kd1 kd2 kd3 kd4 ldl
  have HY : Hid (((DOt (s, c, s', c', cs) ∧ 0 ≤ n ∧ n ≤ 20) → ∃ d1, SetN n.toNat (s, c, s', c', cs) d1 ∧ Car d1 (y1, y2, y3, y4, yl)) ∧ (¬ (DOt (s, c, s', c', cs) ∧ 0 ≤ n ∧ n ≤ 20) → (y1, y2, y3, y4, yl) = (0, 0, 0, 0, []))) := ⟨hy, hyn⟩
  have b : Below w2.heap.size w2 w3 := ⟨g3.os, g3.tape, g3.output, g3.size, fun j hj => g3.block j hj (by simp [Value.ownBlock])⟩
  clear hy hyn
  obtain ⟨Ln, hLn⟩ : ∃ n, yl.length = n := ⟨_, rfl⟩
  have HLT : Hid (yl.length = Ln) := hLn
  have hLb : Ln ≤ 1048576 := by have : yl = [] := hyl; rw [← hLn, this]; simp
  obtain ⟨awa, cwa, hv3, -⟩ := own_form o3
  simp only at hv3 o3
  rw [hLn] at hv3
  subst hv3
  clear hyl g3 hLn HQ
  obtain ⟨nwa, hnwa⟩ : ∃ n, w2.heap.size = n := ⟨_, rfl⟩
  have zwa := b.size
  rw [hnwa] at zwa
  have hlowa : w.heap.size < nwa := by rw [← hnwa]; exact HLb.out.kd.lt
  have HLb' : Hid (Lc w w3 s c s' c' (.slice a ln cap)) := HLb.out.below b
  have zsw3 : w2.heap.size ≤ w3.heap.size := b.size
  clear HLb 
  have HLb := HLb'
  clear HLb'
  have HXr : Hid (Rw nwa (w3.alloc (Obj.cells (D5 y1 y2 y3 y4 (.slice awa Ln cwa)) 31)).heap.size (w3.alloc (Obj.cells (D5 y1 y2 y3 y4 (.slice awa Ln cwa)) 31)) w3.heap.size y1 y2 y3 y4 (.slice awa Ln cwa) yl) := ⟨_, _, (Ot.toH (by rw [← hnwa]; exact o3)).below ((Below.refl _ _).alloc (Nat.le_refl _) _), Nat.le_refl _, zwa, by simp, zwa, by simp, .inr (Nat.le_refl _), Blk.new _ _ _⟩
  clear o3 b
  obtain ⟨w4, hw4⟩ : ∃ W, (w3.alloc (Obj.cells (D5 y1 y2 y3 y4 (.slice awa Ln cwa)) 31)) = W := ⟨_, rfl⟩
  have bA : Below w3.heap.size w3 w4 := hw4 ▸ (Below.refl _ _).alloc (Nat.le_refl _) _
  have zWwa : w3.heap.size < w4.heap.size := by rw [← hw4]; simp
  have HLb' : Hid (Lc w w4 s c s' c' (.slice a ln cap)) := HLb.out.below bA
  have zsw4 : w3.heap.size ≤ w4.heap.size := bA.size
  clear HLb 
  have HLb := HLb'
  clear HLb'
  rw [hw4] at HXr
  obtain ⟨Nwa, hNwa⟩ : ∃ n, w4.heap.size = n := ⟨_, rfl⟩
  obtain ⟨gwa, hgwa⟩ : ∃ n, w3.heap.size = n := ⟨_, rfl⟩
  rw [hNwa, hgwa] at HXr
  have Hwa := HXr
  clear HXr bA
  rw [hNwa, hgwa] at zWwa
  rw [hgwa] at zwa
  have hwwa := Hwa.out.rng
  have kd0 := HLb.out.kd.cell 0
  have kd1 := HLb.out.kd.cell 1
  have kd2 := HLb.out.kd.cell 2
  have kd3 := HLb.out.kd.cell 3
  have kd4 := HLb.out.kd.cell 4
  have ldl := HLb.out.kd.lt
  have wab0 := Hwa.out.box.cell 0
  have wab1 := Hwa.out.box.cell 1
  have wab2 := Hwa.out.box.cell 2
  have wab3 := Hwa.out.box.cell 3
  have wab4 := Hwa.out.box.cell 4
  have wal := Hwa.out.box.lt
  simp at kd0 kd1 kd2 kd3 kd4 wab0 wab1 wab2 wab3 wab4
  go_wp2_with (fail)
  refine (toDuo_c s c s' c' (.slice a ln cap) cs w4 (HH.out.below HLb.out.bel) HLN.out).mono ?_
  rintro e w5 ⟨vx, rfl, ox, b⟩
  clear kd0 kd1 kd2 kd3 kd4 ldl wab0 wab1 wab2 wab3 wab4 wal
  obtain ⟨ax, cx, hvx, -⟩ := own_form ox
  rw [HLL.out] at hvx
  subst hvx
  obtain ⟨nX, hnX⟩ : ∃ n, w4.heap.size = n := ⟨_, rfl⟩
  have zX := b.size
  rw [hnX] at zX
  have hloX : w.heap.size < nX := by rw [← hnX]; exact HLb.out.kd.lt
  have HLb' : Hid (Lc w w5 s c s' c' (.slice a ln cap)) := HLb.out.below b
  have Hwa' : Hid (Rw nwa Nwa w5 gwa y1 y2 y3 y4 (.slice awa Ln cwa) yl) := Hwa.out.below b
  have zsw5 : w4.heap.size ≤ w5.heap.size := b.size
  clear HLb Hwa
  have HLb := HLb'
  clear HLb'
  have Hwa := Hwa'
  clear Hwa'
  have HXr : Hid (Rw nX (w5.alloc (Obj.cells (D5 s c s' c' (.slice ax ln cx)) 31)).heap.size (w5.alloc (Obj.cells (D5 s c s' c' (.slice ax ln cx)) 31)) w5.heap.size s c s' c' (.slice ax ln cx) cs) := ⟨_, _, (Ot.toH (by rw [← hnX]; exact ox)).below ((Below.refl _ _).alloc (Nat.le_refl _) _), Nat.le_refl _, zX, by simp, zX, by simp, .inr (Nat.le_refl _), Blk.new _ _ _⟩
  clear ox b
  obtain ⟨w6, hw6⟩ : ∃ W, (w5.alloc (Obj.cells (D5 s c s' c' (.slice ax ln cx)) 31)) = W := ⟨_, rfl⟩
  have bA : Below w5.heap.size w5 w6 := hw6 ▸ (Below.refl _ _).alloc (Nat.le_refl _) _
  have zWX : w5.heap.size < w6.heap.size := by rw [← hw6]; simp
  have HLb' : Hid (Lc w w6 s c s' c' (.slice a ln cap)) := HLb.out.below bA
  have Hwa' : Hid (Rw nwa Nwa w6 gwa y1 y2 y3 y4 (.slice awa Ln cwa) yl) := Hwa.out.below bA
  have zsw6 : w5.heap.size ≤ w6.heap.size := bA.size
  clear HLb Hwa
  have HLb := HLb'
  clear HLb'
  have Hwa := Hwa'
  clear Hwa'
  rw [hw6] at HXr
  obtain ⟨NX, hNX⟩ : ∃ n, w6.heap.size = n := ⟨_, rfl⟩
  obtain ⟨gX, hgX⟩ : ∃ n, w5.heap.size = n := ⟨_, rfl⟩
  rw [hNX, hgX] at HXr
  have HX := HXr
  clear HXr bA
  rw [hNX, hgX] at zWX
  rw [hgX] at zX
  have hwX := HX.out.rng
  have kd0 := HLb.out.kd.cell 0
  have kd1 := HLb.out.kd.cell 1
  have kd2 := HLb.out.kd.cell 2
  have kd3 := HLb.out.kd.cell 3
  have kd4 := HLb.out.kd.cell 4
  have ldl := HLb.out.kd.lt
  have wab0 := Hwa.out.box.cell 0
  have wab1 := Hwa.out.box.cell 1
  have wab2 := Hwa.out.box.cell 2
  have wab3 := Hwa.out.box.cell 3
  have wab4 := Hwa.out.box.cell 4
  have wal := Hwa.out.box.lt
  have Xb0 := HX.out.box.cell 0
  have Xb1 := HX.out.box.cell 1
  have Xb2 := HX.out.box.cell 2
  have Xb3 := HX.out.box.cell 3
  have Xb4 := HX.out.box.cell 4
  have Xl := HX.out.box.lt
  simp at kd0 kd1 kd2 kd3 kd4 wab0 wab1 wab2 wab3 wab4 Xb0 Xb1 Xb2 Xb3 Xb4
  go_wp2_with (fail)
  refine (setI_c s c s' c' (.slice ax ln cx) cs n w6 HX.out.rd HLN.out).mono ?_
  rintro e w7 ⟨⟨u1, u2, u3, u4, ul⟩, hy, hyn, hyl, v3, rfl, o3, g3, -⟩
  clear kd0 kd1 kd2 kd3 kd4 ldl wab0 wab1 wab2 wab3 wab4 wal Xb0 Xb1 Xb2 Xb3 Xb4 Xl
  have hsame := se_same ⟨hy, hyn⟩ HY.out
  obtain ⟨rfl, rfl, rfl, rfl, rfl⟩ : u1 = y1 ∧ u2 = y2 ∧ u3 = y3 ∧ u4 = y4 ∧ ul = yl := by simpa using hsame
  clear hsame hy hyn hyl
  have b : Below w6.heap.size w6 w7 := ⟨g3.os, g3.tape, g3.output, g3.size, fun j hj => g3.block j hj (by simp [Value.ownBlock])⟩
  obtain ⟨aga, cga, hv3, -⟩ := own_form o3
  simp only at hv3 o3
  rw [HLT.out] at hv3
  subst hv3
  clear g3
  obtain ⟨nga, hnga⟩ : ∃ n, w6.heap.size = n := ⟨_, rfl⟩
  have zga := b.size
  rw [hnga] at zga
  have hloga : w.heap.size < nga := by rw [← hnga]; exact HLb.out.kd.lt
  have HLb' : Hid (Lc w w7 s c s' c' (.slice a ln cap)) := HLb.out.below b
  have Hwa' : Hid (Rw nwa Nwa w7 gwa u1 u2 u3 u4 (.slice awa Ln cwa) ul) := Hwa.out.below b
  have HX' : Hid (Rw nX NX w7 gX s c s' c' (.slice ax ln cx) cs) := HX.out.below b
  have zsw7 : w6.heap.size ≤ w7.heap.size := b.size
  clear HLb Hwa HX
  have HLb := HLb'
  clear HLb'
  have Hwa := Hwa'
  clear Hwa'
  have HX := HX'
  clear HX'
  have HXr : Hid (Rw nga (w7.alloc (Obj.cells (D5 u1 u2 u3 u4 (.slice aga Ln cga)) 31)).heap.size (w7.alloc (Obj.cells (D5 u1 u2 u3 u4 (.slice aga Ln cga)) 31)) w7.heap.size u1 u2 u3 u4 (.slice aga Ln cga) ul) := ⟨_, _, (Ot.toH (by rw [← hnga]; exact o3)).below ((Below.refl _ _).alloc (Nat.le_refl _) _), Nat.le_refl _, zga, by simp, zga, by simp, .inr (Nat.le_refl _), Blk.new _ _ _⟩
  clear o3 b
  obtain ⟨w8, hw8⟩ : ∃ W, (w7.alloc (Obj.cells (D5 u1 u2 u3 u4 (.slice aga Ln cga)) 31)) = W := ⟨_, rfl⟩
  have bA : Below w7.heap.size w7 w8 := hw8 ▸ (Below.refl _ _).alloc (Nat.le_refl _) _
  have zWga : w7.heap.size < w8.heap.size := by rw [← hw8]; simp
  have HLb' : Hid (Lc w w8 s c s' c' (.slice a ln cap)) := HLb.out.below bA
  have Hwa' : Hid (Rw nwa Nwa w8 gwa u1 u2 u3 u4 (.slice awa Ln cwa) ul) := Hwa.out.below bA
  have HX' : Hid (Rw nX NX w8 gX s c s' c' (.slice ax ln cx) cs) := HX.out.below bA
  have zsw8 : w7.heap.size ≤ w8.heap.size := bA.size
  clear HLb Hwa HX
  have HLb := HLb'
  clear HLb'
  have Hwa := Hwa'
  clear Hwa'
  have HX := HX'
  clear HX'
  rw [hw8] at HXr
  obtain ⟨Nga, hNga⟩ : ∃ n, w8.heap.size = n := ⟨_, rfl⟩
  obtain ⟨gga, hgga⟩ : ∃ n, w7.heap.size = n := ⟨_, rfl⟩
  rw [hNga, hgga] at HXr
  have Hga := HXr
  clear HXr bA
  rw [hNga, hgga] at zWga
  rw [hgga] at zga
  have hwga := Hga.out.rng
  have kd0 := HLb.out.kd.cell 0
  have kd1 := HLb.out.kd.cell 1
  have kd2 := HLb.out.kd.cell 2
  have kd3 := HLb.out.kd.cell 3
  have kd4 := HLb.out.kd.cell 4
  have ldl := HLb.out.kd.lt
  have wab0 := Hwa.out.box.cell 0
  have wab1 := Hwa.out.box.cell 1
  have wab2 := Hwa.out.box.cell 2
  have wab3 := Hwa.out.box.cell 3
  have wab4 := Hwa.out.box.cell 4
  have wal := Hwa.out.box.lt
  have Xb0 := HX.out.box.cell 0
  have Xb1 := HX.out.box.cell 1
  have Xb2 := HX.out.box.cell 2
  have Xb3 := HX.out.box.cell 3
  have Xb4 := HX.out.box.cell 4
  have Xl := HX.out.box.lt
  have gab0 := Hga.out.box.cell 0
  have gab1 := Hga.out.box.cell 1
  have gab2 := Hga.out.box.cell 2
  have gab3 := Hga.out.box.cell 3
  have gab4 := Hga.out.box.cell 4
  have gal := Hga.out.box.lt
  simp at kd0 kd1 kd2 kd3 kd4 wab0 wab1 wab2 wab3 wab4 Xb0 Xb1 Xb2 Xb3 Xb4 gab0 gab1 gab2 gab3 gab4
  go_wp2_with (fail)
  refine (eqDuo_t u1 u2 u3 u4 (.slice aga Ln cga) (.slice awa Ln cwa) ul w8 Hga.out.rd Hwa.out.rd).mono ?_
  rintro e w9 ⟨rfl, b⟩
  clear kd0 kd1 kd2 kd3 kd4 ldl wab0 wab1 wab2 wab3 wab4 wal Xb0 Xb1 Xb2 Xb3 Xb4 Xl gab0 gab1 gab2 gab3 gab4 gal
  have HLb' : Hid (Lc w w9 s c s' c' (.slice a ln cap)) := HLb.out.below b
  have Hwa' : Hid (Rw nwa Nwa w9 gwa u1 u2 u3 u4 (.slice awa Ln cwa) ul) := Hwa.out.below b
  have HX' : Hid (Rw nX NX w9 gX s c s' c' (.slice ax ln cx) cs) := HX.out.below b
  have Hga' : Hid (Rw nga Nga w9 gga u1 u2 u3 u4 (.slice aga Ln cga) ul) := Hga.out.below b
  have zsw9 : w8.heap.size ≤ w9.heap.size := b.size
  clear HLb Hwa HX Hga
  have HLb := HLb'
  clear HLb'
  have Hwa := Hwa'
  clear Hwa'
  have HX := HX'
  clear HX'
  have Hga := Hga'
  clear Hga'
  clear b
  have kd0 := HLb.out.kd.cell 0
  have kd1 := HLb.out.kd.cell 1
  have kd2 := HLb.out.kd.cell 2
  have kd3 := HLb.out.kd.cell 3
  have kd4 := HLb.out.kd.cell 4
  have ldl := HLb.out.kd.lt
  have wab0 := Hwa.out.box.cell 0
  have wab1 := Hwa.out.box.cell 1
  have wab2 := Hwa.out.box.cell 2
  have wab3 := Hwa.out.box.cell 3
  have wab4 := Hwa.out.box.cell 4
  have wal := Hwa.out.box.lt
  have Xb0 := HX.out.box.cell 0
  have Xb1 := HX.out.box.cell 1
  have Xb2 := HX.out.box.cell 2
  have Xb3 := HX.out.box.cell 3
  have Xb4 := HX.out.box.cell 4
  have Xl := HX.out.box.lt
  have gab0 := Hga.out.box.cell 0
  have gab1 := Hga.out.box.cell 1
  have gab2 := Hga.out.box.cell 2
  have gab3 := Hga.out.box.cell 3
  have gab4 := Hga.out.box.cell 4
  have gal := Hga.out.box.lt
  simp at kd0 kd1 kd2 kd3 kd4 wab0 wab1 wab2 wab3 wab4 Xb0 Xb1 Xb2 Xb3 Xb4 gab0 gab1 gab2 gab3 gab4
  obtain ⟨S, hS⟩ : ∃ S : World → Prop, ∀ W, S W ↔ (Lc w W s c s' c' (.slice a ln cap) ∧ Rw nX NX W gX s c s' c' (.slice ax ln cx) cs) := ⟨_, fun _ => Iff.rfl⟩
  have HSI : Hid (∀ W, S W ↔ (Lc w W s c s' c' (.slice a ln cap) ∧ Rw nX NX W gX s c s' c' (.slice ax ln cx) cs)) := hS
  have HSD : Hid (S w9.drew) := (hS _).2 ⟨HLb.out.below (Below.refl _ _).drew, HX.out.below (Below.refl _ _).drew⟩
  have ne1 : Nonempty (At S) := ⟨⟨_, HSD.out⟩⟩
  have yy0 : ∀ W : At S, W.wd.cell? ⟨w.heap.size, 0, none⟩ = some (.int .i64 s) := fun W => by rw [((hS _).1 W.ok).1.kd.cell 0]; rfl
  have yy1 : ∀ W : At S, W.wd.cell? ⟨w.heap.size, 1, none⟩ = some (.int .i64 c) := fun W => by rw [((hS _).1 W.ok).1.kd.cell 1]; rfl
  have yy2 : ∀ W : At S, W.wd.cell? ⟨w.heap.size, 2, none⟩ = some (.int .i64 s') := fun W => by rw [((hS _).1 W.ok).1.kd.cell 2]; rfl
  have yy3 : ∀ W : At S, W.wd.cell? ⟨w.heap.size, 3, none⟩ = some (.int .i64 c') := fun W => by rw [((hS _).1 W.ok).1.kd.cell 3]; rfl
  have yy4 : ∀ W : At S, W.wd.cell? ⟨w.heap.size, 4, none⟩ = some (.slice a ln cap) := fun W => by rw [((hS _).1 W.ok).1.kd.cell 4]; rfl
  have xx0 : ∀ W : At S, W.wd.cell? ⟨gX, 0, none⟩ = some (.int .i64 s) := fun W => by rw [((hS _).1 W.ok).2.box.cell 0]; rfl
  have xx1 : ∀ W : At S, W.wd.cell? ⟨gX, 1, none⟩ = some (.int .i64 c) := fun W => by rw [((hS _).1 W.ok).2.box.cell 1]; rfl
  have xx2 : ∀ W : At S, W.wd.cell? ⟨gX, 2, none⟩ = some (.int .i64 s') := fun W => by rw [((hS _).1 W.ok).2.box.cell 2]; rfl
  have xx3 : ∀ W : At S, W.wd.cell? ⟨gX, 3, none⟩ = some (.int .i64 c') := fun W => by rw [((hS _).1 W.ok).2.box.cell 3]; rfl
  have xx4 : ∀ W : At S, W.wd.cell? ⟨gX, 4, none⟩ = some (.slice ax ln cx) := fun W => by rw [((hS _).1 W.ok).2.box.cell 4]; rfl
  clear hS
  go_wp2
  refine region_mixA [true, true, false, false, false] 5 3 S (by kernel_rfl) rfl (by kernel_rfl) (fun _ _ _ _ _ h => h) HSD.out ?_
  simp only [selT, selF]
  repeat (go_big_quiet_step (fail))
  refine wpQuiet_nil ?_
  clear yy0 yy1 yy2 yy3 yy4 xx0 xx1 xx2 xx3 xx4 ne1 HSD
  clear kd0 kd1 kd2 kd3 kd4 ldl wab0 wab1 wab2 wab3 wab4 wal Xb0 Xb1 Xb2 Xb3 Xb4 Xl gab0 gab1 gab2 gab3 gab4 gal
  have bd : Below w9.heap.size w9 w9.drew := (Below.refl _ _).drew
  obtain ⟨w10, hw10⟩ : ∃ W, w9.drew = W := ⟨_, rfl⟩
  rw [hw10] at bd ⊢
  clear hw10
  have HLb' : Hid (Lc w w10 s c s' c' (.slice a ln cap)) := HLb.out.below bd
  have Hwa' : Hid (Rw nwa Nwa w10 gwa u1 u2 u3 u4 (.slice awa Ln cwa) ul) := Hwa.out.below bd
  have HX' : Hid (Rw nX NX w10 gX s c s' c' (.slice ax ln cx) cs) := HX.out.below bd
  have Hga' : Hid (Rw nga Nga w10 gga u1 u2 u3 u4 (.slice aga Ln cga) ul) := Hga.out.below bd
  have zsw10 : w9.heap.size ≤ w10.heap.size := bd.size
  clear HLb Hwa HX Hga
  have HLb := HLb'
  clear HLb'
  have Hwa := Hwa'
  clear Hwa'
  have HX := HX'
  clear HX'
  have Hga := Hga'
  clear Hga'
  clear bd
  refine tail_step ?_
  go_wp2_with (fail)
  refine (toDuo_c s c s' c' (.slice a ln cap) cs w10 (HH.out.below HLb.out.bel) HLN.out).mono ?_
  rintro e w11 ⟨vy, rfl, oy, b⟩
  have HYY : Hid (Rt w11 vy cs) := oy.rd
  obtain ⟨ay, cy, hvy, -⟩ := own_form oy
  subst hvy
  have HLb' : Hid (Lc w w11 s c s' c' (.slice a ln cap)) := HLb.out.below b
  have Hwa' : Hid (Rw nwa Nwa w11 gwa u1 u2 u3 u4 (.slice awa Ln cwa) ul) := Hwa.out.below b
  have HX' : Hid (Rw nX NX w11 gX s c s' c' (.slice ax ln cx) cs) := HX.out.below b
  have Hga' : Hid (Rw nga Nga w11 gga u1 u2 u3 u4 (.slice aga Ln cga) ul) := Hga.out.below b
  have zsw11 : w10.heap.size ≤ w11.heap.size := b.size
  clear HLb Hwa HX Hga
  have HLb := HLb'
  clear HLb'
  have Hwa := Hwa'
  clear Hwa'
  have HX := HX'
  clear HX'
  have Hga := Hga'
  clear Hga'
  clear oy b
  go_wp2
  refine ⟨(HSI.out _).2 ⟨HLb.out, HX.out⟩, tail_step ?_⟩
  go_wp2_with (fail)
  refine (eqDuo_t s c s' c' (.slice ax ln cx) (.slice ay cs.length cy) cs w11 HX.out.rd HYY.out).mono ?_
  rintro e w12 ⟨rfl, b⟩
  have HLb' : Hid (Lc w w12 s c s' c' (.slice a ln cap)) := HLb.out.below b
  have Hwa' : Hid (Rw nwa Nwa w12 gwa u1 u2 u3 u4 (.slice awa Ln cwa) ul) := Hwa.out.below b
  have HX' : Hid (Rw nX NX w12 gX s c s' c' (.slice ax ln cx) cs) := HX.out.below b
  have Hga' : Hid (Rw nga Nga w12 gga u1 u2 u3 u4 (.slice aga Ln cga) ul) := Hga.out.below b
  have zsw12 : w11.heap.size ≤ w12.heap.size := b.size
  clear HLb Hwa HX Hga
  have HLb := HLb'
  clear HLb'
  have Hwa := Hwa'
  clear Hwa'
  have HX := HX'
  clear HX'
  have Hga := Hga'
  clear Hga'
  clear b HYY
  go_wp2
  refine ⟨(HSI.out _).2 ⟨HLb.out, HX.out⟩, tail_step ?_⟩
  go_wp2
  refine ⟨(HSI.out _).2 ⟨HLb.out, HX.out⟩, tail_end ?_⟩
  clear HSI
  have kd0 := HLb.out.kd.cell 0
  have kd1 := HLb.out.kd.cell 1
  have kd2 := HLb.out.kd.cell 2
  have kd3 := HLb.out.kd.cell 3
  have kd4 := HLb.out.kd.cell 4
  have ldl := HLb.out.kd.lt
  have wab0 := Hwa.out.box.cell 0
  have wab1 := Hwa.out.box.cell 1
  have wab2 := Hwa.out.box.cell 2
  have wab3 := Hwa.out.box.cell 3
  have wab4 := Hwa.out.box.cell 4
  have wal := Hwa.out.box.lt
  have Xb0 := HX.out.box.cell 0
  have Xb1 := HX.out.box.cell 1
  have Xb2 := HX.out.box.cell 2
  have Xb3 := HX.out.box.cell 3
  have Xb4 := HX.out.box.cell 4
  have Xl := HX.out.box.lt
  have gab0 := Hga.out.box.cell 0
  have gab1 := Hga.out.box.cell 1
  have gab2 := Hga.out.box.cell 2
  have gab3 := Hga.out.box.cell 3
  have gab4 := Hga.out.box.cell 4
  have gal := Hga.out.box.lt
  simp at kd0 kd1 kd2 kd3 kd4 wab0 wab1 wab2 wab3 wab4 Xb0 Xb1 Xb2 Xb3 Xb4 gab0 gab1 gab2 gab3 gab4
  go_wp2_with (fail)
  refine (HX.out.mark 1 (by decide) (by have := HLL.out; omega)).mono ?_
  rintro e w13 ⟨rfl, o, m⟩
  clear kd0 kd1 kd2 kd3 kd4 ldl wab0 wab1 wab2 wab3 wab4 wal Xb0 Xb1 Xb2 Xb3 Xb4 Xl gab0 gab1 gab2 gab3 gab4 gal
  rw [HLL.out]
  have HLb' : Hid (Lc w w13 s c s' c' (.slice a ln cap)) := HLb.out.mid m (by omega)
  have Hwa' : Hid (Rw nwa Nwa w13 gwa u1 u2 u3 u4 (.slice awa Ln cwa) ul) := Hwa.out.mid m (by omega)
  have Hga' : Hid (Rw nga Nga w13 gga u1 u2 u3 u4 (.slice aga Ln cga) ul) := Hga.out.mid m (by omega)
  have zsw13 : w12.heap.size ≤ w13.heap.size := m.size
  clear HLb Hwa Hga
  have HLb := HLb'
  clear HLb'
  have Hwa := Hwa'
  clear Hwa'
  have Hga := Hga'
  clear Hga'
  clear HX m
  have HX : Hid (Rw nX NX w13 gX s c s' c' (.slice ax ln cx) (mkT 1 cs.length)) := o
  clear o
  have kd0 := HLb.out.kd.cell 0
  have kd1 := HLb.out.kd.cell 1
  have kd2 := HLb.out.kd.cell 2
  have kd3 := HLb.out.kd.cell 3
  have kd4 := HLb.out.kd.cell 4
  have ldl := HLb.out.kd.lt
  have wab0 := Hwa.out.box.cell 0
  have wab1 := Hwa.out.box.cell 1
  have wab2 := Hwa.out.box.cell 2
  have wab3 := Hwa.out.box.cell 3
  have wab4 := Hwa.out.box.cell 4
  have wal := Hwa.out.box.lt
  have Xb0 := HX.out.box.cell 0
  have Xb1 := HX.out.box.cell 1
  have Xb2 := HX.out.box.cell 2
  have Xb3 := HX.out.box.cell 3
  have Xb4 := HX.out.box.cell 4
  have Xl := HX.out.box.lt
  have gab0 := Hga.out.box.cell 0
  have gab1 := Hga.out.box.cell 1
  have gab2 := Hga.out.box.cell 2
  have gab3 := Hga.out.box.cell 3
  have gab4 := Hga.out.box.cell 4
  have gal := Hga.out.box.lt
  simp at kd0 kd1 kd2 kd3 kd4 wab0 wab1 wab2 wab3 wab4 Xb0 Xb1 Xb2 Xb3 Xb4 gab0 gab1 gab2 gab3 gab4
  go_wp2_with (fail)
  refine (eqDuo_t u1 u2 u3 u4 (.slice aga Ln cga) (.slice awa Ln cwa) ul w13 Hga.out.rd Hwa.out.rd).mono ?_
  rintro e w14 ⟨rfl, b⟩
  clear kd0 kd1 kd2 kd3 kd4 ldl wab0 wab1 wab2 wab3 wab4 wal Xb0 Xb1 Xb2 Xb3 Xb4 Xl gab0 gab1 gab2 gab3 gab4 gal
  have HLb' : Hid (Lc w w14 s c s' c' (.slice a ln cap)) := HLb.out.below b
  have Hwa' : Hid (Rw nwa Nwa w14 gwa u1 u2 u3 u4 (.slice awa Ln cwa) ul) := Hwa.out.below b
  have HX' : Hid (Rw nX NX w14 gX s c s' c' (.slice ax ln cx) (mkT 1 cs.length)) := HX.out.below b
  have Hga' : Hid (Rw nga Nga w14 gga u1 u2 u3 u4 (.slice aga Ln cga) ul) := Hga.out.below b
  have zsw14 : w13.heap.size ≤ w14.heap.size := b.size
  clear HLb Hwa HX Hga
  have HLb := HLb'
  clear HLb'
  have Hwa := Hwa'
  clear Hwa'
  have HX := HX'
  clear HX'
  have Hga := Hga'
  clear Hga'
  clear b
  have kd0 := HLb.out.kd.cell 0
  have kd1 := HLb.out.kd.cell 1
  have kd2 := HLb.out.kd.cell 2
  have kd3 := HLb.out.kd.cell 3
  have kd4 := HLb.out.kd.cell 4
  have ldl := HLb.out.kd.lt
  have wab0 := Hwa.out.box.cell 0
  have wab1 := Hwa.out.box.cell 1
  have wab2 := Hwa.out.box.cell 2
  have wab3 := Hwa.out.box.cell 3
  have wab4 := Hwa.out.box.cell 4
  have wal := Hwa.out.box.lt
  have Xb0 := HX.out.box.cell 0
  have Xb1 := HX.out.box.cell 1
  have Xb2 := HX.out.box.cell 2
  have Xb3 := HX.out.box.cell 3
  have Xb4 := HX.out.box.cell 4
  have Xl := HX.out.box.lt
  have gab0 := Hga.out.box.cell 0
  have gab1 := Hga.out.box.cell 1
  have gab2 := Hga.out.box.cell 2
  have gab3 := Hga.out.box.cell 3
  have gab4 := Hga.out.box.cell 4
  have gal := Hga.out.box.lt
  simp at kd0 kd1 kd2 kd3 kd4 wab0 wab1 wab2 wab3 wab4 Xb0 Xb1 Xb2 Xb3 Xb4 gab0 gab1 gab2 gab3 gab4
  go_wp2_with (fail)
  refine (Hga.out.mark 1 (by decide) (by have := HLT.out; omega)).mono ?_
  rintro e w15 ⟨rfl, o, m⟩
  clear kd0 kd1 kd2 kd3 kd4 ldl wab0 wab1 wab2 wab3 wab4 wal Xb0 Xb1 Xb2 Xb3 Xb4 Xl gab0 gab1 gab2 gab3 gab4 gal
  rw [HLT.out]
  have HLb' : Hid (Lc w w15 s c s' c' (.slice a ln cap)) := HLb.out.mid m (by omega)
  have Hwa' : Hid (Rw nwa Nwa w15 gwa u1 u2 u3 u4 (.slice awa Ln cwa) ul) := Hwa.out.mid m (by omega)
  have HX' : Hid (Rw nX NX w15 gX s c s' c' (.slice ax ln cx) (mkT 1 cs.length)) := HX.out.mid m (by omega)
  have zsw15 : w14.heap.size ≤ w15.heap.size := m.size
  clear HLb Hwa HX
  have HLb := HLb'
  clear HLb'
  have Hwa := Hwa'
  clear Hwa'
  have HX := HX'
  clear HX'
  clear Hga m
  have Hga : Hid (Rw nga Nga w15 gga u1 u2 u3 u4 (.slice aga Ln cga) (mkT 1 ul.length)) := o
  clear o
  have hqq : (((1 : Int) + 3 * (Ln : Int)) != 1 + 3 * (Ln : Int)) = false := by simp
  have kd0 := HLb.out.kd.cell 0
  have kd1 := HLb.out.kd.cell 1
  have kd2 := HLb.out.kd.cell 2
  have kd3 := HLb.out.kd.cell 3
  have kd4 := HLb.out.kd.cell 4
  have ldl := HLb.out.kd.lt
  have wab0 := Hwa.out.box.cell 0
  have wab1 := Hwa.out.box.cell 1
  have wab2 := Hwa.out.box.cell 2
  have wab3 := Hwa.out.box.cell 3
  have wab4 := Hwa.out.box.cell 4
  have wal := Hwa.out.box.lt
  have Xb0 := HX.out.box.cell 0
  have Xb1 := HX.out.box.cell 1
  have Xb2 := HX.out.box.cell 2
  have Xb3 := HX.out.box.cell 3
  have Xb4 := HX.out.box.cell 4
  have Xl := HX.out.box.lt
  have gab0 := Hga.out.box.cell 0
  have gab1 := Hga.out.box.cell 1
  have gab2 := Hga.out.box.cell 2
  have gab3 := Hga.out.box.cell 3
  have gab4 := Hga.out.box.cell 4
  have gal := Hga.out.box.lt
  simp at kd0 kd1 kd2 kd3 kd4 wab0 wab1 wab2 wab3 wab4 Xb0 Xb1 Xb2 Xb3 Xb4 gab0 gab1 gab2 gab3 gab4
  go_wp2_with (fail)
  refine (heldDuo_c u1 u2 u3 u4 (.slice aga Ln cga) 1 ul.length w15 Hga.out.rd (by decide) (by have := HLT.out; omega)).mono ?_
  rintro e w16 ⟨rfl, b⟩
  clear kd0 kd1 kd2 kd3 kd4 ldl wab0 wab1 wab2 wab3 wab4 wal Xb0 Xb1 Xb2 Xb3 Xb4 Xl gab0 gab1 gab2 gab3 gab4 gal
  rw [HLT.out]
  have HLb' : Hid (Lc w w16 s c s' c' (.slice a ln cap)) := HLb.out.below b
  have Hwa' : Hid (Rw nwa Nwa w16 gwa u1 u2 u3 u4 (.slice awa Ln cwa) ul) := Hwa.out.below b
  have HX' : Hid (Rw nX NX w16 gX s c s' c' (.slice ax ln cx) (mkT 1 cs.length)) := HX.out.below b
  have Hga' : Hid (Rw nga Nga w16 gga u1 u2 u3 u4 (.slice aga Ln cga) (mkT 1 ul.length)) := Hga.out.below b
  have zsw16 : w15.heap.size ≤ w16.heap.size := b.size
  clear HLb Hwa HX Hga
  have HLb := HLb'
  clear HLb'
  have Hwa := Hwa'
  clear Hwa'
  have HX := HX'
  clear HX'
  have Hga := Hga'
  clear Hga'
  clear b
  have kd0 := HLb.out.kd.cell 0
  have kd1 := HLb.out.kd.cell 1
  have kd2 := HLb.out.kd.cell 2
  have kd3 := HLb.out.kd.cell 3
  have kd4 := HLb.out.kd.cell 4
  have ldl := HLb.out.kd.lt
  have wab0 := Hwa.out.box.cell 0
  have wab1 := Hwa.out.box.cell 1
  have wab2 := Hwa.out.box.cell 2
  have wab3 := Hwa.out.box.cell 3
  have wab4 := Hwa.out.box.cell 4
  have wal := Hwa.out.box.lt
  have Xb0 := HX.out.box.cell 0
  have Xb1 := HX.out.box.cell 1
  have Xb2 := HX.out.box.cell 2
  have Xb3 := HX.out.box.cell 3
  have Xb4 := HX.out.box.cell 4
  have Xl := HX.out.box.lt
  have gab0 := Hga.out.box.cell 0
  have gab1 := Hga.out.box.cell 1
  have gab2 := Hga.out.box.cell 2
  have gab3 := Hga.out.box.cell 3
  have gab4 := Hga.out.box.cell 4
  have gal := Hga.out.box.lt
  simp at kd0 kd1 kd2 kd3 kd4 wab0 wab1 wab2 wab3 wab4 Xb0 Xb1 Xb2 Xb3 Xb4 gab0 gab1 gab2 gab3 gab4
  go_wp2_with (fail)
  refine (toDuo_c s c s' c' (.slice a ln cap) cs w16 (HH.out.below HLb.out.bel) HLN.out).mono ?_
  rintro e w17 ⟨vh, rfl, oh, b⟩
  clear kd0 kd1 kd2 kd3 kd4 ldl wab0 wab1 wab2 wab3 wab4 wal Xb0 Xb1 Xb2 Xb3 Xb4 Xl gab0 gab1 gab2 gab3 gab4 gal
  obtain ⟨ah, ch, hvh, -⟩ := own_form oh
  rw [HLL.out] at hvh
  subst hvh
  have HQ : Hid (Rt w17 (.slice ah ln ch) cs) := oh.rd
  have HLb' : Hid (Lc w w17 s c s' c' (.slice a ln cap)) := HLb.out.below b
  have Hwa' : Hid (Rw nwa Nwa w17 gwa u1 u2 u3 u4 (.slice awa Ln cwa) ul) := Hwa.out.below b
  have HX' : Hid (Rw nX NX w17 gX s c s' c' (.slice ax ln cx) (mkT 1 cs.length)) := HX.out.below b
  have Hga' : Hid (Rw nga Nga w17 gga u1 u2 u3 u4 (.slice aga Ln cga) (mkT 1 ul.length)) := Hga.out.below b
  have zsw17 : w16.heap.size ≤ w17.heap.size := b.size
  clear HLb Hwa HX Hga
  have HLb := HLb'
  clear HLb'
  have Hwa := Hwa'
  clear Hwa'
  have HX := HX'
  clear HX'
  have Hga := Hga'
  clear Hga'
  clear b oh
  have kd0 := HLb.out.kd.cell 0
  have kd1 := HLb.out.kd.cell 1
  have kd2 := HLb.out.kd.cell 2
  have kd3 := HLb.out.kd.cell 3
  have kd4 := HLb.out.kd.cell 4
  have ldl := HLb.out.kd.lt
  have wab0 := Hwa.out.box.cell 0
  have wab1 := Hwa.out.box.cell 1
  have wab2 := Hwa.out.box.cell 2
  have wab3 := Hwa.out.box.cell 3
  have wab4 := Hwa.out.box.cell 4
  have wal := Hwa.out.box.lt
  have Xb0 := HX.out.box.cell 0
  have Xb1 := HX.out.box.cell 1
  have Xb2 := HX.out.box.cell 2
  have Xb3 := HX.out.box.cell 3
  have Xb4 := HX.out.box.cell 4
  have Xl := HX.out.box.lt
  have gab0 := Hga.out.box.cell 0
  have gab1 := Hga.out.box.cell 1
  have gab2 := Hga.out.box.cell 2
  have gab3 := Hga.out.box.cell 3
  have gab4 := Hga.out.box.cell 4
  have gal := Hga.out.box.lt
  simp at kd0 kd1 kd2 kd3 kd4 wab0 wab1 wab2 wab3 wab4 Xb0 Xb1 Xb2 Xb3 Xb4 gab0 gab1 gab2 gab3 gab4
  go_wp2_with (fail)
  refine (setI_c s c s' c' (.slice ah ln ch) cs n w17 HQ.out HLN.out).mono ?_
  rintro e w18 ⟨⟨p1, p2, p3, p4, pl⟩, hy, hyn, hyl, v3, rfl, o3, g3, -⟩
  clear kd0 kd1 kd2 kd3 kd4 ldl wab0 wab1 wab2 wab3 wab4 wal Xb0 Xb1 Xb2 Xb3 Xb4 Xl gab0 gab1 gab2 gab3 gab4 gal
  have hsame := se_same ⟨hy, hyn⟩ HY.out
  obtain ⟨rfl, rfl, rfl, rfl, rfl⟩ : p1 = u1 ∧ p2 = u2 ∧ p3 = u3 ∧ p4 = u4 ∧ pl = ul := by simpa using hsame
  clear hsame hy hyn hyl HQ
  have b : Below w17.heap.size w17 w18 := ⟨g3.os, g3.tape, g3.output, g3.size, fun j hj => g3.block j hj (by simp [Value.ownBlock])⟩
  obtain ⟨aha, cha, hv3, -⟩ := own_form o3
  simp only at hv3 o3
  rw [HLT.out] at hv3
  subst hv3
  clear g3
  obtain ⟨nha, hnha⟩ : ∃ n, w17.heap.size = n := ⟨_, rfl⟩
  have zha := b.size
  rw [hnha] at zha
  have hloha : w.heap.size < nha := by rw [← hnha]; exact HLb.out.kd.lt
  have HLb' : Hid (Lc w w18 s c s' c' (.slice a ln cap)) := HLb.out.below b
  have Hwa' : Hid (Rw nwa Nwa w18 gwa p1 p2 p3 p4 (.slice awa Ln cwa) pl) := Hwa.out.below b
  have HX' : Hid (Rw nX NX w18 gX s c s' c' (.slice ax ln cx) (mkT 1 cs.length)) := HX.out.below b
  have Hga' : Hid (Rw nga Nga w18 gga p1 p2 p3 p4 (.slice aga Ln cga) (mkT 1 pl.length)) := Hga.out.below b
  have zsw18 : w17.heap.size ≤ w18.heap.size := b.size
  clear HLb Hwa HX Hga
  have HLb := HLb'
  clear HLb'
  have Hwa := Hwa'
  clear Hwa'
  have HX := HX'
  clear HX'
  have Hga := Hga'
  clear Hga'
  have HXr : Hid (Rw nha (w18.alloc (Obj.cells (D5 p1 p2 p3 p4 (.slice aha Ln cha)) 31)).heap.size (w18.alloc (Obj.cells (D5 p1 p2 p3 p4 (.slice aha Ln cha)) 31)) w18.heap.size p1 p2 p3 p4 (.slice aha Ln cha) pl) := ⟨_, _, (Ot.toH (by rw [← hnha]; exact o3)).below ((Below.refl _ _).alloc (Nat.le_refl _) _), Nat.le_refl _, zha, by simp, zha, by simp, .inr (Nat.le_refl _), Blk.new _ _ _⟩
  clear o3 b
  obtain ⟨w19, hw19⟩ : ∃ W, (w18.alloc (Obj.cells (D5 p1 p2 p3 p4 (.slice aha Ln cha)) 31)) = W := ⟨_, rfl⟩
  have bA : Below w18.heap.size w18 w19 := hw19 ▸ (Below.refl _ _).alloc (Nat.le_refl _) _
  have zWha : w18.heap.size < w19.heap.size := by rw [← hw19]; simp
  have HLb' : Hid (Lc w w19 s c s' c' (.slice a ln cap)) := HLb.out.below bA
  have Hwa' : Hid (Rw nwa Nwa w19 gwa p1 p2 p3 p4 (.slice awa Ln cwa) pl) := Hwa.out.below bA
  have HX' : Hid (Rw nX NX w19 gX s c s' c' (.slice ax ln cx) (mkT 1 cs.length)) := HX.out.below bA
  have Hga' : Hid (Rw nga Nga w19 gga p1 p2 p3 p4 (.slice aga Ln cga) (mkT 1 pl.length)) := Hga.out.below bA
  have zsw19 : w18.heap.size ≤ w19.heap.size := bA.size
  clear HLb Hwa HX Hga
  have HLb := HLb'
  clear HLb'
  have Hwa := Hwa'
  clear Hwa'
  have HX := HX'
  clear HX'
  have Hga := Hga'
  clear Hga'
  rw [hw19] at HXr
  obtain ⟨Nha, hNha⟩ : ∃ n, w19.heap.size = n := ⟨_, rfl⟩
  obtain ⟨gha, hgha⟩ : ∃ n, w18.heap.size = n := ⟨_, rfl⟩
  rw [hNha, hgha] at HXr
  have Hha := HXr
  clear HXr bA
  rw [hNha, hgha] at zWha
  rw [hgha] at zha
  have hwha := Hha.out.rng
  have kd0 := HLb.out.kd.cell 0
  have kd1 := HLb.out.kd.cell 1
  have kd2 := HLb.out.kd.cell 2
  have kd3 := HLb.out.kd.cell 3
  have kd4 := HLb.out.kd.cell 4
  have ldl := HLb.out.kd.lt
  have wab0 := Hwa.out.box.cell 0
  have wab1 := Hwa.out.box.cell 1
  have wab2 := Hwa.out.box.cell 2
  have wab3 := Hwa.out.box.cell 3
  have wab4 := Hwa.out.box.cell 4
  have wal := Hwa.out.box.lt
  have Xb0 := HX.out.box.cell 0
  have Xb1 := HX.out.box.cell 1
  have Xb2 := HX.out.box.cell 2
  have Xb3 := HX.out.box.cell 3
  have Xb4 := HX.out.box.cell 4
  have Xl := HX.out.box.lt
  have gab0 := Hga.out.box.cell 0
  have gab1 := Hga.out.box.cell 1
  have gab2 := Hga.out.box.cell 2
  have gab3 := Hga.out.box.cell 3
  have gab4 := Hga.out.box.cell 4
  have gal := Hga.out.box.lt
  have hab0 := Hha.out.box.cell 0
  have hab1 := Hha.out.box.cell 1
  have hab2 := Hha.out.box.cell 2
  have hab3 := Hha.out.box.cell 3
  have hab4 := Hha.out.box.cell 4
  have hal := Hha.out.box.lt
  simp at kd0 kd1 kd2 kd3 kd4 wab0 wab1 wab2 wab3 wab4 Xb0 Xb1 Xb2 Xb3 Xb4 gab0 gab1 gab2 gab3 gab4 hab0 hab1 hab2 hab3 hab4
  go_wp2_with (fail)
  refine (eqDuo_t p1 p2 p3 p4 (.slice aha Ln cha) (.slice awa Ln cwa) pl w19 Hha.out.rd Hwa.out.rd).mono ?_
  rintro e w20 ⟨rfl, b⟩
  clear kd0 kd1 kd2 kd3 kd4 ldl wab0 wab1 wab2 wab3 wab4 wal Xb0 Xb1 Xb2 Xb3 Xb4 Xl gab0 gab1 gab2 gab3 gab4 gal hab0 hab1 hab2 hab3 hab4 hal
  have HLb' : Hid (Lc w w20 s c s' c' (.slice a ln cap)) := HLb.out.below b
  have Hwa' : Hid (Rw nwa Nwa w20 gwa p1 p2 p3 p4 (.slice awa Ln cwa) pl) := Hwa.out.below b
  have HX' : Hid (Rw nX NX w20 gX s c s' c' (.slice ax ln cx) (mkT 1 cs.length)) := HX.out.below b
  have Hga' : Hid (Rw nga Nga w20 gga p1 p2 p3 p4 (.slice aga Ln cga) (mkT 1 pl.length)) := Hga.out.below b
  have Hha' : Hid (Rw nha Nha w20 gha p1 p2 p3 p4 (.slice aha Ln cha) pl) := Hha.out.below b
  have zsw20 : w19.heap.size ≤ w20.heap.size := b.size
  clear HLb Hwa HX Hga Hha
  have HLb := HLb'
  clear HLb'
  have Hwa := Hwa'
  clear Hwa'
  have HX := HX'
  clear HX'
  have Hga := Hga'
  clear Hga'
  have Hha := Hha'
  clear Hha'
  clear b
  have kd0 := HLb.out.kd.cell 0
  have kd1 := HLb.out.kd.cell 1
  have kd2 := HLb.out.kd.cell 2
  have kd3 := HLb.out.kd.cell 3
  have kd4 := HLb.out.kd.cell 4
  have ldl := HLb.out.kd.lt
  have wab0 := Hwa.out.box.cell 0
  have wab1 := Hwa.out.box.cell 1
  have wab2 := Hwa.out.box.cell 2
  have wab3 := Hwa.out.box.cell 3
  have wab4 := Hwa.out.box.cell 4
  have wal := Hwa.out.box.lt
  have Xb0 := HX.out.box.cell 0
  have Xb1 := HX.out.box.cell 1
  have Xb2 := HX.out.box.cell 2
  have Xb3 := HX.out.box.cell 3
  have Xb4 := HX.out.box.cell 4
  have Xl := HX.out.box.lt
  have gab0 := Hga.out.box.cell 0
  have gab1 := Hga.out.box.cell 1
  have gab2 := Hga.out.box.cell 2
  have gab3 := Hga.out.box.cell 3
  have gab4 := Hga.out.box.cell 4
  have gal := Hga.out.box.lt
  have hab0 := Hha.out.box.cell 0
  have hab1 := Hha.out.box.cell 1
  have hab2 := Hha.out.box.cell 2
  have hab3 := Hha.out.box.cell 3
  have hab4 := Hha.out.box.cell 4
  have hal := Hha.out.box.lt
  simp at kd0 kd1 kd2 kd3 kd4 wab0 wab1 wab2 wab3 wab4 Xb0 Xb1 Xb2 Xb3 Xb4 gab0 gab1 gab2 gab3 gab4 hab0 hab1 hab2 hab3 hab4
  go_wp2_with (fail)
  refine (heldDuo_c p1 p2 p3 p4 (.slice aga Ln cga) 1 pl.length w20 Hga.out.rd (by decide) (by have := HLT.out; omega)).mono ?_
  rintro e w21 ⟨rfl, b⟩
  clear kd0 kd1 kd2 kd3 kd4 ldl wab0 wab1 wab2 wab3 wab4 wal Xb0 Xb1 Xb2 Xb3 Xb4 Xl gab0 gab1 gab2 gab3 gab4 gal hab0 hab1 hab2 hab3 hab4 hal
  rw [HLT.out]
  have HLb' : Hid (Lc w w21 s c s' c' (.slice a ln cap)) := HLb.out.below b
  have Hwa' : Hid (Rw nwa Nwa w21 gwa p1 p2 p3 p4 (.slice awa Ln cwa) pl) := Hwa.out.below b
  have HX' : Hid (Rw nX NX w21 gX s c s' c' (.slice ax ln cx) (mkT 1 cs.length)) := HX.out.below b
  have Hga' : Hid (Rw nga Nga w21 gga p1 p2 p3 p4 (.slice aga Ln cga) (mkT 1 pl.length)) := Hga.out.below b
  have Hha' : Hid (Rw nha Nha w21 gha p1 p2 p3 p4 (.slice aha Ln cha) pl) := Hha.out.below b
  have zsw21 : w20.heap.size ≤ w21.heap.size := b.size
  clear HLb Hwa HX Hga Hha
  have HLb := HLb'
  clear HLb'
  have Hwa := Hwa'
  clear Hwa'
  have HX := HX'
  clear HX'
  have Hga := Hga'
  clear Hga'
  have Hha := Hha'
  clear Hha'
  clear b
  have HBB : Hid (Below w.heap.size w w21) := HLb.out.bel
  go_wp2
  go_ret
  exact ⟨rfl, HBB.out⟩
end Go.Proofs.Ytljejjfhlpjlfaa

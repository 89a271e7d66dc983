/- FnExactNewTrunk; no condition. -/
import Derived.Test.YtkehcalijamhjaaNew
namespace Go.Proofs.Ytkehcalijamhjaa
open Go.RowKit Go.ChangeShapes Go.WideShapes Go.ChangeAt
set_option linter.unusedVariables false
set_option linter.unusedSimpArgs false
set_option maxRecDepth 8000

/-- a trunk in a box, its slices from b on, below h, the box at g -/
structure Bt (b h : Nat) (W : World) (g : Nat) (c0 c1 : Value) (l0 l1 : Int) (w0 w1 : Value) (z0 z1 : List Int) (n0 n1 : Mvs) : Prop where
  own : Ok6 b h W c0 c1 w0 w1 z0 z1 n0 n1
  box : Blk W g (T6 c0 c1 l0 l1 w0 w1) 33
theorem Bt.below {b h : Nat} {W W' : World} {g : Nat} {c0 c1 : Value} {l0 l1 : Int} {w0 w1 : Value} {z0 z1 : List Int} {n0 n1 : Mvs} (x : Bt b h W g c0 c1 l0 l1 w0 w1 z0 z1 n0 n1) (hb : Below W.heap.size W W') : Bt b h W' g c0 c1 l0 l1 w0 w1 z0 z1 n0 n1 := ⟨x.own.below hb, x.box.below hb x.box.lt⟩
theorem Bt.fr {b h b' h' : Nat} {W W' : World} {g : Nat} {c0 c1 : Value} {l0 l1 : Int} {w0 w1 : Value} {z0 z1 : List Int} {n0 n1 : Mvs} (x : Bt b h W g c0 c1 l0 l1 w0 w1 z0 z1 n0 n1) (hf : Fr (fun k => b' ≤ k ∧ k < h') W W') (ho : h ≤ b' ∨ h' ≤ b) (hg : g < b' ∨ h' ≤ g) : Bt b h W' g c0 c1 l0 l1 w0 w1 z0 z1 n0 n1 :=
  ⟨x.own.fr hf (fun k hk e => by have := x.own.ge k hk; omega), x.box.fr hf (fun e => by omega)⟩
theorem Bt.new {b h : Nat} {W : World} {c0 c1 : Value} {w0 w1 : Value} {z0 z1 : List Int} {n0 n1 : Mvs} (x : Ok6 b h W c0 c1 w0 w1 z0 z1 n0 n1) (l0 l1 : Int) : Bt b h (W.alloc (Obj.cells (T6 c0 c1 l0 l1 w0 w1) 33)) W.heap.size c0 c1 l0 l1 w0 w1 z0 z1 n0 n1 := ⟨x.below ((Below.refl _ _).alloc (Nat.le_refl _) _), Blk.new _ _ _⟩
theorem nz_len (n : Int) : (nz n).length ≤ 24 := by
  unfold nz; split
  · simp; omega
  · simp
set_option maxHeartbeats 3200000 in
theorem newLaw (n : Int) (w : World) : Calls Try.prog 5 #[.int .i64 n] w fun e w' => e = .returned (.bool true) ∧ Below w.heap.size w w' := by
  obtain ⟨N, hN⟩ : ∃ N, (nz n).length = N := ⟨_, rfl⟩
  have hN24 : N ≤ 24 := by rw [← hN]; exact nz_len n
  have HN : Hid ((nz n).length = N) := hN
  clear hN
  go_enter Try.func5, Try.ntmps5
  go_wp2_with (fail)
  refine (newM_c n w).mono ?_
  rintro e u1 ⟨ca, cb, rfl, oa, ba⟩
  obtain ⟨ea, fa, hf, -⟩ := own_form oa.o0
  rw [HN.out] at hf
  subst hf
  obtain ⟨eb, fb, hf, -⟩ := own_form oa.o1
  rw [HN.out] at hf
  subst hf
  have ltA : w.heap.size ≤ u1.heap.size := ba.size
  have al : Below u1.heap.size u1 (u1.alloc (Obj.cells (T6 (.slice ea N fa) (.slice eb N fb) 0 0 (.slice none 0 0) (.slice none 0 0)) 33)) := (Below.refl _ _).alloc (Nat.le_refl _) _
  have HgA : Hid (Bt w.heap.size u1.heap.size (u1.alloc (Obj.cells (T6 (.slice ea N fa) (.slice eb N fb) 0 0 (.slice none 0 0) (.slice none 0 0)) 33)) u1.heap.size (.slice ea N fa) (.slice eb N fb) 0 0 (.slice none 0 0) (.slice none 0 0) (nz n) (nz n) [] []) := Bt.new oa 0 0
  have HBWA : Hid (Below w.heap.size w (u1.alloc (Obj.cells (T6 (.slice ea N fa) (.slice eb N fb) 0 0 (.slice none 0 0) (.slice none 0 0)) 33))) := belowCall ba al (ba).size
  obtain ⟨WA, hW⟩ : ∃ W, u1.alloc (Obj.cells (T6 (.slice ea N fa) (.slice eb N fb) 0 0 (.slice none 0 0) (.slice none 0 0)) 33) = W := ⟨_, rfl⟩
  obtain ⟨gA, hg⟩ : ∃ k, u1.heap.size = k := ⟨_, rfl⟩
  have HW : Hid (u1.alloc (Obj.cells (T6 (.slice ea N fa) (.slice eb N fb) 0 0 (.slice none 0 0) (.slice none 0 0)) 33) = WA) := hW
  have HG : Hid (u1.heap.size = gA) := hg
  rw [hW] at HgA HBWA
  rw [hg] at HgA
  have HA : Hid (u1.heap.size = gA ∧ gA < WA.heap.size) := ⟨HG.out, HgA.out.box.lt⟩
  clear oa ba al hW hg
  go_wp2_with (fail)
  rw [HW.out, HG.out]
  clear HW HG
  refine (newI_c n WA).mono ?_
  rintro e u2 ⟨cc, cd, rfl, oc, bc⟩
  obtain ⟨ec, fc, hf, -⟩ := own_form oc.o0
  rw [HN.out] at hf
  subst hf
  obtain ⟨ed, fd, hf, -⟩ := own_form oc.o1
  rw [HN.out] at hf
  subst hf
  have hAu := HgA.out.below bc
  have bw2 := belowCall HBWA.out bc HBWA.out.size
  have szc : WA.heap.size ≤ u2.heap.size := bc.size
  have al : Below u2.heap.size u2 (u2.alloc (Obj.cells (T6 (.slice ec N fc) (.slice ed N fd) 0 0 (.slice none 0 0) (.slice none 0 0)) 33)) := (Below.refl _ _).alloc (Nat.le_refl _) _
  have HgB : Hid (Bt WA.heap.size u2.heap.size (u2.alloc (Obj.cells (T6 (.slice ec N fc) (.slice ed N fd) 0 0 (.slice none 0 0) (.slice none 0 0)) 33)) u2.heap.size (.slice ec N fc) (.slice ed N fd) 0 0 (.slice none 0 0) (.slice none 0 0) (nz n) (nz n) [] []) := Bt.new oc 0 0
  have HBWB : Hid (Below w.heap.size w (u2.alloc (Obj.cells (T6 (.slice ec N fc) (.slice ed N fd) 0 0 (.slice none 0 0) (.slice none 0 0)) 33))) := belowCall bw2 al (bw2).size
  obtain ⟨WB, hW⟩ : ∃ W, u2.alloc (Obj.cells (T6 (.slice ec N fc) (.slice ed N fd) 0 0 (.slice none 0 0) (.slice none 0 0)) 33) = W := ⟨_, rfl⟩
  obtain ⟨gB, hg⟩ : ∃ k, u2.heap.size = k := ⟨_, rfl⟩
  have HW : Hid (u2.alloc (Obj.cells (T6 (.slice ec N fc) (.slice ed N fd) 0 0 (.slice none 0 0) (.slice none 0 0)) 33) = WB) := hW
  have HG : Hid (u2.heap.size = gB) := hg
  rw [hW] at HgB HBWB
  rw [hg] at HgB
  have HgA2 : Hid (Bt w.heap.size gA WB gA (.slice ea N fa) (.slice eb N fb) 0 0 (.slice none 0 0) (.slice none 0 0) (nz n) (nz n) [] []) := by
    have := hAu.below al
    rw [hW] at this; exact this
  have HA2 : Hid (u2.heap.size = gB ∧ gB < WB.heap.size ∧ WA.heap.size ≤ gB ∧ gA < WA.heap.size) := ⟨hg, HgB.out.box.lt, by rw [← hg]; exact szc, HA.out.2⟩
  have HAU : Hid (Bt w.heap.size gA u2 gA (.slice ea N fa) (.slice eb N fb) 0 0 (.slice none 0 0) (.slice none 0 0) (nz n) (nz n) [] []) := hAu
  clear oc bc al hAu bw2 szc HgA HBWA hW hg
  have x0 := HAU.out.box.cell 0
  have x1 := HAU.out.box.cell 1
  have x2 := HAU.out.box.cell 2
  have x3 := HAU.out.box.cell 3
  have x4 := HAU.out.box.cell 4
  have x5 := HAU.out.box.cell 5
  simp at x0 x1 x2 x3 x4 x5
  have xl := HAU.out.box.lt
  go_wp2_with (fail)
  rw [HW.out, HG.out]
  refine (eqTrunk_t _ _ _ _ _ _ _ _ 0 0 (nz n) (nz n) [] [] WB HgB.out.own.rd HgA2.out.own.rd).mono ?_
  rintro e u3 ⟨rfl, b3⟩
  have HA3 : Hid (Bt w.heap.size gA u3 gA (.slice ea N fa) (.slice eb N fb) 0 0 (.slice none 0 0) (.slice none 0 0) (nz n) (nz n) [] []) := HgA2.out.below b3
  have HB3 : Hid (Bt WA.heap.size gB u3 gB (.slice ec N fc) (.slice ed N fd) 0 0 (.slice none 0 0) (.slice none 0 0) (nz n) (nz n) [] []) := HgB.out.below b3
  have HW3 : Hid (Below w.heap.size w u3) := belowCall HBWB.out b3 HBWB.out.size
  clear b3 HgA2 HgB HBWB x0 x1 x2 x3 x4 x5 xl HW HG HAU
  have y0 := HB3.out.box.cell 0
  have y1 := HB3.out.box.cell 1
  have y2 := HB3.out.box.cell 2
  have y3 := HB3.out.box.cell 3
  have y4 := HB3.out.box.cell 4
  have y5 := HB3.out.box.cell 5
  simp at y0 y1 y2 y3 y4 y5
  have hqe : qe 1 N N 0 0 = 1 + (N : Int) + (N : Int) := by unfold qe; simp
  have HMK : Hid (Calls Try.prog 29 #[.agg (T6 (.slice ec N fc) (.slice ed N fd) 0 0 (.slice none 0 0) (.slice none 0 0)), .int .i64 1] u3 fun e w' => e = .returned (.int .i64 (1 + (N : Int) + (N : Int))) ∧ Ok6 WA.heap.size gB w' (.slice ec N fc) (.slice ed N fd) (.slice none 0 0) (.slice none 0 0) (marks .i64 1 N) (marks .i64 (1 + (N : Int)) N) (mkM (1 + (N : Int) + (N : Int)) 0) (mkM (1 + (N : Int) + (N : Int) + 2 * (0 : Nat)) 0) ∧ Fr (fun k => WA.heap.size ≤ k ∧ k < gB) u3 w') := by
    have := markTrunk_c WA.heap.size gB _ _ _ _ 0 0 (nz n) (nz n) [] [] 1 u3 HB3.out.own (by decide) (by rw [HN.out]; simp only [List.length_nil]; rw [hqe]; omega)
    rw [HN.out] at this
    simp only [List.length_nil] at this
    rw [hqe] at this
    exact this
  have HHE : Hid (∀ W, Rk W (.slice ec N fc) (.slice ed N fd) (.slice none 0 0) (.slice none 0 0) (marks .i64 1 N) (marks .i64 (1 + (N : Int)) N) (mkM (1 + (N : Int) + (N : Int)) 0) (mkM (1 + (N : Int) + (N : Int) + 2 * (0 : Nat)) 0) → Calls Try.prog 30 #[.agg (T6 (.slice ec N fc) (.slice ed N fd) 0 0 (.slice none 0 0) (.slice none 0 0)), .int .i64 1] W fun e w' => e = .returned (.int .i64 (1 + (N : Int) + (N : Int))) ∧ Below W.heap.size W w') := by
    intro W hW
    have := heldTrunk_c _ _ _ _ 0 0 N N 0 0 1 W hW (by decide) (by rw [hqe]; omega)
    rw [hqe] at this
    exact this
  clear hqe
  go_wp2_with (fail)
  refine HMK.out.mono ?_
  rintro e u4 ⟨rfl, om, fm⟩
  have HA4 : Hid (Bt w.heap.size gA u4 gA (.slice ea N fa) (.slice eb N fb) 0 0 (.slice none 0 0) (.slice none 0 0) (nz n) (nz n) [] []) := HA3.out.fr fm (.inl (by have := HA2.out; omega)) (.inl (by have := HA2.out; omega))
  have HK4 : Hid (Blk u4 gB (T6 (.slice ec N fc) (.slice ed N fd) 0 0 (.slice none 0 0) (.slice none 0 0)) 33) := HB3.out.box.fr fm (fun e => by omega)
  have HO4 : Hid (Rk u4 (.slice ec N fc) (.slice ed N fd) (.slice none 0 0) (.slice none 0 0) (marks .i64 1 N) (marks .i64 (1 + (N : Int)) N) (mkM (1 + (N : Int) + (N : Int)) 0) (mkM (1 + (N : Int) + (N : Int) + 2 * (0 : Nat)) 0)) := om.rd
  have HW4 : Hid (Below w.heap.size w u4) := HW3.out.trans (fm.below HW3.out.size (fun k e => by have := HA2.out; have := HA.out; omega))
  clear om fm HA3 HB3 HW3 HMK y0 y1 y2 y3 y4 y5
  have y0 := HK4.out.cell 0
  have y1 := HK4.out.cell 1
  have y2 := HK4.out.cell 2
  have y3 := HK4.out.cell 3
  have y4 := HK4.out.cell 4
  have y5 := HK4.out.cell 5
  simp at y0 y1 y2 y3 y4 y5
  go_wp2_with (fail)
  refine (HHE.out u4 HO4.out).mono ?_
  rintro e u5 ⟨rfl, b5⟩
  have HA5 : Hid (Bt w.heap.size gA u5 gA (.slice ea N fa) (.slice eb N fb) 0 0 (.slice none 0 0) (.slice none 0 0) (nz n) (nz n) [] []) := HA4.out.below b5
  have HK5 : Hid (Blk u5 gB (T6 (.slice ec N fc) (.slice ed N fd) 0 0 (.slice none 0 0) (.slice none 0 0)) 33) := HK4.out.below b5 HK4.out.lt
  have HO5 := HO4.out.below b5
  have HW5 : Hid (Below w.heap.size w u5) := belowCall HW4.out b5 HW4.out.size
  have HO5' : Hid (Rk u5 (.slice ec N fc) (.slice ed N fd) (.slice none 0 0) (.slice none 0 0) (marks .i64 1 N) (marks .i64 (1 + (N : Int)) N) (mkM (1 + (N : Int) + (N : Int)) 0) (mkM (1 + (N : Int) + (N : Int) + 2 * (0 : Nat)) 0)) := HO5
  have hnn : (1 + (N : Int) + (N : Int) < 0) = False := eq_false (by omega)
  have hne : (1 + (N : Int) + (N : Int) != 1 + (N : Int) + (N : Int)) = false := by simp
  clear b5 HA4 HK4 HO4 HW4 HO5 y0 y1 y2 y3 y4 y5
  go_wp2_with (fail)
  refine (newI_c n u5).mono ?_
  rintro e u6 ⟨ch, ci, rfl, oh, bh⟩
  obtain ⟨eh, fh, hf, -⟩ := own_form oh.o0
  rw [HN.out] at hf
  subst hf
  obtain ⟨ei, fi, hf, -⟩ := own_form oh.o1
  rw [HN.out] at hf
  subst hf
  have hA6 := HA5.out.below bh
  have hK6 := HK5.out.below bh HK5.out.lt
  have hO6 := HO5'.out.below bh
  have bw6 := belowCall HW5.out bh HW5.out.size
  have al : Below u6.heap.size u6 (u6.alloc (Obj.cells (T6 (.slice eh N fh) (.slice ei N fi) 0 0 (.slice none 0 0) (.slice none 0 0)) 33)) := (Below.refl _ _).alloc (Nat.le_refl _) _
  have HgC : Hid (Bt u5.heap.size u6.heap.size (u6.alloc (Obj.cells (T6 (.slice eh N fh) (.slice ei N fi) 0 0 (.slice none 0 0) (.slice none 0 0)) 33)) u6.heap.size (.slice eh N fh) (.slice ei N fi) 0 0 (.slice none 0 0) (.slice none 0 0) (nz n) (nz n) [] []) := Bt.new oh 0 0
  have HBWC : Hid (Below w.heap.size w (u6.alloc (Obj.cells (T6 (.slice eh N fh) (.slice ei N fi) 0 0 (.slice none 0 0) (.slice none 0 0)) 33))) := belowCall bw6 al (bw6).size
  obtain ⟨WC, hW⟩ : ∃ W, u6.alloc (Obj.cells (T6 (.slice eh N fh) (.slice ei N fi) 0 0 (.slice none 0 0) (.slice none 0 0)) 33) = W := ⟨_, rfl⟩
  obtain ⟨gC, hg⟩ : ∃ k, u6.heap.size = k := ⟨_, rfl⟩
  have HW : Hid (u6.alloc (Obj.cells (T6 (.slice eh N fh) (.slice ei N fi) 0 0 (.slice none 0 0) (.slice none 0 0)) 33) = WC) := hW
  have HG : Hid (u6.heap.size = gC) := hg
  rw [hW] at HgC HBWC
  rw [hg] at HgC
  have HA7 : Hid (Bt w.heap.size gA WC gA (.slice ea N fa) (.slice eb N fb) 0 0 (.slice none 0 0) (.slice none 0 0) (nz n) (nz n) [] []) := by have := hA6.below al; rw [hW] at this; exact this
  have HK7 : Hid (Blk WC gB (T6 (.slice ec N fc) (.slice ed N fd) 0 0 (.slice none 0 0) (.slice none 0 0)) 33) := by have := hK6.below al hK6.lt; rw [hW] at this; exact this
  have HO7 : Hid (Rk WC (.slice ec N fc) (.slice ed N fd) (.slice none 0 0) (.slice none 0 0) (marks .i64 1 N) (marks .i64 (1 + (N : Int)) N) (mkM (1 + (N : Int) + (N : Int)) 0) (mkM (1 + (N : Int) + (N : Int) + 2 * (0 : Nat)) 0)) := by have := hO6.below al; rw [hW] at this; exact this
  have HAU : Hid (Bt w.heap.size gA u6 gA (.slice ea N fa) (.slice eb N fb) 0 0 (.slice none 0 0) (.slice none 0 0) (nz n) (nz n) [] []) := hA6
  clear oh bh al hA6 hK6 hO6 bw6 HA5 HK5 HO5' HW5 hW hg
  have x0 := HAU.out.box.cell 0
  have x1 := HAU.out.box.cell 1
  have x2 := HAU.out.box.cell 2
  have x3 := HAU.out.box.cell 3
  have x4 := HAU.out.box.cell 4
  have x5 := HAU.out.box.cell 5
  simp at x0 x1 x2 x3 x4 x5
  have xl := HAU.out.box.lt
  go_wp2_with (fail)
  rw [HW.out]
  try rw [HG.out]
  refine (eqTrunk_t _ _ _ _ _ _ _ _ 0 0 (nz n) (nz n) [] [] WC HgC.out.own.rd HA7.out.own.rd).mono ?_
  rintro e u8 ⟨rfl, b8⟩
  have HK8 : Hid (Blk u8 gB (T6 (.slice ec N fc) (.slice ed N fd) 0 0 (.slice none 0 0) (.slice none 0 0)) 33) := HK7.out.below b8 HK7.out.lt
  have HO8 : Hid (Rk u8 (.slice ec N fc) (.slice ed N fd) (.slice none 0 0) (.slice none 0 0) (marks .i64 1 N) (marks .i64 (1 + (N : Int)) N) (mkM (1 + (N : Int) + (N : Int)) 0) (mkM (1 + (N : Int) + (N : Int) + 2 * (0 : Nat)) 0)) := HO7.out.below b8
  have HW8 : Hid (Below w.heap.size w u8) := belowCall HBWC.out b8 HBWC.out.size
  clear b8 HA7 HK7 HO7 HgC HBWC x0 x1 x2 x3 x4 x5 xl HW HG HAU
  have y0 := HK8.out.cell 0
  have y1 := HK8.out.cell 1
  have y2 := HK8.out.cell 2
  have y3 := HK8.out.cell 3
  have y4 := HK8.out.cell 4
  have y5 := HK8.out.cell 5
  simp at y0 y1 y2 y3 y4 y5
  go_wp2_with (fail)
  refine (HHE.out u8 HO8.out).mono ?_
  rintro e u9 ⟨rfl, b9⟩
  have HW9 : Hid (Below w.heap.size w u9) := belowCall HW8.out b9 HW8.out.size
  clear b9 HK8 HO8 y0 y1 y2 y3 y4 y5
  go_wp2
  go_ret
  exact ⟨rfl, HW9.out⟩
end Go.Proofs.Ytkehcalijamhjaa

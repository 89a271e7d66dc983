/- The bodies of FnExactRate, FnExactRateParts and FnExactReserve answer true; no condition. -/
import Derived.Test.YtdnophdldpophaaLA
import Derived.Test.YtdnophdldpophaaSlI
namespace Go.Proofs.Ytdnophdldpophaa
open Go.RowKit Go.ChangeShapes Go.WideShapes Go.ChangeAt
set_option linter.unusedVariables false
set_option linter.unusedSimpArgs false
set_option maxRecDepth 8000
set_option maxHeartbeats 6400000 in
theorem rateLaw (v : Value) (ls : List Tf) (z b t : Int) (w : World) (h : Rg 5 tfC w v ls) : Calls Try.prog 6 #[v, .int .i64 z, .int .i64 b, .int .i64 t] w fun e w' => e = .returned (.bool true) ∧ Below w.heap.size w w' := by
  have HX : Hid (∀ W, Below w.heap.size w W → Rg 5 tfC W v ls) := fun W hb => h.below hb
  obtain ⟨oa, oc, rfl, -, ocm, -⟩ := h
  obtain ⟨m0, hm⟩ : ∃ m, ls.length = m := ⟨_, rfl⟩
  have HM : Hid (ls.length = m0) := hm
  rw [hm] at HX ⊢
  clear hm ocm
  have B_w : Hid (Below w.heap.size w w) := Below.refl _ _
  go_enter Try.func6, Try.ntmps6
  go_wp2_with (fail)
  refine (szTfS_c _ ls 1048576 w (HX.out _ B_w.out) (by decide) (by decide)).mono ?_
  rintro e w1 ⟨rfl, hw⟩
  rw [hw]
  clear hw w1
  rw [HM.out]
  by_cases hbig : (1048576 : Int) < m0
  · rw [if_pos hbig]
    go_wp2
    go_ret
    exact ⟨rfl, B_w.out⟩
  rw [if_neg hbig]
  have HL : Hid (ls.length ≤ 1048576) := by show _ ≤ _; rw [HM.out]; omega
  have hn1 : ((1048576 : Int) - (m0 : Int) < 0) = False := eq_false (by omega)
  have hn2 : 0 ≤ (1048576 : Int) - (m0 : Int) := by omega
  clear hbig
  go_wp2_with (fail)
  refine (toTfS_c _ ls w (HX.out _ B_w.out) HL.out).mono ?_
  rintro e w1 ⟨v1, rfl, o_v1, b⟩
  have B_w1 : Hid (Below w.heap.size w w1) := belowCall B_w.out b B_w.out.size
  clear b B_w
  have Rv1_w1 : Hid (Rg 5 tfC w1 v1 ls) := o_v1.rd tfC_len
  clear o_v1
  go_wp2_with (fail)
  refine (rateM_c v1 ls z b t w1 Rv1_w1.out).mono ?_
  rintro e w2 ⟨s1, c1, k1, rfl, hs1, b2⟩
  have HS1 : Hid (RtS ls z b t s1 c1 k1) := hs1
  clear hs1
  have B_w2 : Hid (Below w.heap.size w w2) := belowCall B_w1.out b2 B_w1.out.size
  have Rv1_w2 : Hid (Rg 5 tfC w2 v1 ls) := Rv1_w1.out.below b2
  clear b2 B_w1 Rv1_w1
  have ba : Below w2.heap.size w2 (w2.alloc (Obj.cells (P2 s1 c1) 34)) := (Below.refl _ _).alloc (Nat.le_refl _) _
  have kb : Blk (w2.alloc (Obj.cells (P2 s1 c1) 34)) w2.heap.size (P2 s1 c1) 34 := Blk.new _ _ _
  obtain ⟨X3, hX3⟩ : ∃ X, w2.heap.size = X := ⟨_, rfl⟩
  obtain ⟨W3, hW3⟩ : ∃ W, w2.alloc (Obj.cells (P2 s1 c1) 34) = W := ⟨_, rfl⟩
  rw [hW3] at ba kb
  rw [hX3] at kb
  have B_W3 : Hid (Below w.heap.size w W3) := belowCall B_w2.out ba B_w2.out.size
  have M_W3 : Hid (Blk W3 X3 (P2 s1 c1) 34) := kb
  clear ba kb B_w2
  go_wp2_with (fail)
  refine (toTfS_c _ ls W3 (HX.out _ B_W3.out) HL.out).mono ?_
  rintro e w4 ⟨v2, rfl, o_v2, b⟩
  have B_w4 : Hid (Below w.heap.size w w4) := belowCall B_W3.out b B_W3.out.size
  have M_w4 : Hid (Blk w4 X3 (P2 s1 c1) 34) := M_W3.out.below b M_W3.out.lt
  clear b B_W3 M_W3 Rv1_w2 hW3 hX3
  have Rv2_w4 : Hid (Rg 5 tfC w4 v2 ls) := o_v2.rd tfC_len
  clear o_v2
  go_wp2_with (fail)
  refine (rateI_c v2 ls z b t w4 Rv2_w4.out).mono ?_
  rintro e w5 ⟨s2, c2, k2, rfl, hs2, b2⟩
  obtain ⟨rfl, rfl, rfl⟩ := HS1.out.uniq hs2
  clear hs2
  have hbb : (k1 != k1) = false := by simp
  have B_w5 : Hid (Below w.heap.size w w5) := belowCall B_w4.out b2 B_w4.out.size
  have M_w5 : Hid (Blk w5 X3 (P2 s1 c1) 34) := M_w4.out.below b2 M_w4.out.lt
  have Rv2_w5 : Hid (Rg 5 tfC w5 v2 ls) := Rv2_w4.out.below b2
  clear b2 B_w4 M_w4 Rv2_w4
  have ba : Below w5.heap.size w5 (w5.alloc (Obj.cells (P2 s1 c1) 34)) := (Below.refl _ _).alloc (Nat.le_refl _) _
  have kb : Blk (w5.alloc (Obj.cells (P2 s1 c1) 34)) w5.heap.size (P2 s1 c1) 34 := Blk.new _ _ _
  obtain ⟨X6, hX6⟩ : ∃ X, w5.heap.size = X := ⟨_, rfl⟩
  obtain ⟨W6, hW6⟩ : ∃ W, w5.alloc (Obj.cells (P2 s1 c1) 34) = W := ⟨_, rfl⟩
  rw [hW6] at ba kb
  rw [hX6] at kb
  have B_W6 : Hid (Below w.heap.size w W6) := belowCall B_w5.out ba B_w5.out.size
  have M_W6 : Hid (Blk W6 X3 (P2 s1 c1) 34) := M_w5.out.below ba M_w5.out.lt
  have Rv2_W6 : Hid (Rg 5 tfC W6 v2 ls) := Rv2_w5.out.below ba
  have G_W6 : Hid (Blk W6 X6 (P2 s1 c1) 34) := kb
  clear ba kb B_w5 M_w5 Rv2_w5
  have y0 := G_W6.out.cell 0
  have y1 := G_W6.out.cell 1
  simp at y0 y1
  have x0 := M_W6.out.cell 0
  have x1 := M_W6.out.cell 1
  simp at x0 x1
  go_wp2_with (fail)
  refine (eqCharge_t s1 c1 W6).mono ?_
  rintro e w7 ⟨rfl, b5⟩
  have B_w7 : Hid (Below w.heap.size w w7) := belowCall B_W6.out b5 B_W6.out.size
  have M_w7 : Hid (Blk w7 X3 (P2 s1 c1) 34) := M_W6.out.below b5 M_W6.out.lt
  have Rv2_w7 : Hid (Rg 5 tfC w7 v2 ls) := Rv2_W6.out.below b5
  have G_w7 : Hid (Blk w7 X6 (P2 s1 c1) 34) := G_W6.out.below b5 G_W6.out.lt
  clear b5 B_W6 M_W6 Rv2_W6 G_W6 hW6 hX6 y0 y1 x0 x1
  go_wp2_with (fail)
  refine (toTfS_c _ ls w7 (HX.out _ B_w7.out) HL.out).mono ?_
  rintro e w8 ⟨v3, rfl, o_v3, b⟩
  have B_w8 : Hid (Below w.heap.size w w8) := belowCall B_w7.out b B_w7.out.size
  have M_w8 : Hid (Blk w8 X3 (P2 s1 c1) 34) := M_w7.out.below b M_w7.out.lt
  have Rv2_w8 : Hid (Rg 5 tfC w8 v2 ls) := Rv2_w7.out.below b
  have G_w8 : Hid (Blk w8 X6 (P2 s1 c1) 34) := G_w7.out.below b G_w7.out.lt
  clear b B_w7 M_w7 Rv2_w7 G_w7
  have Rv3_w8 : Hid (Rg 5 tfC w8 v3 ls) := o_v3.rd tfC_len
  clear o_v3
  go_wp2_with (fail)
  refine (eqTfS_t v2 v3 ls w8 Rv2_w8.out Rv3_w8.out).mono ?_
  rintro e w9 ⟨rfl, b6⟩
  have B_w9 : Hid (Below w.heap.size w w9) := belowCall B_w8.out b6 B_w8.out.size
  have M_w9 : Hid (Blk w9 X3 (P2 s1 c1) 34) := M_w8.out.below b6 M_w8.out.lt
  have Rv2_w9 : Hid (Rg 5 tfC w9 v2 ls) := Rv2_w8.out.below b6
  have G_w9 : Hid (Blk w9 X6 (P2 s1 c1) 34) := G_w8.out.below b6 G_w8.out.lt
  have Rv3_w9 : Hid (Rg 5 tfC w9 v3 ls) := Rv3_w8.out.below b6
  clear b6 B_w8 M_w8 Rv2_w8 G_w8 Rv3_w8
  go_wp2
  go_ret
  exact ⟨rfl, B_w9.out⟩
set_option maxHeartbeats 6400000 in
theorem reserveLaw (l k : Int) (v : Value) (ls : List Tf) (z b m : Int) (w : World) (h : Rg 5 tfC w v ls) : Calls Try.prog 7 #[.agg (P2 l k), v, .int .i64 z, .int .i64 b, .int .i64 m] w fun e w' => e = .returned (.bool true) ∧ Below w.heap.size w w' := by
  have HX : Hid (∀ W, Below w.heap.size w W → Rg 5 tfC W v ls) := fun W hb => h.below hb
  obtain ⟨oa, oc, rfl, -, ocm, -⟩ := h
  obtain ⟨m0, hm⟩ : ∃ m, ls.length = m := ⟨_, rfl⟩
  have HM : Hid (ls.length = m0) := hm
  rw [hm] at HX ⊢
  clear hm ocm
  have ba : Below w.heap.size w (w.alloc (Obj.cells (P2 l k) 51)) := (Below.refl _ _).alloc (Nat.le_refl _) _
  have kb : Blk (w.alloc (Obj.cells (P2 l k) 51)) w.heap.size (P2 l k) 51 := Blk.new _ _ _
  obtain ⟨W0, hW0⟩ : ∃ W, w.alloc (Obj.cells (P2 l k) 51) = W := ⟨_, rfl⟩
  rw [hW0] at ba kb
  have B_W0 : Hid (Below w.heap.size w W0) := ba
  have K_W0 : Hid (Blk W0 w.heap.size (P2 l k) 51) := kb
  clear ba kb
  go_enter Try.func7, Try.ntmps7
  go_wp2_with (fail)
  refine (szTfS_c _ ls 1048576 W0 (HX.out _ B_W0.out) (by decide) (by decide)).mono ?_
  rintro e w1 ⟨rfl, hw⟩
  rw [hw]
  clear hw w1 hW0
  rw [HM.out]
  by_cases hbig : (1048576 : Int) < m0
  · rw [if_pos hbig]
    go_wp2
    go_ret
    exact ⟨rfl, B_W0.out⟩
  rw [if_neg hbig]
  have HL : Hid (ls.length ≤ 1048576) := by show _ ≤ _; rw [HM.out]; omega
  have hn1 : ((1048576 : Int) - (m0 : Int) < 0) = False := eq_false (by omega)
  have hn2 : 0 ≤ (1048576 : Int) - (m0 : Int) := by omega
  clear hbig
  have x0 := K_W0.out.cell 0
  have x1 := K_W0.out.cell 1
  simp at x0 x1
  go_wp2_with (fail)
  refine (toPurse_c l k W0).mono ?_
  rintro e w1 ⟨rfl, b⟩
  have B_w1 : Hid (Below w.heap.size w w1) := belowCall B_W0.out b B_W0.out.size
  have K_w1 : Hid (Blk w1 w.heap.size (P2 l k) 51) := K_W0.out.below b K_W0.out.lt
  clear b B_W0 K_W0 x0 x1
  go_wp2_with (fail)
  refine (toTfS_c _ ls w1 (HX.out _ B_w1.out) HL.out).mono ?_
  rintro e w2 ⟨v1, rfl, o_v1, b⟩
  have B_w2 : Hid (Below w.heap.size w w2) := belowCall B_w1.out b B_w1.out.size
  have K_w2 : Hid (Blk w2 w.heap.size (P2 l k) 51) := K_w1.out.below b K_w1.out.lt
  clear b B_w1 K_w1
  have Rv1_w2 : Hid (Rg 5 tfC w2 v1 ls) := o_v1.rd tfC_len
  clear o_v1
  go_wp2_with (fail)
  refine (resM_c l k v1 ls z b m w2 Rv1_w2.out).mono ?_
  rintro e w3 ⟨k1, n1, q1, rfl, hs1, b2⟩
  have HS1 : Hid (ReS ls l k z b m k1 n1 q1) := hs1
  clear hs1
  have B_w3 : Hid (Below w.heap.size w w3) := belowCall B_w2.out b2 B_w2.out.size
  have K_w3 : Hid (Blk w3 w.heap.size (P2 l k) 51) := K_w2.out.below b2 K_w2.out.lt
  have Rv1_w3 : Hid (Rg 5 tfC w3 v1 ls) := Rv1_w2.out.below b2
  clear b2 B_w2 K_w2 Rv1_w2
  have ba : Below w3.heap.size w3 (w3.alloc (Obj.cells (P2 l k1) 25)) := (Below.refl _ _).alloc (Nat.le_refl _) _
  have kb : Blk (w3.alloc (Obj.cells (P2 l k1) 25)) w3.heap.size (P2 l k1) 25 := Blk.new _ _ _
  obtain ⟨X4, hX4⟩ : ∃ X, w3.heap.size = X := ⟨_, rfl⟩
  obtain ⟨W4, hW4⟩ : ∃ W, w3.alloc (Obj.cells (P2 l k1) 25) = W := ⟨_, rfl⟩
  rw [hW4] at ba kb
  rw [hX4] at kb
  have B_W4 : Hid (Below w.heap.size w W4) := belowCall B_w3.out ba B_w3.out.size
  have K_W4 : Hid (Blk W4 w.heap.size (P2 l k) 51) := K_w3.out.below ba K_w3.out.lt
  have M_W4 : Hid (Blk W4 X4 (P2 l k1) 25) := kb
  clear ba kb B_w3 K_w3
  go_wp2_with (fail)
  refine (toTfS_c _ ls W4 (HX.out _ B_W4.out) HL.out).mono ?_
  rintro e w5 ⟨v2, rfl, o_v2, b⟩
  have B_w5 : Hid (Below w.heap.size w w5) := belowCall B_W4.out b B_W4.out.size
  have K_w5 : Hid (Blk w5 w.heap.size (P2 l k) 51) := K_W4.out.below b K_W4.out.lt
  have M_w5 : Hid (Blk w5 X4 (P2 l k1) 25) := M_W4.out.below b M_W4.out.lt
  clear b B_W4 K_W4 M_W4 Rv1_w3 hW4 hX4
  have Rv2_w5 : Hid (Rg 5 tfC w5 v2 ls) := o_v2.rd tfC_len
  clear o_v2
  have x0 := K_w5.out.cell 0
  have x1 := K_w5.out.cell 1
  simp at x0 x1
  go_wp2_with (fail)
  refine (toPurse_c l k w5).mono ?_
  rintro e w6 ⟨rfl, b⟩
  have B_w6 : Hid (Below w.heap.size w w6) := belowCall B_w5.out b B_w5.out.size
  have K_w6 : Hid (Blk w6 w.heap.size (P2 l k) 51) := K_w5.out.below b K_w5.out.lt
  have M_w6 : Hid (Blk w6 X4 (P2 l k1) 25) := M_w5.out.below b M_w5.out.lt
  have Rv2_w6 : Hid (Rg 5 tfC w6 v2 ls) := Rv2_w5.out.below b
  clear b B_w5 K_w5 M_w5 Rv2_w5 x0 x1
  go_wp2_with (fail)
  refine (resI_c l k v2 ls z b m w6 Rv2_w6.out).mono ?_
  rintro e w7 ⟨k2, n2, q2, rfl, hs2, b2⟩
  obtain ⟨rfl, rfl, rfl⟩ := HS1.out.uniq hs2
  clear hs2
  have hbb : (n1 != n1) = false := by simp
  have hbc : (q1 != q1) = false := by simp
  have B_w7 : Hid (Below w.heap.size w w7) := belowCall B_w6.out b2 B_w6.out.size
  have K_w7 : Hid (Blk w7 w.heap.size (P2 l k) 51) := K_w6.out.below b2 K_w6.out.lt
  have M_w7 : Hid (Blk w7 X4 (P2 l k1) 25) := M_w6.out.below b2 M_w6.out.lt
  have Rv2_w7 : Hid (Rg 5 tfC w7 v2 ls) := Rv2_w6.out.below b2
  clear b2 B_w6 K_w6 M_w6 Rv2_w6
  have ba : Below w7.heap.size w7 (w7.alloc (Obj.cells (P2 l k1) 25)) := (Below.refl _ _).alloc (Nat.le_refl _) _
  have kb : Blk (w7.alloc (Obj.cells (P2 l k1) 25)) w7.heap.size (P2 l k1) 25 := Blk.new _ _ _
  obtain ⟨X8, hX8⟩ : ∃ X, w7.heap.size = X := ⟨_, rfl⟩
  obtain ⟨W8, hW8⟩ : ∃ W, w7.alloc (Obj.cells (P2 l k1) 25) = W := ⟨_, rfl⟩
  rw [hW8] at ba kb
  rw [hX8] at kb
  have B_W8 : Hid (Below w.heap.size w W8) := belowCall B_w7.out ba B_w7.out.size
  have K_W8 : Hid (Blk W8 w.heap.size (P2 l k) 51) := K_w7.out.below ba K_w7.out.lt
  have M_W8 : Hid (Blk W8 X4 (P2 l k1) 25) := M_w7.out.below ba M_w7.out.lt
  have Rv2_W8 : Hid (Rg 5 tfC W8 v2 ls) := Rv2_w7.out.below ba
  have G_W8 : Hid (Blk W8 X8 (P2 l k1) 25) := kb
  clear ba kb B_w7 K_w7 M_w7 Rv2_w7
  have y0 := G_W8.out.cell 0
  have y1 := G_W8.out.cell 1
  simp at y0 y1
  have x0 := M_W8.out.cell 0
  have x1 := M_W8.out.cell 1
  simp at x0 x1
  go_wp2_with (fail)
  refine (eqPurse_t l k1 W8).mono ?_
  rintro e w9 ⟨rfl, b5⟩
  have B_w9 : Hid (Below w.heap.size w w9) := belowCall B_W8.out b5 B_W8.out.size
  have K_w9 : Hid (Blk w9 w.heap.size (P2 l k) 51) := K_W8.out.below b5 K_W8.out.lt
  have M_w9 : Hid (Blk w9 X4 (P2 l k1) 25) := M_W8.out.below b5 M_W8.out.lt
  have Rv2_w9 : Hid (Rg 5 tfC w9 v2 ls) := Rv2_W8.out.below b5
  have G_w9 : Hid (Blk w9 X8 (P2 l k1) 25) := G_W8.out.below b5 G_W8.out.lt
  clear b5 B_W8 K_W8 M_W8 Rv2_W8 G_W8 hW8 hX8 y0 y1 x0 x1
  go_wp2_with (fail)
  refine (toTfS_c _ ls w9 (HX.out _ B_w9.out) HL.out).mono ?_
  rintro e w10 ⟨v3, rfl, o_v3, b⟩
  have B_w10 : Hid (Below w.heap.size w w10) := belowCall B_w9.out b B_w9.out.size
  have K_w10 : Hid (Blk w10 w.heap.size (P2 l k) 51) := K_w9.out.below b K_w9.out.lt
  have M_w10 : Hid (Blk w10 X4 (P2 l k1) 25) := M_w9.out.below b M_w9.out.lt
  have Rv2_w10 : Hid (Rg 5 tfC w10 v2 ls) := Rv2_w9.out.below b
  have G_w10 : Hid (Blk w10 X8 (P2 l k1) 25) := G_w9.out.below b G_w9.out.lt
  clear b B_w9 K_w9 M_w9 Rv2_w9 G_w9
  have Rv3_w10 : Hid (Rg 5 tfC w10 v3 ls) := o_v3.rd tfC_len
  clear o_v3
  go_wp2_with (fail)
  refine (eqTfS_t v2 v3 ls w10 Rv2_w10.out Rv3_w10.out).mono ?_
  rintro e w11 ⟨rfl, b6⟩
  have B_w11 : Hid (Below w.heap.size w w11) := belowCall B_w10.out b6 B_w10.out.size
  have K_w11 : Hid (Blk w11 w.heap.size (P2 l k) 51) := K_w10.out.below b6 K_w10.out.lt
  have M_w11 : Hid (Blk w11 X4 (P2 l k1) 25) := M_w10.out.below b6 M_w10.out.lt
  have Rv2_w11 : Hid (Rg 5 tfC w11 v2 ls) := Rv2_w10.out.below b6
  have G_w11 : Hid (Blk w11 X8 (P2 l k1) 25) := G_w10.out.below b6 G_w10.out.lt
  have Rv3_w11 : Hid (Rg 5 tfC w11 v3 ls) := Rv3_w10.out.below b6
  clear b6 B_w10 K_w10 M_w10 Rv2_w10 G_w10 Rv3_w10
  go_wp2
  go_ret
  exact ⟨rfl, B_w11.out⟩
end Go.Proofs.Ytdnophdldpophaa

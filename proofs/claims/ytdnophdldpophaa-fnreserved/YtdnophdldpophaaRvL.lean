/- FnReserved's body answers true at every code; no condition. -/
import Derived.Test.YtdnophdldpophaaRvM
import Derived.Test.YtdnophdldpophaaDrR
import Derived.Test.YtdnophdldpophaaLgL
import Derived.Test.YtdnophdldpophaaOpen
namespace Go.Proofs.Ytdnophdldpophaa
open Go.RowKit Go.ChangeShapes Go.WideShapes Go.ChangeAt
set_option linter.unusedVariables false
set_option linter.unusedSimpArgs false
set_option maxRecDepth 8000
set_option maxHeartbeats 12800000 in
theorem reservedLaw (v : Value) (zs : List Int) (w : World) (h : Rd .u8 w v zs) (hwz : ∀ z ∈ zs, (Lit.int .u8 z).wf = true) :
   Calls Try.prog 3 #[v] w fun e w' => e = .returned (.bool true) ∧ Below w.heap.size w w' := by
  have hz : ∀ z ∈ zs, 0 ≤ z ∧ z ≤ 255 := fun z hm => bounds_u8 (hwz z hm)
  clear hwz
  have HR : Hid (∀ W, Below w.heap.size w W → Rd .u8 W v zs) := fun W hb => h.below hb
  have HZ : Hid (∀ z ∈ zs, 0 ≤ z ∧ z ≤ 255) := hz
  obtain ⟨a, cap, rfl, h1, h2, h3⟩ := h
  clear h3 hz
  unfold maxLen at h2
  obtain ⟨L, hL⟩ : ∃ L, zs.length = L := ⟨_, rfl⟩
  have HLL : Hid (zs.length = L) := hL
  rw [hL] at h1 HR ⊢
  have HBG := big_c (.slice a L cap) zs w (HR.out w (Below.refl _ _))
  rw [hL] at HBG
  have HBG' : Hid (Calls Try.prog 9 #[.slice a L cap] w fun e w' => e = .returned (.bool (decide ((1048576 : Int) < (L : Int)))) ∧ w' = w) := HBG
  clear hL HBG
  by_cases hbig : 1048576 < L
  · have hb : decide ((1048576 : Int) < (L : Int)) = true := by simp; omega
    go_enter Try.func3, Try.ntmps3
    go_wp2_with (fail)
    refine HBG'.out.mono ?_
    rw [hb]
    rintro e w' ⟨rfl, rfl⟩
    go_wp2
    go_ret
    exact ⟨rfl, Below.refl _ _⟩
  have hb : decide ((1048576 : Int) < (L : Int)) = false := by simp; omega
  have HLN : Hid (zs.length ≤ 1048576) := by show _ ≤ _; rw [HLL.out]; omega
  go_enter Try.func3, Try.ntmps3
  go_wp2_with (fail)
  refine HBG'.out.mono ?_
  rw [hb]
  rintro e w' ⟨rfl, hw⟩
  rw [hw]
  clear hw w' hb hbig HBG' h1 h2
  have B_w : Hid (Below w.heap.size w w) := Below.refl _ _
  go_wp2_with (fail)
  refine (drawRes_c (.slice a L cap) zs w (HR.out _ B_w.out) HZ.out HLN.out).mono ?_
  rintro e w1 ⟨l, p, vl, ls, z, b, m, rfl, hl, b1⟩
  have B_w1 : Hid (Below w.heap.size w w1) := belowCall B_w.out b1 B_w.out.size
  clear b1 B_w
  have L_w1 : Hid (Rg 5 tfC w1 vl ls) := hl
  clear hl
  have ba : Below w1.heap.size w1 (w1.alloc (Obj.cells (P2 l p) 25)) := (Below.refl _ _).alloc (Nat.le_refl _) _
  have kb : Blk (w1.alloc (Obj.cells (P2 l p) 25)) w1.heap.size (P2 l p) 25 := Blk.new _ _ _
  obtain ⟨X2, hX2⟩ : ∃ X, w1.heap.size = X := ⟨_, rfl⟩
  obtain ⟨W2, hW2⟩ : ∃ W, w1.alloc (Obj.cells (P2 l p) 25) = W := ⟨_, rfl⟩
  rw [hW2] at ba kb
  rw [hX2] at kb
  have B_W2 : Hid (Below w.heap.size w W2) := belowCall B_w1.out ba B_w1.out.size
  have L_W2 : Hid (Rg 5 tfC W2 vl ls) := L_w1.out.below ba
  have P_W2 : Hid (Blk W2 X2 (P2 l p) 25) := kb
  clear ba kb B_w1 L_w1
  have x0 := P_W2.out.cell 0
  have x1 := P_W2.out.cell 1
  simp at x0 x1
  go_wp2_with (fail)
  refine (resI_c l p vl ls z b m W2 L_W2.out).mono ?_
  rintro e w3 ⟨k1, n1, q1, rfl, hs1, b2⟩
  have HS1 : Hid (ReS ls l p z b m k1 n1 q1) := hs1
  clear hs1
  have B_w3 : Hid (Below w.heap.size w w3) := belowCall B_W2.out b2 B_W2.out.size
  have L_w3 : Hid (Rg 5 tfC w3 vl ls) := L_W2.out.below b2
  have P_w3 : Hid (Blk w3 X2 (P2 l p) 25) := P_W2.out.below b2 P_W2.out.lt
  clear b2 B_W2 L_W2 P_W2 hW2 hX2 x0 x1
  have ba : Below w3.heap.size w3 (w3.alloc (Obj.cells (P2 l k1) 25)) := (Below.refl _ _).alloc (Nat.le_refl _) _
  have kb : Blk (w3.alloc (Obj.cells (P2 l k1) 25)) w3.heap.size (P2 l k1) 25 := Blk.new _ _ _
  obtain ⟨X4, hX4⟩ : ∃ X, w3.heap.size = X := ⟨_, rfl⟩
  obtain ⟨W4, hW4⟩ : ∃ W, w3.alloc (Obj.cells (P2 l k1) 25) = W := ⟨_, rfl⟩
  rw [hW4] at ba kb
  rw [hX4] at kb
  have B_W4 : Hid (Below w.heap.size w W4) := belowCall B_w3.out ba B_w3.out.size
  have L_W4 : Hid (Rg 5 tfC W4 vl ls) := L_w3.out.below ba
  have P_W4 : Hid (Blk W4 X2 (P2 l p) 25) := P_w3.out.below ba P_w3.out.lt
  have N_W4 : Hid (Blk W4 X4 (P2 l k1) 25) := kb
  clear ba kb B_w3 L_w3 P_w3
  have x0 := P_W4.out.cell 0
  have x1 := P_W4.out.cell 1
  simp at x0 x1
  go_wp2_with (fail)
  refine (resM_c l p vl ls z b m W4 L_W4.out).mono ?_
  rintro e w5 ⟨k2, n2, q2, rfl, hs2, b2⟩
  obtain ⟨rfl, rfl, rfl⟩ := HS1.out.uniq hs2
  clear hs2
  have hbb : (n1 != n1) = false := by simp
  have hbc : (q1 != q1) = false := by simp
  have B_w5 : Hid (Below w.heap.size w w5) := belowCall B_W4.out b2 B_W4.out.size
  have L_w5 : Hid (Rg 5 tfC w5 vl ls) := L_W4.out.below b2
  have P_w5 : Hid (Blk w5 X2 (P2 l p) 25) := P_W4.out.below b2 P_W4.out.lt
  have N_w5 : Hid (Blk w5 X4 (P2 l k1) 25) := N_W4.out.below b2 N_W4.out.lt
  clear b2 B_W4 L_W4 P_W4 N_W4 hW4 hX4 x0 x1
  have ba : Below w5.heap.size w5 (w5.alloc (Obj.cells (P2 l k1) 25)) := (Below.refl _ _).alloc (Nat.le_refl _) _
  have kb : Blk (w5.alloc (Obj.cells (P2 l k1) 25)) w5.heap.size (P2 l k1) 25 := Blk.new _ _ _
  obtain ⟨X6, hX6⟩ : ∃ X, w5.heap.size = X := ⟨_, rfl⟩
  obtain ⟨W6, hW6⟩ : ∃ W, w5.alloc (Obj.cells (P2 l k1) 25) = W := ⟨_, rfl⟩
  rw [hW6] at ba kb
  rw [hX6] at kb
  have B_W6 : Hid (Below w.heap.size w W6) := belowCall B_w5.out ba B_w5.out.size
  have L_W6 : Hid (Rg 5 tfC W6 vl ls) := L_w5.out.below ba
  have P_W6 : Hid (Blk W6 X2 (P2 l p) 25) := P_w5.out.below ba P_w5.out.lt
  have N_W6 : Hid (Blk W6 X4 (P2 l k1) 25) := N_w5.out.below ba N_w5.out.lt
  have Y1_W6 : Hid (Blk W6 X6 (P2 l k1) 25) := kb
  clear ba kb B_w5 L_w5 P_w5 N_w5
  have ba : Below W6.heap.size W6 (W6.alloc (Obj.cells #[.int .i64 0, .int .i64 0, .int .i64 10, .int .i64 3, .int .i64 1] 32)) := (Below.refl _ _).alloc (Nat.le_refl _) _
  have ro : Rg 5 tfC (W6.alloc (Obj.cells #[.int .i64 0, .int .i64 0, .int .i64 10, .int .i64 3, .int .i64 1] 32)) (.slice (some ⟨W6.heap.size, 0, none⟩) 1 1) [(0, 0, 10, 3, 1)] := Rg.one (Blk.new _ _ _)
  obtain ⟨Wo, hWo⟩ : ∃ W, W6.alloc (Obj.cells #[.int .i64 0, .int .i64 0, .int .i64 10, .int .i64 3, .int .i64 1] 32) = W := ⟨_, rfl⟩
  obtain ⟨qo, hqo⟩ : ∃ q, W6.heap.size = q := ⟨_, rfl⟩
  rw [hWo] at ba ro
  rw [hqo] at ro
  have HRO : Hid (Rg 5 tfC Wo (.slice (some ⟨qo, 0, none⟩) 1 1) [(0, 0, 10, 3, 1)]) := ro
  have B_Wo : Hid (Below w.heap.size w Wo) := belowCall B_W6.out ba B_W6.out.size
  have L_Wo : Hid (Rg 5 tfC Wo vl ls) := L_W6.out.below ba
  have P_Wo : Hid (Blk Wo X2 (P2 l p) 25) := P_W6.out.below ba P_W6.out.lt
  have N_Wo : Hid (Blk Wo X4 (P2 l k1) 25) := N_W6.out.below ba N_W6.out.lt
  clear ba ro B_W6 L_W6 P_W6 N_W6
  go_wp2_with (fail)
  refine (resI_c 10 0 (.slice (some ⟨qo, 0, none⟩) 1 1) [(0, 0, 10, 3, 1)] 0 0 100 Wo HRO.out).mono ?_
  rintro e w7 ⟨k7, n7, q7, rfl, hs7, b2⟩
  obtain ⟨rfl, rfl, rfl⟩ := small_res hs7
  clear hs7
  have B_w7 : Hid (Below w.heap.size w w7) := belowCall B_Wo.out b2 B_Wo.out.size
  have L_w7 : Hid (Rg 5 tfC w7 vl ls) := L_Wo.out.below b2
  have P_w7 : Hid (Blk w7 X2 (P2 l p) 25) := P_Wo.out.below b2 P_Wo.out.lt
  have N_w7 : Hid (Blk w7 X4 (P2 l k1) 25) := N_Wo.out.below b2 N_Wo.out.lt
  clear b2 B_Wo L_Wo P_Wo N_Wo hW6 hX6 Y1_W6 hWo hqo HRO
  have ba : Below w7.heap.size w7 (w7.alloc (Obj.cells (P2 10 10) 25)) := (Below.refl _ _).alloc (Nat.le_refl _) _
  have kb : Blk (w7.alloc (Obj.cells (P2 10 10) 25)) w7.heap.size (P2 10 10) 25 := Blk.new _ _ _
  obtain ⟨X8, hX8⟩ : ∃ X, w7.heap.size = X := ⟨_, rfl⟩
  obtain ⟨W8, hW8⟩ : ∃ W, w7.alloc (Obj.cells (P2 10 10) 25) = W := ⟨_, rfl⟩
  rw [hW8] at ba kb
  rw [hX8] at kb
  have B_W8 : Hid (Below w.heap.size w W8) := belowCall B_w7.out ba B_w7.out.size
  have L_W8 : Hid (Rg 5 tfC W8 vl ls) := L_w7.out.below ba
  have P_W8 : Hid (Blk W8 X2 (P2 l p) 25) := P_w7.out.below ba P_w7.out.lt
  have N_W8 : Hid (Blk W8 X4 (P2 l k1) 25) := N_w7.out.below ba N_w7.out.lt
  have S_W8 : Hid (Blk W8 X8 (P2 10 10) 25) := kb
  clear ba kb B_w7 L_w7 P_w7 N_w7
  have u0 := S_W8.out.cell 0
  have u1 := S_W8.out.cell 1
  simp at u0 u1
  have g37 := guard37
  have q37 := eqRun37
  have y0 := N_W8.out.cell 0
  have y1 := N_W8.out.cell 1
  simp at y0 y1
  have x0 := P_W8.out.cell 0
  have x1 := P_W8.out.cell 1
  simp at x0 x1
  cases q1 with
  | false =>
    have e := HS1.out.no
    subst e
    go_wp2
    go_ret
    exact ⟨by simp, B_W8.out⟩
  | true =>
  have HF : Hid (ReF ls l p z b m k1 n1) := HS1.out.facts
  obtain ⟨a1, a2, a3⟩ := HF.out.k0
  obtain ⟨b1, b2⟩ := HF.out.b0
  obtain ⟨n01, n02, n03, n04⟩ := HF.out.n0
  obtain ⟨c01, c02⟩ := HF.out.c0
  have hbn := HF.out.bn
  clear HS1
  go_wp2_with (fail)
  refine (rateI_c vl ls z b (b + n1) W8 L_W8.out).mono ?_
  rintro e w9 ⟨s2, c2, q2, rfl, hs2, b6⟩
  obtain ⟨rfl, rfl⟩ := HF.out.at0 _ _ _ hs2
  clear hs2
  have B_w9 : Hid (Below w.heap.size w w9) := belowCall B_W8.out b6 B_W8.out.size
  have L_w9 : Hid (Rg 5 tfC w9 vl ls) := L_W8.out.below b6
  have P_w9 : Hid (Blk w9 X2 (P2 l p) 25) := P_W8.out.below b6 P_W8.out.lt
  have N_w9 : Hid (Blk w9 X4 (P2 l k1) 25) := N_W8.out.below b6 N_W8.out.lt
  clear b6 B_W8 L_W8 P_W8 N_W8 hW8 hX8 u0 u1 S_W8 y0 y1 x0 x1
  have ba : Below w9.heap.size w9 (w9.alloc (Obj.cells (P2 s2 (k1 - p)) 34)) := (Below.refl _ _).alloc (Nat.le_refl _) _
  have kb : Blk (w9.alloc (Obj.cells (P2 s2 (k1 - p)) 34)) w9.heap.size (P2 s2 (k1 - p)) 34 := Blk.new _ _ _
  obtain ⟨X10, hX10⟩ : ∃ X, w9.heap.size = X := ⟨_, rfl⟩
  obtain ⟨W10, hW10⟩ : ∃ W, w9.alloc (Obj.cells (P2 s2 (k1 - p)) 34) = W := ⟨_, rfl⟩
  rw [hW10] at ba kb
  rw [hX10] at kb
  have B_W10 : Hid (Below w.heap.size w W10) := belowCall B_w9.out ba B_w9.out.size
  have L_W10 : Hid (Rg 5 tfC W10 vl ls) := L_w9.out.below ba
  have P_W10 : Hid (Blk W10 X2 (P2 l p) 25) := P_w9.out.below ba P_w9.out.lt
  have N_W10 : Hid (Blk W10 X4 (P2 l k1) 25) := N_w9.out.below ba N_w9.out.lt
  have R_W10 : Hid (Blk W10 X10 (P2 s2 (k1 - p)) 34) := kb
  clear ba kb B_w9 L_w9 P_w9 N_w9
  have u0 := R_W10.out.cell 0
  have u1 := R_W10.out.cell 1
  simp at u0 u1
  have y0 := N_W10.out.cell 0
  have y1 := N_W10.out.cell 1
  simp at y0 y1
  have x0 := P_W10.out.cell 0
  have x1 := P_W10.out.cell 1
  simp at x0 x1
  have t1 : (k1 - p != k1 - p) = false := by simp
  have t2 : (l != l) = false := by simp
  have t3 : (l < k1) = False := eq_false (by omega)
  by_cases hnm : n1 < m
  · go_wp2_with (fail)
    refine (rateI_c vl ls z b (b + n1 + 1) W10 L_W10.out).mono ?_
    rintro e w11 ⟨s3, c3, q3, rfl, hs3, b6⟩
    have HS3 : Hid (RtS ls z b (b + n1 + 1) s3 c3 q3) := hs3
    clear hs3
    have B_w11 : Hid (Below w.heap.size w w11) := belowCall B_W10.out b6 B_W10.out.size
    have L_w11 : Hid (Rg 5 tfC w11 vl ls) := L_W10.out.below b6
    have P_w11 : Hid (Blk w11 X2 (P2 l p) 25) := P_W10.out.below b6 P_W10.out.lt
    have N_w11 : Hid (Blk w11 X4 (P2 l k1) 25) := N_W10.out.below b6 N_W10.out.lt
    clear b6 B_W10 L_W10 P_W10 N_W10 hW10 hX10 u0 u1 y0 y1 x0 x1 R_W10
    have ba : Below w11.heap.size w11 (w11.alloc (Obj.cells (P2 s3 c3) 34)) := (Below.refl _ _).alloc (Nat.le_refl _) _
    have kb : Blk (w11.alloc (Obj.cells (P2 s3 c3) 34)) w11.heap.size (P2 s3 c3) 34 := Blk.new _ _ _
    obtain ⟨X12, hX12⟩ : ∃ X, w11.heap.size = X := ⟨_, rfl⟩
    obtain ⟨W12, hW12⟩ : ∃ W, w11.alloc (Obj.cells (P2 s3 c3) 34) = W := ⟨_, rfl⟩
    rw [hW12] at ba kb
    rw [hX12] at kb
    have B_W12 : Hid (Below w.heap.size w W12) := belowCall B_w11.out ba B_w11.out.size
    have L_W12 : Hid (Rg 5 tfC W12 vl ls) := L_w11.out.below ba
    have P_W12 : Hid (Blk W12 X2 (P2 l p) 25) := P_w11.out.below ba P_w11.out.lt
    have N_W12 : Hid (Blk W12 X4 (P2 l k1) 25) := N_w11.out.below ba N_w11.out.lt
    have M_W12 : Hid (Blk W12 X12 (P2 s3 c3) 34) := kb
    clear ba kb B_w11 L_w11 P_w11 N_w11
    have u0 := M_W12.out.cell 0
    have u1 := M_W12.out.cell 1
    simp at u0 u1
    have x0 := P_W12.out.cell 0
    have x1 := P_W12.out.cell 1
    simp at x0 x1
    cases q3 with
    | false =>
      go_wp2_with (fail)
      refine (at_c (.slice a L cap) zs 1 W12 (HR.out _ B_W12.out) HZ.out (by omega) (by omega) HLN.out).mono ?_
      rintro e w13 ⟨x, rfl, hx0, hx1, hw⟩
      rw [hw]
      clear hw w13 hW12 hX12 u0 u1 x0 x1 M_W12
      have hn1 : 0 < n1 + 1 := by omega
      have hn1' : (n1 + 1 == 0) = false := beq_eq_false_iff_ne.2 (by omega)
      have hmd0 : 0 ≤ x % (n1 + 1) := Int.emod_nonneg _ (by omega)
      have hmd1 : x % (n1 + 1) < n1 + 1 := Int.emod_lt_of_pos _ hn1
      obtain ⟨j, hj⟩ : ∃ j, x % (n1 + 1) = j := ⟨_, rfl⟩
      rw [hj] at hmd0 hmd1
      have HJ : Hid (x % (n1 + 1) = j) := hj
      have hjt : x.tmod (n1 + 1) = j := by rw [Int.tmod_eq_emod_of_nonneg hx0]; exact hj
      clear hj
      go_wp2_with (fail)
      refine (rateI_c vl ls z b (b + j) W12 L_W12.out).mono ?_
      rintro e w13 ⟨s4, c4, q4, rfl, hs4, b6⟩
      obtain ⟨rfl, d1, d2⟩ := HF.out.pt j _ _ _ hmd0 (by omega) hs4
      clear hs4
      have B_w13 : Hid (Below w.heap.size w w13) := belowCall B_W12.out b6 B_W12.out.size
      have L_w13 : Hid (Rg 5 tfC w13 vl ls) := L_W12.out.below b6
      have P_w13 : Hid (Blk w13 X2 (P2 l p) 25) := P_W12.out.below b6 P_W12.out.lt
      have N_w13 : Hid (Blk w13 X4 (P2 l k1) 25) := N_W12.out.below b6 N_W12.out.lt
      clear b6 B_W12 L_W12 P_W12 N_W12
      have ba : Below w13.heap.size w13 (w13.alloc (Obj.cells (P2 s4 c4) 34)) := (Below.refl _ _).alloc (Nat.le_refl _) _
      have kb : Blk (w13.alloc (Obj.cells (P2 s4 c4) 34)) w13.heap.size (P2 s4 c4) 34 := Blk.new _ _ _
      obtain ⟨X14, hX14⟩ : ∃ X, w13.heap.size = X := ⟨_, rfl⟩
      obtain ⟨W14, hW14⟩ : ∃ W, w13.alloc (Obj.cells (P2 s4 c4) 34) = W := ⟨_, rfl⟩
      rw [hW14] at ba kb
      rw [hX14] at kb
      have B_W14 : Hid (Below w.heap.size w W14) := belowCall B_w13.out ba B_w13.out.size
      have L_W14 : Hid (Rg 5 tfC W14 vl ls) := L_w13.out.below ba
      have P_W14 : Hid (Blk W14 X2 (P2 l p) 25) := P_w13.out.below ba P_w13.out.lt
      have N_W14 : Hid (Blk W14 X4 (P2 l k1) 25) := N_w13.out.below ba N_w13.out.lt
      have G_W14 : Hid (Blk W14 X14 (P2 s4 c4) 34) := kb
      clear ba kb B_w13 L_w13 P_w13 N_w13
      have u0 := G_W14.out.cell 0
      have u1 := G_W14.out.cell 1
      simp at u0 u1
      have y0 := N_W14.out.cell 0
      have y1 := N_W14.out.cell 1
      simp at y0 y1
      have hsf : setF l k1 (k1 - p) c4 = .tuple #[.agg (P2 (l - c4) p), .bool true] := by
        have h : setOk l k1 (k1 - p) c4 = true := by simp [setOk, pOk]; omega
        rw [setF, h, if_pos rfl, show k1 - (k1 - p) = p by omega]
      have HSF : Hid (setF l k1 (k1 - p) c4 = .tuple #[.agg (P2 (l - c4) p), .bool true]) := hsf
      clear hsf
      go_wp2_with (fail)
      refine (setI_c l k1 (k1 - p) c4 W14).mono ?_
      rw [HSF.out]
      rintro e w15 ⟨rfl, b6⟩
      have B_w15 : Hid (Below w.heap.size w w15) := belowCall B_W14.out b6 B_W14.out.size
      have L_w15 : Hid (Rg 5 tfC w15 vl ls) := L_W14.out.below b6
      have P_w15 : Hid (Blk w15 X2 (P2 l p) 25) := P_W14.out.below b6 P_W14.out.lt
      have N_w15 : Hid (Blk w15 X4 (P2 l k1) 25) := N_W14.out.below b6 N_W14.out.lt
      have G_w15 : Hid (Blk w15 X14 (P2 s4 c4) 34) := G_W14.out.below b6 G_W14.out.lt
      clear b6 B_W14 L_W14 P_W14 N_W14 G_W14 hW14 hX14 u0 u1 y0 y1
      have ba : Below w15.heap.size w15 (w15.alloc (Obj.cells (P2 (l - c4) p) 25)) := (Below.refl _ _).alloc (Nat.le_refl _) _
      have kb : Blk (w15.alloc (Obj.cells (P2 (l - c4) p) 25)) w15.heap.size (P2 (l - c4) p) 25 := Blk.new _ _ _
      obtain ⟨X16, hX16⟩ : ∃ X, w15.heap.size = X := ⟨_, rfl⟩
      obtain ⟨W16, hW16⟩ : ∃ W, w15.alloc (Obj.cells (P2 (l - c4) p) 25) = W := ⟨_, rfl⟩
      rw [hW16] at ba kb
      rw [hX16] at kb
      have B_W16 : Hid (Below w.heap.size w W16) := belowCall B_w15.out ba B_w15.out.size
      have L_W16 : Hid (Rg 5 tfC W16 vl ls) := L_w15.out.below ba
      have P_W16 : Hid (Blk W16 X2 (P2 l p) 25) := P_w15.out.below ba P_w15.out.lt
      have N_W16 : Hid (Blk W16 X4 (P2 l k1) 25) := N_w15.out.below ba N_w15.out.lt
      have G_W16 : Hid (Blk W16 X14 (P2 s4 c4) 34) := G_w15.out.below ba G_w15.out.lt
      have E_W16 : Hid (Blk W16 X16 (P2 (l - c4) p) 25) := kb
      clear ba kb B_w15 L_w15 P_w15 N_w15 G_w15
      have v0 := E_W16.out.cell 0
      have v1 := E_W16.out.cell 1
      simp at v0 v1
      have u0 := G_W16.out.cell 0
      have u1 := G_W16.out.cell 1
      simp at u0 u1
      have x0 := P_W16.out.cell 0
      have x1 := P_W16.out.cell 1
      simp at x0 x1
      have e1 : (p == p) = true := by simp
      have e2 : (l - c4 == l - c4) = true := by simp
      have e3 : p ≤ l - c4 := by omega
      go_wp2
      go_ret
      exact ⟨rfl, B_W16.out⟩
    | true =>
      have hov := HF.out.ov hnm _ _ HS3.out
      have hovF : (c3 ≤ l - p) = False := eq_false (by omega)
      clear hov
      go_wp2_with (fail)
      refine (at_c (.slice a L cap) zs 1 W12 (HR.out _ B_W12.out) HZ.out (by omega) (by omega) HLN.out).mono ?_
      rintro e w13 ⟨x, rfl, hx0, hx1, hw⟩
      rw [hw]
      clear hw w13 hW12 hX12 u0 u1 x0 x1 M_W12
      have hn1 : 0 < n1 + 1 := by omega
      have hn1' : (n1 + 1 == 0) = false := beq_eq_false_iff_ne.2 (by omega)
      have hmd0 : 0 ≤ x % (n1 + 1) := Int.emod_nonneg _ (by omega)
      have hmd1 : x % (n1 + 1) < n1 + 1 := Int.emod_lt_of_pos _ hn1
      obtain ⟨j, hj⟩ : ∃ j, x % (n1 + 1) = j := ⟨_, rfl⟩
      rw [hj] at hmd0 hmd1
      have HJ : Hid (x % (n1 + 1) = j) := hj
      have hjt : x.tmod (n1 + 1) = j := by rw [Int.tmod_eq_emod_of_nonneg hx0]; exact hj
      clear hj
      go_wp2_with (fail)
      refine (rateI_c vl ls z b (b + j) W12 L_W12.out).mono ?_
      rintro e w13 ⟨s4, c4, q4, rfl, hs4, b6⟩
      obtain ⟨rfl, d1, d2⟩ := HF.out.pt j _ _ _ hmd0 (by omega) hs4
      clear hs4
      have B_w13 : Hid (Below w.heap.size w w13) := belowCall B_W12.out b6 B_W12.out.size
      have L_w13 : Hid (Rg 5 tfC w13 vl ls) := L_W12.out.below b6
      have P_w13 : Hid (Blk w13 X2 (P2 l p) 25) := P_W12.out.below b6 P_W12.out.lt
      have N_w13 : Hid (Blk w13 X4 (P2 l k1) 25) := N_W12.out.below b6 N_W12.out.lt
      clear b6 B_W12 L_W12 P_W12 N_W12
      have ba : Below w13.heap.size w13 (w13.alloc (Obj.cells (P2 s4 c4) 34)) := (Below.refl _ _).alloc (Nat.le_refl _) _
      have kb : Blk (w13.alloc (Obj.cells (P2 s4 c4) 34)) w13.heap.size (P2 s4 c4) 34 := Blk.new _ _ _
      obtain ⟨X14, hX14⟩ : ∃ X, w13.heap.size = X := ⟨_, rfl⟩
      obtain ⟨W14, hW14⟩ : ∃ W, w13.alloc (Obj.cells (P2 s4 c4) 34) = W := ⟨_, rfl⟩
      rw [hW14] at ba kb
      rw [hX14] at kb
      have B_W14 : Hid (Below w.heap.size w W14) := belowCall B_w13.out ba B_w13.out.size
      have L_W14 : Hid (Rg 5 tfC W14 vl ls) := L_w13.out.below ba
      have P_W14 : Hid (Blk W14 X2 (P2 l p) 25) := P_w13.out.below ba P_w13.out.lt
      have N_W14 : Hid (Blk W14 X4 (P2 l k1) 25) := N_w13.out.below ba N_w13.out.lt
      have G_W14 : Hid (Blk W14 X14 (P2 s4 c4) 34) := kb
      clear ba kb B_w13 L_w13 P_w13 N_w13
      have u0 := G_W14.out.cell 0
      have u1 := G_W14.out.cell 1
      simp at u0 u1
      have y0 := N_W14.out.cell 0
      have y1 := N_W14.out.cell 1
      simp at y0 y1
      have hsf : setF l k1 (k1 - p) c4 = .tuple #[.agg (P2 (l - c4) p), .bool true] := by
        have h : setOk l k1 (k1 - p) c4 = true := by simp [setOk, pOk]; omega
        rw [setF, h, if_pos rfl, show k1 - (k1 - p) = p by omega]
      have HSF : Hid (setF l k1 (k1 - p) c4 = .tuple #[.agg (P2 (l - c4) p), .bool true]) := hsf
      clear hsf
      go_wp2_with (fail)
      refine (setI_c l k1 (k1 - p) c4 W14).mono ?_
      rw [HSF.out]
      rintro e w15 ⟨rfl, b6⟩
      have B_w15 : Hid (Below w.heap.size w w15) := belowCall B_W14.out b6 B_W14.out.size
      have L_w15 : Hid (Rg 5 tfC w15 vl ls) := L_W14.out.below b6
      have P_w15 : Hid (Blk w15 X2 (P2 l p) 25) := P_W14.out.below b6 P_W14.out.lt
      have N_w15 : Hid (Blk w15 X4 (P2 l k1) 25) := N_W14.out.below b6 N_W14.out.lt
      have G_w15 : Hid (Blk w15 X14 (P2 s4 c4) 34) := G_W14.out.below b6 G_W14.out.lt
      clear b6 B_W14 L_W14 P_W14 N_W14 G_W14 hW14 hX14 u0 u1 y0 y1
      have ba : Below w15.heap.size w15 (w15.alloc (Obj.cells (P2 (l - c4) p) 25)) := (Below.refl _ _).alloc (Nat.le_refl _) _
      have kb : Blk (w15.alloc (Obj.cells (P2 (l - c4) p) 25)) w15.heap.size (P2 (l - c4) p) 25 := Blk.new _ _ _
      obtain ⟨X16, hX16⟩ : ∃ X, w15.heap.size = X := ⟨_, rfl⟩
      obtain ⟨W16, hW16⟩ : ∃ W, w15.alloc (Obj.cells (P2 (l - c4) p) 25) = W := ⟨_, rfl⟩
      rw [hW16] at ba kb
      rw [hX16] at kb
      have B_W16 : Hid (Below w.heap.size w W16) := belowCall B_w15.out ba B_w15.out.size
      have L_W16 : Hid (Rg 5 tfC W16 vl ls) := L_w15.out.below ba
      have P_W16 : Hid (Blk W16 X2 (P2 l p) 25) := P_w15.out.below ba P_w15.out.lt
      have N_W16 : Hid (Blk W16 X4 (P2 l k1) 25) := N_w15.out.below ba N_w15.out.lt
      have G_W16 : Hid (Blk W16 X14 (P2 s4 c4) 34) := G_w15.out.below ba G_w15.out.lt
      have E_W16 : Hid (Blk W16 X16 (P2 (l - c4) p) 25) := kb
      clear ba kb B_w15 L_w15 P_w15 N_w15 G_w15
      have v0 := E_W16.out.cell 0
      have v1 := E_W16.out.cell 1
      simp at v0 v1
      have u0 := G_W16.out.cell 0
      have u1 := G_W16.out.cell 1
      simp at u0 u1
      have x0 := P_W16.out.cell 0
      have x1 := P_W16.out.cell 1
      simp at x0 x1
      have e1 : (p == p) = true := by simp
      have e2 : (l - c4 == l - c4) = true := by simp
      have e3 : p ≤ l - c4 := by omega
      go_wp2
      go_ret
      exact ⟨rfl, B_W16.out⟩
  · have hnmF : (n1 < m) = False := eq_false hnm
    clear hnm
    go_wp2_with (fail)
    refine (at_c (.slice a L cap) zs 1 W10 (HR.out _ B_W10.out) HZ.out (by omega) (by omega) HLN.out).mono ?_
    rintro e w11 ⟨x, rfl, hx0, hx1, hw⟩
    rw [hw]
    clear hw w11 hW10 hX10 u0 u1 y0 y1 x0 x1 R_W10
    have hn1 : 0 < n1 + 1 := by omega
    have hn1' : (n1 + 1 == 0) = false := beq_eq_false_iff_ne.2 (by omega)
    have hmd0 : 0 ≤ x % (n1 + 1) := Int.emod_nonneg _ (by omega)
    have hmd1 : x % (n1 + 1) < n1 + 1 := Int.emod_lt_of_pos _ hn1
    obtain ⟨j, hj⟩ : ∃ j, x % (n1 + 1) = j := ⟨_, rfl⟩
    rw [hj] at hmd0 hmd1
    have HJ : Hid (x % (n1 + 1) = j) := hj
    have hjt : x.tmod (n1 + 1) = j := by rw [Int.tmod_eq_emod_of_nonneg hx0]; exact hj
    clear hj
    go_wp2_with (fail)
    refine (rateI_c vl ls z b (b + j) W10 L_W10.out).mono ?_
    rintro e w11 ⟨s4, c4, q4, rfl, hs4, b6⟩
    obtain ⟨rfl, d1, d2⟩ := HF.out.pt j _ _ _ hmd0 (by omega) hs4
    clear hs4
    have B_w11 : Hid (Below w.heap.size w w11) := belowCall B_W10.out b6 B_W10.out.size
    have L_w11 : Hid (Rg 5 tfC w11 vl ls) := L_W10.out.below b6
    have P_w11 : Hid (Blk w11 X2 (P2 l p) 25) := P_W10.out.below b6 P_W10.out.lt
    have N_w11 : Hid (Blk w11 X4 (P2 l k1) 25) := N_W10.out.below b6 N_W10.out.lt
    clear b6 B_W10 L_W10 P_W10 N_W10
    have ba : Below w11.heap.size w11 (w11.alloc (Obj.cells (P2 s4 c4) 34)) := (Below.refl _ _).alloc (Nat.le_refl _) _
    have kb : Blk (w11.alloc (Obj.cells (P2 s4 c4) 34)) w11.heap.size (P2 s4 c4) 34 := Blk.new _ _ _
    obtain ⟨X12, hX12⟩ : ∃ X, w11.heap.size = X := ⟨_, rfl⟩
    obtain ⟨W12, hW12⟩ : ∃ W, w11.alloc (Obj.cells (P2 s4 c4) 34) = W := ⟨_, rfl⟩
    rw [hW12] at ba kb
    rw [hX12] at kb
    have B_W12 : Hid (Below w.heap.size w W12) := belowCall B_w11.out ba B_w11.out.size
    have L_W12 : Hid (Rg 5 tfC W12 vl ls) := L_w11.out.below ba
    have P_W12 : Hid (Blk W12 X2 (P2 l p) 25) := P_w11.out.below ba P_w11.out.lt
    have N_W12 : Hid (Blk W12 X4 (P2 l k1) 25) := N_w11.out.below ba N_w11.out.lt
    have G_W12 : Hid (Blk W12 X12 (P2 s4 c4) 34) := kb
    clear ba kb B_w11 L_w11 P_w11 N_w11
    have u0 := G_W12.out.cell 0
    have u1 := G_W12.out.cell 1
    simp at u0 u1
    have y0 := N_W12.out.cell 0
    have y1 := N_W12.out.cell 1
    simp at y0 y1
    have hsf : setF l k1 (k1 - p) c4 = .tuple #[.agg (P2 (l - c4) p), .bool true] := by
      have h : setOk l k1 (k1 - p) c4 = true := by simp [setOk, pOk]; omega
      rw [setF, h, if_pos rfl, show k1 - (k1 - p) = p by omega]
    have HSF : Hid (setF l k1 (k1 - p) c4 = .tuple #[.agg (P2 (l - c4) p), .bool true]) := hsf
    clear hsf
    go_wp2_with (fail)
    refine (setI_c l k1 (k1 - p) c4 W12).mono ?_
    rw [HSF.out]
    rintro e w13 ⟨rfl, b6⟩
    have B_w13 : Hid (Below w.heap.size w w13) := belowCall B_W12.out b6 B_W12.out.size
    have L_w13 : Hid (Rg 5 tfC w13 vl ls) := L_W12.out.below b6
    have P_w13 : Hid (Blk w13 X2 (P2 l p) 25) := P_W12.out.below b6 P_W12.out.lt
    have N_w13 : Hid (Blk w13 X4 (P2 l k1) 25) := N_W12.out.below b6 N_W12.out.lt
    have G_w13 : Hid (Blk w13 X12 (P2 s4 c4) 34) := G_W12.out.below b6 G_W12.out.lt
    clear b6 B_W12 L_W12 P_W12 N_W12 G_W12 hW12 hX12 u0 u1 y0 y1
    have ba : Below w13.heap.size w13 (w13.alloc (Obj.cells (P2 (l - c4) p) 25)) := (Below.refl _ _).alloc (Nat.le_refl _) _
    have kb : Blk (w13.alloc (Obj.cells (P2 (l - c4) p) 25)) w13.heap.size (P2 (l - c4) p) 25 := Blk.new _ _ _
    obtain ⟨X14, hX14⟩ : ∃ X, w13.heap.size = X := ⟨_, rfl⟩
    obtain ⟨W14, hW14⟩ : ∃ W, w13.alloc (Obj.cells (P2 (l - c4) p) 25) = W := ⟨_, rfl⟩
    rw [hW14] at ba kb
    rw [hX14] at kb
    have B_W14 : Hid (Below w.heap.size w W14) := belowCall B_w13.out ba B_w13.out.size
    have L_W14 : Hid (Rg 5 tfC W14 vl ls) := L_w13.out.below ba
    have P_W14 : Hid (Blk W14 X2 (P2 l p) 25) := P_w13.out.below ba P_w13.out.lt
    have N_W14 : Hid (Blk W14 X4 (P2 l k1) 25) := N_w13.out.below ba N_w13.out.lt
    have G_W14 : Hid (Blk W14 X12 (P2 s4 c4) 34) := G_w13.out.below ba G_w13.out.lt
    have E_W14 : Hid (Blk W14 X14 (P2 (l - c4) p) 25) := kb
    clear ba kb B_w13 L_w13 P_w13 N_w13 G_w13
    have v0 := E_W14.out.cell 0
    have v1 := E_W14.out.cell 1
    simp at v0 v1
    have u0 := G_W14.out.cell 0
    have u1 := G_W14.out.cell 1
    simp at u0 u1
    have x0 := P_W14.out.cell 0
    have x1 := P_W14.out.cell 1
    simp at x0 x1
    have e1 : (p == p) = true := by simp
    have e2 : (l - c4 == l - c4) = true := by simp
    have e3 : p ≤ l - c4 := by omega
    go_wp2
    go_ret
    exact ⟨rfl, B_W14.out⟩
end Go.Proofs.Ytdnophdldpophaa

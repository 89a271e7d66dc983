/- The bodies of FnExactTariffsOk and FnExactTariffAt answer true; no condition. -/
import Derived.Test.YtdnophdldpophaaRT
namespace Go.Proofs.Ytdnophdldpophaa
open Go.RowKit Go.ChangeShapes Go.WideShapes Go.ChangeAt
set_option linter.unusedVariables false
set_option linter.unusedSimpArgs false
set_option maxRecDepth 8000
theorem eqTfS_t (v v' : Value) (xs : List Tf) (w : World) (h : Rg 5 tfC w v xs) (h' : Rg 5 tfC w v' xs) :
   Calls Try.prog 20 #[v, v'] w fun e w' => e = .returned (.bool true) ∧ Below w.heap.size w w' :=
  (eqTfS_c v v' xs xs w h h').mono fun e w' he => ⟨by rw [he.1]; simp, he.2⟩
theorem eqPurse_t (x0 x1 : Int) (w : World) : Calls Try.prog 26 #[.agg (P2 x0 x1), .agg (P2 x0 x1)] w fun e w' => e = .returned (.bool true) ∧ Below w.heap.size w w' :=
  (eqPurse_c x0 x1 x0 x1 w).mono fun e w' he => ⟨by rw [he.1]; simp, he.2⟩
theorem eqCharge_t (x0 x1 : Int) (w : World) : Calls Try.prog 24 #[.agg (P2 x0 x1), .agg (P2 x0 x1)] w fun e w' => e = .returned (.bool true) ∧ Below w.heap.size w w' := by
  have HB : Hid (Below w.heap.size w ((w.alloc (Obj.cells (P2 x0 x1) 34)).alloc (Obj.cells (P2 x0 x1) 34))) := ((Below.refl _ _).alloc (Nat.le_refl _) _).alloc (by simp) _
  go_enter Try.func24, Try.ntmps24
  go_wp2
  go_ret
  exact ⟨rfl, HB.out⟩
set_option maxHeartbeats 6400000 in
theorem tariffsOkLaw (v : Value) (ls : List Tf) (w : World) (h : Rg 5 tfC w v ls) : Calls Try.prog 4 #[v] w fun e w' => e = .returned (.bool true) ∧ Below w.heap.size w w' := by
  have HX : Hid (∀ W, Below w.heap.size w W → Rg 5 tfC W v ls) := fun W hb => h.below hb
  obtain ⟨oa, oc, rfl, -, ocm, -⟩ := h
  obtain ⟨m0, hm⟩ : ∃ m, ls.length = m := ⟨_, rfl⟩
  have HM : Hid (ls.length = m0) := hm
  rw [hm] at HX ⊢
  clear hm ocm
  have B_w : Hid (Below w.heap.size w w) := Below.refl _ _
  go_enter Try.func4, Try.ntmps4
  go_wp2_with (fail)
  refine (szTfS_c _ ls 1048576 w (HX.out _ B_w.out) (by decide) (by decide)).mono ?_
  rintro e w1 ⟨rfl, hw⟩
  rw [hw]
  clear hw w1
  rw [HM.out]
  by_cases hbig : (1048576 : Int) < m0
  · rw [if_pos hbig]
    go_wp2
    go_ret
    exact ⟨rfl, B_w.out⟩
  rw [if_neg hbig]
  have HL : Hid (ls.length ≤ 1048576) := by show _ ≤ _; rw [HM.out]; omega
  have hn1 : ((1048576 : Int) - (m0 : Int) < 0) = False := eq_false (by omega)
  have hn2 : 0 ≤ (1048576 : Int) - (m0 : Int) := by omega
  clear hbig
  go_wp2_with (fail)
  refine (toTfS_c _ ls w (HX.out _ B_w.out) HL.out).mono ?_
  rintro e w1 ⟨v1, rfl, o_v1, b⟩
  have B_w1 : Hid (Below w.heap.size w w1) := belowCall B_w.out b B_w.out.size
  clear b B_w
  have Rv1_w1 : Hid (Rg 5 tfC w1 v1 ls) := o_v1.rd tfC_len
  clear o_v1
  go_wp2_with (fail)
  refine (tariffsM_c v1 ls w1 Rv1_w1.out).mono ?_
  rintro e w2 ⟨r1, rfl, hr1, b⟩
  have HR1 : Hid (r1 = true ↔ TfOk ls) := hr1
  clear hr1
  have B_w2 : Hid (Below w.heap.size w w2) := belowCall B_w1.out b B_w1.out.size
  have Rv1_w2 : Hid (Rg 5 tfC w2 v1 ls) := Rv1_w1.out.below b
  clear b B_w1 Rv1_w1
  go_wp2_with (fail)
  refine (toTfS_c _ ls w2 (HX.out _ B_w2.out) HL.out).mono ?_
  rintro e w3 ⟨v2, rfl, o_v2, b⟩
  have B_w3 : Hid (Below w.heap.size w w3) := belowCall B_w2.out b B_w2.out.size
  clear b B_w2 Rv1_w2
  have Rv2_w3 : Hid (Rg 5 tfC w3 v2 ls) := o_v2.rd tfC_len
  clear o_v2
  go_wp2_with (fail)
  refine (tariffsI_c v2 ls w3 Rv2_w3.out).mono ?_
  rintro e w4 ⟨r2, rfl, hr2, b⟩
  obtain rfl : r1 = r2 := by
    cases r1 <;> cases r2
    · rfl
    · exact absurd (HR1.out.2 (hr2.1 rfl)) (by simp)
    · exact absurd (hr2.2 (HR1.out.1 rfl)) (by simp)
    · rfl
  clear hr2
  have hbb : (r1 != r1) = false := by simp
  have B_w4 : Hid (Below w.heap.size w w4) := belowCall B_w3.out b B_w3.out.size
  have Rv2_w4 : Hid (Rg 5 tfC w4 v2 ls) := Rv2_w3.out.below b
  clear b B_w3 Rv2_w3
  go_wp2_with (fail)
  refine (toTfS_c _ ls w4 (HX.out _ B_w4.out) HL.out).mono ?_
  rintro e w5 ⟨v3, rfl, o_v3, b⟩
  have B_w5 : Hid (Below w.heap.size w w5) := belowCall B_w4.out b B_w4.out.size
  have Rv2_w5 : Hid (Rg 5 tfC w5 v2 ls) := Rv2_w4.out.below b
  clear b B_w4 Rv2_w4
  have Rv3_w5 : Hid (Rg 5 tfC w5 v3 ls) := o_v3.rd tfC_len
  clear o_v3
  go_wp2_with (fail)
  refine (eqTfS_t v2 v3 ls w5 Rv2_w5.out Rv3_w5.out).mono ?_
  rintro e w6 ⟨rfl, b6⟩
  have B_w6 : Hid (Below w.heap.size w w6) := belowCall B_w5.out b6 B_w5.out.size
  have Rv2_w6 : Hid (Rg 5 tfC w6 v2 ls) := Rv2_w5.out.below b6
  have Rv3_w6 : Hid (Rg 5 tfC w6 v3 ls) := Rv3_w5.out.below b6
  clear b6 B_w5 Rv2_w5 Rv3_w5
  go_wp2
  go_ret
  exact ⟨rfl, B_w6.out⟩
set_option maxHeartbeats 6400000 in
theorem tariffAtLaw (v : Value) (ls : List Tf) (z t : Int) (w : World) (h : Rg 5 tfC w v ls) : Calls Try.prog 5 #[v, .int .i64 z, .int .i64 t] w fun e w' => e = .returned (.bool true) ∧ Below w.heap.size w w' := by
  have HX : Hid (∀ W, Below w.heap.size w W → Rg 5 tfC W v ls) := fun W hb => h.below hb
  obtain ⟨oa, oc, rfl, -, ocm, -⟩ := h
  obtain ⟨m0, hm⟩ : ∃ m, ls.length = m := ⟨_, rfl⟩
  have HM : Hid (ls.length = m0) := hm
  rw [hm] at HX ⊢
  clear hm ocm
  have B_w : Hid (Below w.heap.size w w) := Below.refl _ _
  go_enter Try.func5, Try.ntmps5
  go_wp2_with (fail)
  refine (szTfS_c _ ls 1048576 w (HX.out _ B_w.out) (by decide) (by decide)).mono ?_
  rintro e w1 ⟨rfl, hw⟩
  rw [hw]
  clear hw w1
  rw [HM.out]
  by_cases hbig : (1048576 : Int) < m0
  · rw [if_pos hbig]
    go_wp2
    go_ret
    exact ⟨rfl, B_w.out⟩
  rw [if_neg hbig]
  have HL : Hid (ls.length ≤ 1048576) := by show _ ≤ _; rw [HM.out]; omega
  have hn1 : ((1048576 : Int) - (m0 : Int) < 0) = False := eq_false (by omega)
  have hn2 : 0 ≤ (1048576 : Int) - (m0 : Int) := by omega
  clear hbig
  go_wp2_with (fail)
  refine (toTfS_c _ ls w (HX.out _ B_w.out) HL.out).mono ?_
  rintro e w1 ⟨v1, rfl, o_v1, b⟩
  have B_w1 : Hid (Below w.heap.size w w1) := belowCall B_w.out b B_w.out.size
  clear b B_w
  have Rv1_w1 : Hid (Rg 5 tfC w1 v1 ls) := o_v1.rd tfC_len
  clear o_v1
  go_wp2_with (fail)
  refine (atM_c v1 ls z t w1 Rv1_w1.out).mono ?_
  rintro e w2 ⟨p1, rfl, hp1, hp1n, b⟩
  have HP1 : Hid ((TfOk ls ∧ 0 ≤ t ∧ t ≤ 1000000000 → p1 = hoF ls z t) ∧ (¬ (TfOk ls ∧ 0 ≤ t ∧ t ≤ 1000000000) → p1 = -1)) := ⟨hp1, hp1n⟩
  clear hp1 hp1n
  obtain ⟨q1, hq1⟩ : ∃ q, decide (0 ≤ p1) = q := ⟨_, rfl⟩
  rw [hq1]
  have HQ1 : Hid (decide (0 ≤ p1) = q1) := hq1
  clear hq1
  have B_w2 : Hid (Below w.heap.size w w2) := belowCall B_w1.out b B_w1.out.size
  have Rv1_w2 : Hid (Rg 5 tfC w2 v1 ls) := Rv1_w1.out.below b
  clear b B_w1 Rv1_w1
  go_wp2_with (fail)
  refine (toTfS_c _ ls w2 (HX.out _ B_w2.out) HL.out).mono ?_
  rintro e w3 ⟨v2, rfl, o_v2, b⟩
  have B_w3 : Hid (Below w.heap.size w w3) := belowCall B_w2.out b B_w2.out.size
  clear b B_w2 Rv1_w2
  have Rv2_w3 : Hid (Rg 5 tfC w3 v2 ls) := o_v2.rd tfC_len
  clear o_v2
  go_wp2_with (fail)
  refine (atI_c v2 ls z t w3 Rv2_w3.out).mono ?_
  rintro e w4 ⟨p2, rfl, hp2, hp2n, b⟩
  obtain rfl : p1 = p2 := by
    by_cases hc : TfOk ls ∧ 0 ≤ t ∧ t ≤ 1000000000
    · rw [HP1.out.1 hc, hp2 hc]
    · rw [HP1.out.2 hc, hp2n hc]
  rw [HQ1.out]
  clear hp2 hp2n
  have hbb : (p1 != p1) = false := by simp
  have hbc : (q1 != q1) = false := by simp
  have B_w4 : Hid (Below w.heap.size w w4) := belowCall B_w3.out b B_w3.out.size
  have Rv2_w4 : Hid (Rg 5 tfC w4 v2 ls) := Rv2_w3.out.below b
  clear b B_w3 Rv2_w3
  go_wp2_with (fail)
  refine (toTfS_c _ ls w4 (HX.out _ B_w4.out) HL.out).mono ?_
  rintro e w5 ⟨v3, rfl, o_v3, b⟩
  have B_w5 : Hid (Below w.heap.size w w5) := belowCall B_w4.out b B_w4.out.size
  have Rv2_w5 : Hid (Rg 5 tfC w5 v2 ls) := Rv2_w4.out.below b
  clear b B_w4 Rv2_w4
  have Rv3_w5 : Hid (Rg 5 tfC w5 v3 ls) := o_v3.rd tfC_len
  clear o_v3
  go_wp2_with (fail)
  refine (eqTfS_t v2 v3 ls w5 Rv2_w5.out Rv3_w5.out).mono ?_
  rintro e w6 ⟨rfl, b6⟩
  have B_w6 : Hid (Below w.heap.size w w6) := belowCall B_w5.out b6 B_w5.out.size
  have Rv2_w6 : Hid (Rg 5 tfC w6 v2 ls) := Rv2_w5.out.below b6
  have Rv3_w6 : Hid (Rg 5 tfC w6 v3 ls) := Rv3_w5.out.below b6
  clear b6 B_w5 Rv2_w5 Rv3_w5
  go_wp2
  go_ret
  exact ⟨rfl, B_w6.out⟩
end Go.Proofs.Ytdnophdldpophaa

/- Served, the program's way; no condition. -/
import Derived.Test.YtpmmgbinogokfaaMdC
namespace Go.Proofs.Ytpmmgbinogokfaa
open Go.RowKit Go.ChangeShapes Go.WideShapes Go.ChangeAt
set_option linter.unusedVariables false
set_option linter.unusedSimpArgs false
set_option maxRecDepth 8000
instance (n : Int) (gs : List Ag) (j : Nat) : Decidable (AgTo n gs j) := by unfold AgTo; exact inferInstance
instance (n : Int) (gs : List Ag) : Decidable (AgsOk n gs) := by unfold AgsOk; exact inferInstance
instance (n : Int) (gs : List Ag) (qs : List Wt) (j : Nat) : Decidable (QTo n gs qs j) := by unfold QTo; exact inferInstance
instance (n : Int) (gs : List Ag) (qs : List Wt) : Decidable (QsOk n gs qs) := by unfold QsOk; exact inferInstance
instance (n g : Int) (gs : List Ag) (qs : List Wt) : Decidable (DkOk n g gs qs) := by unfold DkOk; exact inferInstance
/-- what Served tells -/
def servB (gs : List Ag) (qs : List Wt) (c : Int) : Int × Int := match gs.findIdx? (fun x => x.2.1 == c) with
  | some i => (0, (i : Int))
  | none => match qs.findIdx? (fun x => x.1 == c) with
    | some i => (1, (i : Int))
    | none => (2, -1)
def servF (n g : Int) (gs : List Ag) (qs : List Wt) (c : Int) : Int × Int := if DkOk n g gs qs ∧ 0 ≤ c then servB gs qs c else (2, -1)
theorem optI_some {o : Option Nat} {z : Int} (h : optI o = z) (hz : 0 ≤ z) : ∃ i : Nat, o = some i ∧ z = i := by
  cases o with
  | none => simp [optI] at h; omega
  | some i => exact ⟨i, rfl, h.symm⟩
theorem serv_big {n g : Int} {gs : List Ag} {qs : List Wt} {c : Int} (h : DkOk n g gs qs) (hc : ¬ c ≤ 1000000000) : servB gs qs c = (2, -1) := by
  have h1 : (gs.findIdx? fun x => x.2.1 == c) = none := (fa_none gs _).2 fun a ha => by
    have := ((ags_iff n gs).1 h.2.2.2.2.1).1 a ha
    simp [agB, tkB] at this
    simp; omega
  have h2 : (qs.findIdx? fun x => x.1 == c) = none := (fa_none qs _).2 fun q hq => by
    have := (((qs_iff n gs qs).1 h.2.2.2.2.2).1 q hq).1
    simp [wtB, tkB] at this
    simp; omega
  simp [servB, h1, h2]
set_option maxHeartbeats 6400000 in
theorem servedI_c (n g : Int) (va vq : Value) (gs : List Ag) (qs : List Wt) (c : Int) (w : World) (ha : Rg 3 agC w va gs) (hq : Rg 4 wtC w vq qs) :
   Calls Try.prog 17 #[.agg (D4 n va vq g), .int .i64 c] w fun e w' => e = .returned (.tuple #[.int .i64 (servF n g gs qs c).1, .int .i64 (servF n g gs qs c).2]) ∧ Below w.heap.size w w' := by
  obtain ⟨W0, hW0⟩ : ∃ W0, w.alloc (Obj.cells (D4 n va vq g) 27) = W0 := ⟨_, rfl⟩
  have hb0 : Below w.heap.size w W0 := by rw [← hW0]; exact (Below.refl _ _).alloc (Nat.le_refl _) _
  have HB0 : Hid (Below w.heap.size w W0) := hb0
  have HK0 : Hid (Blk W0 w.heap.size (D4 n va vq g) 27) := by rw [← hW0]; exact Blk.new _ _ _
  have HH : Hid (Rg 3 agC w va gs ∧ Rg 4 wtC w vq qs) := ⟨ha, hq⟩
  obtain ⟨a0, p0, rfl, -⟩ := ha
  obtain ⟨a1, p1, rfl, -⟩ := hq
  have x0 := HK0.out.cell 0
  have x1 := HK0.out.cell 1
  have x2 := HK0.out.cell 2
  have x3 := HK0.out.cell 3
  simp at x0 x1 x2 x3
  obtain ⟨s1, s2, hss⟩ : ∃ s1 s2, servF n g gs qs c = (s1, s2) := ⟨_, _, rfl⟩
  have HSS : Hid (servF n g gs qs c = (s1, s2)) := hss
  rw [hss]
  have HW0 : Hid (_ = W0) := hW0
  clear hb0 hW0 hss
  go_enter Try.func17, Try.ntmps17
  go_wp2_with (fail)
  rw [HW0.out]
  refine (deskI_c n g _ _ gs qs W0 (HH.out.1.below HB0.out) (HH.out.2.below HB0.out)).mono ?_
  rintro e w1 ⟨r, rfl, hr, b1⟩
  have HB1 : Hid (Below w.heap.size w w1) := belowCall HB0.out b1 HB0.out.size
  have HK1 : Hid (Blk w1 w.heap.size (D4 n (.slice a0 gs.length p0) (.slice a1 qs.length p1) g) 27) := HK0.out.below b1 HK0.out.lt
  have HR : Hid (r = true ↔ DkOk n g gs qs) := hr
  clear hr b1 HK0 HB0 HW0 x0 x1 x2 x3
  cases r with
  | false =>
    have HY : Hid (s1 = 2 ∧ s2 = -1) := by
      have h := HSS.out
      rw [servF, if_neg (fun h => absurd (HR.out.2 h.1) (by simp))] at h
      cases h; exact ⟨rfl, rfl⟩
    clear HR
    go_wp2
    go_ret2
    exact ⟨by rw [HY.out.1, HY.out.2]; rfl, HB1.out⟩
  | true =>
  have HDK : Hid (DkOk n g gs qs) := HR.out.1 rfl
  clear HR
  obtain ⟨t, ht⟩ : ∃ t, tkB c = t := ⟨_, rfl⟩
  have HT : Hid (tkB c = t) := ht
  clear ht
  cases t with
  | false =>
    have HY : Hid (s1 = 2 ∧ s2 = -1) := by
      have h := HSS.out
      rw [servF] at h
      by_cases h0 : 0 ≤ c
      · rw [if_pos ⟨HDK.out, h0⟩, serv_big HDK.out (by have := HT.out; simp [tkB] at this; omega)] at h
        cases h; exact ⟨rfl, rfl⟩
      · rw [if_neg (fun h => h0 h.2)] at h
        cases h; exact ⟨rfl, rfl⟩
    go_wp2_with (first | (go_at_call 57; refine (call_c _ _).mono ?_; rintro e w2 ⟨rfl, rfl⟩; rw [HT.out]))
    go_ret2
    exact ⟨by rw [HY.out.1, HY.out.2]; rfl, HB1.out⟩
  | true =>
  have HSB : Hid (servB gs qs c = (s1, s2)) := by
    show servB gs qs c = (s1, s2)
    have h := HSS.out
    rwa [servF, if_pos ⟨HDK.out, by have := HT.out; simp [tkB] at this; omega⟩] at h
  have x1 := HK1.out.cell 1
  simp at x1
  go_wp2_with (first | (go_at_call 57; refine (call_c _ _).mono ?_; rintro e w2 ⟨rfl, rfl⟩; rw [HT.out]))
  refine (agW_c _ gs c _ (HH.out.1.below HB1.out)).mono ?_
  rintro e w2 ⟨rfl, b2⟩
  have HB2 : Hid (Below w.heap.size w w2) := belowCall HB1.out b2 HB1.out.size
  have k2 := HK1.out.below b2 HK1.out.lt
  have x2 := k2.cell 2
  simp at x2
  obtain ⟨u1, hu1⟩ : ∃ z, optI (gs.findIdx? fun x => x.2.1 == c) = z := ⟨_, rfl⟩
  have HU1 : Hid (optI (gs.findIdx? fun x => x.2.1 == c) = u1) := hu1
  rw [hu1]
  clear hu1 b2 k2 HK1 HB1 x1
  by_cases hz1 : 0 ≤ u1
  · have HY : Hid (s1 = 0 ∧ s2 = u1) := by
      obtain ⟨i, h1, rfl⟩ := optI_some HU1.out hz1
      have h := HSB.out
      simp only [servB, h1] at h
      cases h; exact ⟨rfl, rfl⟩
    go_wp2
    go_ret2
    exact ⟨by rw [HY.out.1, HY.out.2]; rfl, HB2.out⟩
  have HN1 : Hid ((gs.findIdx? fun x => x.2.1 == c) = none) := none_of HU1.out hz1
  go_wp2_with (fail)
  refine (plc_c _ qs c w2 (HH.out.2.below HB2.out)).mono ?_
  rintro e w3 ⟨rfl, b3⟩
  have HB3 : Hid (Below w.heap.size w w3) := belowCall HB2.out b3 HB2.out.size
  obtain ⟨u2, hu2⟩ : ∃ z, optI (qs.findIdx? fun x => x.1 == c) = z := ⟨_, rfl⟩
  have HU2 : Hid (optI (qs.findIdx? fun x => x.1 == c) = u2) := hu2
  rw [hu2]
  clear hu2 b3 x2 HB2
  by_cases hz2 : 0 ≤ u2
  · have HY : Hid (s1 = 1 ∧ s2 = u2) := by
      obtain ⟨i, h1, rfl⟩ := optI_some HU2.out hz2
      have h := HSB.out
      simp only [servB, HN1.out, h1] at h
      cases h; exact ⟨rfl, rfl⟩
    go_wp2
    go_ret2
    exact ⟨by rw [HY.out.1, HY.out.2]; rfl, HB3.out⟩
  have HY : Hid (s1 = 2 ∧ s2 = -1) := by
    have h := HSB.out
    simp only [servB, HN1.out, none_of HU2.out hz2] at h
    cases h; exact ⟨rfl, rfl⟩
  go_wp2
  go_ret2
  exact ⟨by rw [HY.out.1, HY.out.2]; rfl, HB3.out⟩
end Go.Proofs.Ytpmmgbinogokfaa

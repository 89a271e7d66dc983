/- The walk of the law of Gain15; no condition. -/
import Derived.Test.YtginhbcenfobcaaGni
import Derived.Test.YtginhbcenfobcaaGnm
namespace Go.Proofs.Ytginhbcenfobcaa
open Go.RowKit Go.ChangeShapes Go.WideShapes Go.ChangeAt
set_option linter.unusedVariables false
set_option linter.unusedSimpArgs false
set_option maxRecDepth 8000
set_option maxHeartbeats 6400000 in
theorem gainLaw (v : Value) (ls : List (Nat × Nat)) (w : World) (h : Rg 2 smC w v ls) : Calls Try.prog 7 #[v] w fun e w' => e = .returned (.bool true) ∧ Below w.heap.size w w' := by
  have HR : Hid (Rg 2 smC w v ls) := h
  clear h
  have hsf := storeF
  by_cases hbig : (1048576 : Int) < (ls.length : Int)
  case pos =>
    have HBG : Hid ((if (1048576 : Int) < ((ls).length : Int) then (-1 : Int) else 1048576 - ((ls).length : Int)) = (-1 : Int)) := if_pos hbig
    clear hbig
    go_enter Try.func7, Try.ntmps7
    go_wp2_with (fail)
    refine (szSmS_c v ls 1048576 w HR.out (by omega) (by omega)).mono ?_
    rintro e w' ⟨rfl, hw⟩
    rw [hw, HBG.out]
    clear hw
    go_wp2
    go_ret
    exact ⟨rfl, Below.refl _ _⟩
  have HLN : Hid (ls.length ≤ 1048576) := by show _ ≤ _; omega
  obtain ⟨lf, hlf⟩ : ∃ l : Int, (if (1048576 : Int) < ((ls).length : Int) then (-1 : Int) else 1048576 - ((ls).length : Int)) = l := ⟨_, rfl⟩
  have hl0 : ¬ lf < 0 := by rw [← hlf, if_neg hbig]; omega
  have hl1 : lf ≤ 1048576 := by rw [← hlf, if_neg hbig]; omega
  have HLF : Hid ((if (1048576 : Int) < ((ls).length : Int) then (-1 : Int) else 1048576 - ((ls).length : Int)) = lf) := hlf
  clear hbig hlf
  go_enter Try.func7, Try.ntmps7
  go_wp2_with (fail)
  refine (szSmS_c v ls 1048576 w HR.out (by omega) (by omega)).mono ?_
  rintro e w' ⟨rfl, hw⟩
  rw [hw, HLF.out]
  clear hw
  go_wp2_with (fail)
  refine (toSmS_c v ls w (HR.out) HLN.out).mono ?_
  rintro e w1 ⟨v1, rfl, o1, b1⟩
  have HO1 : Hid (Rg 2 smC w1 v1 ls) := o1.rd smC_len
  have HB1 : Hid (Below w.heap.size w w1) := (Below.refl w.heap.size w).trans (b1.mono (Below.refl w.heap.size w).size)
  clear o1 b1
  go_wp2_with (fail)
  refine (gainM_c v1 ls w1 HO1.out).mono ?_
  rintro e s0 ⟨u0, q0, rfl, hu0, hq0, -, b3⟩
  have HF0 : Hid (fc .f64 u0 = gnF pXR ls ∧ fc .f64 q0 = gnF pXI ls) := ⟨hu0, hq0⟩
  have HS0 : Hid (Below w.heap.size w s0) := HB1.out.trans (b3.mono HB1.out.size)
  obtain ⟨V0, hV0⟩ : ∃ W, s0.alloc (Obj.cells #[.float .f64 u0, .float .f64 q0] 38) = W := ⟨_, rfl⟩
  have HV0 : Hid (s0.alloc (Obj.cells #[.float .f64 u0, .float .f64 q0] 38) = V0) := hV0
  have HT0 : Hid (Below w.heap.size w V0) := by rw [← hV0]; exact HS0.out.alloc HS0.out.size _
  have HC0 : Hid (Blk V0 s0.heap.size #[.float .f64 u0, .float .f64 q0] 38) := by rw [← hV0]; exact Blk.new _ _ _
  clear b3 hu0 hq0 hV0
  go_wp2_with (fail)
  rw [HV0.out]
  refine (toSmS_c v ls V0 (HR.out.below HT0.out) HLN.out).mono ?_
  rintro e w4 ⟨v4, rfl, o4, b4⟩
  have HO4 : Hid (Rg 2 smC w4 v4 ls) := o4.rd smC_len
  have HB4 : Hid (Below w.heap.size w w4) := HT0.out.trans (b4.mono HT0.out.size)
  have HC4 : Hid (Blk w4 s0.heap.size #[.float .f64 u0, .float .f64 q0] 38) := HC0.out.below b4 HC0.out.lt
  clear o4 b4
  go_wp2_with (fail)
  refine (gainI_c v4 ls w4 HO4.out).mono ?_
  rintro e s1 ⟨u1, q1, rfl, hu1, hq1, -, b6⟩
  have HF1 : Hid (fc .f64 u1 = gnF pXR ls ∧ fc .f64 q1 = gnF pXI ls) := ⟨hu1, hq1⟩
  have HS1 : Hid (Below w.heap.size w s1) := HB4.out.trans (b6.mono HB4.out.size)
  obtain ⟨V1, hV1⟩ : ∃ W, s1.alloc (Obj.cells #[.float .f64 u1, .float .f64 q1] 38) = W := ⟨_, rfl⟩
  have HV1 : Hid (s1.alloc (Obj.cells #[.float .f64 u1, .float .f64 q1] 38) = V1) := hV1
  have HT1 : Hid (Below w.heap.size w V1) := by rw [← hV1]; exact HS1.out.alloc HS1.out.size _
  have HC1 : Hid (Blk V1 s1.heap.size #[.float .f64 u1, .float .f64 q1] 38) := by rw [← hV1]; exact Blk.new _ _ _
  have HBV : Hid (Below w4.heap.size w4 V1) := by rw [← hV1]; exact b6.alloc b6.size _
  have HO6 : Hid (Rg 2 smC V1 v4 ls) := HO4.out.below HBV.out
  have HC6 : Hid (Blk V1 s0.heap.size #[.float .f64 u0, .float .f64 q0] 38) := HC4.out.below HBV.out HC4.out.lt
  have a0 := HC6.out.cell 0
  have a1 := HC6.out.cell 1
  have a2 := HC1.out.cell 0
  have a3 := HC1.out.cell 1
  simp at a0 a1 a2 a3
  rw [← hV1] at a0 a1 a2 a3
  have hnb : (gnB ls != gnB ls) = false := by simp
  clear b6 hu1 hq1 hV1
  go_wp2_with (fail)
  rw [HV1.out]
  refine (eqWide_c _ _ _ _ (HF1.out.1.trans HF0.out.1.symm) (HF1.out.2.trans HF0.out.2.symm) _).mono ?_
  rintro e w7 ⟨rfl, b7⟩
  have HB7 : Hid (Below w.heap.size w w7) := HT1.out.trans (b7.mono HT1.out.size)
  have HP7 : Hid (Rg 2 smC w7 v4 ls) := HO6.out.below b7
  clear b7 a0 a1 a2 a3
  go_wp2_with (fail)
  refine (toSmS_c v ls w7 (HR.out.below HB7.out) HLN.out).mono ?_
  rintro e w8 ⟨v8, rfl, o8, b8⟩
  have HO8 : Hid (Rg 2 smC w8 v8 ls) := o8.rd smC_len
  have HB8 : Hid (Below w.heap.size w w8) := HB7.out.trans (b8.mono HB7.out.size)
  have HP8 : Hid (Rg 2 smC w8 v4 ls) := HP7.out.below b8
  clear o8 b8
  go_wp2_with (fail)
  refine (eqSmS_t v4 v8 ls w8 HP8.out HO8.out).mono ?_
  rintro e w9 ⟨rfl, b9⟩
  have HB9 : Hid (Below w.heap.size w w9) := HB8.out.trans (b9.mono HB8.out.size)
  clear b9
  go_wp2
  go_ret
  exact ⟨rfl, HB9.out⟩

end Go.Proofs.Ytginhbcenfobcaa

/- The walk of the law of Sums; no condition. -/
import Derived.Test.YtfbegonnbdakpaaSmm
namespace Go.Proofs.Ytfbegonnbdakpaa
open Go.RowKit Go.ChangeShapes Go.WideShapes Go.ChangeAt
set_option linter.unusedVariables false
set_option linter.unusedSimpArgs false
set_option maxRecDepth 8000
set_option maxHeartbeats 6400000 in
theorem sumsLaw (v : Value) (ls : List (Nat × Nat)) (w : World) (h : Rg 2 smC w v ls) : Calls Try.prog 16 #[v] w fun e w' => e = .returned (.bool true) ∧ Below w.heap.size w w' := by
  have HR : Hid (Rg 2 smC w v ls) := h
  clear h
  have hsf := storeF
  have HSz : Hid (∀ W, Rg 2 smC W v ls → Calls Try.prog 55 #[v, .int .i64 1048576] W fun e w' => e = .returned (.int .i64 (if (1048576 : Int) < (ls.length : Int) then (-1 : Int) else 1048576 - (ls.length : Int))) ∧ w' = W) := fun W hW => szSmS_c v ls 1048576 W hW (by omega) (by omega)
  by_cases hbig : (1048576 : Int) < (ls.length : Int)
  case pos =>
    have HBG : Hid ((if (1048576 : Int) < (ls.length : Int) then (-1 : Int) else 1048576 - (ls.length : Int)) = (-1 : Int)) := if_pos hbig
    clear hbig
    go_enter Try.func16, Try.ntmps16
    go_wp2_with (fail)
    refine (HSz.out w HR.out).mono ?_
    rintro e w' ⟨rfl, hw⟩
    rw [hw, HBG.out]
    clear hw
    go_wp2
    go_ret
    exact ⟨rfl, Below.refl _ _⟩
  have HLN : Hid (ls.length ≤ 1048576) := by show _ ≤ _; omega
  obtain ⟨lf, hlf⟩ : ∃ l : Int, (if (1048576 : Int) < (ls.length : Int) then (-1 : Int) else 1048576 - (ls.length : Int)) = l := ⟨_, rfl⟩
  have hl0 : ¬ lf < 0 := by rw [← hlf, if_neg hbig]; omega
  have HLF : Hid ((if (1048576 : Int) < (ls.length : Int) then (-1 : Int) else 1048576 - (ls.length : Int)) = lf) := hlf
  clear hbig hlf
  go_enter Try.func16, Try.ntmps16
  go_wp2_with (fail)
  refine (HSz.out w HR.out).mono ?_
  rintro e w' ⟨rfl, hw⟩
  rw [hw, HLF.out]
  clear hw w'
  go_wp2_with (fail)
  refine (toSmS_c v ls w HR.out HLN.out).mono ?_
  rintro e w1 ⟨v1, rfl, o1, b1⟩
  have HO1 : Hid (Rg 2 smC w1 v1 ls) := o1.rd smC_len
  have HB1 : Hid (Below w.heap.size w w1) := b1
  clear o1 b1
  go_wp2_with (fail)
  refine (sumsM_c v1 ls w1 HO1.out).mono ?_
  rintro e s0 ⟨x0, y0, u0, q0, rfl, hx0, hy0, hu0, hq0, b2⟩
  have HF0 : Hid (fc .f32 x0 = sgF (·.1) ls (suN ls) ∧ fc .f32 y0 = sgF (·.2) ls (suN ls) ∧ fc .f64 u0 = dbF (·.1) ls (suN ls) ∧ fc .f64 q0 = dbF (·.2) ls (suN ls)) := ⟨hx0, hy0, hu0, hq0⟩
  have HS0 : Hid (Below w.heap.size w s0) := HB1.out.trans (b2.mono HB1.out.size)
  obtain ⟨V0, hV0⟩ : ∃ W, (s0.alloc (Obj.cells #[.float .f32 x0, .float .f32 y0] 26)).alloc (Obj.cells #[.float .f64 u0, .float .f64 q0] 30) = W := ⟨_, rfl⟩
  have HV0 : Hid ((s0.alloc (Obj.cells #[.float .f32 x0, .float .f32 y0] 26)).alloc (Obj.cells #[.float .f64 u0, .float .f64 q0] 30) = V0) := hV0
  have HT0 : Hid (Below w.heap.size w V0) := by rw [← hV0]; exact (HS0.out.alloc HS0.out.size _).alloc (by have := HS0.out.size; simp; omega) _
  have HA0 : Hid (Blk V0 s0.heap.size #[.float .f32 x0, .float .f32 y0] 26) := by rw [← hV0]; exact (Blk.new _ _ _).alloc _
  have HC0 : Hid (Blk V0 (s0.heap.size + 1) #[.float .f64 u0, .float .f64 q0] 30) := by rw [← hV0]; exact Blk.newAt _ _ _ _ (by simp)
  clear b2 hx0 hy0 hu0 hq0 hV0
  go_wp2_with (fail)
  rw [HV0.out]
  refine (toSmS_c v ls V0 (HR.out.below HT0.out) HLN.out).mono ?_
  rintro e w3 ⟨v3, rfl, o3, b3⟩
  have HO3 : Hid (Rg 2 smC w3 v3 ls) := o3.rd smC_len
  have HB3 : Hid (Below w.heap.size w w3) := HT0.out.trans (b3.mono HT0.out.size)
  have HA3 : Hid (Blk w3 s0.heap.size #[.float .f32 x0, .float .f32 y0] 26) := HA0.out.below b3 HA0.out.lt
  have HC3 : Hid (Blk w3 (s0.heap.size + 1) #[.float .f64 u0, .float .f64 q0] 30) := HC0.out.below b3 HC0.out.lt
  clear o3 b3
  go_wp2_with (fail)
  refine (sumsI_c v3 ls w3 HO3.out).mono ?_
  rintro e s1 ⟨x1, y1, u1, q1, rfl, hx1, hy1, hu1, hq1, b4⟩
  have HF1 : Hid (fc .f32 x1 = sgF (·.1) ls (suN ls) ∧ fc .f32 y1 = sgF (·.2) ls (suN ls) ∧ fc .f64 u1 = dbF (·.1) ls (suN ls) ∧ fc .f64 q1 = dbF (·.2) ls (suN ls)) := ⟨hx1, hy1, hu1, hq1⟩
  have HS1 : Hid (Below w.heap.size w s1) := HB3.out.trans (b4.mono HB3.out.size)
  have HO4 : Hid (Rg 2 smC s1 v3 ls) := HO3.out.below b4
  have HA4 : Hid (Blk s1 s0.heap.size #[.float .f32 x0, .float .f32 y0] 26) := HA3.out.below b4 HA3.out.lt
  have HC4 : Hid (Blk s1 (s0.heap.size + 1) #[.float .f64 u0, .float .f64 q0] 30) := HC3.out.below b4 HC3.out.lt
  obtain ⟨V1, hV1⟩ : ∃ W, (s1.alloc (Obj.cells #[.float .f32 x1, .float .f32 y1] 26)).alloc (Obj.cells #[.float .f64 u1, .float .f64 q1] 30) = W := ⟨_, rfl⟩
  have HV1 : Hid ((s1.alloc (Obj.cells #[.float .f32 x1, .float .f32 y1] 26)).alloc (Obj.cells #[.float .f64 u1, .float .f64 q1] 30) = V1) := hV1
  have HT1 : Hid (Below w.heap.size w V1) := by rw [← hV1]; exact (HS1.out.alloc HS1.out.size _).alloc (by have := HS1.out.size; simp; omega) _
  have HA1 : Hid (Blk V1 s1.heap.size #[.float .f32 x1, .float .f32 y1] 26) := by rw [← hV1]; exact (Blk.new _ _ _).alloc _
  have HC1 : Hid (Blk V1 (s1.heap.size + 1) #[.float .f64 u1, .float .f64 q1] 30) := by rw [← hV1]; exact Blk.newAt _ _ _ _ (by simp)
  have HA5 : Hid (Blk V1 s0.heap.size #[.float .f32 x0, .float .f32 y0] 26) := by rw [← hV1]; exact (HA4.out.alloc _).alloc _
  have HC5 : Hid (Blk V1 (s0.heap.size + 1) #[.float .f64 u0, .float .f64 q0] 30) := by rw [← hV1]; exact (HC4.out.alloc _).alloc _
  have HO5 : Hid (Rg 2 smC V1 v3 ls) := HO4.out.below (by rw [← hV1]; exact ((Below.refl _ _).alloc (Nat.le_refl _) _).alloc (by simp) _)
  have a0 := HA5.out.cell 0
  have a1 := HA5.out.cell 1
  have a2 := HA1.out.cell 0
  have a3 := HA1.out.cell 1
  simp at a0 a1 a2 a3
  rw [← hV1] at a0 a1 a2 a3
  clear b4 hx1 hy1 hu1 hq1 hV1
  go_wp2_with (fail)
  rw [HV1.out]
  refine (eqSample_c _ _ _ _ (HF1.out.1.trans HF0.out.1.symm) (HF1.out.2.1.trans HF0.out.2.1.symm) _).mono ?_
  rintro e w6 ⟨rfl, b6⟩
  have HB6 : Hid (Below w.heap.size w w6) := HT1.out.trans (b6.mono HT1.out.size)
  have HO6 : Hid (Rg 2 smC w6 v3 ls) := HO5.out.below b6
  have HC6 : Hid (Blk w6 (s0.heap.size + 1) #[.float .f64 u0, .float .f64 q0] 30) := HC5.out.below b6 HC5.out.lt
  have HC7 : Hid (Blk w6 (s1.heap.size + 1) #[.float .f64 u1, .float .f64 q1] 30) := HC1.out.below b6 HC1.out.lt
  have c0 := HC6.out.cell 0
  have c1 := HC6.out.cell 1
  have c2 := HC7.out.cell 0
  have c3 := HC7.out.cell 1
  simp at c0 c1 c2 c3
  clear b6 a0 a1 a2 a3
  go_wp2_with (fail)
  refine (eqWide_c _ _ _ _ (HF1.out.2.2.1.trans HF0.out.2.2.1.symm) (HF1.out.2.2.2.trans HF0.out.2.2.2.symm) _).mono ?_
  rintro e w7 ⟨rfl, b7⟩
  have HB7 : Hid (Below w.heap.size w w7) := HB6.out.trans (b7.mono HB6.out.size)
  have HO7 : Hid (Rg 2 smC w7 v3 ls) := HO6.out.below b7
  clear b7 c0 c1 c2 c3
  go_wp2_with (fail)
  refine (toSmS_c v ls w7 (HR.out.below HB7.out) HLN.out).mono ?_
  rintro e w8 ⟨v8, rfl, o8, b8⟩
  have HO8 : Hid (Rg 2 smC w8 v8 ls) := o8.rd smC_len
  have HO9 : Hid (Rg 2 smC w8 v3 ls) := HO7.out.below b8
  have HB8 : Hid (Below w.heap.size w w8) := HB7.out.trans (b8.mono HB7.out.size)
  clear b8 o8
  go_wp2_with (fail)
  refine (eqSmS_t v3 v8 ls w8 HO9.out HO8.out).mono ?_
  rintro e w9 ⟨rfl, b9⟩
  have HB9 : Hid (Below w.heap.size w w9) := HB8.out.trans (b9.mono HB8.out.size)
  clear b9
  go_wp2
  go_ret
  exact ⟨rfl, HB9.out⟩

end Go.Proofs.Ytfbegonnbdakpaa

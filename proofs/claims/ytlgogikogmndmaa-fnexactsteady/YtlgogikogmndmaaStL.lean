/- The law of Steady; no condition. -/
import Derived.Test.YtlgogikogmndmaaStM
import Derived.Test.YtlgogikogmndmaaStI
namespace Go.Proofs.Ytlgogikogmndmaa
open Go.RowKit Go.ChangeShapes Go.WideShapes Go.ChangeAt
set_option linter.unusedVariables false
set_option linter.unusedSimpArgs false
set_option maxRecDepth 8000

theorem sd_same {ls : List Pk} {x y x' y' : Int} (h : (PksP ls ∧ x = hiN ls ls.length - loN ls ls.length ∧ y = twN ls ls.length) ∨ (¬ PksP ls ∧ x = -1 ∧ y = -1)) (h' : (PksP ls ∧ x' = hiN ls ls.length - loN ls ls.length ∧ y' = twN ls ls.length) ∨ (¬ PksP ls ∧ x' = -1 ∧ y' = -1)) : x' = x ∧ y' = y := by
  rcases h with ⟨p, rfl, rfl⟩ | ⟨p, rfl, rfl⟩ <;> rcases h' with ⟨p', rfl, rfl⟩ | ⟨p', rfl, rfl⟩
  · exact ⟨rfl, rfl⟩
  · exact absurd p p'
  · exact absurd p' p
  · exact ⟨rfl, rfl⟩
set_option maxHeartbeats 3200000 in
theorem steadyLaw (v : Value) (ls : List Pk) (w : World) (h : Rg 18 pkC w v ls) : Calls Try.prog 6 #[v] w fun e w' => e = .returned (.bool true) ∧ Below w.heap.size w w' := by
  have HR : Hid (Rg 18 pkC w v ls) := h
  have HB : Hid (Below w.heap.size w w) := Below.refl _ _
  have hsz := szPkS_c v ls 1048576 w h (by omega) (by omega)
  by_cases hbig : (1048576 : Int) < (ls.length : Int)
  · rw [if_pos hbig] at hsz
    have HSZ : Hid (Calls Try.prog 19 #[v, .int .i64 1048576] w fun e w' => e = .returned (.int .i64 (-1)) ∧ w' = w) := hsz
    clear hbig hsz h
    go_enter Try.func6, Try.ntmps6
    go_wp2_with (fail)
    refine Calls.mono HSZ.out ?_
    rintro e w1 ⟨rfl, hw⟩
    rw [hw]
    clear hw w1
    go_wp2
    go_ret
    exact ⟨rfl, HB.out⟩
  rw [if_neg hbig] at hsz
  have HSZ : Hid (Calls Try.prog 19 #[v, .int .i64 1048576] w fun e w' => e = .returned (.int .i64 (1048576 - ls.length)) ∧ w' = w) := hsz
  have HL : Hid (ls.length ≤ 1048576) := by show _ ≤ _; omega
  have g : ¬ (1048576 : Int) - (ls.length : Int) < 0 := by omega
  clear hbig hsz h
  go_enter Try.func6, Try.ntmps6
  go_wp2_with (fail)
  refine Calls.mono HSZ.out ?_
  rintro e w1 ⟨rfl, hw⟩
  rw [hw]
  clear hw w1 HSZ
  go_wp2_with (fail)
  refine (toPkS_c _ ls _ HR.out HL.out).mono ?_
  rintro e w1 ⟨v1, rfl, o1, b1⟩
  have HB1 : Hid (Below w.heap.size w w1) := b1
  have HO1 : Hid (Rg 18 pkC w1 v1 ls) := o1.rd pkC_len
  clear o1 b1 g
  go_wp2_with (fail)
  refine (stM_c _ ls _ HO1.out).mono ?_
  rintro e w2 ⟨x, y, rfl, hxy, b2⟩
  have HX : Hid ((PksP ls ∧ x = hiN ls ls.length - loN ls ls.length ∧ y = twN ls ls.length) ∨ (¬ PksP ls ∧ x = -1 ∧ y = -1)) := hxy
  have HB2 : Hid (Below w.heap.size w w2) := belowCall HB1.out b2 HB1.out.size
  clear b2 HB1 HO1 hxy
  go_wp2_with (fail)
  refine (toPkS_c _ ls _ (HR.out.below HB2.out) HL.out).mono ?_
  rintro e w3 ⟨v3, rfl, o3, b3⟩
  have HB3 : Hid (Below w.heap.size w w3) := belowCall HB2.out b3 HB2.out.size
  have HO3 : Hid (Rg 18 pkC w3 v3 ls) := o3.rd pkC_len
  clear o3 b3 HB2
  go_wp2_with (fail)
  refine (stI_c _ ls _ HO3.out).mono ?_
  rintro e w4 ⟨x', y', rfl, hxy', b4⟩
  obtain ⟨e1, e2⟩ := sd_same HX.out hxy'
  subst e1 e2
  have HB4 : Hid (Below w.heap.size w w4) := belowCall HB3.out b4 HB3.out.size
  have HO4 : Hid (Rg 18 pkC w4 v3 ls) := HO3.out.below b4
  have n1 : (x' != x') = false := by simp
  have n2 : (y' != y') = false := by simp
  clear b4 HB3 HO3 hxy' HX
  go_wp2_with (fail)
  refine (toPkS_c _ ls _ (HR.out.below HB4.out) HL.out).mono ?_
  rintro e w5 ⟨v5, rfl, o5, b5⟩
  have HB5 : Hid (Below w.heap.size w w5) := belowCall HB4.out b5 HB4.out.size
  have HO5 : Hid (Rg 18 pkC w5 v3 ls ∧ Rg 18 pkC w5 v5 ls) := ⟨HO4.out.below b5, o5.rd pkC_len⟩
  clear o5 b5 HB4 HO4
  go_wp2_with (fail)
  refine (eqPkS_t _ _ ls _ HO5.out.1 HO5.out.2).mono ?_
  rintro e w6 ⟨rfl, b6⟩
  have HB6 : Hid (Below w.heap.size w w6) := belowCall HB5.out b6 HB5.out.size
  clear b6 HB5
  go_wp2
  go_ret
  exact ⟨rfl, HB6.out⟩

end Go.Proofs.Ytlgogikogmndmaa

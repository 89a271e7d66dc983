/- Quotients of both sides; no condition. -/
import Derived.Test.YtmhpfbcdikldcaaQu3
namespace Go.Proofs.Ytmhpfbcdikldcaa
open Go.RowKit Go.ChangeShapes Go.WideShapes Go.ChangeAt
set_option linter.unusedVariables false
set_option linter.unusedSimpArgs false
set_option maxRecDepth 8000
/-- what a quotient's answer is -/
def qOk (a b c d : Nat) : Bool := finB a && finB b && (finB c && finB d) && !z2 c d
def qR (a b c d : Nat) : Option Nat := if qOk a b c d then qRe (absGe c d) (fc .f64 a) (fc .f64 b) (fc .f64 c) (fc .f64 d) else some 0
def qI (a b c d : Nat) : Option Nat := if qOk a b c d then qIm (absGe c d) (fc .f64 a) (fc .f64 b) (fc .f64 c) (fc .f64 d) else some 0
def QoR (a b c d : Nat) (w : World) (e : Ending) (w' : World) : Prop := ∃ x y n, e = .returned (.tuple #[.complex .f64 x y, .bool (qOk a b c d)]) ∧ fc .f64 x = qR a b c d ∧ fc .f64 y = qI a b c d ∧ w' = w.drewN n
theorem fc0 : fc .f64 0 = some 0 := fc_some (by decide)
theorem quotOf_c (a b c d : Nat) (ha : a < 2 ^ 64) (hb : b < 2 ^ 64) (hc : c < 2 ^ 64) (hd : d < 2 ^ 64) (w : World) : Calls Try.prog 31 #[.complex .f64 a b, .complex .f64 c d] w (QoR a b c d w) := by
  have hno : qOk a b c d = false → QoR a b c d w (.returned (.tuple #[.complex .f64 0 0, .bool false])) w := fun h => ⟨0, 0, 0, by rw [h], by simp [qR, h, fc0], by simp [qI, h, fc0], rfl⟩
  have HNO : Hid (qOk a b c d = false → QoR a b c d w (.returned (.tuple #[.complex .f64 0 0, .bool false])) w) := hno
  clear hno
  by_cases hf1 : (finB a && finB b) = true
  case neg =>
    have HF1 : Hid ((finB a && finB b) = false) := Bool.eq_false_iff.2 hf1
    clear hf1
    go_enter Try.func31, Try.ntmps31
    go_wp2_with (fail)
    refine (finI_c a b ha hb w).mono ?_
    rintro e w' ⟨rfl, hw⟩
    rw [hw, HF1.out]
    clear hw
    go_wp2
    go_ret2
    exact HNO.out (by simp [qOk, HF1.out])
  have HF1 : Hid ((finB a && finB b) = true) := hf1
  clear hf1
  by_cases hf2 : (finB c && finB d) = true
  case neg =>
    have HF2 : Hid ((finB c && finB d) = false) := Bool.eq_false_iff.2 hf2
    clear hf2
    go_enter Try.func31, Try.ntmps31
    go_wp2_with (fail)
    refine (finI_c a b ha hb w).mono ?_
    rintro e w' ⟨rfl, hw⟩
    rw [hw, HF1.out]
    clear hw
    go_wp2_with (fail)
    refine (finI_c c d hc hd w).mono ?_
    rintro e w' ⟨rfl, hw⟩
    rw [hw, HF2.out]
    clear hw
    go_wp2
    go_ret2
    exact HNO.out (by simp [qOk, HF2.out])
  have HF2 : Hid ((finB c && finB d) = true) := hf2
  clear hf2
  cases hz : z2 c d
  · have hz' : ((FloatKind.f64.format.order c 0 == some .eq) && (FloatKind.f64.format.order d 0 == some .eq)) = false := hz
    have HZ : Hid (z2 c d = false) := hz
    have h1 := HF1.out
    have h2 := HF2.out
    simp only [Bool.and_eq_true] at h1 h2
    obtain ⟨re, im, n, hrun, hre, him⟩ := run_cquo (P := Try.prog) 48 a b c d w h1.1 h1.2 h2.1 h2.2 hz
    have HQ : Hid (qOk a b c d = true) := by show _ = _; unfold qOk; rw [HF1.out, HF2.out, hz]; rfl
    have HRE : Hid (fc .f64 re = qR a b c d) := by show _ = _; unfold qR; rw [HQ.out, if_pos rfl]; exact hre
    have HIM : Hid (fc .f64 im = qI a b c d) := by show _ = _; unfold qI; rw [HQ.out, if_pos rfl]; exact him
    clear hre him h1 h2 hz
    go_enter Try.func31, Try.ntmps31
    go_wp2_with (fail)
    refine (finI_c a b ha hb w).mono ?_
    rintro e w' ⟨rfl, hw⟩
    rw [hw, HF1.out]
    clear hw
    go_wp2_with (fail)
    refine (finI_c c d hc hd w).mono ?_
    rintro e w' ⟨rfl, hw⟩
    rw [hw, HF2.out]
    clear hw
    go_wp2
    go_ret2
    exact ⟨re, im, n, by rw [HQ.out]; rfl, HRE.out, HIM.out, rfl⟩
  · have hz' : ((FloatKind.f64.format.order c 0 == some .eq) && (FloatKind.f64.format.order d 0 == some .eq)) = true := hz
    have HZ : Hid (z2 c d = true) := hz
    clear hz
    go_enter Try.func31, Try.ntmps31
    go_wp2_with (fail)
    refine (finI_c a b ha hb w).mono ?_
    rintro e w' ⟨rfl, hw⟩
    rw [hw, HF1.out]
    clear hw
    go_wp2_with (fail)
    refine (finI_c c d hc hd w).mono ?_
    rintro e w' ⟨rfl, hw⟩
    rw [hw, HF2.out]
    clear hw
    go_wp2
    go_ret2
    exact HNO.out (by simp [qOk, HZ.out])
end Go.Proofs.Ytmhpfbcdikldcaa

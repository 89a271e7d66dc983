/- strings.Compare and what is searched by; no condition. -/
import Derived.Test.YtlknakijdpeaoaaSor
import Derived.Lib.Bytealg
import Derived.Deep.Cut
namespace Go.Proofs.Ytlknakijdpeaoaa
open Go.RowKit Go.ChangeShapes Go.WideShapes Go.ChangeAt
set_option linter.unusedVariables false
set_option linter.unusedSimpArgs false
set_option maxRecDepth 8000

open Go.Op Go.Lib
theorem cb_lt : ∀ x y, (compareBytes x y < 0) ↔ bytesLess x y = true
  | [], [] => by simp [compareBytes, bytesLess]
  | [], b :: y => by simp [compareBytes, bytesLess]
  | a :: x, [] => by simp [compareBytes, bytesLess]
  | a :: x, b :: y => by
    unfold compareBytes
    simp only [bytesLess, Bool.or_eq_true, Bool.and_eq_true, decide_eq_true_eq, beq_iff_eq]
    by_cases h : a < b
    · rw [if_pos h]; simp [h]
    · rw [if_neg h]
      by_cases h2 : b < a
      · rw [if_pos h2]
        have : a ≠ b := by rintro rfl; exact h h2
        simp [h, this]
      · rw [if_neg h2]
        have : a = b := by
          apply u8_eq
          rw [u8_lt] at h h2
          omega
        subst this
        rw [cb_lt x y]
        simp [h]
theorem cb_eq : ∀ x y, (compareBytes x y = 0) ↔ x = y
  | [], [] => by simp [compareBytes]
  | [], b :: y => by simp [compareBytes]
  | a :: x, [] => by simp [compareBytes]
  | a :: x, b :: y => by
    unfold compareBytes
    by_cases h : a < b
    · rw [if_pos h]
      have : a ≠ b := by rintro rfl; rw [u8_lt] at h; omega
      simp [this]
    · rw [if_neg h]
      by_cases h2 : b < a
      · rw [if_pos h2]
        have : a ≠ b := by rintro rfl; exact h h2
        simp [this]
      · rw [if_neg h2]
        have : a = b := by
          apply u8_eq
          rw [u8_lt] at h h2
          omega
        subst this
        rw [cb_eq x y]
        simp
/-- what Compare tells of two texts -/
def cmpB (a b : ByteArray) : Int := compareBytes a.data.toList b.data.toList
theorem cmp_lt (a b : ByteArray) : cmpB a b < 0 ↔ bl a b = true := by
  unfold cmpB bl; rw [ByteArray.toList_eq, ByteArray.toList_eq]; exact cb_lt _ _
theorem cmp_eq0 (a b : ByteArray) : cmpB a b = 0 ↔ a = b := by
  unfold cmpB; rw [cb_eq]
  constructor
  · intro h; apply ByteArray.ext; exact Array.toList_inj.1 h
  · rintro rfl; rfl
theorem cmpS_c (a b : ByteArray) (w : World) : Calls Try.prog 75 #[.string a, .string b] w fun e w' => e = .returned (.int .i64 (cmpB a b)) ∧ w' = w := by
  go_enter Try.func75, Try.ntmps75
  go_wp2
  rw [run_callFunc_extern Try.func82 (by kernel_rfl) (by kernel_rfl) (by kernel_rfl) (e := Extern.BytealgCompare.compare) (by kernel_rfl), Lib.run_compareString]
  simp only [Result.andThen]
  rw [Oper.upon_value]
  go_wp2
  go_ret
  exact ⟨rfl, rfl⟩
theorem cmp_c (a b : ByteArray) (w : World) : Calls Try.prog 62 #[.string a, .string b] w fun e w' => e = .returned (.int .i64 (cmpB a b)) ∧ w' = w := by
  go_enter Try.func62, Try.ntmps62
  go_wp2_with (fail)
  refine (cmpS_c a b w).mono ?_
  rintro e w2 ⟨rfl, hw2⟩
  obtain rfl : w = w2 := hw2.symm
  go_wp2
  go_ret
  exact ⟨rfl, rfl⟩
theorem clos_c (r : Se) (x : ByteArray) (w : World) : Calls Try.prog 61 #[.agg (S2 r), .string x] w fun e w' => e = .returned (.int .i64 (cmpB r.nm x)) ∧ Below w.heap.size w w' := by
  obtain ⟨w1, hw1⟩ : ∃ W, w.alloc (.cells (S2 r) 55) = W := ⟨_, rfl⟩
  have HB1 : Hid (Below w.heap.size w w1) := by rw [← hw1]; exact (Below.refl _ _).alloc (Nat.le_refl _) _
  have hY := Blk.new w (S2 r) 55
  rw [hw1] at hY
  have y0 := hY.cell 0
  simp at y0
  have HW : Hid (w.alloc (.cells (S2 r) 55) = w1) := hw1
  clear hw1 hY
  go_enter Try.func61, Try.ntmps61
  go_upto_region 1 with fail
  rw [HW.out]
  go_wp2_with (fail)
  refine (cmp_c r.nm x w1).mono ?_
  rintro e w2 ⟨rfl, hw2⟩
  obtain rfl : w1 = w2 := hw2.symm
  clear y0
  go_wp2
  go_ret
  exact ⟨rfl, HB1.out⟩

end Go.Proofs.Ytlknakijdpeaoaa

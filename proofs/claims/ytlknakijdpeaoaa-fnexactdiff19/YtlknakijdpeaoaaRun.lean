/- The model reads a rune; no condition. -/
import Derived.Test.YtlknakijdpeaoaaLts
import Derived.Test.YtlknakijdpeaoaaBase
namespace Go.Proofs.Ytlknakijdpeaoaa
open Go.RowKit Go.ChangeShapes Go.WideShapes Go.ChangeAt
set_option linter.unusedVariables false
set_option linter.unusedSimpArgs false
set_option maxRecDepth 8000

/-- what the model's reading of a rune tells -/
def RnR (s : ByteArray) (i : Nat) (w : World) (e : Ending) (w' : World) : Prop := ∃ r n : Nat, e = .returned (.tuple #[.int .i64 (r : Int), .int .i64 (n : Int)]) ∧ w' = w ∧ ((n = 0 ∧ 2048 ≤ (Utf8.decode s i).1) ∨ (1 ≤ n ∧ n ≤ 2 ∧ Utf8.decode s i = (r, n) ∧ i + n ≤ s.size))
set_option maxHeartbeats 3200000 in
theorem rune_c (s : ByteArray) (i : Nat) (w : World) (hi : i < s.size) (hs : s.size ≤ 4611686018427387904) : Calls Try.prog 28 #[.string s, .int .i64 (i : Int)] w (RnR s i w) := by
  have hx : (s[i]'hi).toNat < 256 := UInt8.toNat_lt _
  have hiI : (i : Int) < (s.size : Int) := by omega
  by_cases c1 : (s[i]'hi).toNat < 128
  · have HE : Hid (Utf8.decode s i = ((s[i]'hi).toNat, 1)) := dec_one hi c1
    have q1 : ((s[i]'hi).toNat : Int) < 128 := by omega
    go_enter Try.func28, Try.ntmps28
    go_wp2
    go_ret2
    exact ⟨_, 1, rfl, rfl, .inr ⟨Nat.le_refl _, by decide, HE.out, hi⟩⟩
  have q1 : ¬ (((s[i]'hi).toNat : Int) < 128) := by omega
  have no : ∀ e w', e = .returned (.tuple #[.int .i64 0, .int .i64 0]) → w' = w → 2048 ≤ (Utf8.decode s i).1 → RnR s i w e w' := fun e w' he hw hd => ⟨0, 0, he, hw, .inl ⟨rfl, hd⟩⟩
  have HN : Hid (∀ e w', e = .returned (.tuple #[.int .i64 0, .int .i64 0]) → w' = w → 2048 ≤ (Utf8.decode s i).1 → RnR s i w e w') := no
  clear no
  by_cases c2 : (s[i]'hi).toNat < 194
  · have HD : Hid (2048 ≤ (Utf8.decode s i).1) := dec_far hi (by omega) (.inl c2)
    have q2 : ((s[i]'hi).toNat : Int) < 194 := by omega
    go_enter Try.func28, Try.ntmps28
    go_wp2
    go_ret2
    exact HN.out _ _ rfl rfl HD.out
  have q2 : ¬ (((s[i]'hi).toNat : Int) < 194) := by omega
  by_cases c3 : 223 < (s[i]'hi).toNat
  · have HD : Hid (2048 ≤ (Utf8.decode s i).1) := dec_far hi (by omega) (.inr (.inl c3))
    have q3 : 223 < ((s[i]'hi).toNat : Int) := by omega
    go_enter Try.func28, Try.ntmps28
    go_wp2
    go_ret2
    exact HN.out _ _ rfl rfl HD.out
  have q3 : ¬ (223 < ((s[i]'hi).toNat : Int)) := by omega
  by_cases c4 : s.size ≤ i + 1
  · have HD : Hid (2048 ≤ (Utf8.decode s i).1) := dec_far hi (by omega) (.inr (.inr (.inl c4)))
    have q4 : (s.size : Int) ≤ (i : Int) + 1 := by omega
    go_enter Try.func28, Try.ntmps28
    go_wp2
    go_ret2
    exact HN.out _ _ rfl rfl HD.out
  have q4 : ¬ ((s.size : Int) ≤ (i : Int) + 1) := by omega
  have hj : i + 1 < s.size := by omega
  have hjI : (i : Int) + 1 < (s.size : Int) := by omega
  have hy : (s[i + 1]'hj).toNat < 256 := UInt8.toNat_lt _
  by_cases c5 : (s[i + 1]'hj).toNat < 128
  · have HD : Hid (2048 ≤ (Utf8.decode s i).1) := dec_far hi (by omega) (.inr (.inr (.inr fun _ => .inl c5)))
    have q5 : ((s[i + 1]'hj).toNat : Int) < 128 := by omega
    go_enter Try.func28, Try.ntmps28
    go_wp2
    go_ret2
    exact HN.out _ _ rfl rfl HD.out
  have q5 : ¬ (((s[i + 1]'hj).toNat : Int) < 128) := by omega
  by_cases c6 : 191 < (s[i + 1]'hj).toNat
  · have HD : Hid (2048 ≤ (Utf8.decode s i).1) := dec_far hi (by omega) (.inr (.inr (.inr fun _ => .inr c6)))
    have q6 : 191 < ((s[i + 1]'hj).toNat : Int) := by omega
    go_enter Try.func28, Try.ntmps28
    go_wp2
    go_ret2
    exact HN.out _ _ rfl rfl HD.out
  have q6 : ¬ (191 < ((s[i + 1]'hj).toNat : Int)) := by omega
  have HE : Hid (Utf8.decode s i = (((s[i]'hi).toNat - 192) * 64 + (s[i + 1]'hj).toNat - 128, 2)) := dec_two hi (by omega) (by omega) hj (by omega) (by omega)
  go_enter Try.func28, Try.ntmps28
  go_wp2
  go_ret2
  refine ⟨((s[i]'hi).toNat - 192) * 64 + (s[i + 1]'hj).toNat - 128, 2, ?_, rfl, .inr ⟨by omega, Nat.le_refl _, HE.out, by omega⟩⟩
  have e : ((((s[i]'hi).toNat - 192) * 64 + (s[i + 1]'hj).toNat - 128 : Nat) : Int) = (((s[i]'hi).toNat : Int) - 192) * 64 + ((s[i + 1]'hj).toNat : Int) - 128 := by omega
  rw [e]
  rfl

end Go.Proofs.Ytlknakijdpeaoaa

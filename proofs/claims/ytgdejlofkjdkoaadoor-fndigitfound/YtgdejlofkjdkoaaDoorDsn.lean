/- The name of a digit, of the program; no condition. -/
import Derived.Test.YtgdejlofkjdkoaaDoorDss
import Derived.Laws.RangeAny
namespace Go.Proofs.YtgdejlofkjdkoaaDoor
open Go.RowKit Go.ChangeShapes Go.WideShapes Go.ChangeAt
set_option linter.unusedVariables false
set_option linter.unusedSimpArgs false
set_option maxRecDepth 8000

theorem below_iter (w : World) (s : ByteArray) (pos : Nat) : Below w.heap.size w (w.iter s pos) := (Below.refl _ _).alloc (Nat.le_refl _) _
set_option maxHeartbeats 3200000 in
theorem nameI_c (d : Nat) (hd : d < 16) (w : World) : Calls Tryd.prog 28 #[.int .i64 d] w fun e w' => e = .returned (.int .i32 (nmI d)) ∧ Below w.heap.size w w' := by
  have h16 : (⟨#[49, 50, 51, 65, 52, 53, 54, 66, 55, 56, 57, 67, 42, 48, 35, 68]⟩ : ByteArray).size = 16 := rfl
  go_enter Tryd.func28, Tryd.ntmps28
  go_wp2
  go_loopw [] (fun wr => ∃ pos : Nat, pos ≤ d ∧ wr = w.iter (⟨#[49, 50, 51, 65, 52, 53, 54, 66, 55, 56, 57, 67, 42, 48, 35, 68]⟩ : ByteArray) pos) (fun wr => 16 - wr.iterPos w.heap.size)
  case atStart => exact ⟨0, Nat.zero_le _, rfl⟩
  case round =>
    obtain ⟨pos, hpos, rfl⟩ := hrel
    have hp : pos < (⟨#[49, 50, 51, 65, 52, 53, 54, 66, 55, 56, 57, 67, 42, 48, 35, 68]⟩ : ByteArray).size := by rw [h16]; omega
    have ha := nms_at pos (by omega)
    obtain ⟨b, hbb⟩ : ∃ b, ((⟨#[49, 50, 51, 65, 52, 53, 54, 66, 55, 56, 57, 67, 42, 48, 35, 68]⟩ : ByteArray)[pos]'hp).toNat = b := ⟨_, rfl⟩
    have hb1 : (b : Int) = nmI pos := by rw [← hbb]; exact ha.1
    have hb2 : b < 128 := by rw [← hbb]; exact ha.2
    have hnx : ∀ ty, (Instr.next (.pointer (some ⟨w.heap.size, 0, none⟩)) true ty).run Tryd.prog (w.iter (⟨#[49, 50, 51, 65, 52, 53, 54, 66, 55, 56, 57, 67, 42, 48, 35, 68]⟩ : ByteArray) pos) = .ok (.tuple #[.bool true, .int .i64 pos, .int .i32 (b : Int)]) (w.iter (⟨#[49, 50, 51, 65, 52, 53, 54, 66, 55, 56, 57, 67, 42, 48, 35, 68]⟩ : ByteArray) (pos + 1)) := fun ty => by
      have := run_next_any (P := Tryd.prog) w (⟨#[49, 50, 51, 65, 52, 53, 54, 66, 55, 56, 57, 67, 42, 48, 35, 68]⟩ : ByteArray) pos ty hp
      rw [decode_ascii (⟨#[49, 50, 51, 65, 52, 53, 54, 66, 55, 56, 57, 67, 42, 48, 35, 68]⟩ : ByteArray) pos hp (by rw [hbb]; exact hb2), hbb] at this
      exact this
    rw [hb1] at hnx
    by_cases c : pos = d
    · subst c
      have ce : ((pos : Int) == (pos : Int)) = true := by simp
      clear hbb hb1 ha
      go_wp2
      go_ret
      exact ⟨rfl, below_iter _ _ _⟩
    · have ce : ((pos : Int) == (d : Int)) = false := by simp; omega
      clear hbb hb1 ha
      go_wp2
      go_roundw
      case rel => exact ⟨pos + 1, by omega, rfl⟩
      case measure => simp; omega

end Go.Proofs.YtgdejlofkjdkoaaDoor

/- strings.Clone; no condition. -/
import Derived.Test.YtlknakijdpeaoaaSl
import Derived.Lib.Strings
import Derived.Lib.Walk
import Derived.Lib.BufferWrite
import Derived.Lib.UnsafeStr
import Derived.Lib.Hide
import Derived.Laws.MakeOwn
namespace Go.Proofs.Ytlknakijdpeaoaa
open Go.RowKit Go.ChangeShapes Go.WideShapes Go.ChangeAt
set_option linter.unusedVariables false
set_option linter.unusedSimpArgs false
set_option maxRecDepth 8000

theorem cells5 : Try.prog.cellsOf 5 = 1 := by kernel_rfl
theorem size5 : (Try.prog.info? 5).map (·.size) = some 1 := by kernel_rfl
/-- a row for n bytes is made -/
theorem made8 (n : Nat) (hn : n ≤ 281474976710656) : ∃ M : Array Value, M.size = n ∧ ∀ W : World, (Instr.makeSlice 22 (.int .i64 (n : Int)) (.int .i64 (n : Int))).run Try.prog W = .ok (.slice (some ⟨W.heap.size, 0, none⟩) n n) (W.alloc (.cells M 5)) := by
  obtain ⟨i, h1, h2, h3, h4⟩ := info_parts toBInfo
  refine ⟨_, ?_, fun W => (run_make W 22 5 i (.int .u8 0) Try.underlying22 h1 h2 .i64 .i64 n n (by omega) (by omega) (by rw [h4]; omega) (by omega))⟩
  rw [size_madeCells, h3]
  simp
/-- the row takes the bytes of a text that is as long as it is -/
theorem took8 (s : ByteArray) {M : Array Value} (hM : M.size = s.size) {W : World} {g : Nat} (hg : Blk W g M 5) :
    (Builtin.copy_ #[22, 9] 3 #[.slice (some ⟨g, 0, none⟩) s.size s.size, .string s]).run Try.prog W = .ok (goInt s.size) (W.setRow g (Lib.byteCells s.data.toList).toArray) := by
  rw [Lib.run_copy_row_string W 22 9 3 5 g 0 s.size s.size s M 5 Try.underlying22 size5 hg (Nat.le_refl _) (by omega), Nat.zero_add, List.drop_of_length_le (by simp; omega)]
  simp
/-- the text that such a row is; the row can't be written from then on -/
theorem told8 (s : ByteArray) (h0 : ¬ s.size = 0) (hs : s.size ≤ 281474976710656) {W : World} {g : Nat} (hg : Blk W g (Lib.byteCells s.data.toList).toArray 5) :
    (Builtin.unsafeString_ #[79, 3] 9 #[.pointer (some ⟨g, 0, none⟩), .int .i64 (s.size : Int)]).run Try.prog W = .ok (.string s) (W.freeze ⟨g, 0, none⟩ s.size) := by
  have el : s.data.toList.length = s.size := (Lib.size_eq s).symm
  have ne : s.data.toList ≠ [] := by intro e; rw [e] at el; exact h0 el.symm
  have hr := Lib.run_unsafeString_row (P := Try.prog) W 79 3 9 5 Try.underlying79 cells5 g s.size (by unfold World.shape?; rw [hg]; simp [Lib.byteCells, el]) s.data.toList ne (by omega) (by omega)
    (fun j x hj => by
      have hc := hg.cell j
      rw [show ((⟨g, 0, none⟩ : Addr).add j) = ⟨g, j, none⟩ from by unfold Addr.add; split <;> simp_all, hc]
      simp [Lib.byteCells, hj])
  rw [el] at hr
  exact hr
set_option maxHeartbeats 3200000 in
theorem cloneS_c (s : ByteArray) (w : World) (hlim : s.size ≤ 281474976710656) : Calls Try.prog 54 #[.string s] w fun e w' => e = .returned (.string s) ∧ Below w.heap.size w w' := by
  by_cases h0 : s.size = 0
  case pos =>
    obtain rfl : s = ⟨#[]⟩ := ByteArray.ext (Array.size_eq_zero_iff.1 h0)
    go_enter Try.func54, Try.ntmps54
    go_wp2
    go_ret
    exact ⟨rfl, Below.refl _ _⟩
  case neg =>
    obtain ⟨M, hM, hmk⟩ := made8 s.size hlim
    have hb1 : Below w.heap.size w (w.alloc (.cells M 5)) := (Below.refl _ w).alloc (Nat.le_refl _) _
    have hk : Blk (w.alloc (.cells M 5)) w.heap.size M 5 := Blk.new _ _ _
    have hcp := took8 s hM hk
    have hun := told8 s h0 hlim (hk.row (Lib.byteCells s.data.toList).toArray)
    have HF : Hid (Below w.heap.size w (((w.alloc (.cells M 5)).setRow w.heap.size (Lib.byteCells s.data.toList).toArray).freeze ⟨w.heap.size, 0, none⟩ s.size)) := Lib.below_freeze (belowRow hb1 _ (Nat.le_refl _) _) (Nat.le_refl _) _
    clear hb1 hk
    go_enter Try.func54, Try.ntmps54
    go_wp2
    go_ret
    exact ⟨rfl, HF.out⟩
theorem clone_c (s : ByteArray) (w : World) (hs : s.size ≤ 281474976710656) : Calls Try.prog 42 #[.string s] w fun e w' => e = .returned (.string s) ∧ Below w.heap.size w w' := by
  go_enter Try.func42, Try.ntmps42
  go_wp2_with (fail)
  refine (cloneS_c s w hs).mono ?_
  rintro e w2 ⟨rfl, b2⟩
  have HB : Hid (Below w.heap.size w w2) := b2
  clear b2
  go_wp2
  go_ret
  exact ⟨rfl, HB.out⟩

end Go.Proofs.Ytlknakijdpeaoaa

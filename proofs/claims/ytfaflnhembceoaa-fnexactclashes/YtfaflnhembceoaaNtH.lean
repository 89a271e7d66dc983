/- Notes held; no condition. -/
import Derived.Test.YtfaflnhembceoaaNts
namespace Go.Proofs.Ytfaflnhembceoaa
open Go.RowKit Go.ChangeShapes Go.WideShapes Go.ChangeAt
set_option linter.unusedVariables false
set_option linter.unusedSimpArgs false
set_option maxRecDepth 8000
theorem own_form2 {e : TypeId} {base : Nat} {w : World} {v : Value} {ls : Mvs} (h : Op mf mg e base w v ls) : ∃ a cap, v = .slice a ls.length cap := by
  obtain ⟨a, cap, h1, -⟩ := h.rd; exact ⟨a, cap, h1⟩
set_option maxHeartbeats 1600000 in
theorem heldFeatureS_c (v : Value) (q : Int) (n : Nat) (w : World) (h : Rp mf mg w v (mkM q n)) (h0 : 0 ≤ q) (hq : q + 2 * n ≤ 1152921504606846976) :
   Calls Try.prog 63 #[v, .int .i64 q] w fun e w' => e = .returned (.int .i64 (q + 2 * n)) ∧ Below w.heap.size w w' := by
  obtain ⟨a, cap, rfl, h1, h2, h3⟩ := h
  rw [mkM_len] at h1
  rw [mkM_len]
  unfold maxLen at h2
  go_enter Try.func63, Try.ntmps63
  go_wp2
  go_loopw [1, 5] (fun c i wr => ∃ j : Nat, j ≤ n ∧ i = .int .i64 j ∧ c = .int .i64 (q + 2 * j) ∧ Below w.heap.size w wr) (fun _ i _ => n - (intOf i).toNat)
  case atStart => exact ⟨0, Nat.zero_le _, rfl, by simp, Below.refl _ _⟩
  case round =>
    obtain ⟨j, hj, rfl, rfl, hbr⟩ := hrel
    by_cases hlt : j < n
    · rcases h3 with h3 | ⟨b, off, rfl, h4⟩
      · have := congrArg List.length h3; rw [mkM_len] at this; simp at this; omega
      have hc := h4 j (by rw [mkM_len]; exact hlt)
      rw [mkM_at] at hc
      have hcb : b < w.heap.size := block_lt_of_cell hc.1
      have c0 := (hbr.cell (p := ⟨b, off + j * 2, none⟩) hcb).trans hc.1
      have c1 := (hbr.cell (p := ⟨b, off + j * 2 + 1, none⟩) hcb).trans hc.2
      have e0 : (q + 2 * (j : Int) != q + 2 * (j : Int)) = false := by simp
      have e1 : (q + 2 * (j : Int) + 1 != q + 2 * (j : Int) + 1) = false := by simp
      clear h4 hc
      go_wp2
      go_roundw
      case rel => exact ⟨j + 1, by omega, by go_num, by go_num, hbr⟩
      case measure => simp [intOf]; omega
    · obtain rfl : j = n := by omega
      clear h3
      go_wp2
      go_ret
      exact ⟨rfl, hbr⟩
end Go.Proofs.Ytfaflnhembceoaa

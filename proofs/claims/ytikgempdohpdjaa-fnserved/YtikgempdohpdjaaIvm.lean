/- Rows of whole numbers; no condition. -/
import Derived.Test.YtikgempdohpdjaaBase
import Derived.Test.YtikgempdohpdjaaSl
import Derived.Test.YtikgempdohpdjaaReg
import Derived.Test.YtikgempdohpdjaaApp
import Derived.Test.YtikgempdohpdjaaIvs
import Derived.Deep.QuietTactic
import Derived.BigQuiet
import Derived.OwnWalk
namespace Go.Proofs.Ytikgempdohpdjaa
open Go.RowKit Go.ChangeShapes Go.WideShapes Go.ChangeAt
set_option linter.unusedVariables false
set_option linter.unusedSimpArgs false
set_option maxRecDepth 8000
set_option maxHeartbeats 800000 in
theorem markI (v : Value) (zs : List Int) (q : Int) (base : Nat) (w : World) (h : Ow .i64 3 base w v zs) (h0 : 0 ≤ q) (hq : q + zs.length ≤ 1152921504606846976) :
   Calls Try.prog 32 #[v, .int .i64 q] w fun e w' => e = .returned (.int .i64 (q + zs.length)) ∧ Ow .i64 3 base w' v (marks .i64 q zs.length) ∧ w.grownBy w' v.ownBlock := by
  have hh := h
  rcases h.2 with ⟨rfl, hn⟩ | ⟨g, cap, cur, rfl, hb, hg, hnc, hcm, hcs, ht⟩
  · obtain rfl : zs = [] := List.eq_nil_of_length_eq_zero hn
    clear hn h
    go_enter Try.func32, Try.ntmps32
    go_wp2
    refine wp_loop_rounds 1 ?_
    rw [rounds_succ]
    go_wp2
    go_ret
    exact ⟨by simp, by simpa [marks] using hh, grown_refl _ _⟩
  · clear h hg hcs ht
    unfold maxLen at hcm
    go_enter Try.func32, Try.ntmps32
    go_wp2
    go_loopw [1, 5] (fun c i wr => ∃ j : Nat, j ≤ zs.length ∧ i = .int .i64 j ∧ c = .int .i64 (q + j) ∧ wr.ownsRow base 3 1 (.slice (some ⟨g, 0, none⟩) zs.length cap) zs.length ((mk .i64 q zs j).map (Value.int .i64)) ∧ w.grownBy wr (some g)) (fun _ i _ => zs.length - (intOf i).toNat)
    case atStart => exact ⟨0, Nat.zero_le _, rfl, by simp, by simpa [mk, marks, Ow] using hh, grown_refl _ _⟩
    case round =>
      obtain ⟨j, hj, rfl, rfl, hw, hbr⟩ := hrel
      by_cases hlt : j < zs.length
      · have hd : ∃ u, wr.cell? ⟨g, j, none⟩ = some u := by
          rw [hw.cellAt j (by omega)]
          exact ⟨_, List.getElem?_eq_getElem (by simp [mk_len .i64 q zs j hj]; exact hlt)⟩
        obtain ⟨u, hd⟩ := hd
        have hf := hw.frozenAt j
        have hs := hw.stored j (.int .i64 (IntKind.wrap .i64 (q + j)))
        rw [mk_set .i64 q zs j hlt] at hs
        have HS : Hid _ := hs
        clear hs hw hh
        go_wp2
        go_roundw
        case rel =>
          refine ⟨j + 1, by omega, by go_num, by go_num, ?_, ?_⟩
          · have := HS.out.1
            rw [wrap_i64 (by omega)] at this
            exact this
          · have := grown_trans hbr HS.out.2
            rw [wrap_i64 (by omega)] at this
            exact this
        case measure => simp [intOf]; omega
      · obtain rfl : j = zs.length := by omega
        clear hh
        go_wp2
        go_ret
        exact ⟨rfl, by simpa [mk, marks_len, Ow] using hw, hbr⟩

set_option maxHeartbeats 800000 in
theorem heldI (v : Value) (q : Int) (n : Nat) (w : World) (h : Rd .i64 w v (marks .i64 q n)) (h0 : 0 ≤ q) (hq : q + n ≤ 1152921504606846976) :
   Calls Try.prog 33 #[v, .int .i64 q] w fun e w' => e = .returned (.int .i64 (q + n)) ∧ Below w.heap.size w w' := by
  obtain ⟨a, cap, rfl, h1, h2, h3⟩ := h
  rw [marks_len] at h1 h3
  rw [marks_len]
  unfold maxLen at h2
  go_enter Try.func33, Try.ntmps33
  go_wp2
  go_loopw [1, 5] (fun c i wr => ∃ j : Nat, j ≤ n ∧ i = .int .i64 j ∧ c = .int .i64 (q + j) ∧ Below w.heap.size w wr) (fun _ i _ => n - (intOf i).toNat)
  case atStart => exact ⟨0, Nat.zero_le _, rfl, by simp, Below.refl _ _⟩
  case round =>
    obtain ⟨j, hj, rfl, rfl, hbr⟩ := hrel
    by_cases hlt : j < n
    · rcases h3 with h3 | ⟨b, off, rfl, h4⟩
      · have := congrArg List.length h3; rw [marks_len] at this; simp at this; omega
      have hc : wr.cell? ⟨b, off + j, none⟩ = some (.int .i64 (IntKind.wrap .i64 (q + j))) := by
        have := h4 j hlt
        rw [marks_at _ _ _ _ hlt] at this
        rw [hbr.cell (block_lt_of_cell this)]; exact this
      have hi : (0 : Int) ≤ (j : Int) := by omega
      have hi2 : (j : Int) < (n : Int) := by omega
      clear h4
      go_wp2
      go_roundw
      case rel => exact ⟨j + 1, by omega, by go_num, by go_num, hbr⟩
      case measure => simp [intOf]; omega
    · obtain rfl : j = n := by omega
      clear h3
      go_wp2
      go_ret
      exact ⟨rfl, hbr⟩

end Go.Proofs.Ytikgempdohpdjaa

/- Moves marked and held; no condition. -/
import Derived.Test.YtikhfeafbckjlaaDoorFMv
namespace Go.Proofs.YtikhfeafbckjlaaDoor
open Go.RowKit Go.ChangeShapes Go.WideShapes Go.ChangeAt
set_option linter.unusedVariables false
set_option linter.unusedSimpArgs false
set_option maxRecDepth 8000
theorem own_set2 {e : TypeId} {base b cap : Nat} {w : World} {ls : Mvs} (h : Op mf mg e base w (.slice (some ⟨b, 0, none⟩) ls.length cap) ls) (j : Nat) (hj : j < ls.length) (x : Int × Int) :
    Op mf mg e base ((w.setCell ⟨b, j * 2, none⟩ (mf x)).setCell ⟨b, j * 2 + 1, none⟩ (mg x)) (.slice (some ⟨b, 0, none⟩) ls.length cap) (ls.set j x) := by
  have h1 := (World.ownsRow.stored h (j * 2) (mf x)).1
  have h2 := (World.ownsRow.stored h1 (j * 2 + 1) (mg x)).1
  rw [pr_set mf mg ls j x hj] at h2
  rw [Op, List.length_set]; exact h2
/-- the moves that are marked from q on -/
def mkM (q : Int) (n : Nat) : Mvs := (List.range n).map fun i : Nat => (q + 2 * (i : Int), q + 2 * (i : Int) + 1)
theorem mkM_len (q : Int) (n : Nat) : (mkM q n).length = n := by simp [mkM]
theorem mkM_succ (q : Int) (n : Nat) : mkM q (n + 1) = mkM q n ++ [(q + 2 * (n : Int), q + 2 * (n : Int) + 1)] := by simp [mkM, List.range_succ]
theorem mkM_at (q : Int) (n i : Nat) (h : i < (mkM q n).length) : (mkM q n)[i] = (q + 2 * (i : Int), q + 2 * (i : Int) + 1) := by simp [mkM]
theorem mkM_set (q : Int) (ls : Mvs) (j : Nat) (h : j < ls.length) : (mkM q j ++ ls.drop j).set j (q + 2 * (j : Int), q + 2 * (j : Int) + 1) = mkM q (j + 1) ++ ls.drop (j + 1) := by
  rw [List.drop_eq_getElem_cons h, mkM_succ, List.set_append]
  simp only [mkM_len, Nat.lt_irrefl, if_false, Nat.sub_self, List.set_cons_zero, List.append_assoc, List.cons_append, List.nil_append]
set_option maxHeartbeats 1600000 in
theorem markMoveS_c (v : Value) (ls : Mvs) (q : Int) (base : Nat) (w : World) (h : Op mf mg 74 base w v ls) (h0 : 0 ≤ q) (hq : q + 2 * ls.length ≤ 1152921504606846976) :
   Calls Tryd.prog 26 #[v, .int .i64 q] w fun e w' => e = .returned (.int .i64 (q + 2 * ls.length)) ∧ Op mf mg 74 base w' v (mkM q ls.length) ∧ w.grownBy w' v.ownBlock := by
  have hh := h
  rcases h.2 with ⟨rfl, hn⟩ | ⟨g, cap, cur, rfl, hb, hg, hnc, hcm, hcs, ht⟩
  · obtain rfl : ls = [] := List.eq_nil_of_length_eq_zero hn
    clear hn h
    go_enter Tryd.func26, Tryd.ntmps26
    go_wp2
    refine wp_loop_rounds 1 ?_
    rw [rounds_succ]
    go_wp2
    go_ret
    exact ⟨by simp, by simpa [mkM] using hh, grown_refl _ _⟩
  · clear h hg hcs ht
    unfold maxLen at hcm
    go_enter Tryd.func26, Tryd.ntmps26
    go_wp2
    go_loopw [1, 5] (fun c i wr => ∃ j : Nat, j ≤ ls.length ∧ i = .int .i64 j ∧ c = .int .i64 (q + 2 * j) ∧ Hid (Op mf mg 74 base wr (.slice (some ⟨g, 0, none⟩) ls.length cap) (mkM q j ++ ls.drop j)) ∧ Hid (w.grownBy wr (some g))) (fun _ i _ => ls.length - (intOf i).toNat)
    case atStart => exact ⟨0, Nat.zero_le _, rfl, by simp, (by simpa [mkM] using hh : Op mf mg 74 base w (.slice (some ⟨g, 0, none⟩) ls.length cap) (mkM q 0 ++ ls.drop 0)), grown_refl _ _⟩
    case round =>
      obtain ⟨j, hj, rfl, rfl, hw, hbr⟩ := hrel
      by_cases hlt : j < ls.length
      · have hlen : (mkM q j ++ ls.drop j).length = ls.length := by simp [mkM_len]; omega
        have hO : Op mf mg 74 base wr (.slice (some ⟨g, 0, none⟩) (mkM q j ++ ls.drop j).length cap) (mkM q j ++ ls.drop j) := by rw [hlen]; exact hw.out
        have hp := pr_at mf mg (mkM q j ++ ls.drop j) j (by omega)
        obtain ⟨y0, d0⟩ : ∃ u, wr.cell? ⟨g, j * 2, none⟩ = some u := ⟨_, (World.ownsRow.cellAt hO (j * 2) (by omega)).trans hp.1⟩
        obtain ⟨y1, d1⟩ : ∃ u, wr.cell? ⟨g, j * 2 + 1, none⟩ = some u := ⟨_, (World.ownsRow.cellAt hO (j * 2 + 1) (by omega)).trans hp.2⟩
        have f0 := World.ownsRow.frozenAt hO (j * 2)
        have f1 := World.ownsRow.frozenAt hO (j * 2 + 1)
        have hS := own_set2 hO j (by omega) (q + 2 * (j : Int), q + 2 * (j : Int) + 1)
        rw [mkM_set q ls j hlt, hlen] at hS
        have HS : Hid (Op mf mg 74 base ((wr.setCell ⟨g, j * 2, none⟩ (.int .i64 (q + 2 * (j : Int)))).setCell ⟨g, j * 2 + 1, none⟩ (.int .i64 (q + 2 * (j : Int) + 1))) (.slice (some ⟨g, 0, none⟩) ls.length cap) (mkM q (j + 1) ++ ls.drop (j + 1))) := hS
        have HG : Hid (w.grownBy ((wr.setCell ⟨g, j * 2, none⟩ (.int .i64 (q + 2 * (j : Int)))).setCell ⟨g, j * 2 + 1, none⟩ (.int .i64 (q + 2 * (j : Int) + 1))) (some g)) := grown_trans (grown_trans hbr.out (grown_set _ _ _ _)) (grown_set _ _ _ _)
        clear hO hp hS hw hbr hh
        go_wp2
        go_roundw
        case rel => exact ⟨j + 1, by omega, by go_num, by go_num, HS.out, HG.out⟩
        case measure => simp [intOf]; omega
      · obtain rfl : j = ls.length := by omega
        clear hh
        go_wp2
        go_ret
        exact ⟨rfl, by have := hw.out; simpa using this, hbr.out⟩
set_option maxHeartbeats 1600000 in
theorem heldMoveS_c (v : Value) (q : Int) (n : Nat) (w : World) (h : Rp mf mg w v (mkM q n)) (h0 : 0 ≤ q) (hq : q + 2 * n ≤ 1152921504606846976) :
   Calls Tryd.prog 28 #[v, .int .i64 q] w fun e w' => e = .returned (.int .i64 (q + 2 * n)) ∧ Below w.heap.size w w' := by
  obtain ⟨a, cap, rfl, h1, h2, h3⟩ := h
  rw [mkM_len] at h1
  rw [mkM_len]
  unfold maxLen at h2
  go_enter Tryd.func28, Tryd.ntmps28
  go_wp2
  go_loopw [1, 5] (fun c i wr => ∃ j : Nat, j ≤ n ∧ i = .int .i64 j ∧ c = .int .i64 (q + 2 * j) ∧ Below w.heap.size w wr) (fun _ i _ => n - (intOf i).toNat)
  case atStart => exact ⟨0, Nat.zero_le _, rfl, by simp, Below.refl _ _⟩
  case round =>
    obtain ⟨j, hj, rfl, rfl, hbr⟩ := hrel
    by_cases hlt : j < n
    · rcases h3 with h3 | ⟨b, off, rfl, h4⟩
      · have := congrArg List.length h3; rw [mkM_len] at this; simp at this; omega
      have hc := h4 j (by rw [mkM_len]; exact hlt)
      rw [mkM_at] at hc
      have hcb : b < w.heap.size := block_lt_of_cell hc.1
      have c0 := (hbr.cell (p := ⟨b, off + j * 2, none⟩) hcb).trans hc.1
      have c1 := (hbr.cell (p := ⟨b, off + j * 2 + 1, none⟩) hcb).trans hc.2
      have e0 : (q + 2 * (j : Int) != q + 2 * (j : Int)) = false := by simp
      have e1 : (q + 2 * (j : Int) + 1 != q + 2 * (j : Int) + 1) = false := by simp
      clear h4 hc
      go_wp2
      go_roundw
      case rel => exact ⟨j + 1, by omega, by go_num, by go_num, hbr⟩
      case measure => simp [intOf]; omega
    · obtain rfl : j = n := by omega
      clear h3
      go_wp2
      go_ret
      exact ⟨rfl, hbr⟩
end Go.Proofs.YtikhfeafbckjlaaDoor

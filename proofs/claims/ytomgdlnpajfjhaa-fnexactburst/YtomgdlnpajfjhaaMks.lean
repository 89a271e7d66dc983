/- Marks of rows of samples; no condition. -/
import Derived.Test.YtomgdlnpajfjhaaReg5
import Derived.Test.YtomgdlnpajfjhaaExb
namespace Go.Proofs.Ytomgdlnpajfjhaa
open Go.RowKit Go.ChangeShapes Go.WideShapes Go.ChangeAt
set_option linter.unusedVariables false
set_option linter.unusedSimpArgs false
set_option maxRecDepth 8000

/-- the marks of a row of samples -/
def mkf (k : Int) (i : Nat) : Nat × Nat := (floatOfInt .f32 (k + 2 * (i : Int)), floatOfInt .f32 (k + 2 * (i : Int) + 1))
theorem flI_nan (n : Int) : fnan .f32 (floatOfInt .f32 n) = false := wN_nan .f32 _ _
theorem flI_eq (n : Int) : FloatKind.f32.format.order (floatOfInt .f32 n) (floatOfInt .f32 n) = some .eq := order_self (flI_nan n)
set_option maxHeartbeats 6400000 in
theorem markSm_c (v : Value) (ls : List (Nat × Nat)) (k : Int) (base : Nat) (w : World) (h : Og 2 smC 27 base w v ls) (h0 : 0 ≤ k) (h1 : k ≤ 1048576) (hn : ls.length ≤ 1048576) :
   Calls Try.prog 19 #[v, .int .i64 k] w fun e w' => e = .returned (.int .i64 (k + 2 * (ls.length : Int))) ∧ Og 2 smC 27 base w' v (mkg (mkf k) ls.length) ∧ w.grownBy w' v.ownBlock := by
  have hh := h
  have hsf := storeF
  rcases h.2 with ⟨rfl, hn0⟩ | ⟨g, cap, cur, rfl, hb, hg, hnc, hcm, hcs, ht⟩
  · obtain rfl : ls = [] := List.eq_nil_of_length_eq_zero hn0
    clear hn0 h
    go_enter Try.func19, Try.ntmps19
    go_wp2
    refine wp_loop_rounds 1 ?_
    rw [rounds_succ]
    go_wp2
    go_ret
    exact ⟨by simp, by simpa [mkg] using hh, grown_refl _ _⟩
  · clear h hg hcs ht
    unfold maxLen at hcm
    have HH : Hid (Og 2 smC 27 base w (.slice (some ⟨g, 0, none⟩) ls.length cap) ls) := hh
    clear hh
    go_enter Try.func19, Try.ntmps19
    go_wp2
    go_loopw [1, 5] (fun c i wr => ∃ j : Nat, j ≤ ls.length ∧ i = .int .i64 j ∧ c = .int .i64 (k + 2 * (j : Int)) ∧ Hid (Og 2 smC 27 base wr (.slice (some ⟨g, 0, none⟩) ls.length cap) (mkg (mkf k) j ++ ls.drop j)) ∧ Hid (w.grownBy wr (some g))) (fun _ i _ => ls.length - (intOf i).toNat)
    case atStart => exact ⟨0, Nat.zero_le _, rfl, by simp, (show Og 2 smC 27 base w (.slice (some ⟨g, 0, none⟩) ls.length cap) _ from by simpa [mkg] using HH.out), grown_refl _ _⟩
    case round =>
      obtain ⟨j, hj, rfl, rfl, hw, hbr⟩ := hrel
      have hl : (mkg (mkf k) j ++ ls.drop j).length = ls.length := by simp [mkg_len]; omega
      by_cases hlt : j < ls.length
      · have hw1 := hw.out
        have hw2 : wr.ownsRow base 27 2 (.slice (some ⟨g, 0, none⟩) ls.length cap) ls.length ((mkg (mkf k) j ++ ls.drop j).flatMap smC) := by rw [Og, hl] at hw1; exact hw1
        have hO : Og 2 smC 27 base wr (.slice (some ⟨g, 0, none⟩) (mkg (mkf k) j ++ ls.drop j).length cap) (mkg (mkf k) j ++ ls.drop j) := by rw [Og, hl]; exact hw2
        obtain ⟨y0, hd0⟩ : ∃ u, wr.cell? ⟨g, j * 2, none⟩ = some u := ⟨_, (hw2.cellAt (j * 2 + 0) (by omega)).trans (fm_at smC_len (mkg (mkf k) j ++ ls.drop j) j 0 (by omega) (by decide))⟩
        obtain ⟨y1, hd1⟩ : ∃ u, wr.cell? ⟨g, j * 2 + 1, none⟩ = some u := ⟨_, (hw2.cellAt (j * 2 + 1) (by omega)).trans (fm_at smC_len (mkg (mkf k) j ++ ls.drop j) j 1 (by omega) (by decide))⟩
        have hf0 := hw2.frozenAt (j * 2)
        have hf1 := hw2.frozenAt (j * 2 + 1)
        have hS := own_setg smC_len hO j (by omega) (mkf k j)
        have hl2 : (mkg (mkf k) (j + 1) ++ ls.drop (j + 1)).length = ls.length := by simp [mkg_len]; omega
        rw [mkg_set _ _ _ hlt, hl] at hS
        have hG := grown_setW (smC (mkf k j)) wr g (j * 2)
        obtain ⟨x, hx⟩ : ∃ x, floatOfInt .f32 (k + 2 * (j : Int)) = x := ⟨_, rfl⟩
        obtain ⟨y, hy⟩ : ∃ y, floatOfInt .f32 (k + 2 * (j : Int) + 1) = y := ⟨_, rfl⟩
        rw [show mkf k j = (x, y) by rw [← hx, ← hy]; rfl] at hS hG
        simp only [setW, smC] at hS hG
        have HS : Hid _ := hS
        have HG : Hid _ := grown_trans hbr.out hG
        clear hS hG hO hw1 hw2 hw hl hl2 hbr HH
        go_wp2
        go_roundw
        case rel => exact ⟨j + 1, by omega, by go_num, by go_num, HS.out, HG.out⟩
        case measure => simp [intOf]; omega
      · obtain rfl : j = ls.length := by omega
        have HE := hw.out
        rw [List.drop_length, List.append_nil] at HE
        have HE' : Hid _ := HE
        clear HE hw HH hl hlt hj
        go_wp2
        go_ret
        exact ⟨rfl, HE'.out, hbr.out⟩
set_option maxHeartbeats 6400000 in
theorem heldSm_c (v : Value) (k : Int) (n : Nat) (w : World) (h : Rg 2 smC w v (mkg (mkf k) n)) (h0 : 0 ≤ k) (h1 : k ≤ 1048576) (hn : n ≤ 1048576) :
   Calls Try.prog 20 #[v, .int .i64 k] w fun e w' => e = .returned (.int .i64 (k + 2 * (n : Int))) ∧ Below w.heap.size w w' := by
  obtain ⟨a, cap, rfl, hc1, hc2, h3⟩ := h
  unfold maxLen at hc2
  rw [mkg_len] at hc1 ⊢
  go_enter Try.func20, Try.ntmps20
  go_wp2
  go_loopw [1, 5] (fun c i wr => ∃ j : Nat, j ≤ n ∧ i = .int .i64 j ∧ c = .int .i64 (k + 2 * (j : Int)) ∧ Hid (Below w.heap.size w wr)) (fun _ i _ => n - (intOf i).toNat)
  case atStart => exact ⟨0, Nat.zero_le _, rfl, by simp, Below.refl _ _⟩
  case round =>
    obtain ⟨j, hj, rfl, rfl, hbr⟩ := hrel
    by_cases hlt : j < n
    · rcases h3 with h3 | ⟨b, off, rfl, h4⟩
      · have := congrArg List.length h3; rw [mkg_len] at this; simp at this; omega
      have hjl : j < (mkg (mkf k) n).length := by rw [mkg_len]; exact hlt
      have h4j := h4 j hjl
      rw [mkg_at] at h4j
      have hcb : b < w.heap.size := block_lt_of_cell (h4j 0 _ rfl)
      have hc := rangeAt_below h4j hbr.out hcb
      have ox := flI_eq (k + 2 * (j : Int))
      have oy := flI_eq (k + 2 * (j : Int) + 1)
      obtain ⟨x, hx⟩ : ∃ x, floatOfInt .f32 (k + 2 * (j : Int)) = x := ⟨_, rfl⟩
      obtain ⟨y, hy⟩ : ∃ y, floatOfInt .f32 (k + 2 * (j : Int) + 1) = y := ⟨_, rfl⟩
      rw [show mkf k j = (x, y) by rw [← hx, ← hy]; rfl] at hc
      rw [hx] at ox
      rw [hy] at oy
      have c0 : wr.cell? ⟨b, off + j * 2, none⟩ = some (.float .f32 x) := hc 0 _ rfl
      have c1 : wr.cell? ⟨b, off + j * 2 + 1, none⟩ = some (.float .f32 y) := hc 1 _ rfl
      clear h4 h4j hc hjl
      go_wp2
      go_roundw
      case rel => exact ⟨j + 1, by omega, by go_num, by go_num, hbr.out⟩
      case measure => simp [intOf]; omega
    · obtain rfl : j = n := by omega
      clear h3
      go_wp2
      go_ret
      exact ⟨rfl, hbr.out⟩

end Go.Proofs.Ytomgdlnpajfjhaa

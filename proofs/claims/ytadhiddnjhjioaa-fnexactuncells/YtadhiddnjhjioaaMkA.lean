/- Contracts of the laws' helpers that mark slices of arrays of sixteen bytes, and look at the marks; no condition. -/
import Derived.Test.YtadhiddnjhjioaaSlA
namespace Go.Proofs.Ytadhiddnjhjioaa
open Go.RowKit Go.ChangeShapes Go.WideShapes Go.ChangeAt
set_option linter.unusedVariables false
set_option linter.unusedSimpArgs false
theorem marks_ok (q : Int) (n : Nat) : bytesOk (marks .u8 q n) := by
  intro z hz
  simp only [marks, List.mem_map] at hz
  obtain ⟨i, _, rfl⟩ := hz
  rw [wrap_u8]; omega
set_option maxHeartbeats 1600000 in
theorem markA (v : Value) (n : Nat) (zs : List Int) (q : Int) (base : Nat) (w : World) (h : OwA base w v n zs) (h0 : 0 ≤ q) (hq : q + n * 16 ≤ 1152921504606846976) :
   Calls Try.prog 34 #[v, .int .i64 q] w fun e w' => e = .returned (.int .i64 (q + n * 16)) ∧ OwA base w' v n (marks .u8 q (n * 16)) ∧ w.grownBy w' v.ownBlock := by
  have hh := h.1
  have hlen := h.len
  rcases h.1.2 with ⟨rfl, hn⟩ | ⟨g, cap, cur, rfl, hb, hg, hnc, hcm, hcs, ht⟩
  · subst hn
    obtain rfl : zs = [] := List.eq_nil_of_length_eq_zero (by omega)
    have hok := h.2
    clear hlen h
    go_enter Try.func34, Try.ntmps34
    go_wp2
    refine wp_loop_rounds 1 ?_
    rw [rounds_succ]
    go_wp2
    go_ret
    exact ⟨by simp, ⟨by simpa [marks] using hh, marks_ok _ _⟩, grown_refl _ _⟩
  · clear h hg hcs ht
    unfold maxLen at hcm
    go_enter Try.func34, Try.ntmps34
    go_wp2
    go_loopw [1, 5] (fun c i wr => ∃ j : Nat, j ≤ n ∧ i = .int .i64 j ∧ c = .int .i64 (q + j * 16) ∧ wr.ownsRow base 29 16 (.slice (some ⟨g, 0, none⟩) n cap) n ((mk .u8 q zs (j * 16)).map (Value.int .u8)) ∧ w.grownBy wr (some g)) (fun _ i _ => n - (intOf i).toNat)
    case atStart => exact ⟨0, Nat.zero_le _, rfl, by simp, by simpa [mk, marks] using hh, grown_refl _ _⟩
    case round =>
      obtain ⟨j, hj, rfl, rfl, hw, hbr⟩ := hrel
      clear hh
      by_cases hlt : j < n
      · go_wp2
        go_loopw [1, 6] (fun c i wr => ∃ t : Nat, t ≤ 16 ∧ i = .int .i64 t ∧ c = .int .i64 (q + j * 16 + t) ∧ wr.ownsRow base 29 16 (.slice (some ⟨g, 0, none⟩) n cap) n ((mk .u8 q zs (j * 16 + t)).map (Value.int .u8)) ∧ w.grownBy wr (some g)) (fun _ i _ => 16 - (intOf i).toNat)
        case atStart => exact ⟨0, by omega, rfl, by simp, by simpa using hw, hbr⟩
        case round =>
          clear hw hbr
          obtain ⟨t, ht, rfl, rfl, hw, hbr⟩ := hrel
          by_cases hlt2 : t < 16
          · have hk : j * 16 + t < zs.length := by omega
            have hd : ∃ u, wr.cell? ⟨g, j * 16 + t, none⟩ = some u := by
              rw [hw.cellAt (j * 16 + t) (by omega)]
              exact ⟨_, List.getElem?_eq_getElem (by simp [mk_len .u8 q zs _ (Nat.le_of_lt hk)]; exact hk)⟩
            obtain ⟨u, hd⟩ := hd
            have hf := hw.frozenAt (j * 16 + t)
            have hs := hw.stored (j * 16 + t) (.int .u8 (IntKind.wrap .u8 (q + (j * 16 + t : Nat))))
            rw [mk_set .u8 q zs _ hk, wrap_u8, show q + ((j * 16 + t : Nat) : Int) = q + j * 16 + t by omega] at hs
            have HS : Hid _ := hs
            have hi : (0 : Int) ≤ (j : Int) := by omega
            have hi2 : (j : Int) < (n : Int) := by omega
            clear hs hw
            go_wp2
            go_roundw
            case rel => exact ⟨t + 1, by omega, by go_num, by go_num, HS.out.1, grown_trans hbr HS.out.2⟩
            case measure => simp [intOf]; omega
          · obtain rfl : t = 16 := by omega
            go_wp2
            go_roundw
            case rel => exact ⟨j + 1, by omega, by go_num, by go_num, by rw [show (j + 1) * 16 = j * 16 + 16 by omega]; exact hw, hbr⟩
            case measure => simp [intOf]; omega
      · obtain rfl : j = n := by omega
        go_wp2
        go_ret
        exact ⟨rfl, ⟨by simpa [mk, marks_len, hlen, List.drop_eq_nil_of_le (show zs.length ≤ j * 16 by omega)] using hw, marks_ok _ _⟩, hbr⟩
set_option maxHeartbeats 1600000 in
theorem heldA (v : Value) (q : Int) (n : Nat) (w : World) (h : RdA w v n (marks .u8 q (n * 16))) (h0 : 0 ≤ q) (hq : q + n * 16 ≤ 1152921504606846976) :
   Calls Try.prog 35 #[v, .int .i64 q] w fun e w' => e = .returned (.int .i64 (q + n * 16)) ∧ Below w.heap.size w w' := by
  obtain ⟨a, cap, rfl, h1, h2, hl, hbx, h3⟩ := h
  clear hl hbx
  unfold maxLen at h2
  go_enter Try.func35, Try.ntmps35
  go_wp2
  go_loopw [1, 5] (fun c i wr => ∃ j : Nat, j ≤ n ∧ i = .int .i64 j ∧ c = .int .i64 (q + j * 16) ∧ Below w.heap.size w wr) (fun _ i _ => n - (intOf i).toNat)
  case atStart => exact ⟨0, Nat.zero_le _, rfl, by simp, Below.refl _ _⟩
  case round =>
    obtain ⟨j, hj, rfl, rfl, hbr⟩ := hrel
    by_cases hlt : j < n
    · rcases h3 with h3 | ⟨b, off, rfl, h4⟩
      · omega
      have HC : Hid (∀ t W, t < 16 → Below w.heap.size w W → W.cell? ⟨b, off + j * 16 + t, none⟩ = some (.int .u8 ((q + j * 16 + t) % 256))) := by
        intro t W ht hW
        have := h4 (j * 16 + t) (by omega)
        rw [marks_at _ _ _ _ (by omega), wrap_u8, show q + ((j * 16 + t : Nat) : Int) = q + j * 16 + t by omega] at this
        rw [show off + j * 16 + t = off + (j * 16 + t) by omega, hW.cell (block_lt_of_cell this)]; exact this
      clear h4
      go_wp2
      go_loopw [1, 6] (fun c i wr => ∃ t : Nat, t ≤ 16 ∧ i = .int .i64 t ∧ c = .int .i64 (q + j * 16 + t) ∧ Below w.heap.size w wr) (fun _ i _ => 16 - (intOf i).toNat)
      case atStart => exact ⟨0, by omega, rfl, by simp, hbr⟩
      case round =>
        clear hbr
        obtain ⟨t, ht, rfl, rfl, hbr⟩ := hrel
        by_cases hlt2 : t < 16
        · have hc := HC.out t wr hlt2 hbr
          have hi : (0 : Int) ≤ (j : Int) := by omega
          have hi2 : (j : Int) < (n : Int) := by omega
          go_wp2
          go_roundw
          case rel => exact ⟨t + 1, by omega, by go_num, by go_num, hbr⟩
          case measure => simp [intOf]; omega
        · obtain rfl : t = 16 := by omega
          go_wp2
          go_roundw
          case rel => exact ⟨j + 1, by omega, by go_num, by go_num, hbr⟩
          case measure => simp [intOf]; omega
    · obtain rfl : j = n := by omega
      clear h3
      go_wp2
      go_ret
      exact ⟨rfl, hbr⟩
end Go.Proofs.Ytadhiddnjhjioaa

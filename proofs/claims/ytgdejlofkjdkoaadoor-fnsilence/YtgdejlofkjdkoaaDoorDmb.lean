/- The greatest of four, of the model; no condition. -/
import Derived.Test.YtgdejlofkjdkoaaDoorDgm
namespace Go.Proofs.YtgdejlofkjdkoaaDoor
open Go.RowKit Go.ChangeShapes Go.WideShapes Go.ChangeAt
set_option linter.unusedVariables false
set_option linter.unusedSimpArgs false
set_option maxRecDepth 8000

/-- four in a row -/
def l4 (p : Nat → Int) : List Int := [p 0, p 1, p 2, p 3]
theorem l4_at (p : Nat → Int) (i : Nat) (h : i < 4) : (l4 p).getD i 0 = p i := by
  match i, h with
  | 0, _ => rfl
  | 1, _ => rfl
  | 2, _ => rfl
  | 3, _ => rfl
set_option maxHeartbeats 3200000 in
theorem bestM_c (v : Value) (p : Nat → Int) (hpb : ∀ i, i < 4 → 0 ≤ p i ∧ p i ≤ 35184372088832) (w : World) (h : Rd .i64 w v (l4 p)) : Calls Tryd.prog 43 #[v] w fun e w' => e = .returned (.tuple #[.int .i64 (bst p 4 : Nat), .int .i64 (p (bst p 4)), .bool (outB p (bst p 4) 4)]) ∧ Below w.heap.size w w' := by
  obtain ⟨a, cap, rfl, h1, h2, h3⟩ := h
  unfold maxLen at h2
  rw [show (l4 p).length = 4 from rfl] at h1 h3 ⊢
  rcases h3 with h3 | ⟨b, off, rfl, h4⟩
  · cases h3
  have H4 : Hid (∀ W, Below w.heap.size w W → ∀ i, i < 4 → W.cell? ⟨b, off + i, none⟩ = some (.int .i64 (p i))) := fun W hW i hi => by
    have := h4 i hi
    rw [l4_at _ _ hi] at this
    rw [hW.cell (block_lt_of_cell this)]; exact this
  have HPB : Hid (∀ i, i < 4 → 0 ≤ p i ∧ p i ≤ 35184372088832) := hpb
  clear h4 hpb
  go_enter Tryd.func43, Tryd.ntmps43
  go_wp2
  go_loopw [5, 6] (fun u i wr => ∃ j : Nat, j ≤ 4 ∧ i = .int .i64 j ∧ u = .int .i64 (bst p j : Nat) ∧ Hid (Below w.heap.size w wr)) (fun _ i _ => 4 - (intOf i).toNat)
  case atStart => exact ⟨0, Nat.zero_le _, rfl, rfl, Below.refl _ _⟩
  case round =>
    obtain ⟨j, hj, rfl, rfl, hbr⟩ := hrel
    by_cases hlt : j < 4
    case pos =>
      have hbl : bst p j < 4 := by
        cases j with
        | zero => simp [bst]
        | succ i => have := bst_le p i; omega
      have HS : Hid (bst p (j + 1) = if p (bst p j) < p j then j else bst p j) := rfl
      have kb := H4.out wr hbr.out (bst p j) hbl
      have kj := H4.out wr hbr.out j hlt
      obtain ⟨t, ht⟩ : ∃ b, bst p j = b := ⟨_, rfl⟩
      rw [ht] at HS kb hbl ⊢
      have hb1 : (0 : Int) ≤ (t : Int) := by omega
      have hb2 : (t : Int) < 4 := by omega
      have hj1 : (0 : Int) ≤ (j : Int) := by omega
      have hj2 : (j : Int) < 4 := by omega
      obtain ⟨x, hx⟩ : ∃ x, p t = x := ⟨_, rfl⟩
      obtain ⟨y, hy⟩ : ∃ x, p j = x := ⟨_, rfl⟩
      rw [hx] at HS kb
      rw [hy] at HS kj
      clear hx hy ht
      by_cases c : x < y
      · have HN : Hid (bst p (j + 1) = j) := by show _ = _; rw [HS.out, if_pos c]
        have cd : decide (x < y) = true := by simp; exact c
        clear HS
        go_wp2
        go_quiet (fail)
        go_wp2
        go_roundw
        case rel => exact ⟨j + 1, by omega, by go_num, by rw [HN.out], below_drewN hbr.out _⟩
        case measure => simp [intOf]; omega
      · have HN : Hid (bst p (j + 1) = t) := by show _ = _; rw [HS.out, if_neg c]
        have cd : decide (x < y) = false := by simp; omega
        clear HS
        go_wp2
        go_quiet (fail)
        go_wp2
        go_roundw
        case rel => exact ⟨j + 1, by omega, by go_num, by rw [HN.out], below_drewN hbr.out _⟩
        case measure => simp [intOf]; omega
    case neg =>
    obtain rfl : j = 4 := by omega
    have htl : bst p 4 < 4 := by have h3 : bst p 4 ≤ 3 := bst_le p 3; omega
    obtain ⟨t, ht⟩ : ∃ b, bst p 4 = b := ⟨_, rfl⟩
    rw [ht] at htl ⊢
    rw [show ((4 : Nat) : Int) = 4 from rfl]
    have hb1 : (0 : Int) ≤ (t : Int) := by omega
    have hb2 : (t : Int) < 4 := by omega
    have htp := HPB.out t htl
    have HB1 : Hid (Below w.heap.size w wr) := hbr.out
    have HTT : Hid (bst p 4 = t) := ht
    clear ht hbr
    go_wp2
    go_loopw [7] (fun i wq => ∃ j : Nat, j ≤ 4 ∧ i = .int .i64 j ∧ Hid (outB p t j = true) ∧ Hid (Below w.heap.size w wq)) (fun i _ => 4 - (intOf i).toNat)
    case atStart => exact ⟨0, Nat.zero_le _, rfl, rfl, HB1.out⟩
    case round =>
      obtain ⟨j, hj, rfl, hO, hbr⟩ := hrel
      clear HB1
      have kb := H4.out wr hbr.out t htl
      obtain ⟨x, hx⟩ : ∃ x, p t = x := ⟨_, rfl⟩
      have HX : Hid (p t = x) := hx
      rw [hx] at kb htp
      clear hx
      by_cases hlt : j < 4
      case neg =>
        obtain rfl : j = 4 := by omega
        go_wp2
        first
        | (go_quiet (fail)
           go_wp2)
        | skip
        go_ret3
        exact ⟨by rw [HTT.out, hO.out, HX.out]; rfl, by first | exact below_drewN (below_drewN hbr.out _) _ | exact below_drewN hbr.out _ | exact hbr.out⟩
      case pos =>
      have HS : Hid (outB p t (j + 1) = (outB p t j && (decide (j = t) || decide (8 * p j ≤ p t)))) := rfl
      have HFA : Hid (outB p t (j + 1) = false → outB p t 4 = false) := fun h => by
        obtain rfl | rfl | rfl | rfl : j = 0 ∨ j = 1 ∨ j = 2 ∨ j = 3 := by omega
        all_goals simp only [outB, Nat.zero_add] at h ⊢
        all_goals simp only [h, Bool.false_and]
      have kj := H4.out wr hbr.out j hlt
      have hjp := HPB.out j hlt
      have hj1 : (0 : Int) ≤ (j : Int) := by omega
      have hj2 : (j : Int) < 4 := by omega
      obtain ⟨y, hy⟩ : ∃ y, p j = y := ⟨_, rfl⟩
      rw [hy, HX.out] at HS
      rw [hy] at hjp kj
      clear hy
      rw [hO.out] at HS
      by_cases c0 : j = t
      · have HN : Hid (outB p t (j + 1) = true) := by show _ = _; rw [HS.out]; simp [c0]
        have cd : ((j : Int) != (t : Int)) = false := by simp; omega
        clear HS HFA
        go_wp2
        go_quiet (fail)
        go_wp2
        go_roundw
        case rel => exact ⟨j + 1, by omega, by go_num, HN.out, below_drewN hbr.out _⟩
        case measure => simp [intOf]; omega
      have cd : ((j : Int) != (t : Int)) = true := by simp; omega
      by_cases c : x < 8 * y
      · have HN : Hid (outB p t 4 = false) := HFA.out (by rw [HS.out]; simp [c0]; omega)
        have ce : decide (x < 8 * y) = true := by simp; exact c
        clear HS HFA
        go_wp2
        go_quiet (fail)
        go_wp2
        first
        | (go_quiet (fail)
           go_wp2)
        | skip
        go_ret3
        exact ⟨by rw [HTT.out, HN.out, HX.out]; rfl, by first | exact below_drewN (below_drewN hbr.out _) _ | exact below_drewN hbr.out _ | exact hbr.out⟩
      · have HN : Hid (outB p t (j + 1) = true) := by show _ = _; rw [HS.out]; simp [c0]; omega
        have ce : decide (x < 8 * y) = false := by simp; omega
        clear HS HFA
        go_wp2
        go_quiet (fail)
        go_wp2
        go_roundw
        case rel => exact ⟨j + 1, by omega, by go_num, HN.out, below_drewN hbr.out _⟩
        case measure => simp [intOf]; omega

end Go.Proofs.YtgdejlofkjdkoaaDoor

/- The program: Changes; no condition. -/
import Derived.Test.YtikgempdohpdjaaCht
namespace Go.Proofs.Ytikgempdohpdjaa
open Go.RowKit Go.ChangeShapes Go.WideShapes Go.ChangeAt
set_option linter.unusedVariables false
set_option linter.unusedSimpArgs false
set_option maxRecDepth 8000

def CgR (zs : List Int) (w : World) (e : Ending) (w' : World) : Prop := e = .returned (.tuple #[.int .i64 ((chT zs zs.length).length : Int), .int .i64 (fwT (chT zs zs.length) (chT zs zs.length).length)]) ∧ Below w.heap.size w w'
theorem fwT_bd {ts : List Int} (h : ∀ k, 0 ≤ ts.getD k 0 ∧ ts.getD k 0 ≤ 1048576) : ∀ i, -1048576 ≤ fwT ts i ∧ fwT ts i ≤ 1048576
  | 0 => by simp [fwT]
  | 1 => by simp [fwT]
  | i + 2 => by
    have h1 := h (i + 1); have h2 := h i; have := fwT_bd h (i + 1)
    rw [fwT]; split <;> omega
theorem chT_gd (zs : List Int) (n : Nat) (hn : n ≤ 1048576) (k : Nat) : 0 ≤ (chT zs n).getD k 0 ∧ (chT zs n).getD k 0 ≤ 1048576 := by
  by_cases hk : k < (chT zs n).length
  · rw [List.getD_eq_getElem?_getD, List.getElem?_eq_getElem hk]
    have := chT_bd zs n _ (List.getElem_mem hk)
    simp; omega
  · rw [List.getD_eq_getElem?_getD, List.getElem?_eq_none (by omega)]; simp
set_option maxHeartbeats 3200000 in
theorem chI_c (v : Value) (zs : List Int) (w : World) (h : Rd .i64 w v zs) (hl : zs.length ≤ 1048576) : Calls Try.prog 17 #[v] w (CgR zs w) := by
  go_enter Try.func17, Try.ntmps17
  go_wp2_with (fail)
  refine (ticks_c v zs _ h hl).mono ?_
  rintro e w1 ⟨v1, rfl, o1, b1⟩
  have HB1 : Hid (Below w.heap.size w w1) := b1
  have HG : Hid (∀ k, 0 ≤ (chT zs zs.length).getD k 0 ∧ (chT zs zs.length).getD k 0 ≤ 1048576) := chT_gd zs _ hl
  have hrd := o1.rd
  have HLT : Hid ((chT zs zs.length).length ≤ 1048576) := Nat.le_trans (chT_len zs _) hl
  obtain ⟨T, hT⟩ : ∃ T, chT zs zs.length = T := ⟨_, rfl⟩
  have HE : Hid (∀ W, Below w.heap.size w W → CgR zs w (.returned (.tuple #[.int .i64 (T.length : Int), .int .i64 (fwT T T.length)])) W) := fun W hW => by rw [← hT]; exact ⟨rfl, hW⟩
  rw [hT] at hrd HG HLT
  have HFB : Hid (∀ i, -1048576 ≤ fwT T i ∧ fwT T i ≤ 1048576) := fwT_bd HG.out
  obtain ⟨a, cap, rfl, h1, h2, -⟩ := id hrd
  unfold maxLen at h2
  have HC : Hid (∀ W j, j < T.length → Below w1.heap.size w1 W → ∃ bo : Nat × Nat, a = some ⟨bo.1, bo.2, none⟩ ∧ bo.1 < w1.heap.size ∧ W.cell? ⟨bo.1, bo.2 + j, none⟩ = some (.int .i64 (T.getD j 0))) := rdc hrd
  obtain ⟨L, hL⟩ : ∃ L, T.length = L := ⟨_, rfl⟩
  have HT : Hid (∀ j, 1 ≤ j → L ≤ j → j ≤ max L 1 → fwT T j = fwT T L) := fun j h1 h2 h3 => by
    rcases Nat.eq_zero_or_pos L with h0 | h0
    · obtain rfl : j = 1 := by omega
      rw [h0]; rfl
    · rw [show j = L by omega]
  have HLT := HLT.out
  rw [hL] at h1 HC HE HLT ⊢
  clear h hl hrd o1 b1 hT hL
  go_wp2
  go_loopw [5, 6] (fun f i wr => ∃ (j : Nat) (F : Int), i = .int .i64 j ∧ f = .int .i64 F ∧ 1 ≤ j ∧ j ≤ max L 1 ∧ Hid (F = fwT T j) ∧ Hid (Below w1.heap.size w1 wr)) (fun _ i _ => L - (intOf i).toNat)
  case atStart => exact ⟨1, 0, rfl, rfl, Nat.le_refl _, by omega, rfl, Below.refl _ _⟩
  case round =>
    obtain ⟨j, F, rfl, rfl, hj1, hj2, hF, hB⟩ := hrel
    by_cases hlt : j < L
    case neg =>
      have HF : Hid (fwT T L = F) := by show _ = _; rw [hF.out, HT.out j hj1 (by omega) hj2]
      have hd : decide ((j : Int) < (L : Int)) = false := by simp; omega
      have he : ((j : Int) < (L : Int)) = False := eq_false (by omega)
      clear hj2 hlt
      go_wp2
      go_ret2
      have := HE.out wr (belowCall HB1.out hB.out HB1.out.size)
      rw [HF.out] at this
      exact this
    case pos =>
    obtain ⟨⟨b, off⟩, rfl, hbl, hc0⟩ := HC.out wr j hlt hB.out
    obtain ⟨bo, e, -, hc1⟩ := HC.out wr (j - 1) (by omega) hB.out
    cases e
    dsimp only at hc0 hc1 hbl
    have HFS : Hid (fwT T (j + 1) = if j = 1 ∨ T.getD j 0 - T.getD (j - 1) 0 < F then T.getD j 0 - T.getD (j - 1) 0 else F) := by show _ = _; rw [fwT_step hj1, ← hF.out]
    have g0 := HG.out j
    have g1 := HG.out (j - 1)
    have fb := HFB.out j
    rw [← hF.out] at fb
    obtain ⟨x, hx⟩ : ∃ x, T.getD j 0 = x := ⟨_, rfl⟩
    obtain ⟨y, hy⟩ : ∃ y, T.getD (j - 1) 0 = y := ⟨_, rfl⟩
    obtain ⟨j1, hj⟩ : ∃ j1 : Nat, j = j1 + 1 := ⟨j - 1, by omega⟩
    rw [hx] at hc0 HFS g0
    rw [hy] at hc1 HFS g1
    rw [show j - 1 = j1 by omega] at hc1
    have hij : ((j : Int) - 1) = (j1 : Int) := by omega
    have hi0 : (0 : Int) ≤ (j : Int) := by omega
    have hi1 : (j : Int) < (L : Int) := by omega
    have hk0 : (0 : Int) ≤ (j1 : Int) := by omega
    have hk1 : (j1 : Int) < (L : Int) := by omega
    have HJ : Hid (j = j1 + 1) := hj
    clear hx hy hj hF
    by_cases ha : j = 1 ∨ x - y < F
    case neg =>
      have HN : Hid (F = fwT T (j + 1)) := by show _ = _; rw [HFS.out, if_neg ha]
      have hq1 : ((j : Int) == 1) = false := by simp; omega
      have hq2 : decide (x - y < F) = false := decide_eq_false (fun h => ha (.inr h))
      have hq3 : (x - y < F) = False := eq_false (fun h => ha (.inr h))
      clear ha HFS
      go_wp2
      go_quiet (fail)
      go_wp2
      go_roundw
      case rel => exact ⟨j + 1, _, by go_num, rfl, by omega, by omega, HN.out, below_drewN hB.out _⟩
      case measure => simp [intOf]; omega
    case pos =>
    have HN : Hid (x - y = fwT T (j + 1)) := by show _ = _; rw [HFS.out, if_pos ha]
    by_cases hq : j = 1
    case pos =>
      have hq1 : ((j : Int) == 1) = true := by simp; omega
      have HQ : Hid (j = 1) := hq
      clear ha HFS hq
      go_wp2
      go_quiet (fail)
      go_wp2
      go_roundw
      case rel => exact ⟨j + 1, _, by go_num, rfl, by omega, by omega, HN.out, below_drewN hB.out _⟩
      case measure => simp [intOf]; omega
    case neg =>
    have hq1 : ((j : Int) == 1) = false := by simp; omega
    have hq0 : x - y < F := by rcases ha with h | h; exact absurd h hq; exact h
    have hq2 : decide (x - y < F) = true := decide_eq_true hq0
    clear ha HFS hq
    go_wp2
    go_quiet (fail)
    go_wp2
    go_roundw
    case rel => exact ⟨j + 1, _, by go_num, rfl, by omega, by omega, HN.out, below_drewN hB.out _⟩
    case measure => simp [intOf]; omega

end Go.Proofs.Ytikgempdohpdjaa

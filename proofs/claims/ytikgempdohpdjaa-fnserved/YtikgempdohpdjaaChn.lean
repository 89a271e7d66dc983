/- The model: Changes; no condition. -/
import Derived.Test.YtikgempdohpdjaaChi
namespace Go.Proofs.Ytikgempdohpdjaa
open Go.RowKit Go.ChangeShapes Go.WideShapes Go.ChangeAt
set_option linter.unusedVariables false
set_option linter.unusedSimpArgs false
set_option maxRecDepth 8000

set_option maxHeartbeats 6400000 in
theorem chM_c (v : Value) (zs : List Int) (w : World) (h : Rd .i64 w v zs) (hl : zs.length ≤ 1048576) : Calls Try.prog 34 #[v] w (CgR zs w) := by
  obtain ⟨a, cap, rfl, h1, h2, -⟩ := id h
  unfold maxLen at h2
  have HC : Hid (∀ W j, j < zs.length → Below w.heap.size w W → ∃ bo : Nat × Nat, a = some ⟨bo.1, bo.2, none⟩ ∧ bo.1 < w.heap.size ∧ W.cell? ⟨bo.1, bo.2 + j, none⟩ = some (.int .i64 (zs.getD j 0))) := rdc h
  have HE : Hid (∀ W T, T = chT zs zs.length → Below w.heap.size w W → CgR zs w (.returned (.tuple #[.int .i64 (T.length : Int), .int .i64 (fwT T T.length)])) W) := fun W T hT hW => by rw [hT]; exact ⟨rfl, hW⟩
  obtain ⟨L, hL⟩ : ∃ L, zs.length = L := ⟨_, rfl⟩
  have HT : Hid (∀ j, 1 ≤ j → L ≤ j → j ≤ max L 1 → chT zs j = chT zs zs.length) := fun j h1 h2 h3 => by
    rw [hL]
    rcases Nat.eq_zero_or_pos L with h0 | h0
    · obtain rfl : j = 1 := by omega
      rw [h0]; rfl
    · rw [show j = L by omega]
  rw [hL] at h1 hl HC HE ⊢
  rw [hL] at HT
  clear h hL
  go_enter Try.func34, Try.ntmps34
  go_wp2
  go_loopw [4, 5, 6, 7] (fun m f l i wr => ∃ (j M : Nat) (F A : Int) (T : List Int), i = .int .i64 j ∧ m = .int .i64 M ∧ f = .int .i64 F ∧ l = .int .i64 A ∧ 1 ≤ j ∧ j ≤ max L 1 ∧ Hid (T = chT zs j) ∧ Hid (M = T.length) ∧ Hid (F = fwT T T.length) ∧ Hid (A = laT T) ∧ Hid (Below w.heap.size w wr)) (fun _ _ _ i _ => L - (intOf i).toNat)
  case atStart => exact ⟨1, 0, 0, -1, [], rfl, rfl, rfl, rfl, Nat.le_refl _, by omega, rfl, rfl, rfl, rfl, Below.refl _ _⟩
  case round =>
    obtain ⟨j, M, F, A, T, rfl, rfl, rfl, rfl, hj1, hj2, hT, hM, hF, hA, hB⟩ := hrel
    have tb : T.length ≤ 1048576 := by have := chT_len zs j; rw [hT.out]; omega
    have mb : M ≤ 1048576 := by rw [hM.out]; exact tb
    have fb : -1048576 ≤ F ∧ F ≤ 1048576 := by
      rw [hF.out]; exact fwT_bd (fun k => by rw [hT.out]; exact chT_gd zs j (by omega) k) _
    have ab : -1 ≤ A ∧ A ≤ 1048576 := by
      rw [hA.out]; unfold laT
      split
      · omega
      · have := chT_gd zs j (by omega) (T.length - 1); rw [← hT.out] at this; omega
    clear tb
    by_cases hlt : j < L
    case neg =>
      have HF : Hid (T = chT zs L) := by show _ = _; rw [hT.out, HT.out j hj1 (by omega) hj2]
      have hd : decide ((j : Int) < (L : Int)) = false := by simp; omega
      have he : ((j : Int) < (L : Int)) = False := eq_false (by omega)
      clear hj2 hlt
      go_wp2
      go_ret2
      have := HE.out wr T HF.out hB.out
      rw [← hF.out, ← hM.out] at this
      exact this
    case pos =>
    obtain ⟨⟨b, off⟩, rfl, hbl, hc0⟩ := HC.out wr j hlt hB.out
    obtain ⟨bo, e, -, hc1⟩ := HC.out wr (j - 1) (by omega) hB.out
    cases e
    dsimp only at hc0 hc1 hbl
    have HCS : Hid (chT zs (j + 1) = if zs.getD j 0 = zs.getD (j - 1) 0 then T else T ++ [(j : Int)]) := by show _ = _; rw [chT_step hj1, ← hT.out]
    have HFM : Hid (fwT (T ++ [(j : Int)]) (T ++ [(j : Int)]).length = if 0 < M ∧ (F = 0 ∨ (j : Int) - A < F) then (j : Int) - A else F) := by
      show _ = _
      rw [List.length_append, List.length_singleton, fw_more (by rw [hT.out]; exact chT_asc zs j) (fun y hy => by rw [hT.out] at hy; exact (chT_bd zs j y hy).2), ← hF.out, ← hM.out, ← hA.out]
    have HML : Hid (M + 1 = (T ++ [(j : Int)]).length) := by show _ = _; rw [hM.out]; simp
    have HLA : Hid ((j : Int) = laT (T ++ [(j : Int)])) := (laT_app T _).symm
    obtain ⟨x, hx⟩ : ∃ x, zs.getD j 0 = x := ⟨_, rfl⟩
    obtain ⟨y, hy⟩ : ∃ y, zs.getD (j - 1) 0 = y := ⟨_, rfl⟩
    obtain ⟨j1, hj⟩ : ∃ j1 : Nat, j = j1 + 1 := ⟨j - 1, by omega⟩
    rw [hx] at hc0 HCS
    rw [hy] at hc1 HCS
    rw [show j - 1 = j1 by omega] at hc1
    have hij : ((j : Int) - 1) = (j1 : Int) := by omega
    have hi0 : (0 : Int) ≤ (j : Int) := by omega
    have hi1 : (j : Int) < (L : Int) := by omega
    have hk0 : (0 : Int) ≤ (j1 : Int) := by omega
    have hk1 : (j1 : Int) < (L : Int) := by omega
    have HJ : Hid (j = j1 + 1) := hj
    clear hx hy hj
    by_cases hxy : x = y
    case pos =>
      have hq : (x == y) = true := by simp [hxy]
      have HN : Hid (T = chT zs (j + 1)) := by show _ = _; rw [HCS.out, if_pos hxy]
      clear hxy HCS
      go_wp2
      go_quiet (fail)
      go_wp2
      go_roundw
      case rel => exact ⟨j + 1, M, F, A, T, by go_num, rfl, rfl, rfl, by omega, by omega, HN.out, hM.out, hF.out, hA.out, below_drewN hB.out _⟩
      case measure => simp [intOf]; omega
    case neg =>
    have hq : (x == y) = false := by simp [hxy]
    have HN : Hid (T ++ [(j : Int)] = chT zs (j + 1)) := by show _ = _; rw [HCS.out, if_neg hxy]
    clear hxy HCS hM hF hA hT
    by_cases hm : 0 < M
    case neg =>
      have hm1 : decide ((0 : Int) < (M : Int)) = false := by simp; omega
      have hm2 : ((0 : Int) < (M : Int)) = False := eq_false (by omega)
      have hm3 : (0 < M) = False := eq_false hm
      have hm4 : decide (0 < M) = false := decide_eq_false hm
      have HFN : Hid (F = fwT (T ++ [(j : Int)]) (T ++ [(j : Int)]).length) := by show _ = _; rw [HFM.out, if_neg (fun h => hm h.1)]
      clear hm HFM
      go_wp2
      go_quiet (fail)
      go_wp2
      go_roundw
      case rel => exact ⟨j + 1, M + 1, F, j, T ++ [(j : Int)], by go_num, by go_num, rfl, rfl, by omega, by omega, HN.out, HML.out, HFN.out, HLA.out, below_drewN hB.out _⟩
      case measure => simp [intOf]; omega
    case pos =>
    have hm1 : decide ((0 : Int) < (M : Int)) = true := by simp; omega
    have hm2 : (0 : Int) < (M : Int) := by omega
    by_cases hf : F = 0
    case pos =>
      have HFN : Hid ((j : Int) - A = fwT (T ++ [(j : Int)]) (T ++ [(j : Int)]).length) := by show _ = _; rw [HFM.out, if_pos ⟨hm, .inl hf⟩]
      clear hm HFM
      subst hf
      go_wp2
      go_quiet (fail)
      go_wp2
      go_roundw
      case rel => exact ⟨j + 1, M + 1, j - A, j, T ++ [(j : Int)], by go_num, by go_num, rfl, rfl, by omega, by omega, HN.out, HML.out, HFN.out, HLA.out, below_drewN hB.out _⟩
      case measure => simp [intOf]; omega
    case neg =>
    have hf1 : (F == 0) = false := by simp [hf]
    by_cases hg : (j : Int) - A < F
    case pos =>
      have hg1 : decide ((j : Int) - A < F) = true := decide_eq_true hg
      have HFN : Hid ((j : Int) - A = fwT (T ++ [(j : Int)]) (T ++ [(j : Int)]).length) := by show _ = _; rw [HFM.out, if_pos ⟨hm, .inr hg⟩]
      clear hm HFM hf
      go_wp2
      go_quiet (fail)
      go_wp2
      go_roundw
      case rel => exact ⟨j + 1, M + 1, j - A, j, T ++ [(j : Int)], by go_num, by go_num, rfl, rfl, by omega, by omega, HN.out, HML.out, HFN.out, HLA.out, below_drewN hB.out _⟩
      case measure => simp [intOf]; omega
    case neg =>
    have hg1 : decide ((j : Int) - A < F) = false := decide_eq_false hg
    have hg2 : ((j : Int) - A < F) = False := eq_false hg
    have HFN : Hid (F = fwT (T ++ [(j : Int)]) (T ++ [(j : Int)]).length) := by show _ = _; rw [HFM.out, if_neg (fun h => h.2.elim hf hg)]
    clear hm HFM hf hg
    go_wp2
    go_quiet (fail)
    go_wp2
    go_roundw
    case rel => exact ⟨j + 1, M + 1, F, j, T ++ [(j : Int)], by go_num, by go_num, rfl, rfl, by omega, by omega, HN.out, HML.out, HFN.out, HLA.out, below_drewN hB.out _⟩
    case measure => simp [intOf]; omega

end Go.Proofs.Ytikgempdohpdjaa

/- changeTicks; no condition. -/
import Derived.Test.YtikgempdohpdjaaChm
namespace Go.Proofs.Ytikgempdohpdjaa
open Go.RowKit Go.ChangeShapes Go.WideShapes Go.ChangeAt
set_option linter.unusedVariables false
set_option linter.unusedSimpArgs false
set_option maxRecDepth 8000

set_option maxHeartbeats 3200000 in
theorem ticks_c (v : Value) (zs : List Int) (w : World) (h : Rd .i64 w v zs) (hl : zs.length ≤ 1048576) :
   Calls Try.prog 54 #[v] w fun e w' => ∃ v', e = .returned v' ∧ Ow .i64 3 w.heap.size w' v' (chT zs zs.length) ∧ Below w.heap.size w w' := by
  obtain ⟨a, cap, rfl, h1, h2, -⟩ := id h
  unfold maxLen at h2
  have HC : Hid (∀ W j, j < zs.length → Below w.heap.size w W → ∃ bo : Nat × Nat, a = some ⟨bo.1, bo.2, none⟩ ∧ bo.1 < w.heap.size ∧ W.cell? ⟨bo.1, bo.2 + j, none⟩ = some (.int .i64 (zs.getD j 0))) := rdc h
  obtain ⟨L, hL⟩ : ∃ L, zs.length = L := ⟨_, rfl⟩
  have HT : Hid (∀ j, 1 ≤ j → L ≤ j → j ≤ max L 1 → chT zs j = chT zs zs.length) := fun j h1 h2 h3 => by
    rw [hL]
    rcases Nat.eq_zero_or_pos L with h0 | h0
    · obtain rfl : j = 1 := by omega
      rw [h0]; rfl
    · rw [show j = L by omega]
  rw [hL] at h1 hl HC ⊢
  rw [hL] at HT
  clear h hL
  obtain ⟨v0, hv0⟩ : ∃ x, Value.slice none 0 0 = x := ⟨_, rfl⟩
  have HV0 : Hid (Value.slice none 0 0 = v0) := hv0
  have HO0 : Hid (Ow .i64 3 w.heap.size w v0 (chT zs 1)) := by rw [← hv0]; exact Ow.nil .i64 3 _ _
  clear hv0
  go_enter Try.func54, Try.ntmps54
  rw [HV0.out]
  go_wp2
  go_loopw [3, 4] (fun o i wr => ∃ (j : Nat) (o' : Value), i = .int .i64 j ∧ o' = o ∧ 1 ≤ j ∧ j ≤ max L 1 ∧ Hid (Ow .i64 3 w.heap.size wr o' (chT zs j)) ∧ Hid (Below w.heap.size w wr)) (fun _ i _ => L - (intOf i).toNat)
  case atStart => exact ⟨1, _, rfl, rfl, Nat.le_refl _, by omega, HO0.out, Below.refl _ _⟩
  case round =>
    obtain ⟨j, o', rfl, ho', hj1, hj2, hO, hB⟩ := hrel
    subst ho'
    clear HO0 HV0
    by_cases hlt : j < L
    case neg =>
      have HF : Hid (Ow .i64 3 w.heap.size wr o' (chT zs L)) := by have := hO.out; rw [HT.out j hj1 (by omega) hj2] at this; exact this
      have hd : decide ((j : Int) < (L : Int)) = false := by simp; omega
      have he : ((j : Int) < (L : Int)) = False := eq_false (by omega)
      clear hj2 hO hlt
      go_wp2
      go_ret
      exact ⟨_, rfl, HF.out, hB.out⟩
    case pos =>
    obtain ⟨⟨b, off⟩, rfl, hbl, hc0⟩ := HC.out wr j hlt hB.out
    obtain ⟨bo, e, -, hc1⟩ := HC.out wr (j - 1) (by omega) hB.out
    cases e
    dsimp only at hc0 hc1 hbl
    have HCS : Hid (chT zs (j + 1) = if zs.getD j 0 = zs.getD (j - 1) 0 then chT zs j else chT zs j ++ [(j : Int)]) := chT_step hj1
    obtain ⟨x, hx⟩ : ∃ x, zs.getD j 0 = x := ⟨_, rfl⟩
    obtain ⟨y, hy⟩ : ∃ y, zs.getD (j - 1) 0 = y := ⟨_, rfl⟩
    obtain ⟨j1, hj⟩ : ∃ j1 : Nat, j = j1 + 1 := ⟨j - 1, by omega⟩
    rw [hx] at hc0 HCS
    rw [hy] at hc1 HCS
    rw [show j - 1 = j1 by omega] at hc1
    have hij : ((j : Int) - 1) = (j1 : Int) := by omega
    have hi0 : (0 : Int) ≤ (j : Int) := by omega
    have hi1 : (j : Int) < (L : Int) := by omega
    have hk0 : (0 : Int) ≤ (j1 : Int) := by omega
    have hk1 : (j1 : Int) < (L : Int) := by omega
    have HJ : Hid (j = j1 + 1) := hj
    have HLN : Hid ((chT zs j).length ≤ 1048576) := by show _ ≤ _; have := chT_len zs j; omega
    have HSZ : Hid (w.heap.size ≤ wr.heap.size) := hB.out.size
    clear hx hy hj
    by_cases hxy : x = y
    case pos =>
      have hq : (x != y) = false := by simp [hxy]
      have HN : Hid (chT zs (j + 1) = chT zs j) := by show _ = _; rw [HCS.out, if_pos hxy]
      clear hxy HCS
      go_wp2
      go_quiet (fail)
      go_wp2
      go_roundw
      case rel => exact ⟨j + 1, _, by go_num, rfl, by omega, by omega, by rw [HN.out]; exact hO.out, below_drewN hB.out _⟩
      case measure => simp [intOf]; omega
    case neg =>
    have hq : (x != y) = true := by simp [hxy]
    have HN : Hid (chT zs (j + 1) = chT zs j ++ [(j : Int)]) := by show _ = _; rw [HCS.out, if_neg hxy]
    clear hxy HCS
    go_wp2
    go_quiet (fail)
    obtain ⟨wd, hwd⟩ : ∃ W, wr.drewN nq = W := ⟨_, rfl⟩
    have HOD : Hid (Ow .i64 3 w.heap.size wd o' (chT zs j)) := by rw [← hwd]; exact hO.out.below (below_drewN (Below.refl _ _) _)
    have HBD : Hid (Below w.heap.size w wd) := by rw [← hwd]; exact below_drewN hB.out _
    have HSD : Hid (w.heap.size ≤ wd.heap.size) := HBD.out.size
    rw [hwd]
    clear hwd hO hB
    go_wp2_with (at_builtin; refine appI rfl (.tmp 21) (.tmp 23) rfl w.heap.size _ (chT zs j) rfl (HOD.out.alloc _) wd.heap.size (j : Int) rfl (by simp) (by have := HLN.out; omega) (by have := HSD.out; simp; omega) ?_)
    intro v6 w6 ho hb
    have HO6 : Hid (Ow .i64 3 w.heap.size w6 v6 (chT zs (j + 1))) := by rw [HN.out]; exact ho
    have HB6 : Hid (Below w.heap.size w w6) := (HBD.out.alloc HSD.out _).trans hb
    clear ho hb HOD HBD
    go_wp2
    go_roundw
    case rel => exact ⟨j + 1, _, by go_num, rfl, by omega, by omega, HO6.out, HB6.out⟩
    case measure => simp [intOf]; omega

end Go.Proofs.Ytikgempdohpdjaa

/- toIntSS; no condition. -/
import Derived.Test.YtiadakponjpkmaaNst
namespace Go.Proofs.Ytiadakponjpkmaa
open Go.RowKit Go.ChangeShapes Go.WideShapes Go.ChangeAt
set_option linter.unusedVariables false
set_option linter.unusedSimpArgs false
set_option maxRecDepth 8000

set_option maxHeartbeats 3200000 in
theorem toSS (v : Value) (ls : List (List Int)) (w : World) (h : Rn w v ls) (hl : ls.length ≤ 1048576) (hr : smL ls ls.length ≤ 1048576) :
   Calls Try.prog 44 #[v] w fun e w' => ∃ v' us P, e = .returned v' ∧ On 35 w.heap.size w' v' ls us P ∧ P ls.length ≤ w'.heap.size ∧ Below w.heap.size w w' := by
  obtain ⟨a, cap, rfl, h1, h2, -⟩ := id h
  unfold maxLen at h2
  have HC : Hid (∀ W j, j < ls.length → Below w.heap.size w W → ∃ (bo : Nat × Nat) (u : Value), a = some ⟨bo.1, bo.2, none⟩ ∧ bo.1 < w.heap.size ∧ W.cell? ⟨bo.1, bo.2 + j, none⟩ = some u ∧ Rd .i64 w u (ls.getD j [])) := rnc h
  have HLR : Hid (∀ j, j < ls.length → (ls.getD j []).length ≤ 1048576) := fun j hj => smL_row hr hj
  obtain ⟨i0, hi, hz0, hz1, hz2⟩ := info_parts toSInfo
  clear h hr
  obtain ⟨L, hL⟩ : ∃ L, ls.length = L := ⟨_, rfl⟩
  have HL : Hid (ls.length = L) := hL
  rw [hL] at h1 hl HC HLR ⊢
  clear hL
  go_enter Try.func44, Try.ntmps44
  go_wp2_with (at_make; refine wpList_make_full _ rfl _ _ 49 rfl w.heap.size 35 i0 (.slice none 0 0) 1 Try.underlying49 hi hz0 hz1 .i64 .i64 _ _ L rfl rfl rfl rfl (by rw [hz2]; omega) (by unfold maxLen; omega) (Nat.le_refl _) ?_)
  intro w1 ho hg
  have hx : (madeCells #[Value.slice none 0 0] L).toList = ([] : List Value) ++ List.replicate (L - 0) vN := by
    rw [toList_madeCells_one]; simp
  rw [hx] at ho
  have HO0 : Hid (w1.ownsRow w.heap.size 35 1 (.slice (some ⟨w.heap.size, 0, none⟩) L L) L (([] : List Value) ++ List.replicate (L - 0) vN)) := ho
  have HB0 : Hid (Below w.heap.size w w1) := grown_below hg (Nat.le_refl _) (by simp)
  have HLT : Hid (w.heap.size < w1.heap.size) := (World.ownsRow.lt ho w.heap.size rfl).2
  clear hx hg ho hi hz0 hz1 hz2
  go_wp2
  go_loopw [4] (fun i wr => ∃ (j : Nat) (us : List Value) (P : Nat → Nat), j ≤ L ∧ i = .int .i64 j ∧ Hid (us.length = j ∧ w1.heap.size ≤ P 0 ∧ P j ≤ wr.heap.size) ∧ Hid (wr.ownsRow w.heap.size 35 1 (.slice (some ⟨w.heap.size, 0, none⟩) L L) L (us ++ List.replicate (L - j) vN)) ∧ Hid (∀ i, i < j → P i ≤ P (i + 1) ∧ w1.heap.size ≤ P i ∧ Ow .i64 3 (P i) wr (us.getD i vN) (ls.getD i []) ∧ ∀ k, (us.getD i vN).ownBlock = some k → k < P (i + 1)) ∧ Hid (Below w.heap.size w wr)) (fun i _ => L - (intOf i).toNat)
  case atStart => exact ⟨0, [], fun _ => w1.heap.size, Nat.zero_le _, rfl, ⟨rfl, Nat.le_refl _, Nat.le_refl _⟩, HO0.out, fun i hi => by omega, HB0.out⟩
  case round =>
    obtain ⟨j, us, P, hj, rfl, hU, hO, hA, hB⟩ := hrel
    clear HO0 HB0
    by_cases hlt : j < L
    case neg =>
      obtain rfl : j = L := by omega
      clear hlt hj
      have HF : Hid (On 35 w.heap.size wr (.slice (some ⟨w.heap.size, 0, none⟩) j j) ls us P) := by
        refine ⟨by rw [HL.out]; exact hU.out.1, ?_, fun k e => ?_, ?_, fun i hi => (hA.out i (by rw [← HL.out]; exact hi)).1, fun i hi => (hA.out i (by rw [← HL.out]; exact hi)).2.2.1, fun i hi => (hA.out i (by rw [← HL.out]; exact hi)).2.2.2⟩
        · have := hO.out; simp at this; rw [HL.out]; exact this
        · cases e; exact Nat.lt_of_lt_of_le HLT.out hU.out.2.1
        · exact Nat.le_trans (Nat.le_of_lt HLT.out) hU.out.2.1
      have HPL : Hid (P j ≤ wr.heap.size) := hU.out.2.2
      clear hO hA
      go_wp2
      go_ret
      exact ⟨_, us, P, rfl, HF.out, HPL.out, hB.out⟩
    case pos =>
    obtain ⟨⟨b, off⟩, u, rfl, hbl, hc0, hrd⟩ := HC.out wr j hlt hB.out
    dsimp only at hc0 hbl
    have HRD : Hid (Rd .i64 wr u (ls.getD j [])) := hrd.below hB.out
    have hi0 : (0 : Int) ≤ (j : Int) := by omega
    have hi1 : (j : Int) < (L : Int) := by omega
    have HS1 : Hid (w1.heap.size ≤ wr.heap.size) := by
      show _ ≤ _
      have h1 := hU.out.2.2
      rcases Nat.eq_zero_or_pos j with h0 | h0
      · rw [h0] at h1; exact Nat.le_trans hU.out.2.1 h1
      · have h2 := (hA.out (j - 1) (by omega)).1
        have h3 := (hA.out (j - 1) (by omega)).2.1
        rw [show j - 1 + 1 = j by omega] at h2
        omega
    clear hrd
    go_wp2_with (fail)
    refine (toI u (ls.getD j []) _ HRD.out (HLR.out j hlt)).mono ?_
    rintro e w2 ⟨v2, rfl, o2, b2⟩
    obtain ⟨a2, c2, hv2, -⟩ := own_form o2
    have HO2 : Hid (w2.ownsRow w.heap.size 35 1 (.slice (some ⟨w.heap.size, 0, none⟩) L L) L (us ++ List.replicate (L - j) vN)) := World.ownsRow.kept (row := none) hO.out ⟨b2.os, b2.tape, b2.output, b2.size, fun j hj _ => b2.block j hj⟩ (.inr (by simp [Value.ownBlock]))
    have HUL : Hid (us.length = j) := hU.out.1
    obtain ⟨y0, hd0⟩ : ∃ y, w2.cell? ⟨w.heap.size, j, none⟩ = some y := ⟨_, by rw [HO2.out.cellAt j (by omega)]; exact List.getElem?_eq_getElem (by have := HUL.out; simp; omega)⟩
    have hf0 := HO2.out.frozenAt j
    have HSS : Hid ((w2.setCell ⟨w.heap.size, j, none⟩ v2).ownsRow w.heap.size 35 1 (.slice (some ⟨w.heap.size, 0, none⟩) L L) L ((us ++ [v2]) ++ List.replicate (L - (j + 1)) vN)) := by
      have h1 := (HO2.out.stored j v2).1
      have e : (us ++ List.replicate (L - j) vN).set j v2 = (us ++ [v2]) ++ List.replicate (L - (j + 1)) vN := by
        rw [show L - j = (L - (j + 1)) + 1 by omega, List.replicate_succ, List.set_append, if_neg (by have := HUL.out; omega), show j - us.length = 0 by have := HUL.out; omega]
        simp
      show World.ownsRow _ _ _ _ _ _ _
      rw [← e]; exact h1
    have HBn : Hid (Below w.heap.size w (w2.setCell ⟨w.heap.size, j, none⟩ v2)) := (belowCall hB.out b2 hB.out.size).setCell (by dsimp only; omega) _
    have HAn : Hid (∀ P' : Nat → Nat, (∀ i, i < j → P' i = P i) → P' j = wr.heap.size → P' (j + 1) = w2.heap.size → ∀ i, i < j + 1 → P' i ≤ P' (i + 1) ∧ w1.heap.size ≤ P' i ∧ Ow .i64 3 (P' i) (w2.setCell ⟨w.heap.size, j, none⟩ v2) ((us ++ [v2]).getD i vN) (ls.getD i []) ∧ ∀ k, ((us ++ [v2]).getD i vN).ownBlock = some k → k < P' (i + 1)) := by
      intro P' p1 p2 p3 i hi
      have hlw := HLT.out
      rcases Nat.lt_or_ge i j with h1 | h1
      · have e : (us ++ [v2]).getD i vN = us.getD i vN := by simp [List.getElem?_append_left (show i < us.length by have := HUL.out; omega)]
        obtain ⟨q1, q2, q3, q4⟩ := hA.out i h1
        have hP : P (i + 1) ≤ P' (i + 1) := by
          rcases Nat.lt_or_ge (i + 1) j with h2 | h2
          · rw [p1 _ h2]; exact Nat.le_refl _
          · rw [show i + 1 = j by omega, p2]; have := hU.out.2.2; exact this
        rw [e, p1 i h1]
        refine ⟨by omega, q2, ?_, fun k hk => by have := q4 k hk; omega⟩
        refine World.ownsRow.kept (row := some w.heap.size) (q3.below b2) (dgrown_set _ _ _ _) (Ow.low q3 _ (by omega))
      · obtain rfl : i = j := by omega
        have e : (us ++ [v2]).getD i vN = v2 := by rw [List.getD_eq_getElem?_getD, List.getElem?_append_right (by have := HUL.out; omega)]; simp [HUL.out]
        rw [e, p2, p3]
        have hs1 := HS1.out
        refine ⟨b2.size, hs1, ?_, fun k hk => (World.ownsRow.lt o2 k hk).2⟩
        exact World.ownsRow.kept (row := some w.heap.size) o2 (dgrown_set _ _ _ _) (Ow.low o2 _ (by omega))
    have HPW : Hid (w2.heap.size ≤ (w2.setCell ⟨w.heap.size, j, none⟩ v2).heap.size) := by show _ ≤ _; simp
    have HUN : Hid (w1.heap.size ≤ P 0) := hU.out.2.1
    have HUJ : Hid ((us ++ [v2]).length = j + 1) := by show _ = _; simp [HUL.out]
    clear o2 b2 hO hA hB hU HO2
    rw [hv2] at HSS HBn HAn HPW HUJ ⊢
    clear hv2
    go_wp2
    go_roundw
    case rel =>
      refine ⟨j + 1, us ++ [_], fun i => if i < j then P i else if i = j then wr.heap.size else w2.heap.size, by omega, by go_num, ⟨HUJ.out, ?_, ?_⟩, HSS.out, HAn.out _ (fun i hi => if_pos hi) (by simp) (by rw [if_neg (by omega), if_neg (by omega)]), HBn.out⟩
      · dsimp only; split
        · exact HUN.out
        · split
          · exact HS1.out
          · omega
      · dsimp only; rw [if_neg (by omega), if_neg (by omega)]; exact HPW.out
    case measure => simp [intOf]; omega

end Go.Proofs.Ytiadakponjpkmaa

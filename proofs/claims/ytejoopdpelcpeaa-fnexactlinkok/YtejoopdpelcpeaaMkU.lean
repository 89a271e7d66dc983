/- The model's l10Unit; no condition. -/
import Derived.Test.YtejoopdpelcpeaaLok
namespace Go.Proofs.Ytejoopdpelcpeaa
open Go.RowKit Go.ChangeShapes Go.WideShapes Go.ChangeAt
set_option linter.unusedVariables false
set_option linter.unusedSimpArgs false
set_option maxRecDepth 8000
theorem msg_at {zo : Txs} {q : Nat} (h : q < zo.length) : msg zo ((q : Int) + 1) = zo[q] := by
  unfold msg
  rw [if_neg (by omega), show ((q : Int) + 1 - 1).toNat = q by omega]
  simp [List.getElem?_eq_getElem h]
set_option maxHeartbeats 3200000 in
theorem unit_c (r : Un) (vo vi : Value) (s a t : Int) (zo zi : Txs) (w : World) (ho : Rx w vo zo) (hi : Rx w vi zi) (hs : s ≤ zo.length) :
    Calls Try.prog 39 #[.agg (U3 r), .agg (E5 vo vi s a t)] w (Bo (UnP zo s t r) w) := by
  obtain ⟨k, q, d⟩ := r
  obtain ⟨W0, hW0⟩ : ∃ W0, (w.alloc (Obj.cells (U3 ⟨k, q, d⟩) 78)).alloc (Obj.cells (E5 vo vi s a t) 26) = W0 := ⟨_, rfl⟩
  have hb0 : Below w.heap.size w W0 := by rw [← hW0]; exact ((Below.refl _ _).alloc (Nat.le_refl _) _).alloc (by simp) _
  have HB : Hid (Below w.heap.size w W0) := hb0
  have K0 : Hid (Blk W0 w.heap.size (U3 ⟨k, q, d⟩) 78) := by rw [← hW0]; exact (Blk.new _ _ _).alloc _
  have K1 : Hid (Blk W0 (w.heap.size + 1) (E5 vo vi s a t) 26) := by rw [← hW0]; exact Blk.newAt _ (w.heap.size + 1) _ 26 (by simp)
  obtain ⟨a0, p0, hv0, c0, q0, D0⟩ := ho.below hb0
  obtain ⟨a1, p1, hv1, c1, q1, -⟩ := hi.below hb0
  subst hv0 hv1
  unfold maxLen at q0 q1
  have E0 : Hid (zo = [] ∨ ∃ b off, a0 = some ⟨b, off, none⟩ ∧ ∀ i (h : i < zo.length), W0.cell? ⟨b, off + i, none⟩ = some (.string zo[i])) := D0
  have x0 := K0.out.cell 0
  have x1 := K0.out.cell 1
  have x2 := K0.out.cell 2
  have y0 := K1.out.cell 0
  have y1 := K1.out.cell 1
  have y3 := K1.out.cell 3
  simp at x0 x1 x2 y0 y1 y3
  clear ho hi hb0 D0
  go_enter Try.func39, Try.ntmps39
  go_wp2_with (fail)
  clear hW0
  refine (in_c k 0 t W0).mono ?_
  rintro e wq ⟨rfl, hwq⟩
  rw [hwq]
  clear hwq wq
  by_cases hk : 0 ≤ k ∧ k ≤ t
  case neg =>
    rw [decide_eq_false hk]
    go_wp2
    go_ret
    exact Bo.no (fun x => hk x.1) HB.out
  rw [decide_eq_true hk]
  go_wp2_with (fail)
  refine (in_c q 0 s W0).mono ?_
  rintro e wq ⟨rfl, hwq⟩
  rw [hwq]
  clear hwq wq
  by_cases hq : 0 ≤ q ∧ q ≤ s
  case neg =>
    rw [decide_eq_false hq]
    go_wp2
    go_ret
    exact Bo.no (fun x => hq x.2.1) HB.out
  rw [decide_eq_true hq]
  have HK : Hid ((0 ≤ k ∧ k ≤ t) ∧ (0 ≤ q ∧ q ≤ s)) := ⟨hk, hq⟩
  obtain ⟨hq0, hq1⟩ := hq
  clear hk
  by_cases hz : q = 0
  · have hz' : (q == 0) = true := by simpa using hz
    have HM : Hid (msg zo q = t0) := by show msg zo q = t0; rw [msg, if_pos hz]
    clear hz
    go_wp2
    go_ret
    exact ⟨_, rfl, by
      simp only [UnP, HK.out.1, HK.out.2, HM.out, true_and, and_true]
      simp [t0], HB.out⟩
  have hz' : (q == 0) = false := by simpa using hz
  obtain ⟨n, hn⟩ : ∃ n : Nat, q - 1 = n := ⟨(q - 1).toNat, by omega⟩
  have hnl : n < zo.length := by omega
  have HM : Hid (msg zo q = zo[n]) := by
    show msg zo q = zo[n]
    rw [show q = (n : Int) + 1 by omega]; exact msg_at hnl
  rcases E0.out with h3 | ⟨b, off, rfl, h4⟩
  · subst h3; simp at hnl
  have e0 := h4 n hnl
  obtain ⟨m, hm⟩ : ∃ m, zo[n] = m := ⟨_, rfl⟩
  rw [hm] at e0 HM
  have hn0 : (0 : Int) ≤ (n : Int) := by omega
  have hn1 : (n : Int) < (zo.length : Int) := by omega
  clear h4 hm hz
  go_wp2
  go_quiet (fail)
  go_wp2
  go_ret
  exact ⟨_, rfl, by
      simp only [UnP, HK.out.1, HK.out.2, HM.out, true_and, and_true]
      simp, below_drewN HB.out _⟩
end Go.Proofs.Ytejoopdpelcpeaa

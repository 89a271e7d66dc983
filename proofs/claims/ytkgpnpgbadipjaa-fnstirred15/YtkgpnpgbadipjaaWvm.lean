/- Weave15, as the specification has it; no condition. -/
import Derived.Test.YtkgpnpgbadipjaaWvc
namespace Go.Proofs.Ytkgpnpgbadipjaa
open Go.RowKit Go.ChangeShapes Go.WideShapes Go.ChangeAt
set_option linter.unusedVariables false
set_option linter.unusedSimpArgs false
set_option maxRecDepth 8000

set_option maxHeartbeats 12800000 in
theorem weaveM_c (v : Value) (zs : List Int) (rows : Int) (w : World) (h : Rd .i64 w v zs) : Calls Try.prog 15 #[v, .int .i64 rows] w (WvR zs rows w) := by
  have HR : Hid (Rd .i64 w v zs) := h
  obtain ⟨a, cap, rfl, h1, h2, h3⟩ := h
  unfold maxLen at h2
  obtain ⟨W0, hW0⟩ : ∃ W, w.alloc (Obj.cells #[] 3) = W := ⟨_, rfl⟩
  have HW0 : Hid (w.alloc (Obj.cells #[] 3) = W0) := hW0
  have HB0 : Hid (Below w.heap.size w W0) := by rw [← hW0]; exact (Below.refl _ _).alloc (Nat.le_refl _) _
  have HO0 : Hid (Ow .i64 3 w.heap.size W0 (.slice (some ⟨w.heap.size, 0, none⟩) 0 0) []) := by rw [← hW0]; exact Ow.empty .i64 3 _ w (Nat.le_refl _)
  have HR0 : Hid (Rd .i64 W0 (.slice a zs.length cap) zs) := HR.out.below HB0.out
  clear hW0
  go_enter Try.func15, Try.ntmps15
  go_wp2_with (fail)
  rw [HW0.out]
  refine (weaveOkM_c _ zs rows _ HR0.out).mono ?_
  rintro e w1 ⟨rfl, b1⟩
  have HB1 : Hid (Below w.heap.size w w1) := belowCall HB0.out b1 HB0.out.size
  have HO1 : Hid (Ow .i64 3 w.heap.size w1 (.slice (some ⟨w.heap.size, 0, none⟩) 0 0) []) := HO0.out.below b1
  obtain ⟨q, hq⟩ : ∃ q, wvB zs rows = q := ⟨_, rfl⟩
  rw [hq]
  have HQ : Hid (wvB zs rows = q) := hq
  clear b1 hq HO0 HB0
  cases q with
  | false =>
    clear h3
    go_wp2
    go_ret2
    exact ⟨_, by rw [HQ.out]; rfl, by rw [(wv_no HQ.out).1]; exact HO1.out, HB1.out⟩
  | true =>
  obtain ⟨r, c, rfl, r1, r2, hl, hc, hd, hn, e1, -⟩ := wv_yes HQ.out
  obtain ⟨T, hT⟩ : ∃ T, wvL zs r c = T := ⟨_, rfl⟩
  obtain ⟨L, hL⟩ : ∃ L, zs.length = L := ⟨_, rfl⟩
  have HTR : Hid (wvR zs (r : Int) = T) := by show _ = _; rw [e1, hT]
  have HLL : Hid (L = r * c) := by show _ = _; rw [← hL]; exact hl
  have HTL : Hid (T.length = L) := by show _ = _; rw [← hT, wvL_len, ← hL, hl]
  have HTA : Hid (∀ k i, k < c → i < r → T.getD (k * r + i) 0 = zs.getD (i * c + k) 0) := fun k i hk hi => by rw [← hT]; exact wvL_rc zs r c k i hk hi
  have HCE : Hid (∀ W k, k < L → Below w.heap.size w W → ∃ bo : Nat × Nat, a = some ⟨bo.1, bo.2, none⟩ ∧ bo.1 < w.heap.size ∧ W.cell? ⟨bo.1, bo.2 + k, none⟩ = some (.int .i64 (zs.getD k 0))) := fun W k hk hW => by
    rcases h3 with h3 | ⟨b, off, h0, h4⟩
    · rw [h3] at hL; simp at hL; omega
    · exact ⟨(b, off), h0, block_lt_of_cell (h4 k (by rw [hL]; exact hk)), by rw [hW.cell (block_lt_of_cell (h4 k (by rw [hL]; exact hk)))]; exact h4 k (by rw [hL]; exact hk)⟩
  have HLN : Hid (L ≤ 320) := by show _ ≤ _; rw [← hL]; exact hn
  have hcb : c ≤ 320 := by rw [← hc]; exact Nat.le_trans (Nat.div_le_self _ _) hn
  have hd' : (zs.length : Int) / (r : Int) = (c : Int) := by rw [← hc]; exact (Int.natCast_ediv _ _).symm
  have hr0 : ((r : Int) == 0) = false := by simp; omega
  have hr1 : (r : Int) ≠ 0 := by omega
  have hm1 : (r : Int) ≠ -1 := by omega
  rw [hL] at hd hd' h1 ⊢
  clear hT hl h3 hn hc e1 hL HR HR0 HW0
  obtain ⟨o0, ho0⟩ : ∃ o0, Value.slice (some ⟨w.heap.size, 0, none⟩) 0 0 = o0 := ⟨_, rfl⟩
  rw [ho0] at HO1 ⊢
  clear ho0
  have HO2 : Hid (Ow .i64 3 w.heap.size w1 o0 (T.take (0 * r))) := by rw [Nat.zero_mul]; exact HO1.out
  clear HO1
  go_wp2
  clear hd hd'
  go_loopw [6, 8] (fun o i wr => ∃ (k : Nat) (o' : Value), k ≤ c ∧ i = .int .i64 k ∧ o' = o ∧ Hid (Ow .i64 3 w.heap.size wr o' (T.take (k * r))) ∧ Hid (Below w.heap.size w wr)) (fun _ i _ => c - (intOf i).toNat)
  case atStart => exact ⟨0, _, Nat.zero_le _, rfl, rfl, HO2.out, HB1.out⟩
  case round =>
    obtain ⟨k, o', hk, rfl, ho', hO, hB⟩ := hrel
    subst ho'
    clear HO2 HB1
    by_cases hkc : k < c
    case neg =>
      obtain rfl : k = c := by omega
      have HOF : Hid (Ow .i64 3 w.heap.size wr o' (wvR zs (r : Int))) := by
        have h1 := hO.out
        rw [show T.take (k * r) = T from List.take_of_length_le (by rw [HTL.out, HLL.out, Nat.mul_comm]; exact Nat.le_refl _)] at h1
        show Ow _ _ _ _ _ _
        rw [HTR.out]; exact h1
      clear hO hkc hk
      go_wp2
      go_ret2
      exact ⟨_, by rw [HQ.out]; rfl, HOF.out, hB.out⟩
    case pos =>
    have HO1 : Hid (Ow .i64 3 w.heap.size wr o' (T.take (k * r + 0))) := hO.out
    have hkI : (k : Int) < (c : Int) := by omega
    clear hO
    go_wp2
    go_loopw [6, 9] (fun o i wr => ∃ (i' : Nat) (o' : Value), i' ≤ r ∧ i = .int .i64 i' ∧ o' = o ∧ Hid (Ow .i64 3 w.heap.size wr o' (T.take (k * r + i'))) ∧ Hid (Below w.heap.size w wr)) (fun _ i _ => r - (intOf i).toNat)
    case atStart => exact ⟨0, _, Nat.zero_le _, rfl, rfl, HO1.out, hB.out⟩
    case round =>
      obtain ⟨i, o2, hi, rfl, ho2, hO, hB2⟩ := hrel
      subst ho2
      clear HO1 hB
      by_cases hir : i < r
      case neg =>
        obtain rfl : i = r := by omega
        have HON : Hid (Ow .i64 3 w.heap.size wr o2 (T.take ((k + 1) * i))) := by rw [Nat.add_mul, Nat.one_mul]; exact hO.out
        clear hO hir hi
        go_wp2
        go_roundw
        case rel => exact ⟨k + 1, _, by omega, by go_num, rfl, HON.out, hB2.out⟩
        case measure => simp [intOf]; omega
      case pos =>
      have hp := wv_lt (r := r) (c := c) hkc hir
      obtain ⟨p, hpp⟩ : ∃ p, i * c + k = p := ⟨_, rfl⟩
      rw [hpp, ← HLL.out] at hp
      have hpt : k * r + i < T.length := by
        rw [HTL.out, HLL.out]
        have := wv_lt (r := c) (c := r) hir hkc
        rw [Nat.mul_comm c r] at this; exact this
      have hpI : (i : Int) * (c : Int) + (k : Int) = (p : Int) := by rw [← hpp, Int.natCast_add, Int.natCast_mul]
      have hic0 : 0 ≤ (i : Int) * (c : Int) := Int.mul_nonneg (by omega) (by omega)
      have hic1 : (i : Int) * (c : Int) ≤ 320 := by have := HLN.out; omega
      obtain ⟨⟨b, off⟩, rfl, hbl, hc⟩ := HCE.out wr p hp hB2.out
      dsimp only at hc
      obtain ⟨x, hx⟩ : ∃ x, zs.getD p 0 = x := ⟨_, rfl⟩
      rw [hx] at hc
      have HTN : Hid (T.take (k * r + (i + 1)) = T.take (k * r + i) ++ [x]) := take_next hpt ((HTA.out k i hkc hir).trans (by rw [hpp, hx]))
      have HLT : Hid ((T.take (k * r + i)).length ≤ 1099511627776) := by show _ ≤ _; rw [List.length_take]; have := HTL.out; have := HLN.out; omega
      obtain ⟨WA, hWA⟩ : ∃ W, wr.alloc (Obj.cells #[.int .i64 x] 3) = W := ⟨_, rfl⟩
      have HWA : Hid (wr.alloc (Obj.cells #[.int .i64 x] 3) = WA) := hWA
      have HCA : Hid (WA.cell? ⟨wr.heap.size, 0, none⟩ = some (.int .i64 x)) := by show _ = _; rw [← hWA, cell_box]; rfl
      have HOA : Hid (Ow .i64 3 w.heap.size WA o2 (T.take (k * r + i))) := by rw [← hWA]; exact hO.out.alloc _
      have HBA : Hid (Below w.heap.size w WA) := by rw [← hWA]; exact hB2.out.alloc hB2.out.size _
      have hp0 : (0 : Int) ≤ (p : Int) := by omega
      have hp1 : (p : Int) < (L : Int) := by omega
      have hiI : (i : Int) < (r : Int) := by omega
      have hLI : (L : Int) ≤ 320 := by have := HLN.out; omega
      clear hx hWA hO hpp hp hpt
      go_wp2_with (at_builtin; rw [HWA.out]; refine appI rfl _ _ rfl w.heap.size _ (T.take (k * r + i)) rfl HOA.out wr.heap.size x rfl HCA.out HLT.out HBA.out.size ?_)
      intro v6 w6 o6 b6
      have HO6 : Hid (Ow .i64 3 w.heap.size w6 v6 (T.take (k * r + (i + 1)))) := by show Ow _ _ _ _ _ _; rw [HTN.out]; exact o6
      have HB6 : Hid (Below w.heap.size w w6) := HBA.out.trans b6
      clear o6 b6 HOA HBA HCA HLT hc
      go_wp2
      go_roundw
      case rel => exact ⟨i + 1, _, by omega, by go_num, rfl, HO6.out, HB6.out⟩
      case measure => simp [intOf]; omega

end Go.Proofs.Ytkgpnpgbadipjaa

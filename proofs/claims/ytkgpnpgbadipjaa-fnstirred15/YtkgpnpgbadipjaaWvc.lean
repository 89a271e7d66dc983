/- byColumns; no condition. -/
import Derived.Test.YtkgpnpgbadipjaaWvo
namespace Go.Proofs.Ytkgpnpgbadipjaa
open Go.RowKit Go.ChangeShapes Go.WideShapes Go.ChangeAt
set_option linter.unusedVariables false
set_option linter.unusedSimpArgs false
set_option maxRecDepth 8000

theorem take_next {T : List Int} {p : Nat} {x : Int} (h : p < T.length) (e : T.getD p 0 = x) : T.take (p + 1) = T.take p ++ [x] := by
  rw [← List.take_append_getElem h]
  rw [List.getD_eq_getElem?_getD, List.getElem?_eq_getElem h, Option.getD_some] at e
  rw [e]
set_option maxHeartbeats 12800000 in
theorem byCol_c (v : Value) (zs : List Int) (r c : Nat) (w : World) (h : Rd .i64 w v zs) (hl : zs.length = r * c) (hn : zs.length ≤ 320) (hrm : r ≤ 320) (hcm : c ≤ 320) : Calls Try.prog 34 #[v, .int .i64 r, .int .i64 c] w fun e w' => ∃ v', e = .returned v' ∧ Ow .i64 3 w.heap.size w' v' (wvL zs r c) ∧ Below w.heap.size w w' := by
  obtain ⟨a, cap, rfl, h1, h2, h3⟩ := h
  unfold maxLen at h2
  obtain ⟨T, hT⟩ : ∃ T, wvL zs r c = T := ⟨_, rfl⟩
  obtain ⟨L, hL⟩ : ∃ L, zs.length = L := ⟨_, rfl⟩
  have HLL : Hid (L = r * c) := by show _ = _; rw [← hL]; exact hl
  have HTL : Hid (T.length = L) := by show _ = _; rw [← hT, wvL_len, ← hL, hl]
  have HTA : Hid (∀ k i, k < c → i < r → T.getD (k * r + i) 0 = zs.getD (i * c + k) 0) := fun k i hk hi => by rw [← hT]; exact wvL_rc zs r c k i hk hi
  have HCE : Hid (∀ W k, k < L → Below w.heap.size w W → ∃ bo : Nat × Nat, a = some ⟨bo.1, bo.2, none⟩ ∧ bo.1 < w.heap.size ∧ W.cell? ⟨bo.1, bo.2 + k, none⟩ = some (.int .i64 (zs.getD k 0))) := fun W k hk hW => by
    rcases h3 with h3 | ⟨b, off, h0, h4⟩
    · rw [h3] at hL; simp at hL; omega
    · exact ⟨(b, off), h0, block_lt_of_cell (h4 k (by rw [hL]; exact hk)), by rw [hW.cell (block_lt_of_cell (h4 k (by rw [hL]; exact hk)))]; exact h4 k (by rw [hL]; exact hk)⟩
  have HO0 : Hid (Ow .i64 3 w.heap.size w (.slice none 0 0) (T.take (0 * r))) := by rw [Nat.zero_mul]; exact Ow.nil .i64 3 _ _
  have HLN : Hid (L ≤ 320) := by show _ ≤ _; rw [← hL]; exact hn
  rw [hT, hL] at *
  clear hT hL hl h3 hn
  obtain ⟨o0, ho0⟩ : ∃ o0, Value.slice none 0 0 = o0 := ⟨_, rfl⟩
  rw [ho0] at HO0
  have HB0 : Hid (Below w.heap.size w w) := Below.refl _ _
  go_enter Try.func34, Try.ntmps34
  rw [ho0]
  clear ho0
  go_wp2
  go_loopw [7, 11] (fun o i wr => ∃ (k : Nat) (o' : Value), k ≤ c ∧ i = .int .i64 k ∧ o' = o ∧ Hid (Ow .i64 3 w.heap.size wr o' (T.take (k * r))) ∧ Hid (Below w.heap.size w wr)) (fun _ i _ => c - (intOf i).toNat)
  case atStart => exact ⟨0, _, Nat.zero_le _, rfl, rfl, HO0.out, HB0.out⟩
  case round =>
    obtain ⟨k, o', hk, rfl, ho', hO, hB⟩ := hrel
    subst ho'
    clear HO0 HB0
    by_cases hkc : k < c
    case neg =>
      obtain rfl : k = c := by omega
      have HOF : Hid (Ow .i64 3 w.heap.size wr o' T) := by
        have h1 := hO.out
        rw [show T.take (k * r) = T from List.take_of_length_le (by rw [HTL.out, HLL.out, Nat.mul_comm]; exact Nat.le_refl _)] at h1
        exact h1
      clear hO hkc hk
      go_wp2
      go_ret
      exact ⟨_, rfl, HOF.out, hB.out⟩
    case pos =>
    have HO1 : Hid (Ow .i64 3 w.heap.size wr o' (T.take (k * r + 0))) := hO.out
    have hkI : (k : Int) < (c : Int) := by omega
    clear hO
    go_wp2
    go_loopw [7, 15] (fun o i wr => ∃ (i' : Nat) (o' : Value), i' ≤ r ∧ i = .int .i64 i' ∧ o' = o ∧ Hid (Ow .i64 3 w.heap.size wr o' (T.take (k * r + i'))) ∧ Hid (Below w.heap.size w wr)) (fun _ i _ => r - (intOf i).toNat)
    case atStart => exact ⟨0, _, Nat.zero_le _, rfl, rfl, HO1.out, hB.out⟩
    case round =>
      obtain ⟨i, o2, hi, rfl, ho2, hO, hB2⟩ := hrel
      subst ho2
      clear HO1 hB
      by_cases hir : i < r
      case neg =>
        obtain rfl : i = r := by omega
        have HON : Hid (Ow .i64 3 w.heap.size wr o2 (T.take ((k + 1) * i))) := by rw [Nat.add_mul, Nat.one_mul]; exact hO.out
        clear hO hir hi
        go_wp2
        go_roundw
        case rel => exact ⟨k + 1, _, by omega, by go_num, rfl, HON.out, hB2.out⟩
        case measure => simp [intOf]; omega
      case pos =>
      have hp := wv_lt (r := r) (c := c) hkc hir
      obtain ⟨p, hpp⟩ : ∃ p, i * c + k = p := ⟨_, rfl⟩
      rw [hpp, ← HLL.out] at hp
      have hpt : k * r + i < T.length := by
        rw [HTL.out, HLL.out]
        have := wv_lt (r := c) (c := r) hir hkc
        rw [Nat.mul_comm c r] at this; exact this
      have hpI : (i : Int) * (c : Int) + (k : Int) = (p : Int) := by rw [← hpp, Int.natCast_add, Int.natCast_mul]
      have hic0 : 0 ≤ (i : Int) * (c : Int) := Int.mul_nonneg (by omega) (by omega)
      have hic1 : (i : Int) * (c : Int) ≤ 320 := by have := HLN.out; omega
      obtain ⟨⟨b, off⟩, rfl, hbl, hc⟩ := HCE.out wr p hp hB2.out
      dsimp only at hc
      obtain ⟨x, hx⟩ : ∃ x, zs.getD p 0 = x := ⟨_, rfl⟩
      rw [hx] at hc
      have HTN : Hid (T.take (k * r + (i + 1)) = T.take (k * r + i) ++ [x]) := take_next hpt ((HTA.out k i hkc hir).trans (by rw [hpp, hx]))
      have HLT : Hid ((T.take (k * r + i)).length ≤ 1099511627776) := by show _ ≤ _; rw [List.length_take]; have := HTL.out; have := HLN.out; omega
      obtain ⟨WA, hWA⟩ : ∃ W, wr.alloc (Obj.cells #[.int .i64 x] 3) = W := ⟨_, rfl⟩
      have HWA : Hid (wr.alloc (Obj.cells #[.int .i64 x] 3) = WA) := hWA
      have HCA : Hid (WA.cell? ⟨wr.heap.size, 0, none⟩ = some (.int .i64 x)) := by show _ = _; rw [← hWA, cell_box]; rfl
      have HOA : Hid (Ow .i64 3 w.heap.size WA o2 (T.take (k * r + i))) := by rw [← hWA]; exact hO.out.alloc _
      have HBA : Hid (Below w.heap.size w WA) := by rw [← hWA]; exact hB2.out.alloc hB2.out.size _
      have hp0 : (0 : Int) ≤ (p : Int) := by omega
      have hp1 : (p : Int) < (L : Int) := by omega
      have hiI : (i : Int) < (r : Int) := by omega
      have hLI : (L : Int) ≤ 320 := by have := HLN.out; omega
      clear hx hWA hO hpp hp hpt
      go_wp2_with (at_builtin; rw [HWA.out]; refine appI rfl _ _ rfl w.heap.size _ (T.take (k * r + i)) rfl HOA.out wr.heap.size x rfl HCA.out HLT.out HBA.out.size ?_)
      intro v6 w6 o6 b6
      have HO6 : Hid (Ow .i64 3 w.heap.size w6 v6 (T.take (k * r + (i + 1)))) := by show Ow _ _ _ _ _ _; rw [HTN.out]; exact o6
      have HB6 : Hid (Below w.heap.size w w6) := HBA.out.trans b6
      clear o6 b6 HOA HBA HCA HLT hc
      go_wp2
      go_roundw
      case rel => exact ⟨i + 1, _, by omega, by go_num, rfl, HO6.out, HB6.out⟩
      case measure => simp [intOf]; omega

end Go.Proofs.Ytkgpnpgbadipjaa

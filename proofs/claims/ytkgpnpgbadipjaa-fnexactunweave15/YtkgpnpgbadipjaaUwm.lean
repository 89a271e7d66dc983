/- Unweave15, as the specification has it; no condition. -/
import Derived.Test.YtkgpnpgbadipjaaWvc
namespace Go.Proofs.Ytkgpnpgbadipjaa
open Go.RowKit Go.ChangeShapes Go.WideShapes Go.ChangeAt
set_option linter.unusedVariables false
set_option linter.unusedSimpArgs false
set_option maxRecDepth 8000

/-- which places are written behind k columns and i of the next -/
def uwD (long : Nat) (k i t : Nat) : Prop := t % long < k ∨ t % long = k ∧ t / long < i
set_option maxHeartbeats 12800000 in
theorem unweaveM_c (v : Value) (zs : List Int) (rows : Int) (w : World) (h : Rd .i64 w v zs) : Calls Try.prog 21 #[v, .int .i64 rows] w (UwR zs rows w) := by
  have HR : Hid (Rd .i64 w v zs) := h
  obtain ⟨a, cap, rfl, h1, h2, h3⟩ := h
  unfold maxLen at h2
  go_enter Try.func21, Try.ntmps21
  go_wp2_with (fail)
  refine (weaveOkM_c _ zs rows _ HR.out).mono ?_
  rintro e w1 ⟨rfl, b1⟩
  have HB1 : Hid (Below w.heap.size w w1) := b1
  obtain ⟨q, hq⟩ : ∃ q, wvB zs rows = q := ⟨_, rfl⟩
  rw [hq]
  have HQ : Hid (wvB zs rows = q) := hq
  clear b1 hq
  cases q with
  | false =>
    have HOE : Hid (Ow .i64 3 w.heap.size (w1.alloc (Obj.cells #[] 3)) (.slice (some ⟨w1.heap.size, 0, none⟩) 0 0) []) := Ow.empty .i64 3 _ w1 HB1.out.size
    have HBE : Hid (Below w.heap.size w (w1.alloc (Obj.cells #[] 3))) := HB1.out.alloc HB1.out.size _
    clear h3
    go_wp2
    go_ret2
    exact ⟨_, by rw [HQ.out]; rfl, by rw [(wv_no HQ.out).2]; exact HOE.out, HBE.out⟩
  | true =>
  obtain ⟨r, c, rfl, r1, r2, hl, hc, hd, hn, -, e1⟩ := wv_yes HQ.out
  obtain ⟨T, hT⟩ : ∃ T, wvL zs c r = T := ⟨_, rfl⟩
  obtain ⟨L, hL⟩ : ∃ L, zs.length = L := ⟨_, rfl⟩
  have HTR : Hid (uwR zs (r : Int) = T) := by show _ = _; rw [e1, hT]
  have HLL : Hid (L = r * c) := by show _ = _; rw [← hL]; exact hl
  have HTL : Hid (T.length = L) := by show _ = _; rw [← hT, wvL_len, ← hL, hl, Nat.mul_comm]
  have HTA : Hid (∀ i k, i < r → k < c → T.getD (i * c + k) 0 = zs.getD (k * r + i) 0) := fun i k hi hk => by rw [← hT]; exact wvL_rc zs c r i k hi hk
  have HCE : Hid (∀ W k, k < L → Below w.heap.size w W → ∃ bo : Nat × Nat, a = some ⟨bo.1, bo.2, none⟩ ∧ bo.1 < w.heap.size ∧ W.cell? ⟨bo.1, bo.2 + k, none⟩ = some (.int .i64 (zs.getD k 0))) := fun W k hk hW => by
    rcases h3 with h3 | ⟨b, off, h0, h4⟩
    · rw [h3] at hL; simp at hL; omega
    · exact ⟨(b, off), h0, block_lt_of_cell (h4 k (by rw [hL]; exact hk)), by rw [hW.cell (block_lt_of_cell (h4 k (by rw [hL]; exact hk)))]; exact h4 k (by rw [hL]; exact hk)⟩
  have HLN : Hid (L ≤ 320) := by show _ ≤ _; rw [← hL]; exact hn
  have hcb : c ≤ 320 := by rw [← hc]; exact Nat.le_trans (Nat.div_le_self _ _) hn
  have hd' : (zs.length : Int) / (r : Int) = (c : Int) := by rw [← hc]; exact (Int.natCast_ediv _ _).symm
  have hr0 : ((r : Int) == 0) = false := by simp; omega
  have hr1 : (r : Int) ≠ 0 := by omega
  have hm1 : (r : Int) ≠ -1 := by omega
  rw [hL] at hd hd' h1 ⊢
  clear hT hl h3 hn hc e1 hL HR
  obtain ⟨i0, hi, hz0, hz1, hz2⟩ := info_parts toIInfo
  have hLI : L ≤ 320 := HLN.out
  go_wp2_with (at_make; refine wpList_make_full _ rfl _ _ 24 rfl w1.heap.size 3 i0 (.int .i64 0) 1 Try.underlying24 hi hz0 hz1 .i64 .i64 _ _ L rfl rfl rfl rfl (by rw [hz2]; omega) (by unfold maxLen; omega) (Nat.le_refl _) ?_)
  intro w2 ho hg
  obtain ⟨g, hgg⟩ : ∃ g, w1.heap.size = g := ⟨_, rfl⟩
  have HGW : Hid (w.heap.size ≤ g) := by show _ ≤ _; rw [← hgg]; exact HB1.out.size
  have HB2 : Hid (Below w.heap.size w w2) := belowCall HB1.out (grown_below hg (Nat.le_refl _) (by simp)) HB1.out.size
  rw [hgg] at ho ⊢
  have HX : Hid (w2.ownsRow g 3 1 (.slice (some ⟨g, 0, none⟩) L L) L ((List.replicate L (0 : Int)).map (Value.int .i64))) := by
    have e : (List.replicate L (0 : Int)).map (Value.int .i64) = (madeCells #[Value.int .i64 0] L).toList := by rw [toList_madeCells_one]; simp
    show World.ownsRow _ _ _ _ _ _ _
    rw [e]; exact ho
  clear ho hg hgg HB1
  go_wp2
  clear hd hd'
  go_loopw [8] (fun i wr => ∃ (k : Nat) (us : List Int), k ≤ c ∧ i = .int .i64 k ∧ Hid (us.length = L ∧ ∀ t, t < L → uwD c k 0 t → us.getD t 0 = T.getD t 0) ∧ Hid (wr.ownsRow g 3 1 (.slice (some ⟨g, 0, none⟩) L L) L (us.map (Value.int .i64))) ∧ Hid (Below w.heap.size w wr)) (fun i _ => c - (intOf i).toNat)
  case atStart => exact ⟨0, _, Nat.zero_le _, rfl, ⟨by simp, fun t _ hd => by rcases hd with hd | ⟨_, hd⟩ <;> exact absurd hd (Nat.not_lt_zero _)⟩, HX.out, HB2.out⟩
  case round =>
    obtain ⟨k, us, hk, rfl, hU, hO, hB⟩ := hrel
    clear HX HB2
    by_cases hkc : k < c
    case neg =>
      obtain rfl : k = c := by omega
      have HOF : Hid (Ow .i64 3 w.heap.size wr (.slice (some ⟨g, 0, none⟩) L L) (uwR zs (r : Int))) := by
        have e : us = T := by
          refine ext_getD (by rw [hU.out.1, HTL.out]) fun t ht => ?_
          rw [hU.out.1] at ht
          refine hU.out.2 t ht (.inl (Nat.mod_lt t ?_))
          rcases Nat.eq_zero_or_pos k with h0 | h0
          · subst h0; have := HLL.out; simp at this; omega
          · exact h0
        show Ow _ _ _ _ _ _
        have h1 := hO.out
        have h2 := hU.out.1
        rw [HTR.out, ← e]
        exact (show Ow .i64 3 g wr (.slice (some ⟨g, 0, none⟩) L L) us by rw [Ow, h2]; exact h1).mono HGW.out
      clear hO hkc hk hU
      go_wp2
      go_ret2
      exact ⟨_, by rw [HQ.out]; rfl, HOF.out, hB.out⟩
    case pos =>
    have hkI : (k : Int) < (c : Int) := by omega
    go_wp2
    go_loopw [9] (fun i wr => ∃ (i' : Nat) (us : List Int), i' ≤ r ∧ i = .int .i64 i' ∧ Hid (us.length = L ∧ ∀ t, t < L → uwD c k i' t → us.getD t 0 = T.getD t 0) ∧ Hid (wr.ownsRow g 3 1 (.slice (some ⟨g, 0, none⟩) L L) L (us.map (Value.int .i64))) ∧ Hid (Below w.heap.size w wr)) (fun i _ => r - (intOf i).toNat)
    case atStart => exact ⟨0, _, Nat.zero_le _, rfl, hU.out, hO.out, hB.out⟩
    case round =>
      obtain ⟨i, us, hi, rfl, hU2, hO2, hB2⟩ := hrel
      clear hU hO hB
      by_cases hir : i < r
      case neg =>
        obtain rfl : i = r := by omega
        have HUN : Hid (us.length = L ∧ ∀ t, t < L → uwD c (k + 1) 0 t → us.getD t 0 = T.getD t 0) := ⟨hU2.out.1, fun t ht hd => hU2.out.2 t ht (by
          have hq : t / c < i := Nat.div_lt_of_lt_mul (by have := HLL.out; rw [Nat.mul_comm] at this; omega)
          rcases hd with hd | ⟨_, hd⟩
          · rcases Nat.lt_or_ge (t % c) k with h' | h'
            · exact .inl h'
            · exact .inr ⟨by omega, hq⟩
          · exact absurd hd (Nat.not_lt_zero _))⟩
        clear hU2 hir hi
        go_wp2
        go_roundw
        case rel => exact ⟨k + 1, _, by omega, by go_num, HUN.out, hO2.out, hB2.out⟩
        case measure => simp [intOf]; omega
      case pos =>
      have hp := wv_lt (r := c) (c := r) hir hkc
      obtain ⟨p, hpp⟩ : ∃ p, k * r + i = p := ⟨_, rfl⟩
      rw [hpp, Nat.mul_comm, ← HLL.out] at hp
      have hs := wv_lt (r := r) (c := c) hkc hir
      obtain ⟨s, hss⟩ : ∃ s, i * c + k = s := ⟨_, rfl⟩
      rw [hss, ← HLL.out] at hs
      have hpI : (k : Int) * (r : Int) + (i : Int) = (p : Int) := by rw [← hpp, Int.natCast_add, Int.natCast_mul]
      have hkr0 : 0 ≤ (k : Int) * (r : Int) := Int.mul_nonneg (by omega) (by omega)
      have hkr1 : (k : Int) * (r : Int) ≤ 320 := by have := HLN.out; omega
      have hsI : (i : Int) * (c : Int) + (k : Int) = (s : Int) := by rw [← hss, Int.natCast_add, Int.natCast_mul]
      have hic0 : 0 ≤ (i : Int) * (c : Int) := Int.mul_nonneg (by omega) (by omega)
      have hic1 : (i : Int) * (c : Int) ≤ 320 := by have := HLN.out; omega
      obtain ⟨⟨b, off⟩, rfl, hbl, hc⟩ := HCE.out wr p hp hB2.out
      dsimp only at hc
      obtain ⟨x, hx⟩ : ∃ x, zs.getD p 0 = x := ⟨_, rfl⟩
      rw [hx] at hc
      have hTs : T.getD s 0 = x := by rw [← hss, HTA.out i k hir hkc, hpp, hx]
      have hul := hU2.out.1
      obtain ⟨y0, hd0⟩ : ∃ u, wr.cell? ⟨g, s, none⟩ = some u := ⟨_, by rw [hO2.out.cellAt s (by omega), List.getElem?_map, List.getElem?_eq_getElem (by omega)]; rfl⟩
      have hf0 := hO2.out.frozenAt s
      have HS : Hid ((wr.setCell ⟨g, s, none⟩ (.int .i64 x)).ownsRow g 3 1 (.slice (some ⟨g, 0, none⟩) L L) L ((us.set s x).map (Value.int .i64))) := by
        have := (hO2.out.stored s (.int .i64 x)).1
        rw [List.map_set]; exact this
      have HUN : Hid ((us.set s x).length = L ∧ ∀ t, t < L → uwD c k (i + 1) t → (us.set s x).getD t 0 = T.getD t 0) := by
        refine ⟨by rw [List.length_set, hul], fun t ht hd => ?_⟩
        by_cases e : t = s
        · subst e; rw [List.getD_eq_getElem?_getD, List.getElem?_set_self (by omega), Option.getD_some, hTs]
        · rw [List.getD_eq_getElem?_getD, List.getElem?_set_ne (Ne.symm e), ← List.getD_eq_getElem?_getD]
          refine hU2.out.2 t ht ?_
          unfold uwD at *
          rcases hd with hd | ⟨hd1, hd2⟩
          · exact .inl hd
          · refine .inr ⟨hd1, ?_⟩
            rcases Nat.lt_or_ge (t / c) i with h' | h'
            · exact h'
            · exfalso
              apply e
              have := Nat.div_add_mod t c
              rw [hd1, show t / c = i by omega, Nat.mul_comm] at this
              omega
      have HBn : Hid (Below w.heap.size w (wr.setCell ⟨g, s, none⟩ (.int .i64 x))) := hB2.out.setCell (by dsimp only; exact HGW.out) _
      have hp0 : (0 : Int) ≤ (p : Int) := by omega
      have hp1 : (p : Int) < (L : Int) := by omega
      have hs0 : (0 : Int) ≤ (s : Int) := by omega
      have hs1 : (s : Int) < (L : Int) := by omega
      have hiI : (i : Int) < (r : Int) := by omega
      have hLI2 : (L : Int) ≤ 320 := by omega
      have HNE : Hid (b ≠ g) := by have := HGW.out; show b ≠ g; dsimp only at hbl; omega
      have hne : b ≠ g := HNE.out
      clear hx hO2 hU2 hpp hp hss hs hTs hul hB2
      go_wp2
      go_roundw
      case rel => exact ⟨i + 1, _, by omega, by go_num, HUN.out, HS.out, HBn.out⟩
      case measure => simp [intOf]; omega

end Go.Proofs.Ytkgpnpgbadipjaa

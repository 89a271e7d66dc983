/- Stir15, as the specification has it; no condition. -/
import Derived.Test.YtkgpnpgbadipjaaSta
namespace Go.Proofs.Ytkgpnpgbadipjaa
open Go.RowKit Go.ChangeShapes Go.WideShapes Go.ChangeAt
set_option linter.unusedVariables false
set_option linter.unusedSimpArgs false
set_option maxRecDepth 8000

set_option maxHeartbeats 12800000 in
theorem stirM_c (v : Value) (zs : List Int) (key : Int) (w : World) (h : Rd .i64 w v zs) : Calls Try.prog 10 #[v, .int .i64 key] w (StR zs key w) := by
  have HR : Hid (Rd .i64 w v zs) := h
  obtain ⟨a, cap, rfl, h1, h2, h3⟩ := h
  unfold maxLen at h2
  have HE : Hid (stB zs key = (bbB zs && decide (1 ≤ key ∧ key ≤ 65535))) := rfl
  obtain ⟨W0, hW0⟩ : ∃ W, w.alloc (Obj.cells #[] 3) = W := ⟨_, rfl⟩
  have HW0 : Hid (w.alloc (Obj.cells #[] 3) = W0) := hW0
  have HB0 : Hid (Below w.heap.size w W0) := by rw [← hW0]; exact (Below.refl _ _).alloc (Nat.le_refl _) _
  have HO0 : Hid (Ow .i64 3 w.heap.size W0 (.slice (some ⟨w.heap.size, 0, none⟩) 0 0) []) := by rw [← hW0]; exact Ow.empty .i64 3 _ w (Nat.le_refl _)
  have HR0 : Hid (Rd .i64 W0 (.slice a zs.length cap) zs) := HR.out.below HB0.out
  clear hW0
  have HNO : Hid (stB zs key = false → ∀ W, Below W0.heap.size W0 W → StR zs key w (.returned (.tuple #[.slice (some ⟨w.heap.size, 0, none⟩) 0 0, .bool false])) W) := fun e W hW => ⟨_, by rw [e], by rw [stR_no e]; exact HO0.out.below hW, belowCall HB0.out hW HB0.out.size⟩
  go_enter Try.func10, Try.ntmps10
  go_wp2_with (fail)
  rw [HW0.out]
  refine (l1Bits_c _ zs _ HR0.out).mono ?_
  rintro e w1 ⟨rfl, b1⟩
  have HB1 : Hid (Below W0.heap.size W0 w1) := b1
  have HBB : Hid (bbB zs = (bsB zs && decide ((zs.length : Int) ≤ 320))) := rfl
  rw [← HBB.out]
  obtain ⟨q, hq⟩ : ∃ q, bbB zs = q := ⟨_, rfl⟩
  rw [hq]
  have HQ : Hid (bbB zs = q) := hq
  clear b1 hq HBB
  cases q with
  | false =>
    have HF : Hid (stB zs key = false) := by show _ = _; rw [HE.out, HQ.out]; rfl
    clear h3
    go_wp2
    go_ret2
    exact HNO.out HF.out _ HB1.out
  | true =>
  have hl := bbB_len HQ.out
  go_wp2_with (fail)
  refine (in_c key _ _ _).mono ?_
  rintro e w2 ⟨rfl, hw⟩
  rw [hw]
  clear hw w2
  by_cases hk : 1 ≤ key ∧ key ≤ 65535
  case neg =>
    have HF : Hid (stB zs key = false) := by show _ = _; rw [HE.out, decide_eq_false hk]; simp
    rw [decide_eq_false hk]
    clear h3 hk
    go_wp2
    go_ret2
    exact HNO.out HF.out _ HB1.out
  have HT : Hid (stB zs key = true) := by show _ = _; rw [HE.out, HQ.out, decide_eq_true hk]; rfl
  rw [decide_eq_true hk]
  have HSB : Hid (∀ k, 0 ≤ sr key k ∧ sr key k ≤ 65535) := sr_bd (by omega) hk.2
  obtain ⟨T, hT⟩ : ∃ T, stF zs key = T := ⟨_, rfl⟩
  obtain ⟨L, hL⟩ : ∃ L, zs.length = L := ⟨_, rfl⟩
  have HTL : Hid (T.length = L) := by show _ = _; rw [← hT, stF_len, hL]
  have HTA : Hid (∀ k, k < L → T.getD k 0 = xo (zs.getD k 0) (sr key k % 2)) := fun k hk => by rw [← hT, stF_at _ _ _ (by rw [hL]; exact hk)]; rfl
  have HTR : Hid (stR zs key = T) := by show _ = _; rw [stR_yes HT.out, hT]
  have HCE : Hid (∀ W k, k < L → Below w.heap.size w W → ∃ bo : Nat × Nat, a = some ⟨bo.1, bo.2, none⟩ ∧ bo.1 < w.heap.size ∧ W.cell? ⟨bo.1, bo.2 + k, none⟩ = some (.int .i64 (zs.getD k 0))) := fun W k hk hW => by
    rcases h3 with h3 | ⟨b, off, h0, h4⟩
    · rw [h3] at hL; simp at hL; omega
    · exact ⟨(b, off), h0, block_lt_of_cell (h4 k (by rw [hL]; exact hk)), by rw [hW.cell (block_lt_of_cell (h4 k (by rw [hL]; exact hk)))]; exact h4 k (by rw [hL]; exact hk)⟩
  have HB2 : Hid (Below w.heap.size w w1) := belowCall HB0.out HB1.out HB0.out.size
  have HO2 : Hid (Ow .i64 3 w.heap.size w1 (.slice (some ⟨w.heap.size, 0, none⟩) 0 0) (T.take 0)) := HO0.out.below HB1.out
  obtain ⟨k0, hk0⟩ : ∃ k0, key = k0 := ⟨_, rfl⟩
  have HKK : Hid (k0 = sr key 0) := hk0.symm
  obtain ⟨o0, ho0⟩ : ∃ o0, Value.slice (some ⟨w.heap.size, 0, none⟩) 0 0 = o0 := ⟨_, rfl⟩
  rw [ho0] at HO2 ⊢
  rw [hL] at hl h1 ⊢
  clear hT hL hk h3 HE HNO HO0 HB0 HB1 HR0 HW0 ho0
  have hgoal := HKK
  rw [show (Value.int .i64 key) = Value.int .i64 k0 by rw [hk0]]
  clear hk0 hgoal
  go_wp2
  go_loopw [1, 6, 7] (fun kv o i wr => ∃ (j : Nat) (o' : Value) (kk : Int), j ≤ L ∧ i = .int .i64 j ∧ o' = o ∧ kv = .int .i64 kk ∧ Hid (kk = sr key j) ∧ Hid (Ow .i64 3 w.heap.size wr o' (T.take j)) ∧ Hid (Below w.heap.size w wr)) (fun _ _ i _ => L - (intOf i).toNat)
  case atStart => exact ⟨0, _, _, Nat.zero_le _, rfl, rfl, rfl, HKK.out, HO2.out, HB2.out⟩
  case round =>
    obtain ⟨j, o', kk, hj, rfl, ho', rfl, hkk, hO, hB⟩ := hrel
    subst ho'
    clear HO2 HB2 HKK
    by_cases hlt : j < L
    case neg =>
      obtain rfl : j = L := by omega
      have HOF : Hid (Ow .i64 3 w.heap.size wr o' (stR zs key)) := by
        have h1 := hO.out
        rw [show T.take j = T from List.take_of_length_le (by have := HTL.out; omega)] at h1
        show Ow _ _ _ _ _ _
        rw [HTR.out]; exact h1
      clear hO hlt hj
      go_wp2
      go_ret2
      exact ⟨_, by rw [HT.out]; rfl, HOF.out, hB.out⟩
    case pos =>
    obtain ⟨⟨b, off⟩, rfl, hbl, hc⟩ := HCE.out wr j hlt hB.out
    obtain ⟨z, hz⟩ : ∃ z, zs.getD j 0 = z := ⟨_, rfl⟩
    dsimp only at hc
    rw [hz] at hc
    have sb := HSB.out j
    rw [← hkk.out] at sb
    have sb0 := sb.1
    have sb1 := sb.2
    have HTJ : Hid (T.getD j 0 = xo z (kk % 2)) := by show _ = _; rw [HTA.out j hlt, hz, hkk.out]
    have hm : kk.tmod 2 = kk % 2 := Int.tmod_eq_emod_of_nonneg sb0
    have hq : kk.tdiv 2 = kk / 2 := Int.tdiv_eq_ediv_of_nonneg sb0
    obtain ⟨x, hx⟩ : ∃ x, xo z (kk % 2) = x := ⟨_, rfl⟩
    have hx' : bits .xor .i64 z (kk % 2) = x := hx
    rw [hx] at HTJ
    have HTN : Hid (T.take (j + 1) = T.take j ++ [x]) := by
      show _ = _
      have hjt : j < T.length := by rw [HTL.out]; exact hlt
      rw [← List.take_append_getElem hjt]
      have e := HTJ.out
      rw [List.getD_eq_getElem?_getD, List.getElem?_eq_getElem hjt, Option.getD_some] at e
      rw [e]
    have HLT : Hid ((T.take j).length ≤ 1099511627776) := by show _ ≤ _; rw [List.length_take]; omega
    obtain ⟨WA, hWA⟩ : ∃ W, wr.alloc (Obj.cells #[.int .i64 x] 3) = W := ⟨_, rfl⟩
    have HWA : Hid (wr.alloc (Obj.cells #[.int .i64 x] 3) = WA) := hWA
    have HCA : Hid (WA.cell? ⟨wr.heap.size, 0, none⟩ = some (.int .i64 x)) := by show _ = _; rw [← hWA, cell_box]; rfl
    have HOA : Hid (Ow .i64 3 w.heap.size WA o' (T.take j)) := by rw [← hWA]; exact hO.out.alloc _
    have HBA : Hid (Below w.heap.size w WA) := by rw [← hWA]; exact hB.out.alloc hB.out.size _
    have hi1 : (0 : Int) ≤ (j : Int) := by omega
    have hi2 : (j : Int) < (L : Int) := by omega
    clear hx hWA hO hz sb HTJ
    by_cases hb : kk % 2 = 1
    case' pos =>
      have HNX : Hid (bits .xor .i64 (kk / 2) 46080 = sr key (j + 1)) := by show _ = nxt (sr key j) 46080; rw [← hkk.out]; unfold nxt; rw [if_pos hb]
      have hbb : (kk % 2 == 1) = true := by simp [hb]
    case' neg =>
      have HNX : Hid (kk / 2 = sr key (j + 1)) := by show _ = nxt (sr key j) 46080; rw [← hkk.out]; unfold nxt; rw [if_neg hb]
      have hbb : (kk % 2 == 1) = false := by simp [hb]
    all_goals
      clear hb
      go_wp2_with (at_builtin; rw [HWA.out]; refine appI rfl _ _ rfl w.heap.size _ (T.take j) rfl HOA.out wr.heap.size x rfl HCA.out HLT.out HBA.out.size ?_)
      intro v6 w6 o6 b6
      have HO6 : Hid (Ow .i64 3 w.heap.size w6 v6 (T.take (j + 1))) := by show Ow _ _ _ _ _ _; rw [HTN.out]; exact o6
      have HB6 : Hid (Below w.heap.size w w6) := HBA.out.trans b6
      clear o6 b6 HOA HBA HCA HLT hc
      go_wp2
      go_roundw
      case rel => exact ⟨j + 1, _, _, by omega, by go_num, rfl, rfl, HNX.out, HO6.out, HB6.out⟩
      case measure => simp [intOf]; omega

end Go.Proofs.Ytkgpnpgbadipjaa

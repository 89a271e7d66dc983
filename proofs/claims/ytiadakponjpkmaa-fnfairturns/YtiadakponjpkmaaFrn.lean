/- The model tells of Fair what is said; no condition. -/
import Derived.Test.YtiadakponjpkmaaFrm
import Derived.Deep.LoopGhost
namespace Go.Proofs.Ytiadakponjpkmaa
open Go.RowKit Go.ChangeShapes Go.WideShapes Go.ChangeAt
set_option linter.unusedVariables false
set_option linter.unusedSimpArgs false
set_option maxRecDepth 8000

set_option maxHeartbeats 6400000 in
theorem faM_c (v : Value) (ls : List (List Int)) (t : Int) (w : World) (h : Rn w v ls) (hlen : ls.length ≤ 1048576) : Calls Try.prog 28 #[v, .int .i64 t] w (FaR ls t w) := by
  obtain ⟨a, cap, rfl, h1, h2, -⟩ := id h
  unfold maxLen at h2
  have HC : Hid (∀ W j, j < ls.length → Below w.heap.size w W → ∃ (bo : Nat × Nat) (u : Value), a = some ⟨bo.1, bo.2, none⟩ ∧ bo.1 < w.heap.size ∧ W.cell? ⟨bo.1, bo.2 + j, none⟩ = some u ∧ Rd .i64 w u (ls.getD j [])) := rnc h
  have HE : Hid (faB ls t = (qkB ls && decide (0 ≤ t ∧ t ≤ 500))) := rfl
  have HW1 : Hid (Ow .i64 3 w.heap.size (w.alloc (.cells #[] 3)) (.slice (some ⟨w.heap.size, 0, none⟩) 0 0) [] ∧ Below w.heap.size w (w.alloc (.cells #[] 3))) := ⟨Ow.empty .i64 3 _ w (Nat.le_refl _), (Below.refl _ _).alloc (Nat.le_refl _) _⟩
  have HS1 : Hid ((w.alloc (.cells #[] 3)).heap.size = w.heap.size + 1) := by show _ = _; simp
  clear h
  go_enter Try.func28, Try.ntmps28
  go_wp2_with (fail)
  obtain ⟨w1, hw1⟩ : ∃ W, w.alloc (.cells #[] 3) = W := ⟨_, rfl⟩
  rw [hw1] at HW1 HS1 ⊢
  clear hw1
  have HNO : Hid (faB ls t = false → FaR ls t w (.returned (.tuple #[.slice (some ⟨w.heap.size, 0, none⟩) 0 0, .bool false])) w1) := fun e => ⟨_, by rw [e], by rw [faR_no e]; exact HW1.out.1, HW1.out.2⟩
  have HQN : Hid (∀ k, k < ls.length → ¬ (ls.getD k []).length ≤ 60 → faB ls t = false) := fun k hk hn => by rw [HE.out, qkB_no k hk hn]; rfl
  obtain ⟨L, hL⟩ : ∃ L, ls.length = L := ⟨_, rfl⟩
  have HL : Hid (ls.length = L) := hL
  have HSB : Hid (∀ j, j ≤ L → (∀ k, k < j → (ls.getD k []).length ≤ 60) → smL ls j ≤ 60 * j) := fun j hj hk => by
    clear HC HE HW1 HS1 HNO HQN
    induction j with
    | zero => simp [smL]
    | succ n ih => have := ih (by omega) (fun k h => hk k (by omega)); have := hk n (by omega); rw [smL]; omega
  rw [hL] at h1 HC HQN hlen ⊢
  clear hL
  go_loop [7, 8] (fun s i => ∃ j : Nat, j ≤ L ∧ i = .int .i64 j ∧ s = .int .i64 (smL ls j : Int) ∧ Hid (∀ k, k < j → (ls.getD k []).length ≤ 60)) (fun _ i => L - (intOf i).toNat)
  case atStart => exact ⟨0, Nat.zero_le _, rfl, rfl, fun k hk => by omega⟩
  case round =>
    obtain ⟨j, hj, rfl, rfl, hA⟩ := hrel
    by_cases hlt : j < L
    case pos =>
      obtain ⟨⟨b, off⟩, u, rfl, hbl, hc0, hr0⟩ := HC.out w1 j hlt HW1.out.2
      dsimp only at hc0 hbl
      obtain ⟨x0, k0, rfl, hr1, hr2, -⟩ := hr0
      have HN := HQN.out j hlt
      have HS : Hid ((ls.getD j []).length ≤ 60 → ∀ k, k < j + 1 → (ls.getD k []).length ≤ 60) := fun hq k hk => by
        rcases Nat.lt_or_ge k j with h | h
        · exact hA.out k h
        · obtain rfl : k = j := by omega
          exact hq
      have HSM : Hid (smL ls (j + 1) = smL ls j + (ls.getD j []).length) := rfl
      have HSJ := HSB.out j hj hA.out
      have HSJ : Hid (smL ls j ≤ 60 * j) := HSJ
      obtain ⟨x, hx⟩ : ∃ x, (ls.getD j []).length = x := ⟨_, rfl⟩
      rw [hx] at hc0 HN HS hr1 HSM
      have HN : Hid (¬ x ≤ 60 → faB ls t = false) := HN
      obtain ⟨sm, hsm⟩ : ∃ s, smL ls j = s := ⟨_, rfl⟩
      rw [hsm] at HSM HSJ ⊢
      have hsb := HSJ.out
      have hi0 : (0 : Int) ≤ (j : Int) := by omega
      have hi1 : (j : Int) < (L : Int) := by omega
      clear hx hr1 hr2 hsm
      by_cases hq : x ≤ 60
      case pos =>
        have HS2 : Hid (∀ k, k < j + 1 → (ls.getD k []).length ≤ 60) := HS.out hq
        have hq' : ¬ ((60 : Int) < (x : Int)) := by omega
        have hwa : wrap64 ((sm : Int) + (x : Int)) = ((sm + x : Nat) : Int) := by rw [wrap64_in (by omega)]; omega
        clear hq HS
        go_wp2
        go_round
        case rel => exact ⟨j + 1, by omega, by go_num, by rw [HSM.out]; go_num, HS2.out⟩
        case measure => simp [intOf]; omega
      case neg =>
      have HF : Hid (faB ls t = false) := HN.out hq
      have hq' : ((60 : Int) < (x : Int)) := by omega
      clear hq HS
      go_wp2
      go_ret2
      exact HNO.out HF.out
    case neg =>
    obtain rfl : j = L := by omega
    clear hlt hj
    have HALL : Hid (∀ k, k < j → (ls.getD k []).length ≤ 60) := hA
    have HQE : Hid (qkB ls = decide (1 ≤ (j : Int) ∧ (j : Int) ≤ 8)) := by show _ = _; rw [qkB_yes (by rw [HL.out]; exact hA.out), HL.out]
    have HSJ : Hid (smL ls j ≤ 60 * j) := HSB.out j (Nat.le_refl _) hA.out
    obtain ⟨S0, hS0⟩ : ∃ s, smL ls j = s := ⟨_, rfl⟩
    have HS0 : Hid (smL ls j = S0) := hS0
    rw [hS0] at HSJ ⊢
    clear hA HSB HQN hS0
    go_wp2_with (fail)
    refine (in_c (j : Int) 1 8 _).mono ?_
    rintro e w2 ⟨rfl, hw⟩
    rw [hw]
    clear hw w2
    by_cases hl : 1 ≤ (j : Int) ∧ (j : Int) ≤ 8
    case neg =>
      have HF : Hid (faB ls t = false) := by show _ = _; rw [HE.out, HQE.out, decide_eq_false hl]; rfl
      rw [decide_eq_false hl]
      clear hl
      go_wp2
      go_ret2
      exact HNO.out HF.out
    rw [decide_eq_true hl]
    have HQT : Hid (qkB ls = true) := by show _ = _; rw [HQE.out, decide_eq_true hl]
    have HLB : Hid (1 ≤ (j : Int) ∧ (j : Int) ≤ 8) := hl
    clear hl HQE
    go_wp2_with (fail)
    refine (in_c t 0 500 _).mono ?_
    rintro e w2 ⟨rfl, hw⟩
    rw [hw]
    clear hw w2
    by_cases hr : 0 ≤ t ∧ t ≤ 500
    case neg =>
      have HF : Hid (faB ls t = false) := by show _ = _; rw [HE.out, decide_eq_false hr]; simp
      rw [decide_eq_false hr]
      clear hr
      go_wp2
      go_ret2
      exact HNO.out HF.out
    rw [decide_eq_true hr]
    have HT : Hid (faB ls t = true) := by show _ = _; rw [HE.out, HQT.out, decide_eq_true hr]; rfl
    obtain ⟨T, rfl⟩ : ∃ T : Nat, t = T := ⟨t.toNat, by omega⟩
    have HTR : Hid (faR ls T = frO ls T (j * 60)) := by show _ = _; rw [faR_yes HT.out, HL.out]; simp
    have HTB : Hid (T ≤ 500) := by show _ ≤ _; omega
    have hj1 := HLB.out
    have HJ : Hid (1 ≤ j ∧ j ≤ 8) := ⟨by omega, by omega⟩
    have HPOS : Hid (0 < ls.length) := by show 0 < _; rw [HL.out]; omega
    have HSTEP : Hid (∀ t, (frO ls T t).length < T → ∃ r p : Nat, t % j = r ∧ r < j ∧ ((r + 1) % j = (t + 1) % j) ∧ ((p < (ls.getD r []).length ∧ (atL ls t).getD r 0 = (p : Int) ∧ atL ls (t + 1) = (atL ls t).set r ((p : Int) + 1) ∧ rmN ls t = rmN ls (t + 1) + 1 ∧ frO ls T (t + 1) = frO ls T t ++ [(ls.getD r []).getD p 0]) ∨ ((atL ls t).getD r 0 = ((ls.getD r []).length : Int) ∧ atL ls (t + 1) = atL ls t ∧ rmN ls t = rmN ls (t + 1) ∧ frO ls T (t + 1) = frO ls T t))) := fun t ht => by
      have := fm_step HPOS.out ht
      rw [HL.out] at this; exact this
    have HLT : Hid (∀ t, 0 < rmN ls t → t < j * 60) := fun t ht => by rw [← HL.out]; exact rm_lt HPOS.out (by rw [HL.out]; exact HALL.out) ht
    have HEND : Hid (∀ t, t ≤ j * 60 → (T ≤ (frO ls T t).length ∨ rmN ls t = 0) → frO ls T t = faR ls T) := fun t ht hx => by
      rw [HTR.out]
      rcases hx with hx | hx
      · exact (fr_stay hx ht).symm
      · exact (fr_done HPOS.out hx ht).symm
    have HLE : Hid (∀ t, (frO ls T t).length ≤ T) := fun t => by rw [frO_len]; exact gS_len t
    have HAL : Hid (∀ t, (atL ls t).length = j) := fun t => by rw [atL_len, HL.out]
    have HA0 : Hid (atL ls 0 = List.replicate j 0) := by show _ = _; rw [atL_zero, HL.out]
    have HR0 : Hid (rmN ls 0 = S0) := by show _ = _; rw [rmN_zero, HL.out, HS0.out]
    have HRB : Hid (∀ t, rmN ls (t + 1) ≤ rmN ls t) := fun t => by
      by_cases h : t / ls.length < lnA ls (t % ls.length)
      · have := (at_yes HPOS.out h).2.2; omega
      · have := (at_no HPOS.out h).2.2; omega
    obtain ⟨F, hF⟩ : ∃ F, frO ls T = F := ⟨_, rfl⟩
    obtain ⟨A, hA⟩ : ∃ A, atL ls = A := ⟨_, rfl⟩
    obtain ⟨M, hM⟩ : ∃ M, rmN ls = M := ⟨_, rfl⟩
    have HF0 : Hid (F 0 = []) := by show _ = _; rw [← hF]; rfl
    have HFL0 : Hid ((F 0).length = 0) := by show _ = _; rw [HF0.out]; rfl
    rw [hF] at HTR HSTEP HEND HLE
    rw [hA] at HSTEP HAL HA0
    rw [hM] at HSTEP HLT HEND HR0 HRB
    clear hr hF hA hM HE HNO HQT HPOS HS0 hj1
    obtain ⟨i0, hi, hz0, hz1, hz2⟩ := info_parts toIInfo
    have hj0 := HJ.out
    go_wp2_with (at_make; refine wpList_make_full _ rfl _ _ 35 rfl w1.heap.size 3 i0 (.int .i64 0) 1 Try.underlying35 hi hz0 hz1 .i64 .i64 _ _ j rfl rfl rfl rfl (by rw [hz2]; omega) (by unfold maxLen; omega) (Nat.le_refl _) ?_)
    intro w2 ho hg
    obtain ⟨gA, hgA⟩ : ∃ g, w1.heap.size = g := ⟨_, rfl⟩
    have HGA : Hid (gA = w.heap.size + 1) := by show _ = _; rw [← hgA, HS1.out]
    have HX : Hid (Ow .i64 3 gA w2 (.slice (some ⟨gA, 0, none⟩) j j) (A 0)) := by
      show Ow _ _ _ _ _ _
      rw [HA0.out, Ow]
      rw [toList_madeCells_one, hgA] at ho
      simpa using ho
    have HY : Hid (Ow .i64 3 w.heap.size w2 (.slice (some ⟨w.heap.size, 0, none⟩) 0 0) (F 0)) := by
      show Ow _ _ _ _ _ _
      rw [HF0.out]
      exact HW1.out.1.below (grown_below hg (Nat.le_refl _) (by simp))
    have HB2 : Hid (Below w.heap.size w w2) := HW1.out.2.trans (grown_below hg (by rw [HS1.out]; omega) (by simp))
    rw [hgA]
    clear ho hg HW1 HS1 hgA HA0 HF0 hi hz0 hz1 hz2
    rw [← HR0.out]
    go_wp2
    obtain ⟨vo, hvo⟩ : ∃ x, Value.slice (some ⟨w.heap.size, 0, none⟩) 0 0 = x := ⟨_, rfl⟩
    rw [hvo] at HY ⊢
    have HNE0 : Hid (∀ k, vo.ownBlock = some k → k ≠ gA) := fun k e => by rw [← hvo] at e; simp [Value.ownBlock] at e; have := HGA.out; omega
    clear hvo
    have HK0 : Hid (T + (F 0).length = T) := by show _ = _; rw [HFL0.out]; rfl
    go_loopg [1, 6, 7, 10] (j * 60) (fun gk s o m q wr => ∃ (t : Nat) (o' : Value) (r M' k' : Nat), o' = o ∧ s = .int .i64 k' ∧ m = .int .i64 M' ∧ q = .int .i64 r ∧ Hid (k' + (F t).length = T) ∧ Hid (M' = M t) ∧ Hid (r = t % j) ∧ Hid (t + gk = j * 60) ∧ Hid (M t ≤ S0) ∧ Hid (Ow .i64 3 w.heap.size wr o' (F t)) ∧ Hid (∀ k, o'.ownBlock = some k → k ≠ gA) ∧ Hid (Ow .i64 3 gA wr (.slice (some ⟨gA, 0, none⟩) j j) (A t)) ∧ Hid (Below w.heap.size w wr))
    case atStart => exact ⟨0, vo, 0, M 0, T, rfl, rfl, rfl, rfl, HK0.out, rfl, by show _ = _; simp, by show _ = _; omega, by show _ ≤ _; rw [HR0.out]; omega, HY.out, HNE0.out, HX.out, HB2.out⟩
    case round =>
      obtain ⟨t, o', r, M', k', ho', rfl, rfl, rfl, hk, hM, hr, ht, hMS, hO, hNE, hA, hB⟩ := hrel
      subst ho'
      clear HX HY HB2 HNE0 HK0
      have hkb := hk.out
      have HTB' := HTB.out
      have hMb := hMS.out
      have hS0b := HSJ.out
      have hj8 := HJ.out
      by_cases hk0 : k' = 0
      case pos =>
        subst hk0
        have HF : Hid (Ow .i64 3 w.heap.size wr o' (faR ls T)) := by show Ow _ _ _ _ _ _; rw [← HEND.out t (by have := ht.out; omega) (.inl (by omega))]; exact hO.out
        clear hO hkb hMb hS0b HTB' hA
        go_wp2
        go_ret2
        exact ⟨_, by rw [HT.out]; rfl, HF.out, hB.out⟩
      by_cases hM0 : M' = 0
      case pos =>
        subst hM0
        have HF : Hid (Ow .i64 3 w.heap.size wr o' (faR ls T)) := by show Ow _ _ _ _ _ _; rw [← HEND.out t (by have := ht.out; omega) (.inr hM.out.symm)]; exact hO.out
        have hk1 : (0 : Int) < (k' : Int) := by omega
        clear hO hkb hMb hS0b HTB' hA
        go_wp2
        go_ret2
        exact ⟨_, by rw [HT.out]; rfl, HF.out, hB.out⟩
      have HGK : Hid (t < j * 60) := HLT.out t (by rw [← hM.out]; omega)
      obtain ⟨r0, p, e1, hrl, e3, hcase⟩ := HSTEP.out t (by omega)
      obtain rfl : r = r0 := by rw [hr.out]; exact e1
      obtain ⟨⟨b, off⟩, u, rfl, hbl, hc0, hr0⟩ := HC.out wr r hrl hB.out
      dsimp only at hc0 hbl
      have HRC : Hid _ := id hr0
      obtain ⟨x0, c0, rfl, hr1, hr2, -⟩ := hr0
      unfold maxLen at hr2
      have hc1 : wr.cell? ⟨gA, r, none⟩ = some (.int .i64 ((A t).getD r 0)) := by
        have hrow : wr.ownsRow gA 3 1 (.slice (some ⟨gA, 0, none⟩) j j) j ((A t).map (Value.int .i64)) := by have := hA.out; rw [Ow, HAL.out t] at this; exact this
        rw [hrow.cellAt r (by omega), List.getElem?_map, List.getElem?_eq_getElem (by rw [HAL.out t]; exact hrl), List.getD_eq_getElem?_getD, List.getElem?_eq_getElem (by rw [HAL.out t]; exact hrl)]; rfl
      have hk1 : (0 : Int) < (k' : Int) := by omega
      have hm1 : (0 : Int) < (M' : Int) := by omega
      have hi0 : (0 : Int) ≤ (r : Int) := by omega
      have hi1 : (r : Int) < (j : Int) := by omega
      have hrem : Int.tmod ((r : Int) + 1) (j : Int) = (((t + 1) % j : Nat) : Int) := by
        rw [← e3, Int.tmod_eq_emod_of_nonneg (by omega)]; simp
      have hjn : ¬ ((j : Int) = 0) := by omega
      have hjn2 : ((j : Int) == 0) = false := by simp; omega
      obtain ⟨r', hr'⟩ : ∃ r', (t + 1) % j = r' := ⟨_, rfl⟩
      have HR' : Hid (r' = (t + 1) % j) := hr'.symm
      rw [hr'] at hrem
      have hw1 : wrap64 ((r' : Nat) : Int) = (r' : Int) := wrap64_in (by have : (t + 1) % j < j := Nat.mod_lt _ (by omega); omega)
      obtain ⟨X, hX⟩ : ∃ X, ls.getD r [] = X := ⟨_, rfl⟩
      have HXR : Hid (X.length ≤ 60) := by rw [← hX]; exact HALL.out r hrl
      rw [hX] at hc0 hr1 HRC hcase
      obtain ⟨G, hG⟩ : ∃ G, F t = G := ⟨_, rfl⟩
      have HLG : Hid (G.length ≤ T) := by rw [← hG]; exact HLE.out t
      have HKK : Hid (k' + G.length = T) := by rw [← hG]; exact hk.out
      have HMM : Hid (M' = M t) := hM
      have HRM : Hid (M t ≤ S0) := hMS
      have HKB : Hid (k' ≤ 500 ∧ M' ≤ 480 ∧ 1 ≤ k' ∧ 1 ≤ M') := ⟨by omega, by rw [hM.out]; omega, by omega, by omega⟩
      rw [hG] at hO hcase
      clear hkb hMb hS0b HTB' hj8 hX hG hr' e1 e3 hk hM hMS hr HSTEP HEND HLT
      rcases hcase with ⟨hpx, hat, f1, f2, f3⟩ | ⟨hat, f1, f2, f3⟩
      case inr =>
        rw [hat] at hc1
        have HA1 : Hid (Ow .i64 3 gA wr (.slice (some ⟨gA, 0, none⟩) j j) (A (t + 1))) := by show Ow _ _ _ _ _ _; rw [f1]; exact hA.out
        have HO1 : Hid (Ow .i64 3 w.heap.size wr o' (F (t + 1))) := by show Ow _ _ _ _ _ _; rw [f3]; exact hO.out
        have HM1 : Hid (M' = M (t + 1)) := by show _ = _; rw [HMM.out, f2]
        have HRM1 : Hid (M (t + 1) ≤ S0) := by show _ ≤ _; rw [← f2]; exact HRM.out
        have HK1 : Hid (k' + (F (t + 1)).length = T) := by show _ = _; rw [f3]; exact HKK.out
        have hxx : ¬ ((X.length : Int) < (X.length : Int)) := by omega
        clear hat f1 f2 f3 hA hO hr2 HRC
        go_wp2
        go_quiet (fail)
        go_wp2
        go_roundg (gk - 1)
        case measure => have := ht.out; have := HGK.out; omega
        case rel => exact ⟨t + 1, o', r', M', k', rfl, rfl, rfl, rfl, HK1.out, HM1.out, HR'.out, by show _ = _; have := ht.out; have := HGK.out; omega, HRM1.out, HO1.out.below (below_drewN (Below.refl _ _) _), hNE.out, HA1.out.below (below_drewN (Below.refl _ _) _), below_drewN hB.out _⟩
      rw [hat] at hc1
      have hpx' : ((p : Int) < (X.length : Int)) := by omega
      have hp0 : (0 : Int) ≤ (p : Int) := by omega
      obtain ⟨⟨b2, off2⟩, rfl, hbl2, hc2⟩ := rdc HRC.out wr p hpx hB.out
      dsimp only at hc2 hbl2
      obtain ⟨z, hz⟩ : ∃ z, X.getD p 0 = z := ⟨_, rfl⟩
      rw [hz] at hc2 f3
      have HF1 : Hid (F (t + 1) = G ++ [z]) := f3
      have HA1 : Hid (A (t + 1) = (A t).set r ((p : Int) + 1)) := f1
      have HM1 : Hid (M t = M (t + 1) + 1) := f2
      have HPX : Hid (p < X.length ∧ X.length ≤ 60) := ⟨hpx, HXR.out⟩
      have HAT : Hid ((A t).getD r 0 = (p : Int)) := hat
      clear hat f1 f2 f3 hz hpx hr2 HRC
      go_wp2
      go_quiet (fail)
      have b1 : Below wr.heap.size wr (wr.drewN nq) := below_drewN (Below.refl _ _) _
      obtain ⟨wd, hwd⟩ : ∃ W, wr.drewN nq = W := ⟨_, rfl⟩
      rw [hwd] at b1 ⊢
      have HOD : Hid (Ow .i64 3 w.heap.size wd o' G) := hO.out.below b1
      have HAD : Hid (Ow .i64 3 gA wd (.slice (some ⟨gA, 0, none⟩) j j) (A t)) := hA.out.below b1
      have HBD : Hid (Below w.heap.size w wd) := belowCall hB.out b1 hB.out.size
      have d0 : wd.cell? ⟨b, off + r, none⟩ = some (.slice (some ⟨b2, off2, none⟩) X.length c0) := (b1.cell (p := ⟨b, off + r, none⟩) (block_lt_of_cell hc0)).trans hc0
      have d1 : wd.cell? ⟨gA, r, none⟩ = some (.int .i64 (p : Int)) := (b1.cell (p := ⟨gA, r, none⟩) (block_lt_of_cell hc1)).trans hc1
      have d2 : wd.cell? ⟨b2, off2 + p, none⟩ = some (.int .i64 z) := (b1.cell (p := ⟨b2, off2 + p, none⟩) (block_lt_of_cell hc2)).trans hc2
      clear hO hA hB hc0 hc1 hc2 b1 hwd
      obtain ⟨S, hS⟩ : ∃ S : World → Prop, S = fun W' => Below wd.heap.size wd W' := ⟨_, rfl⟩
      have HSF : Hid (∀ W', S W' → Below wd.heap.size wd W') := fun W' h => by rw [hS] at h; exact h
      have HSG : Hid (∀ W', Below wd.heap.size wd W' → S W') := fun W' h => by rw [hS]; exact h
      have HSD : Hid (S wd.drew) := HSG.out _ (Below.refl _ _).drew
      have y0 : ∀ V : At S, V.wd.cell? ⟨b, off + r, none⟩ = some (.slice (some ⟨b2, off2, none⟩) X.length c0) := fun V => ((HSF.out _ V.ok).cell (p := ⟨b, off + r, none⟩) (block_lt_of_cell d0)).trans d0
      have y1 : ∀ V : At S, V.wd.cell? ⟨gA, r, none⟩ = some (.int .i64 (p : Int)) := fun V => ((HSF.out _ V.ok).cell (p := ⟨gA, r, none⟩) (block_lt_of_cell d1)).trans d1
      have y2 : ∀ V : At S, V.wd.cell? ⟨b2, off2 + p, none⟩ = some (.int .i64 z) := fun V => ((HSF.out _ V.ok).cell (p := ⟨b2, off2 + p, none⟩) (block_lt_of_cell d2)).trans d2
      have ne : Nonempty (At S) := ⟨⟨_, HSD.out⟩⟩
      have D1 : Hid (wd.cell? ⟨gA, r, none⟩ = some (.int .i64 (p : Int))) := d1
      clear hS d0 d1 d2
      go_wp2
      refine region_mixT [true, true, true, true, true, true, true, true, true, true, true, false, false, false] 12 1 S (by kernel_rfl) rfl (by kernel_rfl) (fun _ _ _ _ _ h => h) HSD.out ?_
      simp only [selT, selF]
      try simp only [Act.put]
      repeat (go_big_quiet_step (fail))
      refine wpQuiet_nil ?_
      have b1 : Below wd.heap.size wd wd.drew := (Below.refl _ _).drew
      obtain ⟨V, hV⟩ : ∃ V, wd.drew = V := ⟨_, rfl⟩
      rw [hV] at b1 ⊢
      have HOV : Hid (Ow .i64 3 w.heap.size V o' G) := HOD.out.below b1
      have HAV : Hid (Ow .i64 3 gA V (.slice (some ⟨gA, 0, none⟩) j j) (A t)) := HAD.out.below b1
      have HBV : Hid (Below w.heap.size w V) := belowCall HBD.out b1 HBD.out.size
      have HSV : Hid (S (V.alloc (.cells #[.int .i64 z] 3))) := HSG.out _ (b1.alloc b1.size _)
      have HZV : Hid (w.heap.size ≤ V.heap.size) := HBV.out.size
      have HGL : Hid (G.length ≤ 500) := by show _ ≤ _; have := HLG.out; have := HTB.out; omega
      clear y0 y1 y2 ne b1 hV HOD HAD HBD HSD HSF HSG D1
      refine tail_step ?_
      go_wp2
      refine ⟨HSV.out, tail_end ?_⟩
      clear HSV
      go_wp2_with (at_builtin; refine appN rfl (.tmp 66) (.tmp 77) rfl w.heap.size _ G rfl (HOV.out.alloc _) V.heap.size z rfl (by simp) (by have := HGL.out; omega) (by have := HZV.out; simp; omega) ?_)
      intro v6 w6 ho hg hbk
      have HO6 : Hid (Ow .i64 3 w.heap.size w6 v6 (F (t + 1))) := by rw [HF1.out]; exact ho
      have HN6 : Hid (∀ k, v6.ownBlock = some k → k ≠ gA) := fun k e => by
        rcases hbk with h | h
        · exact hNE.out k (h.symm.trans e)
        · rw [h] at e; cases e
          have := (World.ownsRow.lt HAV.out gA rfl).2
          simp; omega
      have HA6 : Hid (Ow .i64 3 gA w6 (.slice (some ⟨gA, 0, none⟩) j j) (A t)) := World.ownsRow.kept (HAV.out.alloc _) hg (.inr fun e => hNE.out gA e.symm rfl)
      have HB6 : Hid (Below w.heap.size w w6) := (HBV.out.alloc HZV.out _).trans (grown_below hg (by have := HZV.out; simp; omega) (fun k e => (World.ownsRow.lt HOV.out k e).1))
      clear ho hg hbk HOV HAV HBV hNE
      have hrow : w6.ownsRow gA 3 1 (.slice (some ⟨gA, 0, none⟩) j j) j ((A t).map (Value.int .i64)) := by have := HA6.out; rw [Ow, HAL.out t] at this; exact this
      have c1 : w6.cell? ⟨gA, r, none⟩ = some (.int .i64 (p : Int)) := by
        rw [hrow.cellAt r (by omega), List.getElem?_map, List.getElem?_eq_getElem (by rw [HAL.out t]; exact hrl)]
        have := HAT.out
        rw [List.getD_eq_getElem?_getD, List.getElem?_eq_getElem (by rw [HAL.out t]; exact hrl)] at this
        simp at this
        simp [this]
      have c2 : w6.frozen? ⟨gA, r, none⟩ = false := hrow.frozenAt r
      have HST := hrow.stored r (.int .i64 ((p : Int) + 1))
      have HA7 : Hid (Ow .i64 3 gA (w6.setCell ⟨gA, r, none⟩ (.int .i64 ((p : Int) + 1))) (.slice (some ⟨gA, 0, none⟩) j j) (A (t + 1))) := by
        show Ow _ _ _ _ _ _
        rw [HA1.out, Ow, List.map_set, List.length_set, HAL.out t]; exact HST.1
      have HO7 : Hid (Ow .i64 3 w.heap.size (w6.setCell ⟨gA, r, none⟩ (.int .i64 ((p : Int) + 1))) v6 (F (t + 1))) := World.ownsRow.kept HO6.out HST.2 (by
        cases hv : v6.ownBlock with
        | none => exact .inl rfl
        | some k => exact .inr fun e => HN6.out k hv (by cases e; rfl))
      have HB7 : Hid (Below w.heap.size w (w6.setCell ⟨gA, r, none⟩ (.int .i64 ((p : Int) + 1)))) := HB6.out.setCell (by have := HGA.out; dsimp only; omega) _
      clear HST HA6 HO6 HB6 hrow
      have hp60 : (p : Int) < 60 := by have := HPX.out; omega
      have hkk := HKB.out
      have HM2 : Hid (((M' : Int) - 1) = ((M (t + 1) : Nat) : Int)) := by show _ = _; have := HMM.out; have := HM1.out; omega
      have HK2 : Hid ((k' - 1) + (F (t + 1)).length = T) := by show _ = _; rw [HF1.out]; have := HKK.out; simp; omega
      have HK3 : Hid (((k' : Int) - 1) = ((k' - 1 : Nat) : Int)) := by show _ = _; omega
      have HRM1 : Hid (M (t + 1) ≤ S0) := by show _ ≤ _; have := HM1.out; have := HRM.out; omega
      go_wp2
      go_roundg (gk - 1)
      case measure => have := ht.out; have := HGK.out; omega
      case rel => exact ⟨t + 1, v6, r', M (t + 1), k' - 1, rfl, by rw [HK3.out], by rw [HM2.out], rfl, HK2.out, rfl, HR'.out, by show _ = _; have := ht.out; have := HGK.out; omega, HRM1.out, HO7.out, HN6.out, HA7.out, HB7.out⟩

end Go.Proofs.Ytiadakponjpkmaa

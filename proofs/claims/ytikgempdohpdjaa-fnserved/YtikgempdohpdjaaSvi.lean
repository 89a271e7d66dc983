/- The program: Serving; no condition. -/
import Derived.Test.YtikgempdohpdjaaSvb
import Derived.Test.YtikgempdohpdjaaSvd
import Derived.Test.YtikgempdohpdjaaSve
namespace Go.Proofs.Ytikgempdohpdjaa
open Go.RowKit Go.ChangeShapes Go.WideShapes Go.ChangeAt
set_option linter.unusedVariables false
set_option linter.unusedSimpArgs false
set_option maxRecDepth 8000

set_option maxHeartbeats 12800000 in
theorem servI_c (v : Value) (ms : List (List Int)) (mg dwl : Int) (w : World) (h : Rn w v ms) : Calls Try.prog 14 #[v, .int .i64 mg, .int .i64 dwl] w (SvR ms mg dwl w) := by
  have HR : Hid (Rn w v ms) := h
  obtain ⟨a, cap, hv, h1, h2, -⟩ := id h
  unfold maxLen at h2
  have HE : Hid (svB ms mg dwl = (msB ms && decide (0 ≤ mg ∧ mg ≤ 60) && decide (1 ≤ dwl ∧ dwl ≤ 20))) := rfl
  have HNO : Hid (svB ms mg dwl = false → ∀ W, Below w.heap.size w W → SvR ms mg dwl w (.returned (.tuple #[.slice none 0 0, .bool false])) W) := fun e W hW => ⟨_, by rw [e], by rw [svR_no e]; exact Ow.nil .i64 3 _ _, hW⟩
  clear h
  subst hv
  go_enter Try.func14, Try.ntmps14
  go_wp2_with (fail)
  refine (measI_c _ ms _ (HR.out)).mono ?_
  rintro e w1 ⟨rfl, hw⟩
  rw [hw]
  clear hw w1
  obtain ⟨q1, hq1⟩ : ∃ q, msB ms = q := ⟨_, rfl⟩
  have HQ1 : Hid (msB ms = q1) := hq1
  rw [hq1]
  clear hq1
  cases q1 with
  | false =>
    have HF : Hid (svB ms mg dwl = false) := by show _ = _; rw [HE.out, HQ1.out]; rfl
    go_wp2
    go_ret2
    exact HNO.out HF.out _ (Below.refl _ _)
  | true =>
  go_wp2_with (fail)
  refine (within_c mg 0 60 _).mono ?_
  rintro e w1 ⟨rfl, hw⟩
  rw [hw]
  clear hw w1
  by_cases hmg : 0 ≤ mg ∧ mg ≤ 60
  case neg =>
    have HF : Hid (svB ms mg dwl = false) := by show _ = _; rw [HE.out, decide_eq_false hmg]; simp
    rw [decide_eq_false hmg]
    clear hmg
    go_wp2
    go_ret2
    exact HNO.out HF.out _ (Below.refl _ _)
  rw [decide_eq_true hmg]
  go_wp2_with (fail)
  refine (within_c dwl 1 20 _).mono ?_
  rintro e w1 ⟨rfl, hw⟩
  rw [hw]
  clear hw w1
  by_cases hdwl : 1 ≤ dwl ∧ dwl ≤ 20
  case neg =>
    have HF : Hid (svB ms mg dwl = false) := by show _ = _; rw [HE.out, decide_eq_false hdwl]; simp
    rw [decide_eq_false hdwl]
    clear hdwl
    go_wp2
    go_ret2
    exact HNO.out HF.out _ (Below.refl _ _)
  rw [decide_eq_true hdwl]
  have HT : Hid (svB ms mg dwl = true) := by show _ = _; rw [HE.out, HQ1.out, decide_eq_true hmg, decide_eq_true hdwl]; rfl
  have hm := msB_ok HQ1.out
  obtain ⟨dw, rfl⟩ := Int.eq_ofNat_of_zero_le (show 0 ≤ dwl by omega)
  have HTR : Hid (svR ms mg (dw : Int) = svL ms mg dw) := by show _ = _; rw [svR_yes HT.out]; rfl
  have hd1 : 1 ≤ dw := by omega
  have hd2 : dw ≤ 20 := by omega
  have hlo := hm.hi
  obtain ⟨T, hT⟩ : ∃ T, svL ms mg dw = T := ⟨_, rfl⟩
  have HTL : Hid (T.length = ms.length) := by show _ = _; rw [← hT, svL_len]
  have HTA : Hid (∀ t, t < ms.length → T.getD t 0 = ((svN ms mg dw t).1 : Int)) := fun t ht => by rw [← hT, svL_at _ _ _ _ ht]
  rw [hT] at HTR
  obtain ⟨m, hmm⟩ : ∃ m, (ms.getD 0 []).length = m := ⟨_, rfl⟩
  have HBD : Hid (∀ t, t < ms.length → (svN ms mg dw t).1 < m ∧ (svN ms mg dw t).2 ≤ t) := fun t ht => by rw [← hmm]; exact svN_bd hm (by omega) mg dw t
  have HSN : Hid (∀ t, svN ms mg dw (t + 1) = if (svN ms mg dw t).2 + dw ≤ t + 1 ∧ tkF (wn ms (t + 1 + 1 - dw) dw) mg (svN ms mg dw t).1 m ≠ (svN ms mg dw t).1 then (tkF (wn ms (t + 1 + 1 - dw) dw) mg (svN ms mg dw t).1 m, t + 1) else svN ms mg dw t) := fun t => by rw [svN, hmm]
  have HS0 : Hid (svN ms mg dw 0 = (amx (ms.getD 0 []), 0)) := rfl
  have HML : Hid (∀ i, i < ms.length → (ms.getD i []).length = m) := fun i hi => by rw [hm.len i hi, hmm]
  have HMB : Hid (∀ i k, i < ms.length → k < m → -120 ≤ (ms.getD i []).getD k 0 ∧ (ms.getD i []).getD k 0 ≤ 0) := fun i k hi hk => hm.bd i k hi (by rw [hmm]; exact hk)
  have HM1 : Hid (1 ≤ ms.length → 1 ≤ m ∧ m ≤ 12) := fun h => by rw [← hmm]; exact hm.lo 0 (by omega)
  have HCD : Hid (∀ j, j < ms.length → ∃ (bo : Nat × Nat) (u : Value), a = some ⟨bo.1, bo.2, none⟩ ∧ bo.1 < w.heap.size ∧ Rd .i64 w u (ms.getD j []) ∧ ∀ W, Below w.heap.size w W → W.cell? ⟨bo.1, bo.2 + j, none⟩ = some u) := rnd HR.out
  have HWN : Hid (∀ (b off f n : Nat) (W : World), a = some ⟨b, off, none⟩ → f + n ≤ ms.length → Below w.heap.size w W → Rn W (.slice (some ⟨b, off + f, none⟩) n (cap - f)) (wn ms f n)) := fun b off f n W ha hfn hW => by
    refine ⟨_, _, by rw [wn_len], by rw [wn_len]; omega, by unfold maxLen; omega, .inr ⟨b, off + f, rfl, fun i hi => ?_⟩⟩
    rw [wn_len] at hi
    obtain ⟨bo, u, e, _, hr, hc⟩ := HCD.out (f + i) (by omega)
    rw [ha] at e
    cases e
    exact ⟨u, by rw [show bo.2 + f + i = bo.2 + (f + i) by omega]; exact hc W hW, by rw [wn_at _ _ _ _ hi]; exact hr.below hW⟩
  have HTK : Hid (∀ (b off f c : Nat) (W : World), a = some ⟨b, off, none⟩ → f + dw ≤ ms.length → c < m → Below w.heap.size w W → Calls Try.prog 50 #[.int .i64 c, .slice (some ⟨b, off + f, none⟩) dw (cap - f), .int .i64 mg] W fun e w' => e = .returned (.int .i64 (tkF (wn ms f dw) mg c m : Int)) ∧ Below W.heap.size W w') := fun b off f c W ha hfn hc hW => by
    refine taker_c _ (wn ms f dw) c m mg W (HWN.out b off f dw W ha hfn hW) (by rw [wn_len]; exact hd1) (fun i hi => ?_) (fun i k hi hk => ?_) hc
    · rw [wn_len] at hi; rw [wn_at _ _ _ _ hi]; exact HML.out _ (by omega)
    · rw [wn_len] at hi; rw [wn_at _ _ _ _ hi]; exact HMB.out _ _ (by omega) hk
  obtain ⟨L, hL⟩ : ∃ L, ms.length = L := ⟨_, rfl⟩
  rw [hL] at h1 hlo HTL HTA HBD HML HMB HM1 HCD HTK ⊢
  obtain ⟨i0, hi, hz0, hz1, hz2⟩ := info_parts toIInfo
  clear hmg hdwl hm hT hmm hL HE HNO HR HQ1 HWN
  go_wp2_with (at_make; refine wpList_make_full _ rfl _ _ 27 rfl w.heap.size 3 i0 (.int .i64 0) 1 Try.underlying27 hi hz0 hz1 .i64 .i64 _ _ L rfl rfl rfl rfl (by rw [hz2]; omega) (by unfold maxLen; omega) (Nat.le_refl _) ?_)
  intro w2' ho hgm
  have HX : Hid (w2'.ownsRow w.heap.size 3 1 (.slice (some ⟨w.heap.size, 0, none⟩) L L) L ((mix T 0).map (Value.int .i64))) := by
    have e : (mix T 0).map (Value.int .i64) = (madeCells #[Value.int .i64 0] L).toList := by rw [toList_madeCells_one]; simp [mix, HTL.out]
    show World.ownsRow _ _ _ _ _ _ _
    rw [e]; exact ho
  have HB2 : Hid (Below w.heap.size w w2') := grown_below hgm (Nat.le_refl _) (by simp)
  clear ho hgm hi hz0 hz1 hz2
  go_wp2
  go_loopw [9, 10, 32] (fun ce si i wr => ∃ (t c s : Nat), t ≤ L ∧ i = .int .i64 t ∧ ce = .int .i64 c ∧ si = .int .i64 s ∧ Hid ((t = 0 ∧ s = 0 ∧ c = 0) ∨ (0 < t ∧ svN ms mg dw (t - 1) = (c, s))) ∧ Hid (wr.ownsRow w.heap.size 3 1 (.slice (some ⟨w.heap.size, 0, none⟩) L L) L ((mix T t).map (Value.int .i64))) ∧ Hid (Below w.heap.size w wr)) (fun _ _ i _ => L - (intOf i).toNat)
  case atStart => exact ⟨0, 0, 0, Nat.zero_le _, rfl, rfl, rfl, .inl ⟨rfl, rfl, rfl⟩, HX.out, HB2.out⟩
  case round =>
    obtain ⟨t, c, s, ht, rfl, rfl, rfl, hS, hO, hB⟩ := hrel
    clear HX HB2
    by_cases hlt : t < L
    case neg =>
      obtain rfl : t = L := by omega
      have HOF : Hid (Ow .i64 3 w.heap.size wr (.slice (some ⟨w.heap.size, 0, none⟩) t t) T) := by
        have h1 := hO.out
        rw [show mix T t = T by have := mix_full T; rw [HTL.out] at this; exact this] at h1
        show World.ownsRow _ _ _ _ _ _ _
        rw [HTL.out]; exact h1
      clear hO hlt ht
      go_wp2
      go_ret2
      exact ⟨_, by rw [HT.out]; rfl, by rw [HTR.out]; exact HOF.out, hB.out⟩
    case pos =>
    obtain ⟨⟨b, off⟩, u, ha, hbl, hrd, hcw⟩ := HCD.out t hlt
    subst ha
    have hbl : b < w.heap.size := hbl
    have hc0 := hcw wr hB.out
    dsimp only at hc0
    have HRU : Hid (Rd .i64 wr u (ms.getD t [])) := hrd.below hB.out
    have hrl := HML.out t hlt
    obtain ⟨au, cu, hvu, -⟩ := id hrd
    have HVU : Hid (u = .slice au m cu) := by show _ = _; rw [hvu, hrl]
    rw [HVU.out] at hc0
    have hm1 := HM1.out (by omega)
    have HTT : Hid (T.getD t 0 = ((svN ms mg dw t).1 : Int)) := HTA.out t hlt
    have hml : (mix T t).length = L := by rw [mix_len T t (by rw [HTL.out]; exact ht), HTL.out]
    obtain ⟨y0, hd0⟩ : ∃ y, wr.cell? ⟨w.heap.size, t, none⟩ = some y := ⟨_, by rw [hO.out.cellAt t (by omega), List.getElem?_map, List.getElem?_eq_getElem (by rw [hml]; exact hlt)]; rfl⟩
    have HSZ : Hid (w.heap.size < wr.heap.size) := block_lt_of_cell hd0
    have HST : Hid (∀ (W : World) (x : Nat), Below wr.heap.size wr W → x = (svN ms mg dw t).1 → (∃ y, W.cell? ⟨w.heap.size, t, none⟩ = some y) ∧ W.frozen? ⟨w.heap.size, t, none⟩ = false ∧ (W.setCell ⟨w.heap.size, t, none⟩ (.int .i64 (x : Int))).ownsRow w.heap.size 3 1 (.slice (some ⟨w.heap.size, 0, none⟩) L L) L ((mix T (t + 1)).map (Value.int .i64)) ∧ Below w.heap.size w (W.setCell ⟨w.heap.size, t, none⟩ (.int .i64 (x : Int)))) := fun W x hW hx => by
      have hO2 : W.ownsRow w.heap.size 3 1 (.slice (some ⟨w.heap.size, 0, none⟩) L L) L ((mix T t).map (Value.int .i64)) := World.ownsRow.kept (row := none) hO.out ⟨hW.os, hW.tape, hW.output, hW.size, fun j hj _ => hW.block j hj⟩ (.inr (by simp [Value.ownBlock]))
      have e := mix_set .i64 T t (by rw [HTL.out]; exact hlt)
      rw [HTT.out, ← hx] at e
      refine ⟨⟨_, by rw [hO2.cellAt t (by omega), List.getElem?_map, List.getElem?_eq_getElem (by rw [hml]; exact hlt)]; rfl⟩, hO2.frozenAt t, ?_, (belowCall hB.out hW hB.out.size).setCell (by dsimp only; omega) _⟩
      rw [← e]; exact (hO2.stored t _).1
    have hi0 : (0 : Int) ≤ (t : Int) := by omega
    have hi1 : (t : Int) < (L : Int) := by omega
    clear hrd hcw hvu hO hml hd0 y0
    by_cases ht0 : t = 0
    case pos =>
      subst ht0
      have HC0 : Hid (amx (ms.getD 0 []) = (svN ms mg dw 0).1) := by show _ = _; rw [HS0.out]
      obtain ⟨⟨y0, hd0⟩, hf0, hst, hbn⟩ := HST.out wr _ (Below.refl _ _) HC0.out
      have HNX : Hid (svN ms mg dw (0 + 1 - 1) = (amx (ms.getD 0 []), 0)) := HS0.out
      have hss : s = 0 := by rcases hS.out with h | h; exact h.2.1; exact absurd h.1 (by omega)
      subst hss
      obtain ⟨x, hx⟩ : ∃ x, amx (ms.getD 0 []) = x := ⟨_, rfl⟩
      rw [hx] at hst hbn HNX
      have HX : Hid (amx (ms.getD 0 []) = x) := hx
      have HST2 : Hid ((wr.setCell ⟨w.heap.size, 0, none⟩ (.int .i64 (x : Int))).ownsRow w.heap.size 3 1 (.slice (some ⟨w.heap.size, 0, none⟩) L L) L ((mix T (0 + 1)).map (Value.int .i64))) := hst
      have HBN : Hid (Below w.heap.size w (wr.setCell ⟨w.heap.size, 0, none⟩ (.int .i64 (x : Int)))) := hbn
      clear hst hbn hx HST hS
      simp only [Nat.add_zero] at hc0
      go_wp2_with (fail)
      rw [← HVU.out]
      refine (strong_c u (ms.getD 0 []) _ HRU.out (by omega)).mono ?_
      rintro e w3 ⟨rfl, hw⟩
      rw [hw, HX.out]
      clear hw w3
      go_wp2
      go_roundw
      case rel => exact ⟨0 + 1, x, 0, by omega, by go_num, rfl, rfl, .inr ⟨by omega, HNX.out⟩, HST2.out, HBN.out⟩
      case measure => simp [intOf]; omega
    case neg =>
    have hq0 : ((t : Int) == 0) = false := by simp; omega
    have hcs : svN ms mg dw (t - 1) = (c, s) := by
      rcases hS.out with h | h
      · exact absurd h.1 ht0
      · exact h.2
    have HBC := HBD.out (t - 1) (by omega)
    rw [hcs] at HBC
    have HSN2 : Hid (svN ms mg dw t = if s + dw ≤ t ∧ tkF (wn ms (t + 1 - dw) dw) mg c m ≠ c then (tkF (wn ms (t + 1 - dw) dw) mg c m, t) else (c, s)) := by
      show _ = _
      obtain ⟨t', rfl⟩ : ∃ t', t = t' + 1 := ⟨t - 1, by omega⟩
      rw [HSN.out t', show svN ms mg dw t' = (c, s) from hcs]
    have hcb : c < m := HBC.1
    have hsb : s ≤ t - 1 := HBC.2
    have HT1 : Hid (t + 1 - 1 = t ∧ 0 < t + 1) := ⟨by omega, by omega⟩
    clear HBC hcs hS HSN HS0 HTA
    by_cases hdq : (dw : Int) ≤ (t : Int) - (s : Int)
    case neg =>
      have hd : decide ((dw : Int) ≤ (t : Int) - (s : Int)) = false := decide_eq_false hdq
      have he : ((dw : Int) ≤ (t : Int) - (s : Int)) = False := eq_false hdq
      have HNX : Hid (svN ms mg dw t = (c, s)) := by show _ = _; rw [HSN2.out, if_neg (fun h => by omega)]
      obtain ⟨⟨y0, hd0⟩, hf0, hst, hbn⟩ := HST.out wr c (Below.refl _ _) (by rw [HNX.out])
      have HST2 : Hid ((wr.setCell ⟨w.heap.size, t, none⟩ (.int .i64 (c : Int))).ownsRow w.heap.size 3 1 (.slice (some ⟨w.heap.size, 0, none⟩) L L) L ((mix T (t + 1)).map (Value.int .i64))) := hst
      have HBN : Hid (Below w.heap.size w (wr.setCell ⟨w.heap.size, t, none⟩ (.int .i64 (c : Int)))) := hbn
      have HT0 : Hid (¬ t = 0) := ht0
      clear hst hbn HST HSN2 hdq ht0
      go_wp2
      go_roundw
      case rel => exact ⟨t + 1, c, s, by omega, by go_num, rfl, rfl, .inr ⟨HT1.out.2, by rw [HT1.out.1]; exact HNX.out⟩, HST2.out, HBN.out⟩
      case measure => simp [intOf]; omega
    case pos =>
    have hd : decide ((dw : Int) ≤ (t : Int) - (s : Int)) = true := decide_eq_true hdq
    obtain ⟨f, hf⟩ : ∃ f : Nat, t + 1 - dw = f := ⟨_, rfl⟩
    have hff : (t : Int) - (dw : Int) + 1 = (f : Int) := by omega
    have hft : f + dw = t + 1 := by omega
    have HFT : Hid (f + dw = t + 1) := hft
    rw [hf] at HSN2
    have hf0' : (0 : Int) ≤ (f : Int) := by omega
    have hf1 : (f : Int) ≤ (t : Int) + 1 := by omega
    have hf2 : (t : Int) + 1 ≤ (cap : Int) := by omega
    have HT0 : Hid (¬ t = 0) := ht0
    have HSD : Hid (s + dw ≤ t) := by show _ ≤ _; omega
    clear hf hft ht0 hdq
    go_wp2_with (fail)
    rw [show t + 1 - f = dw by have := HFT.out; omega]
    refine (HTK.out b off f c _ rfl (by have := HFT.out; omega) hcb hB.out).mono ?_
    rintro e w3 ⟨rfl, b3⟩
    obtain ⟨n, hn⟩ : ∃ n, tkF (wn ms f dw) mg c m = n := ⟨_, rfl⟩
    rw [hn] at HSN2 ⊢
    by_cases hnc : n = c
    case pos =>
      have hq : ((n : Int) != (c : Int)) = false := by simp; omega
      have HNX : Hid (svN ms mg dw t = (c, s)) := by show _ = _; rw [HSN2.out, if_neg (fun h => h.2 hnc)]
      obtain ⟨⟨y0, hd0⟩, hf0, hst, hbn⟩ := HST.out w3 c b3 (by rw [HNX.out])
      have HST2 : Hid ((w3.setCell ⟨w.heap.size, t, none⟩ (.int .i64 (c : Int))).ownsRow w.heap.size 3 1 (.slice (some ⟨w.heap.size, 0, none⟩) L L) L ((mix T (t + 1)).map (Value.int .i64))) := hst
      have HBN : Hid (Below w.heap.size w (w3.setCell ⟨w.heap.size, t, none⟩ (.int .i64 (c : Int)))) := hbn
      have HNC : Hid (n = c) := hnc
      clear hst hbn HST HSN2 hnc hn b3 hB
      go_wp2
      go_roundw
      case rel => exact ⟨t + 1, c, s, by omega, by go_num, rfl, rfl, .inr ⟨HT1.out.2, by rw [HT1.out.1]; exact HNX.out⟩, HST2.out, HBN.out⟩
      case measure => simp [intOf]; omega
    case neg =>
    have hq : ((n : Int) != (c : Int)) = true := by rw [bne_iff_ne]; omega
    have HNX : Hid (svN ms mg dw t = (n, t)) := by show _ = _; rw [HSN2.out, if_pos ⟨HSD.out, hnc⟩]
    obtain ⟨⟨y0, hd0⟩, hf0, hst, hbn⟩ := HST.out w3 n b3 (by rw [HNX.out])
    have HST2 : Hid ((w3.setCell ⟨w.heap.size, t, none⟩ (.int .i64 (n : Int))).ownsRow w.heap.size 3 1 (.slice (some ⟨w.heap.size, 0, none⟩) L L) L ((mix T (t + 1)).map (Value.int .i64))) := hst
    have HBN : Hid (Below w.heap.size w (w3.setCell ⟨w.heap.size, t, none⟩ (.int .i64 (n : Int)))) := hbn
    have HNC : Hid (¬ n = c) := hnc
    clear hst hbn HST HSN2 hnc hn b3 hB
    go_wp2
    go_roundw
    case rel => exact ⟨t + 1, n, t, by omega, by go_num, rfl, rfl, .inr ⟨HT1.out.2, by rw [HT1.out.1]; exact HNX.out⟩, HST2.out, HBN.out⟩
    case measure => simp [intOf]; omega

end Go.Proofs.Ytikgempdohpdjaa

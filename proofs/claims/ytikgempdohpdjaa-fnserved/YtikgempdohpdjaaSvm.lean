/- The model: Serving; no condition. -/
import Derived.Test.YtikgempdohpdjaaSvc
import Derived.Test.YtikgempdohpdjaaSvo
namespace Go.Proofs.Ytikgempdohpdjaa
open Go.RowKit Go.ChangeShapes Go.WideShapes Go.ChangeAt
set_option linter.unusedVariables false
set_option linter.unusedSimpArgs false
set_option maxRecDepth 8000

set_option maxHeartbeats 12800000 in
theorem servM_c (v : Value) (ms : List (List Int)) (mg dwl : Int) (w : World) (h : Rn w v ms) : Calls Try.prog 15 #[v, .int .i64 mg, .int .i64 dwl] w (SvR ms mg dwl w) := by
  have HR : Hid (Rn w v ms) := h
  obtain ⟨a, cap, hv, h1, h2, -⟩ := id h
  unfold maxLen at h2
  have HE : Hid (svB ms mg dwl = (msB ms && decide (0 ≤ mg ∧ mg ≤ 60) && decide (1 ≤ dwl ∧ dwl ≤ 20))) := rfl
  obtain ⟨W0, hW0⟩ : ∃ W, w.alloc (Obj.cells #[] 3) = W := ⟨_, rfl⟩
  obtain ⟨v0, hv0⟩ : ∃ v, Value.slice (some ⟨w.heap.size, 0, none⟩) 0 0 = v := ⟨_, rfl⟩
  have HO0' : Hid (Ow .i64 3 w.heap.size W0 v0 []) := by rw [← hW0, ← hv0]; exact Ow.empty .i64 3 _ w (Nat.le_refl _)
  have HB0' : Hid (Below w.heap.size w W0) := by rw [← hW0]; exact (Below.refl _ _).alloc (Nat.le_refl _) _
  have HW0 : Hid (w.alloc (Obj.cells #[] 3) = W0 ∧ Value.slice (some ⟨w.heap.size, 0, none⟩) 0 0 = v0) := ⟨hW0, hv0⟩
  clear hW0 hv0
  clear h
  subst hv
  go_enter Try.func15, Try.ntmps15
  go_wp2_with (fail)
  rw [HW0.out.1, HW0.out.2]
  clear HW0
  refine (measM_c _ ms _ (HR.out.below HB0'.out)).mono ?_
  rintro e w1 ⟨rfl, hw⟩
  have HB1 : Hid (Below w.heap.size w w1) := belowCall HB0'.out hw HB0'.out.size
  have HO0 : Hid (Ow .i64 3 w.heap.size w1 v0 []) := HO0'.out.below hw
  have HNO : Hid (svB ms mg dwl = false → SvR ms mg dwl w (.returned (.tuple #[v0, .bool false])) w1) := fun e => ⟨_, by rw [e], by rw [svR_no e]; exact HO0.out, HB1.out⟩
  clear hw HO0' HB0'
  obtain ⟨q1, hq1⟩ : ∃ q, msB ms = q := ⟨_, rfl⟩
  have HQ1 : Hid (msB ms = q1) := hq1
  rw [hq1]
  clear hq1
  cases q1 with
  | false =>
    have HF : Hid (svB ms mg dwl = false) := by show _ = _; rw [HE.out, HQ1.out]; rfl
    go_wp2
    go_ret2
    exact HNO.out HF.out
  | true =>
  go_wp2_with (fail)
  refine (in_c mg 0 60 _).mono ?_
  rintro e w9 ⟨rfl, hw⟩
  rw [hw]
  clear hw w9
  by_cases hmg : 0 ≤ mg ∧ mg ≤ 60
  case neg =>
    have HF : Hid (svB ms mg dwl = false) := by show _ = _; rw [HE.out, decide_eq_false hmg]; simp
    rw [decide_eq_false hmg]
    clear hmg
    go_wp2
    go_ret2
    exact HNO.out HF.out
  rw [decide_eq_true hmg]
  go_wp2_with (fail)
  refine (in_c dwl 1 20 _).mono ?_
  rintro e w9 ⟨rfl, hw⟩
  rw [hw]
  clear hw w9
  by_cases hdwl : 1 ≤ dwl ∧ dwl ≤ 20
  case neg =>
    have HF : Hid (svB ms mg dwl = false) := by show _ = _; rw [HE.out, decide_eq_false hdwl]; simp
    rw [decide_eq_false hdwl]
    clear hdwl
    go_wp2
    go_ret2
    exact HNO.out HF.out
  rw [decide_eq_true hdwl]
  have HT : Hid (svB ms mg dwl = true) := by show _ = _; rw [HE.out, HQ1.out, decide_eq_true hmg, decide_eq_true hdwl]; rfl
  have hm := msB_ok HQ1.out
  obtain ⟨dw, rfl⟩ := Int.eq_ofNat_of_zero_le (show 0 ≤ dwl by omega)
  have HTR : Hid (svR ms mg (dw : Int) = svL ms mg dw) := by show _ = _; rw [svR_yes HT.out]; rfl
  have hd1 : 1 ≤ dw := by omega
  have hd2 : dw ≤ 20 := by omega
  have hlo := hm.hi
  obtain ⟨T, hT⟩ : ∃ T, svL ms mg dw = T := ⟨_, rfl⟩
  have HTL : Hid (T.length = ms.length) := by show _ = _; rw [← hT, svL_len]
  have HTA : Hid (∀ t, t < ms.length → T.getD t 0 = ((svN ms mg dw t).1 : Int)) := fun t ht => by rw [← hT, svL_at _ _ _ _ ht]
  rw [hT] at HTR
  obtain ⟨m, hmm⟩ : ∃ m, (ms.getD 0 []).length = m := ⟨_, rfl⟩
  have HBD : Hid (∀ t, t < ms.length → (svN ms mg dw t).1 < m ∧ (svN ms mg dw t).2 ≤ t) := fun t ht => by rw [← hmm]; exact svN_bd hm (by omega) mg dw t
  have HSN : Hid (∀ t, svN ms mg dw (t + 1) = if (svN ms mg dw t).2 + dw ≤ t + 1 ∧ tkF (wn ms (t + 1 + 1 - dw) dw) mg (svN ms mg dw t).1 m ≠ (svN ms mg dw t).1 then (tkF (wn ms (t + 1 + 1 - dw) dw) mg (svN ms mg dw t).1 m, t + 1) else svN ms mg dw t) := fun t => by rw [svN, hmm]
  have HS0 : Hid (svN ms mg dw 0 = (amx (ms.getD 0 []), 0)) := rfl
  have HML : Hid (∀ i, i < ms.length → (ms.getD i []).length = m) := fun i hi => by rw [hm.len i hi, hmm]
  have HMB : Hid (∀ i k, i < ms.length → k < m → -120 ≤ (ms.getD i []).getD k 0 ∧ (ms.getD i []).getD k 0 ≤ 0) := fun i k hi hk => hm.bd i k hi (by rw [hmm]; exact hk)
  have HM1 : Hid (1 ≤ ms.length → 1 ≤ m ∧ m ≤ 12) := fun h => by rw [← hmm]; exact hm.lo 0 (by omega)
  have HCD : Hid (∀ j, j < ms.length → ∃ (bo : Nat × Nat) (u : Value), a = some ⟨bo.1, bo.2, none⟩ ∧ bo.1 < w.heap.size ∧ Rd .i64 w u (ms.getD j []) ∧ ∀ W, Below w.heap.size w W → W.cell? ⟨bo.1, bo.2 + j, none⟩ = some u) := rnd HR.out
  have HOV : Hid (∀ (k c f : Nat) (to : Int) (W : World), (f : Int) + (dw : Int) - 1 = to → f + dw ≤ ms.length → k < m → c < m → Below w.heap.size w W → Calls Try.prog 53 #[.slice a ms.length cap, .int .i64 k, .int .i64 c, .int .i64 mg, .int .i64 f, .int .i64 to] W fun e w' => e = .returned (.bool (owB (wn ms f dw) k c mg)) ∧ Below W.heap.size W w') := fun k c f to W ht hfn hk hc hW => by rw [← ht]; exact over_c _ ms k c m f dw mg W (HR.out.below hW) hfn HML.out HMB.out hk hc hmg.1 hmg.2
  have HNX1 : Hid (∀ t c s, 0 < t → svN ms mg dw (t - 1) = (c, s) → svN ms mg dw t = if 0 ≤ bsF (ms.getD t []) (fun k => decide (s + dw ≤ t) && owB (wn ms (t + 1 - dw) dw) k c mg) m then ((bsF (ms.getD t []) (fun k => decide (s + dw ≤ t) && owB (wn ms (t + 1 - dw) dw) k c mg) m).toNat, t) else (c, s)) := fun t c s ht hcs => svM_next hmm ht hd1 hcs
  have HNX0 : Hid (1 ≤ m → 0 ≤ bsF (ms.getD 0 []) (fun _ => true) m ∧ svN ms mg dw 0 = ((bsF (ms.getD 0 []) (fun _ => true) m).toNat, 0)) := fun h => svM_first hmm h
  obtain ⟨L, hL⟩ : ∃ L, ms.length = L := ⟨_, rfl⟩
  rw [hL] at h1 hlo HTL HTA HBD HML HMB HM1 HCD HOV ⊢
  have HTK : Hid (∀ k, k < L → T.take (k + 1) = T.take k ++ [T.getD k 0]) := fun k hk => by
    have hk' : k < T.length := by rw [HTL.out]; exact hk
    rw [List.take_succ_eq_append_getElem hk']; simp [List.getElem?_eq_getElem hk']
  have HOW : Hid (Ow .i64 3 w.heap.size w1 v0 (T.take 0)) := HO0.out
  clear hmg hdwl hm hT hmm hL HE HNO HR HQ1 HSN HS0 HO0
  go_wp2
  go_loopw [8, 9, 10, 11] (fun o ce si i wr => ∃ (t c s : Nat) (o' : Value), t ≤ L ∧ i = .int .i64 t ∧ ce = .int .i64 c ∧ si = .int .i64 s ∧ o' = o ∧ Hid ((t = 0 ∧ s = 0 ∧ c = 0) ∨ (0 < t ∧ svN ms mg dw (t - 1) = (c, s))) ∧ Hid (Ow .i64 3 w.heap.size wr o' (T.take t)) ∧ Hid (Below w.heap.size w wr)) (fun _ _ _ i _ => L - (intOf i).toNat)
  case atStart => exact ⟨0, 0, 0, _, Nat.zero_le _, rfl, rfl, rfl, rfl, .inl ⟨rfl, rfl, rfl⟩, HOW.out, HB1.out⟩
  case round =>
    obtain ⟨t, c, s, o', ht, rfl, rfl, rfl, ho', hS, hO, hB⟩ := hrel
    subst ho'
    clear HOW HB1
    by_cases hlt : t < L
    case neg =>
      obtain rfl : t = L := by omega
      have HOF : Hid (Ow .i64 3 w.heap.size wr o' T) := by
        have h1 := hO.out
        rw [← HTL.out, List.take_length] at h1; exact h1
      clear hO hlt ht
      go_wp2
      go_ret2
      exact ⟨_, by rw [HT.out]; rfl, by rw [HTR.out]; exact HOF.out, hB.out⟩
    case pos =>
    obtain ⟨⟨b, off⟩, u, ha, hbl, hrd, hcw⟩ := HCD.out t hlt
    subst ha
    have hbl : b < w.heap.size := hbl
    have hrl := HML.out t hlt
    have hm1 := HM1.out (by omega)
    have HTT : Hid (T.getD t 0 = ((svN ms mg dw t).1 : Int)) := HTA.out t hlt
    have HTN : Hid (T.take (t + 1) = T.take t ++ [T.getD t 0]) := HTK.out t hlt
    have hcb : c < m ∧ s ≤ t := by
      rcases hS.out with h | h
      · omega
      · have := HBD.out (t - 1) (by omega); rw [h.2] at this; exact ⟨this.1, by have := this.2; dsimp only at this; omega⟩
    have HBSQ : Hid (∃ ok : Nat → Bool, (t = 0 → ∀ k, ok k = true) ∧ (0 < t → ∀ k, ok k = (decide (s + dw ≤ t) && owB (wn ms (t + 1 - dw) dw) k c mg)) ∧ ((0 ≤ bsF (ms.getD t []) ok m ∧ svN ms mg dw t = ((bsF (ms.getD t []) ok m).toNat, t)) ∨ (bsF (ms.getD t []) ok m < 0 ∧ svN ms mg dw t = (c, s)))) := by
      rcases Nat.eq_zero_or_pos t with h0 | h0
      · subst h0
        exact ⟨fun _ => true, fun _ _ => rfl, fun h => by omega, .inl (HNX0.out hm1.1)⟩
      · refine ⟨fun k => decide (s + dw ≤ t) && owB (wn ms (t + 1 - dw) dw) k c mg, fun h => by omega, fun _ _ => rfl, ?_⟩
        have h2 : svN ms mg dw (t - 1) = (c, s) := by
          rcases hS.out with h | h
          · omega
          · exact h.2
        have h3 := HNX1.out t c s h0 h2
        by_cases hq : 0 ≤ bsF (ms.getD t []) (fun k => decide (s + dw ≤ t) && owB (wn ms (t + 1 - dw) dw) k c mg) m
        · exact .inl ⟨hq, by rw [h3, if_pos hq]⟩
        · exact .inr ⟨by omega, by rw [h3, if_neg hq]⟩
    obtain ⟨ok, hok0, hok1, hbs⟩ := HBSQ.out
    have HK0 : Hid (t = 0 → ∀ k, ok k = true) := hok0
    have HK1 : Hid (0 < t → ∀ k, ok k = (decide (s + dw ≤ t) && owB (wn ms (t + 1 - dw) dw) k c mg)) := hok1
    obtain ⟨p, hp⟩ : ∃ p, ms.getD t [] = p := ⟨_, rfl⟩
    rw [hp] at hrd hrl hbs
    have HBS : Hid ((0 ≤ bsF p ok m ∧ svN ms mg dw t = ((bsF p ok m).toNat, t)) ∨ (bsF p ok m < 0 ∧ svN ms mg dw t = (c, s))) := hbs
    have HBB : Hid (∀ k, -1 ≤ bsF p ok k ∧ bsF p ok k < (k : Int)) := bsF_bd p ok
    have HBN : Hid (∀ k, bsF p ok (k + 1) = if ok k = true ∧ (bsF p ok k < 0 ∨ p.getD (bsF p ok k).toNat 0 < p.getD k 0) then (k : Int) else bsF p ok k) := fun k => rfl
    obtain ⟨au, cu, hvu, hu1, hu2, -⟩ := id hrd
    subst hvu
    have HCU : Hid (∀ W j, j < p.length → Below w.heap.size w W → ∃ bo : Nat × Nat, au = some ⟨bo.1, bo.2, none⟩ ∧ bo.1 < w.heap.size ∧ W.cell? ⟨bo.1, bo.2 + j, none⟩ = some (.int .i64 (p.getD j 0))) := rdc hrd
    rw [hrl] at hu1 HCU
    unfold maxLen at hu2
    have HCW : Hid (∀ W, Below w.heap.size w W → W.cell? ⟨b, off + t, none⟩ = some (.slice au m cu)) := fun W hW => by rw [← hrl]; exact hcw W hW
    have HSS : Hid ((t = 0 ∧ s = 0 ∧ c = 0) ∨ (0 < t ∧ svN ms mg dw (t - 1) = (c, s))) := hS.out
    obtain ⟨hcb, hsb⟩ := hcb
    have hi0 : (0 : Int) ≤ (t : Int) := by omega
    have hi1 : (t : Int) < (L : Int) := by omega
    obtain ⟨f, hf⟩ : ∃ f : Nat, t + 1 - dw = f := ⟨_, rfl⟩
    have HFQ : Hid (s + dw ≤ t → (t : Int) - (dw : Int) + 1 = (f : Int) ∧ f + dw = t + 1) := fun h => by omega
    rw [hf] at HK1
    clear hrd hcw hp hok0 hok1 hbs hS hrl HBSQ HNX1 HNX0 HTK hf HCD HTA
    go_wp2
    go_loopw [12, 13] (fun be i wr => ∃ (k : Nat) (B : Int), k ≤ m ∧ i = .int .i64 k ∧ be = .int .i64 B ∧ Hid (B = bsF p ok k) ∧ Hid (Ow .i64 3 w.heap.size wr o' (T.take t)) ∧ Hid (Below w.heap.size w wr)) (fun _ i _ => m - (intOf i).toNat)
    case atStart => exact ⟨0, -1, Nat.zero_le _, rfl, rfl, rfl, hO.out, hB.out⟩
    case round =>
      obtain ⟨k, B, hk, rfl, rfl, hQ, hO2, hB2⟩ := hrel
      clear hO hB
      obtain ⟨hb1, hb2⟩ := HBB.out k
      rw [← hQ.out] at hb1 hb2
      have hc0 := HCW.out wr hB2.out
      have HSZ : Hid (w.heap.size ≤ wr.heap.size) := hB2.out.size
      have HLN : Hid ((T.take t).length ≤ 1000) := by show _ ≤ _; simp; omega
      by_cases hkm : k < m
      case neg =>
        obtain rfl : k = m := by omega
        by_cases hB0 : 0 ≤ B
        case pos =>
          have hd : decide (0 ≤ B) = true := decide_eq_true hB0
          obtain ⟨x, rfl⟩ := Int.eq_ofNat_of_zero_le hB0
          have HNX : Hid (svN ms mg dw t = (x, t)) := by
            show _ = _
            rcases HBS.out with h | h
            · rw [h.2, ← hQ.out]; rfl
            · rw [← hQ.out] at h; omega
          have HTN2 : Hid (T.take (t + 1) = T.take t ++ [(x : Int)]) := by show _ = _; rw [HTN.out, HTT.out, HNX.out]
          clear hkm hk HBS HBN HBB HCU HTN HTT HK0 HK1
          go_wp2_with (at_builtin; refine appI rfl (.tmp 94) (.tmp 96) rfl w.heap.size _ (T.take t) rfl (hO2.out.alloc _) wr.heap.size (x : Int) rfl (by simp) (by have := HLN.out; omega) (by have := HSZ.out; simp; omega) ?_)
          intro v6 w6 ho hb
          have HO6 : Hid (Ow .i64 3 w.heap.size w6 v6 (T.take (t + 1))) := by rw [HTN2.out]; exact ho
          have HB6 : Hid (Below w.heap.size w w6) := (hB2.out.alloc HSZ.out _).trans hb
          clear ho hb hO2 hB2 HTN2
          go_wp2
          go_roundw
          case rel => exact ⟨t + 1, x, t, _, by omega, by go_num, rfl, rfl, rfl, .inr ⟨by omega, HNX.out⟩, HO6.out, HB6.out⟩
          case measure => simp [intOf]; omega
        case neg =>
        have hd : decide (0 ≤ B) = false := decide_eq_false hB0
        have he : (0 ≤ B) = False := eq_false hB0
        have HNX : Hid (svN ms mg dw t = (c, s)) := by
          show _ = _
          rcases HBS.out with h | h
          · rw [← hQ.out] at h; exact absurd h.1 hB0
          · exact h.2
        have HTN2 : Hid (T.take (t + 1) = T.take t ++ [(c : Int)]) := by show _ = _; rw [HTN.out, HTT.out, HNX.out]
        clear hkm hk HBS HBN HBB HCU HTN HTT HK0 HK1 hB0
        go_wp2_with (at_builtin; refine appI rfl (.tmp 94) (.tmp 96) rfl w.heap.size _ (T.take t) rfl (hO2.out.alloc _) wr.heap.size (c : Int) rfl (by simp) (by have := HLN.out; omega) (by have := HSZ.out; simp; omega) ?_)
        intro v6 w6 ho hb
        have HO6 : Hid (Ow .i64 3 w.heap.size w6 v6 (T.take (t + 1))) := by rw [HTN2.out]; exact ho
        have HB6 : Hid (Below w.heap.size w w6) := (hB2.out.alloc HSZ.out _).trans hb
        clear ho hb hO2 hB2 HTN2
        go_wp2
        go_roundw
        case rel => exact ⟨t + 1, c, s, _, by omega, by go_num, rfl, rfl, rfl, .inr ⟨by omega, HNX.out⟩, HO6.out, HB6.out⟩
        case measure => simp [intOf]; omega
      case pos =>
      obtain ⟨⟨b', off'⟩, hau, hbl', hc1⟩ := HCU.out wr k hkm hB2.out
      subst hau
      dsimp only at hc1 hbl'
      have HB1' : Hid (bsF p ok (k + 1) = if ok k = true ∧ (B < 0 ∨ p.getD B.toNat 0 < p.getD k 0) then (k : Int) else B) := by show _ = _; rw [HBN.out k, ← hQ.out]
      have HRB : Hid (∀ W (n : Nat), n < m → Below w.heap.size w W → W.cell? ⟨b', off' + n, none⟩ = some (.int .i64 (p.getD n 0))) := fun W n hn hW => by
        obtain ⟨bo, e, _, hc⟩ := HCU.out W n hn hW
        cases e; exact hc
      obtain ⟨x, hx⟩ : ∃ x, p.getD k 0 = x := ⟨_, rfl⟩
      rw [hx] at hc1 HB1'
      have hk0 : (0 : Int) ≤ (k : Int) := by omega
      have hk1 : (k : Int) < (m : Int) := by omega
      have HXK : Hid (p.getD k 0 = x) := hx
      clear hx HCU
      by_cases ht0 : t = 0
      case pos =>
        have HOK : Hid (ok k = true) := HK0.out ht0 k
        rw [HOK.out] at HB1'
        have hq0 : ((t : Int) == 0) = true := by simp; omega
        have HT0 : Hid (t = 0) := ht0
        clear ht0
        by_cases hB0 : B < 0
        case pos =>
          have hbd : decide (B < 0) = true := decide_eq_true hB0
          have HNQ : Hid ((k : Int) = bsF p ok (k + 1)) := by show _ = _; rw [HB1'.out, if_pos ⟨rfl, .inl hB0⟩]
          clear HB1' HOK hQ
          go_wp2
          go_quiet (fail)
          go_wp2
          go_roundw
          case rel => exact ⟨k + 1, k, by omega, by go_num, rfl, HNQ.out, hO2.out.below (below_drewN (Below.refl _ _) _), below_drewN hB2.out _⟩
          case measure => simp [intOf]; omega
        case neg =>
        obtain ⟨Bn, rfl⟩ := Int.eq_ofNat_of_zero_le (show 0 ≤ B by omega)
        have hbd : decide ((Bn : Int) < 0) = false := decide_eq_false hB0
        have hbe : ((Bn : Int) < 0) = False := eq_false hB0
        have hc2 := HRB.out wr Bn (by omega) hB2.out
        have HB2' : Hid (bsF p ok (k + 1) = if p.getD Bn 0 < x then (k : Int) else (Bn : Int)) := by
          show _ = _
          rw [HB1'.out]
          by_cases hq : p.getD Bn 0 < x
          · rw [if_pos ⟨rfl, .inr hq⟩, if_pos hq]
          · rw [if_neg (fun h => by rcases h.2 with h3 | h3; exact hB0 h3; exact hq h3), if_neg hq]
        obtain ⟨y, hy⟩ : ∃ y, p.getD Bn 0 = y := ⟨_, rfl⟩
        rw [hy] at hc2 HB2'
        have hn0 : (0 : Int) ≤ (Bn : Int) := by omega
        have hn1 : (Bn : Int) < (m : Int) := by omega
        clear hy HB1' HOK hQ hB0
        by_cases hq : y < x
        case pos =>
          have hqd : decide (y < x) = true := decide_eq_true hq
          have HNQ : Hid ((k : Int) = bsF p ok (k + 1)) := by show _ = _; rw [HB2'.out, if_pos hq]
          clear HB2'
          go_wp2
          go_quiet (fail)
          go_wp2
          go_roundw
          case rel => exact ⟨k + 1, k, by omega, by go_num, rfl, HNQ.out, hO2.out.below (below_drewN (Below.refl _ _) _), below_drewN hB2.out _⟩
          case measure => simp [intOf]; omega
        case neg =>
        have hqd : decide (y < x) = false := decide_eq_false hq
        have hqe : (y < x) = False := eq_false hq
        have HNQ : Hid ((Bn : Int) = bsF p ok (k + 1)) := by show _ = _; rw [HB2'.out, if_neg hq]
        clear HB2' hq
        go_wp2
        go_quiet (fail)
        go_wp2
        go_roundw
        case rel => exact ⟨k + 1, Bn, by omega, by go_num, rfl, HNQ.out, hO2.out.below (below_drewN (Below.refl _ _) _), below_drewN hB2.out _⟩
        case measure => simp [intOf]; omega
      case neg =>
      have hq0 : ((t : Int) == 0) = false := by simp; omega
      have HOK : Hid (ok k = (decide (s + dw ≤ t) && owB (wn ms f dw) k c mg)) := HK1.out (by omega) k
      have HT0 : Hid (¬ t = 0) := ht0
      clear ht0
      by_cases hdq : s + dw ≤ t
      case neg =>
        have hd : decide ((s : Int) < (t : Int) - (dw : Int) + 1) = false := by simp; omega
        have he : ((s : Int) < (t : Int) - (dw : Int) + 1) = False := eq_false (by omega)
        have HNQ : Hid (B = bsF p ok (k + 1)) := by show _ = _; rw [HB1'.out, HOK.out, decide_eq_false hdq, if_neg (fun h => by cases h.1)]
        clear hdq HB1' HOK hQ
        go_wp2
        go_quiet (fail)
        go_wp2
        go_roundw
        case rel => exact ⟨k + 1, B, by omega, by go_num, rfl, HNQ.out, hO2.out.below (below_drewN (Below.refl _ _) _), below_drewN hB2.out _⟩
        case measure => simp [intOf]; omega
      case pos =>
      have hd : decide ((s : Int) < (t : Int) - (dw : Int) + 1) = true := by simp; omega
      have hdi : (s : Int) < (t : Int) - (dw : Int) + 1 := by omega
      obtain ⟨hff, hft⟩ := HFQ.out hdq
      have HFT : Hid (f + dw = t + 1) := hft
      rw [decide_eq_true hdq, Bool.true_and] at HOK
      have hfs : (s : Int) < (f : Int) := by omega
      clear hdq hft
      go_wp2_with (fail)
      refine (HOV.out k c f (t : Int) _ (by have := HFT.out; omega) (by have := HFT.out; omega) hkm hcb hB2.out).mono ?_
      rintro e w3 ⟨rfl, b3⟩
      have HB3 : Hid (Below w.heap.size w w3) := belowCall hB2.out b3 hB2.out.size
      have HO3 : Hid (Ow .i64 3 w.heap.size w3 o' (T.take t)) := hO2.out.below b3
      have hc0 := HCW.out w3 HB3.out
      have hc1 := HRB.out w3 k hkm HB3.out
      rw [HXK.out] at hc1
      obtain ⟨q, hq⟩ : ∃ q, owB (wn ms f dw) k c mg = q := ⟨_, rfl⟩
      rw [hq] at HOK ⊢
      rw [HOK.out] at HB1'
      clear hq b3 hB2 hO2
      have hO2 : Hid (Ow .i64 3 w.heap.size w3 o' (T.take t)) := HO3.out
      have hB2 : Hid (Below w.heap.size w w3) := HB3.out
      cases q with
      | false =>
        have HNQ : Hid (B = bsF p ok (k + 1)) := by show _ = _; rw [HB1'.out, if_neg (fun h => by cases h.1)]
        clear HB1' HOK hQ
        go_wp2
        go_quiet (fail)
        go_wp2
        go_roundw
        case rel => exact ⟨k + 1, B, by omega, by go_num, rfl, HNQ.out, hO2.out.below (below_drewN (Below.refl _ _) _), below_drewN hB2.out _⟩
        case measure => simp [intOf]; omega
      | true =>
      by_cases hB0 : B < 0
      case pos =>
        have hbd : decide (B < 0) = true := decide_eq_true hB0
        have HNQ : Hid ((k : Int) = bsF p ok (k + 1)) := by show _ = _; rw [HB1'.out, if_pos ⟨rfl, .inl hB0⟩]
        clear HB1' HOK hQ
        go_wp2
        go_quiet (fail)
        go_wp2
        go_roundw
        case rel => exact ⟨k + 1, k, by omega, by go_num, rfl, HNQ.out, hO2.out.below (below_drewN (Below.refl _ _) _), below_drewN hB2.out _⟩
        case measure => simp [intOf]; omega
      case neg =>
      obtain ⟨Bn, rfl⟩ := Int.eq_ofNat_of_zero_le (show 0 ≤ B by omega)
      have hbd : decide ((Bn : Int) < 0) = false := decide_eq_false hB0
      have hbe : ((Bn : Int) < 0) = False := eq_false hB0
      have hc2 := HRB.out w3 Bn (by omega) hB2.out
      have HB2' : Hid (bsF p ok (k + 1) = if p.getD Bn 0 < x then (k : Int) else (Bn : Int)) := by
        show _ = _
        rw [HB1'.out]
        by_cases hq : p.getD Bn 0 < x
        · rw [if_pos ⟨rfl, .inr hq⟩, if_pos hq]
        · rw [if_neg (fun h => by rcases h.2 with h3 | h3; exact hB0 h3; exact hq h3), if_neg hq]
      obtain ⟨y, hy⟩ : ∃ y, p.getD Bn 0 = y := ⟨_, rfl⟩
      rw [hy] at hc2 HB2'
      have hn0 : (0 : Int) ≤ (Bn : Int) := by omega
      have hn1 : (Bn : Int) < (m : Int) := by omega
      clear hy HB1' HOK hQ hB0
      by_cases hq : y < x
      case pos =>
        have hqd : decide (y < x) = true := decide_eq_true hq
        have HNQ : Hid ((k : Int) = bsF p ok (k + 1)) := by show _ = _; rw [HB2'.out, if_pos hq]
        clear HB2'
        go_wp2
        go_quiet (fail)
        go_wp2
        go_roundw
        case rel => exact ⟨k + 1, k, by omega, by go_num, rfl, HNQ.out, hO2.out.below (below_drewN (Below.refl _ _) _), below_drewN hB2.out _⟩
        case measure => simp [intOf]; omega
      case neg =>
      have hqd : decide (y < x) = false := decide_eq_false hq
      have hqe : (y < x) = False := eq_false hq
      have HNQ : Hid ((Bn : Int) = bsF p ok (k + 1)) := by show _ = _; rw [HB2'.out, if_neg hq]
      clear HB2' hq
      go_wp2
      go_quiet (fail)
      go_wp2
      go_roundw
      case rel => exact ⟨k + 1, Bn, by omega, by go_num, rfl, HNQ.out, hO2.out.below (below_drewN (Below.refl _ _) _), below_drewN hB2.out _⟩
      case measure => simp [intOf]; omega

end Go.Proofs.Ytikgempdohpdjaa

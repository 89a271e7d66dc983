/- The model: Loudness; no condition. -/
import Derived.Test.YtikgempdohpdjaaLdg
import Derived.Test.YtikgempdohpdjaaNsd
namespace Go.Proofs.Ytikgempdohpdjaa
open Go.RowKit Go.ChangeShapes Go.WideShapes Go.ChangeAt
set_option linter.unusedVariables false
set_option linter.unusedSimpArgs false
set_option maxRecDepth 8000

set_option maxHeartbeats 12800000 in
theorem loudM_c (v : Value) (g : List (List Int)) (noise want steps : Int) (w : World) (h : Rn w v g) : Calls Try.prog 23 #[v, .int .i64 noise, .int .i64 want, .int .i64 steps] w (LdR g noise want steps w) := by
  have HR : Hid (Rn w v g) := h
  obtain ⟨a, cap, hv, h1, h2, -⟩ := id h
  unfold maxLen at h2
  have HE : Hid (ldB g noise want steps = (gnB g && decide (1 ≤ noise ∧ noise ≤ 1000) && decide (1 ≤ want ∧ want ≤ 100) && decide (0 ≤ steps ∧ steps ≤ 50))) := rfl
  have HNO : Hid (ldB g noise want steps = false → ∀ W, Below w.heap.size w W → LdR g noise want steps w (.returned (.tuple #[.slice none 0 0, .bool false])) W) := fun e W hW => ⟨_, by rw [e], by rw [ldR_no e]; exact Ow.nil .i64 3 _ _, hW⟩
  have HNA : Hid (ldB g noise want steps = false → LdR g noise want steps w (.returned (.tuple #[.slice (some ⟨w.heap.size, 0, none⟩) 0 0, .bool false])) (w.alloc (Obj.cells #[] 3))) := fun e => ⟨_, by rw [e], by rw [ldR_no e]; exact Ow.empty .i64 3 _ w (Nat.le_refl _), (Below.refl _ _).alloc (Nat.le_refl _) _⟩
  clear h
  subst hv
  go_enter Try.func23, Try.ntmps23
  go_wp2_with (fail)
  refine (gainsM_c _ g _ HR.out).mono ?_
  rintro e w1 ⟨rfl, hw⟩
  rw [hw]
  clear hw w1
  obtain ⟨q1, hq1⟩ : ∃ q, gnB g = q := ⟨_, rfl⟩
  have HQ1 : Hid (gnB g = q1) := hq1
  rw [hq1]
  clear hq1
  cases q1 with
  | false =>
    have HF : Hid (ldB g noise want steps = false) := by show _ = _; rw [HE.out, HQ1.out]; rfl
    go_wp2
    go_ret2
    exact HNA.out HF.out
  | true =>
  go_wp2_with (fail)
  refine (in_c noise 1 1000 _).mono ?_
  rintro e w1 ⟨rfl, hw⟩
  rw [hw]
  clear hw w1
  by_cases hnoise : 1 ≤ noise ∧ noise ≤ 1000
  case neg =>
    have HF : Hid (ldB g noise want steps = false) := by show _ = _; rw [HE.out, decide_eq_false hnoise]; simp
    rw [decide_eq_false hnoise]
    clear hnoise
    go_wp2
    go_ret2
    exact HNA.out HF.out
  rw [decide_eq_true hnoise]
  go_wp2_with (fail)
  refine (in_c want 1 100 _).mono ?_
  rintro e w1 ⟨rfl, hw⟩
  rw [hw]
  clear hw w1
  by_cases hwant : 1 ≤ want ∧ want ≤ 100
  case neg =>
    have HF : Hid (ldB g noise want steps = false) := by show _ = _; rw [HE.out, decide_eq_false hwant]; simp
    rw [decide_eq_false hwant]
    clear hwant
    go_wp2
    go_ret2
    exact HNA.out HF.out
  rw [decide_eq_true hwant]
  go_wp2_with (fail)
  refine (in_c steps 0 50 _).mono ?_
  rintro e w1 ⟨rfl, hw⟩
  rw [hw]
  clear hw w1
  by_cases hsteps : 0 ≤ steps ∧ steps ≤ 50
  case neg =>
    have HF : Hid (ldB g noise want steps = false) := by show _ = _; rw [HE.out, decide_eq_false hsteps]; simp
    rw [decide_eq_false hsteps]
    clear hsteps
    go_wp2
    go_ret2
    exact HNA.out HF.out
  rw [decide_eq_true hsteps]
  have HT : Hid (ldB g noise want steps = true) := by show _ = _; rw [HE.out, HQ1.out, decide_eq_true hnoise, decide_eq_true hwant, decide_eq_true hsteps]; rfl
  have hg := gnB_ok HQ1.out
  have HG : Hid (GOk g) := hg
  have HLO : Hid (∀ s, LOk g.length (ldN g noise want s)) := ldN_ok hg hnoise.1 hnoise.2 hwant.1
  obtain ⟨N, rfl⟩ := Int.eq_ofNat_of_zero_le hsteps.1
  have HTR : Hid (ldR g noise want (N : Int) = ldN g noise want N) := by show _ = _; rw [ldR_yes HT.out]; rfl
  have hN : N ≤ 50 := by omega
  have hlo := hg.hi
  have HCD : Hid (∀ j, j < g.length → ∃ (bo : Nat × Nat) (u : Value), a = some ⟨bo.1, bo.2, none⟩ ∧ bo.1 < w.heap.size ∧ Rd .i64 w u (g.getD j []) ∧ ∀ W, Below w.heap.size w W → W.cell? ⟨bo.1, bo.2 + j, none⟩ = some u) := rnd HR.out
  have HSB : Hid (∀ s i, i < g.length → ∀ k, k ≤ g.length → 1 ≤ nxS (g.getD i []) noise (ldN g noise want s) i k ∧ nxS (g.getD i []) noise (ldN g noise want s) i k ≤ 1000 + 1000000000 * (k : Int)) := fun s i hi k hk => nxS_bd hg hnoise.1 hnoise.2 (HLO.out s) hi k hk
  have HTA : Hid (∀ s i, i < g.length → (ldN g noise want (s + 1)).getD i 0 = cap6 ((want * nxS (g.getD i []) noise (ldN g noise want s) i g.length + (g.getD i []).getD i 0 - 1) / (g.getD i []).getD i 0)) := fun s i hi => by rw [ldN, nxL_at _ _ _ _ _ hi]; rfl
  have HZL : Hid (∀ s, (ldN g noise want s).length = g.length) := fun s => (HLO.out s).len
  have HLB : Hid (∀ s k, k < g.length → 1 ≤ (ldN g noise want s).getD k 0 ∧ (ldN g noise want s).getD k 0 ≤ 1000000) := fun s => (HLO.out s).bd
  have HZA : Hid (∀ k, k < g.length → (ldN g noise want 0).getD k 0 = 1) := fun k hk => by simp [ldN, List.getElem?_replicate, hk]
  have HRL : Hid (∀ i, i < g.length → (g.getD i []).length = g.length) := hg.len
  have HBD : Hid (∀ i k, i < g.length → k < g.length → 0 ≤ (g.getD i []).getD k 0 ∧ (g.getD i []).getD k 0 ≤ 1000) := hg.bd
  have HDG : Hid (∀ i, i < g.length → 1 ≤ (g.getD i []).getD i 0) := hg.dg
  obtain ⟨L, hL⟩ : ∃ L, g.length = L := ⟨_, rfl⟩
  rw [hL] at h1 hlo HCD HSB HTA HLB HZL HZA HRL HBD HDG ⊢
  have HTK : Hid (∀ (T : List Int) k, T.length = L → k < L → T.take (k + 1) = T.take k ++ [T.getD k 0]) := fun T k hl hk => by
    have hk' : k < T.length := by rw [hl]; exact hk
    rw [List.take_succ_eq_append_getElem hk']; simp [List.getElem?_eq_getElem hk']
  obtain ⟨W0, hW0⟩ : ∃ W, w.alloc (Obj.cells #[] 3) = W := ⟨_, rfl⟩
  obtain ⟨v0, hv0⟩ : ∃ v, Value.slice (some ⟨w.heap.size, 0, none⟩) 0 0 = v := ⟨_, rfl⟩
  have HO0 : Hid (Ow .i64 3 w.heap.size W0 v0 ((ldN g noise want 0).take 0)) := by rw [← hW0, ← hv0]; exact Ow.empty .i64 3 _ w (Nat.le_refl _)
  have HB0 : Hid (Below w.heap.size w W0) := by rw [← hW0]; exact (Below.refl _ _).alloc (Nat.le_refl _) _
  have HW0 : Hid (w.alloc (Obj.cells #[] 3) = W0 ∧ Value.slice (some ⟨w.heap.size, 0, none⟩) 0 0 = v0) := ⟨hW0, hv0⟩
  have wnt := hwant
  clear hnoise hwant hsteps hg hL HE HNO HNA HR HQ1 HG HLO hW0 hv0
  go_wp2
  rw [HW0.out.1, HW0.out.2]
  clear HW0
  go_loopw [10, 11] (fun o i wr => ∃ (j : Nat) (o' : Value), j ≤ L ∧ i = .int .i64 j ∧ o' = o ∧ Hid (Ow .i64 3 w.heap.size wr o' ((ldN g noise want 0).take j)) ∧ Hid (Below w.heap.size w wr)) (fun _ i _ => L - (intOf i).toNat)
  case atStart => exact ⟨0, _, Nat.zero_le _, rfl, rfl, HO0.out, HB0.out⟩
  case round =>
    obtain ⟨j, o', hj, rfl, ho', hO, hB⟩ := hrel
    subst ho'
    clear HO0 HB0
    by_cases hlt : j < L
    case pos =>
      have HTN : Hid ((ldN g noise want 0).take (j + 1) = (ldN g noise want 0).take j ++ [1]) := by show _ = _; rw [HTK.out _ j (HZL.out 0) hlt, HZA.out j hlt]
      have HSZ : Hid (w.heap.size ≤ wr.heap.size) := hB.out.size
      have HLN : Hid (((ldN g noise want 0).take j).length ≤ 1000) := by show _ ≤ _; simp; omega
      have hi1 : (j : Int) < (L : Int) := by omega
      go_wp2_with (at_builtin; refine appI rfl (.tmp 44) (.tmp 45) rfl w.heap.size _ _ rfl (hO.out.alloc _) wr.heap.size 1 rfl (by simp) (by have := HLN.out; omega) (by have := HSZ.out; simp; omega) ?_)
      intro v6 w6 ho hb
      have HO6 : Hid (Ow .i64 3 w.heap.size w6 v6 ((ldN g noise want 0).take (j + 1))) := by rw [HTN.out]; exact ho
      have HB6 : Hid (Below w.heap.size w w6) := (hB.out.alloc HSZ.out _).trans hb
      clear ho hb hO hB HTN
      go_wp2
      go_roundw
      case rel => exact ⟨j + 1, _, by omega, by go_num, rfl, HO6.out, HB6.out⟩
      case measure => simp [intOf]; omega
    case neg =>
    obtain rfl : j = L := by omega
    have HOS : Hid (Ow .i64 3 w.heap.size wr o' (ldN g noise want 0)) := by
      have h1 := hO.out
      rw [← HZL.out 0, List.take_length] at h1; exact h1
    clear hlt hj hO HZA
    go_wp2
    go_loopw [10, 12] (fun o i wr => ∃ (s : Nat) (o' : Value), s ≤ N ∧ i = .int .i64 s ∧ o' = o ∧ Hid (Ow .i64 3 w.heap.size wr o' (ldN g noise want s)) ∧ Hid (Below w.heap.size w wr)) (fun _ i _ => N - (intOf i).toNat)
    case atStart => exact ⟨0, _, Nat.zero_le _, rfl, rfl, HOS.out, hB.out⟩
    case round =>
      obtain ⟨s, q', hs, rfl, hq', hO, hB2⟩ := hrel
      subst hq'
      clear HOS hB
      by_cases hst : s < N
      case neg =>
        obtain rfl : s = N := by omega
        clear hst hs
        go_wp2
        go_ret2
        exact ⟨_, by rw [HT.out]; rfl, by rw [HTR.out]; exact hO.out, hB2.out⟩
      case pos =>
      have hsI : (s : Int) < (N : Int) := by omega
      obtain ⟨wz, hwz⟩ : ∃ W, W = wr := ⟨_, rfl⟩
      subst hwz
      have HZN : Hid ((ldN g noise want (s + 1)).length = j) := HZL.out (s + 1)
      have HZS : Hid ((ldN g noise want s).length = j) := HZL.out s
      have HSB2 : Hid (∀ i, i < j → ∀ k, k ≤ j → 1 ≤ nxS (g.getD i []) noise (ldN g noise want s) i k ∧ nxS (g.getD i []) noise (ldN g noise want s) i k ≤ 1000 + 1000000000 * (k : Int)) := HSB.out s
      have HTA2 : Hid (∀ i, i < j → (ldN g noise want (s + 1)).getD i 0 = cap6 ((want * nxS (g.getD i []) noise (ldN g noise want s) i j + (g.getD i []).getD i 0 - 1) / (g.getD i []).getD i 0)) := HTA.out s
      have HLB2 : Hid (∀ k, k < j → 1 ≤ (ldN g noise want s).getD k 0 ∧ (ldN g noise want s).getD k 0 ≤ 1000000) := HLB.out s
      obtain ⟨T, hT⟩ : ∃ T, ldN g noise want (s + 1) = T := ⟨_, rfl⟩
      obtain ⟨lo, hlo'⟩ : ∃ lo, ldN g noise want s = lo := ⟨_, rfl⟩
      have HTT : Hid (ldN g noise want (s + 1) = T) := hT
      rw [hT] at HZN HTA2
      rw [hlo'] at HSB2 HTA2 HLB2 HZS hO
      have hrd := hO.out.rd
      obtain ⟨al, cl, hvl, hl1, hl2, -⟩ := id hrd
      subst hvl
      rw [HZS.out] at hl1 ⊢
      have HCL : Hid (∀ W k, k < lo.length → Below wz.heap.size wz W → ∃ bo : Nat × Nat, al = some ⟨bo.1, bo.2, none⟩ ∧ bo.1 < wz.heap.size ∧ W.cell? ⟨bo.1, bo.2 + k, none⟩ = some (.int .i64 (lo.getD k 0))) := rdc hrd
      rw [HZS.out] at HCL
      unfold maxLen at hl2
      obtain ⟨W1, hW1⟩ : ∃ W, wz.alloc (Obj.cells #[] 3) = W := ⟨_, rfl⟩
      obtain ⟨v1, hv1⟩ : ∃ v, Value.slice (some ⟨wz.heap.size, 0, none⟩) 0 0 = v := ⟨_, rfl⟩
      have HO1 : Hid (Ow .i64 3 wz.heap.size W1 v1 (T.take 0)) := by rw [← hW1, ← hv1]; exact Ow.empty .i64 3 _ wz (Nat.le_refl _)
      have HB1 : Hid (Below wz.heap.size wz W1) := by rw [← hW1]; exact (Below.refl _ _).alloc (Nat.le_refl _) _
      have HW1 : Hid (wz.alloc (Obj.cells #[] 3) = W1 ∧ Value.slice (some ⟨wz.heap.size, 0, none⟩) 0 0 = v1) := ⟨hW1, hv1⟩
      have HSW : Hid (w.heap.size ≤ wz.heap.size) := hB2.out.size
      clear hT hlo' hrd hO hW1 hv1 HZS
      go_wp2
      rw [HW1.out.1, HW1.out.2]
      clear HW1
      go_loopw [13, 14] (fun o i wx => ∃ (i' : Nat) (o' : Value), i' ≤ j ∧ i = .int .i64 i' ∧ o' = o ∧ Hid (Ow .i64 3 wz.heap.size wx o' (T.take i')) ∧ Hid (Below wz.heap.size wz wx)) (fun _ i _ => j - (intOf i).toNat)
      case atStart => exact ⟨0, _, Nat.zero_le _, rfl, rfl, HO1.out, HB1.out⟩
      case round =>
        obtain ⟨i', p', hi', rfl, hp', hO, hB3⟩ := hrel
        subst hp'
        obtain ⟨wx, hwx⟩ : ∃ W, W = wr := ⟨_, rfl⟩
        subst hwx
        clear HO1 HB1
        by_cases hit : i' < j
        case neg =>
          obtain rfl : i' = j := by omega
          have HON : Hid (Ow .i64 3 w.heap.size wx p' (ldN g noise want (s + 1))) := by
            have h1 := hO.out
            rw [← HZN.out, List.take_length] at h1
            rw [HTT.out]
            exact h1.mono HSW.out
          have HBN : Hid (Below w.heap.size w wx) := belowCall hB2.out hB3.out hB2.out.size
          clear hO hB3 hi' hit HCD HCL
          go_wp2
          go_roundw
          case rel => exact ⟨s + 1, _, by omega, by go_num, rfl, HON.out, HBN.out⟩
          case measure => simp [intOf]; omega
        case pos =>
        obtain ⟨⟨b, off⟩, ur, ha, hbl, hrd, hcw⟩ := HCD.out i' hit
        subst ha
        have hbl : b < w.heap.size := hbl
        have HRJ : Hid ((g.getD i' []).length = j) := HRL.out i' hit
        have HBJ : Hid (∀ k, k < j → 0 ≤ (g.getD i' []).getD k 0 ∧ (g.getD i' []).getD k 0 ≤ 1000) := fun k hk => HBD.out i' k hit hk
        have hdg := HDG.out i' hit
        have HSJ : Hid (∀ k, k ≤ j → 1 ≤ nxS (g.getD i' []) noise lo i' k ∧ nxS (g.getD i' []) noise lo i' k ≤ 1000 + 1000000000 * (k : Int)) := HSB2.out i' hit
        have HTJ : Hid (T.getD i' 0 = cap6 ((want * nxS (g.getD i' []) noise lo i' j + (g.getD i' []).getD i' 0 - 1) / (g.getD i' []).getD i' 0)) := HTA2.out i' hit
        obtain ⟨p, hp⟩ : ∃ p, g.getD i' [] = p := ⟨_, rfl⟩
        rw [hp] at hrd HRJ HBJ hdg HSJ HTJ
        obtain ⟨au, cu, hvu, hu1, hu2, -⟩ := id hrd
        subst hvu
        have HCU : Hid (∀ W k, k < p.length → Below w.heap.size w W → ∃ bo : Nat × Nat, au = some ⟨bo.1, bo.2, none⟩ ∧ bo.1 < w.heap.size ∧ W.cell? ⟨bo.1, bo.2 + k, none⟩ = some (.int .i64 (p.getD k 0))) := rdc hrd
        have HCW : Hid (∀ W, Below wz.heap.size wz W → W.cell? ⟨b, off + i', none⟩ = some (.slice au p.length cu)) := fun W hW => hcw W (belowCall hB2.out hW hB2.out.size)
        have HWB : Hid (∀ W, Below wz.heap.size wz W → Below w.heap.size w W) := fun W hW => belowCall hB2.out hW hB2.out.size
        rw [HRJ.out] at HCU hu1 HCW
        unfold maxLen at hu2
        have hi0 : (0 : Int) ≤ (i' : Int) := by omega
        have hi1 : (i' : Int) < (j : Int) := by omega
        obtain ⟨db0, db1⟩ := HBJ.out i' hit
        clear hp hrd hcw HCD HSB2 HTA2 hB2
        go_wp2
        go_loopw [15, 16] (fun s i wy => ∃ k : Nat, k ≤ j ∧ i = .int .i64 k ∧ s = .int .i64 (nxS p noise lo i' k) ∧ Hid (Ow .i64 3 wz.heap.size wy p' (T.take i')) ∧ Hid (Below wz.heap.size wz wy)) (fun _ i _ => j - (intOf i).toNat)
        case atStart => exact ⟨0, Nat.zero_le _, rfl, rfl, hO.out, hB3.out⟩
        case round =>
          obtain ⟨k, hk, rfl, rfl, hOy, hBy⟩ := hrel
          obtain ⟨wy, hwy⟩ : ∃ W, W = wr := ⟨_, rfl⟩
          subst hwy
          clear hO hB3
          by_cases hkt : k < j
          case pos =>
            obtain ⟨⟨b', off'⟩, rfl, hbl', hc1⟩ := HCU.out wy k hkt (HWB.out _ hBy.out)
            obtain ⟨⟨b2, off2⟩, rfl, hbl2, hc2⟩ := HCL.out wy k hkt hBy.out
            have hc3 := HCW.out wy hBy.out
            dsimp only at hc1 hbl' hc2 hbl2
            have sb := HSJ.out k hk
            have b1 := HBJ.out k hkt
            have b2' := HLB2.out k hkt
            have HN : Hid (nxS p noise lo i' (k + 1) = if k = i' then nxS p noise lo i' k else nxS p noise lo i' k + p.getD k 0 * lo.getD k 0) := rfl
            have p0 : 0 ≤ p.getD k 0 * lo.getD k 0 := Int.mul_nonneg b1.1 (by omega)
            have p1 : p.getD k 0 * lo.getD k 0 ≤ 1000 * 1000000 := Int.mul_le_mul b1.2 b2'.2 (by omega) (by omega)
            obtain ⟨x, hx⟩ : ∃ x, p.getD k 0 = x := ⟨_, rfl⟩
            obtain ⟨y, hy⟩ : ∃ y, lo.getD k 0 = y := ⟨_, rfl⟩
            obtain ⟨sm, hsm⟩ : ∃ sm, nxS p noise lo i' k = sm := ⟨_, rfl⟩
            rw [hx] at hc1 b1 HN p0 p1
            rw [hy] at hc2 b2' HN p0 p1
            rw [hsm] at sb HN ⊢
            have hk0 : (0 : Int) ≤ (k : Int) := by omega
            have hk1 : (k : Int) < (j : Int) := by omega
            clear hx hy hsm
            by_cases hkj : k = i'
            case pos =>
              have hq : ((k : Int) != (i' : Int)) = false := by simp; omega
              have HN2 : Hid (nxS p noise lo i' (k + 1) = sm) := by show _ = _; rw [HN.out, if_pos hkj]
              have HKJ : Hid (k = i') := hkj
              clear hkj HN
              go_wp2
              go_roundw
              case rel => exact ⟨k + 1, by omega, by go_num, by rw [HN2.out], hOy.out, hBy.out⟩
              case measure => simp [intOf]; omega
            case neg =>
            have hq : ((k : Int) != (i' : Int)) = true := by rw [bne_iff_ne]; omega
            have HN2 : Hid (nxS p noise lo i' (k + 1) = sm + x * y) := by show _ = _; rw [HN.out, if_neg hkj]
            clear hkj HN
            go_wp2
            go_quiet (fail)
            go_wp2
            go_roundw
            case rel => exact ⟨k + 1, by omega, by go_num, by rw [HN2.out], hOy.out.below (below_drewN (Below.refl _ _) _), below_drewN hBy.out _⟩
            case measure => simp [intOf]; omega
          case neg =>
          obtain rfl : k = j := by omega
          obtain ⟨⟨b', off'⟩, rfl, hbl', hc1⟩ := HCU.out wy i' hit (HWB.out _ hBy.out)
          have hc3 := HCW.out wy hBy.out
          dsimp only at hc1 hbl'
          have sb := HSJ.out k (Nat.le_refl _)
          have HTN : Hid (T.take (i' + 1) = T.take i' ++ [T.getD i' 0]) := HTK.out T i' HZN.out hit
          obtain ⟨d, hd⟩ : ∃ d, p.getD i' 0 = d := ⟨_, rfl⟩
          obtain ⟨sm, hsm⟩ : ∃ sm, nxS p noise lo i' k = sm := ⟨_, rfl⟩
          rw [hd] at hc1 hdg HTJ db0 db1
          rw [hsm] at sb HTJ ⊢
          have m0 : 1 ≤ want * sm := Int.mul_pos (by omega) (by omega)
          have m1 : want * sm ≤ 100 * 20000000000 := Int.mul_le_mul wnt.2 (by omega) (by omega) (by omega)
          have hd0 : (d == 0) = false := by simp; omega
          have hd1 : ¬ d = 0 := by omega
          have HLN : Hid ((T.take i').length ≤ 1000) := by show _ ≤ _; simp; omega
          obtain ⟨q, hq⟩ : ∃ q, (want * sm + d - 1) / d = q := ⟨_, rfl⟩
          have HQ : Hid ((want * sm + d - 1) / d = q) := hq
          rw [hq] at HTJ
          rw [HTJ.out] at HTN
          clear hd hsm hkt hk hq
          go_wp2
          go_quiet (fail)
          obtain ⟨wd, hwd⟩ : ∃ W, wy.drewN nq = W := ⟨_, rfl⟩
          have HOD : Hid (Ow .i64 3 wz.heap.size wd p' (T.take i')) := by rw [← hwd]; exact hOy.out.below (below_drewN (Below.refl _ _) _)
          have HBD2 : Hid (Below wz.heap.size wz wd) := by rw [← hwd]; exact below_drewN hBy.out _
          have HSD : Hid (wz.heap.size ≤ wd.heap.size) := HBD2.out.size
          rw [hwd, HQ.out]
          clear hwd hOy hBy hc1 hc3
          by_cases hqc : 1000000 < q
          case pos =>
            have hqd : decide (1000000 < q) = true := decide_eq_true hqc
            have HTN2 : Hid (T.take (i' + 1) = T.take i' ++ [1000000]) := by show _ = _; rw [HTN.out, cap6, if_pos hqc]
            go_wp2_with (at_builtin; refine appI rfl (.tmp 105) (.tmp 107) rfl wz.heap.size _ (T.take i') rfl (HOD.out.alloc _) wd.heap.size 1000000 rfl (by simp) (by have := HLN.out; omega) (by have := HSD.out; simp; omega) ?_)
            intro v6 w6 ho hb
            have HO6 : Hid (Ow .i64 3 wz.heap.size w6 v6 (T.take (i' + 1))) := by rw [HTN2.out]; exact ho
            have HB6 : Hid (Below wz.heap.size wz w6) := (HBD2.out.alloc HSD.out _).trans hb
            clear ho hb HOD HBD2
            go_wp2
            go_roundw
            case rel => exact ⟨i' + 1, _, by omega, by go_num, rfl, HO6.out, HB6.out⟩
            case measure => simp [intOf]; omega
          case neg =>
          have hqd : decide (1000000 < q) = false := decide_eq_false hqc
          have hqe : (1000000 < q) = False := eq_false hqc
          have HTN2 : Hid (T.take (i' + 1) = T.take i' ++ [q]) := by show _ = _; rw [HTN.out, cap6, if_neg hqc]
          go_wp2_with (at_builtin; refine appI rfl (.tmp 105) (.tmp 107) rfl wz.heap.size _ (T.take i') rfl (HOD.out.alloc _) wd.heap.size q rfl (by simp) (by have := HLN.out; omega) (by have := HSD.out; simp; omega) ?_)
          intro v6 w6 ho hb
          have HO6 : Hid (Ow .i64 3 wz.heap.size w6 v6 (T.take (i' + 1))) := by rw [HTN2.out]; exact ho
          have HB6 : Hid (Below wz.heap.size wz w6) := (HBD2.out.alloc HSD.out _).trans hb
          clear ho hb HOD HBD2
          go_wp2
          go_roundw
          case rel => exact ⟨i' + 1, _, by omega, by go_num, rfl, HO6.out, HB6.out⟩
          case measure => simp [intOf]; omega

end Go.Proofs.Ytikgempdohpdjaa

/- outdoes, takerFrom; no condition. -/
import Derived.Test.YtikgempdohpdjaaSva
namespace Go.Proofs.Ytikgempdohpdjaa
open Go.RowKit Go.ChangeShapes Go.WideShapes Go.ChangeAt
set_option linter.unusedVariables false
set_option linter.unusedSimpArgs false
set_option maxRecDepth 8000

set_option maxHeartbeats 3200000 in
theorem outdoes_c (v : Value) (rs : List (List Int)) (k c m : Nat) (mg : Int) (w : World) (h : Rn w v rs) (hl : ∀ i, i < rs.length → (rs.getD i []).length = m) (hb : ∀ i k, i < rs.length → k < m → -120 ≤ (rs.getD i []).getD k 0 ∧ (rs.getD i []).getD k 0 ≤ 0) (hk : k < m) (hc : c < m) :
    Calls Try.prog 72 #[.int .i64 k, .int .i64 c, v, .int .i64 mg] w fun e w' => e = .returned (.bool (owB rs k c mg)) ∧ Below w.heap.size w w' := by
  obtain ⟨a, cap, rfl, h1, h2, -⟩ := id h
  unfold maxLen at h2
  have HC : Hid (∀ W j, j < rs.length → Below w.heap.size w W → ∃ (bo : Nat × Nat) (u : Value), a = some ⟨bo.1, bo.2, none⟩ ∧ bo.1 < w.heap.size ∧ W.cell? ⟨bo.1, bo.2 + j, none⟩ = some u ∧ Rd .i64 w u (rs.getD j [])) := rnc h
  have HNO : Hid (∀ i, i < rs.length → (rs.getD i []).getD k 0 - (rs.getD i []).getD c 0 < max mg 1 → owB rs k c mg = false) := fun i hi hn => owB_no hi hn
  have HYE : Hid ((∀ i, i < rs.length → max mg 1 ≤ (rs.getD i []).getD k 0 - (rs.getD i []).getD c 0) → owB rs k c mg = true) := fun h => owB_yes h
  have HL : Hid (∀ i, i < rs.length → (rs.getD i []).length = m) := hl
  have HB : Hid (∀ i k, i < rs.length → k < m → -120 ≤ (rs.getD i []).getD k 0 ∧ (rs.getD i []).getD k 0 ≤ 0) := hb
  obtain ⟨L, hL⟩ : ∃ L, rs.length = L := ⟨_, rfl⟩
  rw [hL] at h1 HC HNO HYE HL HB ⊢
  obtain ⟨B, hB⟩ : ∃ B, owB rs k c mg = B := ⟨_, rfl⟩
  rw [hB] at HNO HYE ⊢
  clear hL h hB hl hb
  by_cases hm : mg < 1
  case pos =>
    have hm1 : decide (mg < 1) = true := decide_eq_true hm
    rw [show max mg 1 = 1 by omega] at HNO HYE
    go_enter Try.func72, Try.ntmps72
    go_wp2
    go_loopw [16] (fun i wr => ∃ j : Nat, j ≤ L ∧ i = .int .i64 j ∧ Hid (∀ i, i < j → 1 ≤ (rs.getD i []).getD k 0 - (rs.getD i []).getD c 0) ∧ Hid (Below w.heap.size w wr)) (fun i _ => L - (intOf i).toNat)
    case atStart => exact ⟨0, Nat.zero_le _, rfl, fun k hk => by omega, Below.refl _ _⟩
    case round =>
      obtain ⟨j, hj, rfl, hA, hBl⟩ := hrel
      by_cases hlt : j < L
      case neg =>
        obtain rfl : j = L := by omega
        have HT : Hid (B = true) := HYE.out hA.out
        clear hlt hj
        go_wp2
        go_ret
        exact ⟨by rw [HT.out]; rfl, hBl.out⟩
      case pos =>
      obtain ⟨⟨b, off⟩, u, rfl, hbl, hc0, hrd⟩ := HC.out wr j hlt hBl.out
      dsimp only at hc0 hbl
      have hlj := HL.out j hlt
      have b1 := HB.out j k hlt hk
      have b2 := HB.out j c hlt hc
      have HNJ : Hid ((rs.getD j []).getD k 0 - (rs.getD j []).getD c 0 < 1 → B = false) := HNO.out j hlt
      have HS : Hid (1 ≤ (rs.getD j []).getD k 0 - (rs.getD j []).getD c 0 → ∀ i, i < j + 1 → 1 ≤ (rs.getD i []).getD k 0 - (rs.getD i []).getD c 0) := fun hq i hi => by
        rcases Nat.lt_or_ge i j with h | h
        · exact hA.out i h
        · obtain rfl : i = j := by omega
          exact hq
      obtain ⟨p, hp⟩ : ∃ p, rs.getD j [] = p := ⟨_, rfl⟩
      rw [hp] at hrd hlj b1 b2 HNJ HS
      obtain ⟨au, cu, hvu, hu1, hu2, -⟩ := id hrd
      subst hvu
      obtain ⟨⟨b', off'⟩, rfl, hbl', hc1⟩ := rdc hrd wr k (by omega) hBl.out
      obtain ⟨bo, e, -, hc2⟩ := rdc hrd wr c (by omega) hBl.out
      cases e
      dsimp only at hc1 hc2 hbl'
      rw [hlj] at hc0 hu1
      unfold maxLen at hu2
      obtain ⟨x, hx⟩ : ∃ x, p.getD k 0 = x := ⟨_, rfl⟩
      obtain ⟨y, hy⟩ : ∃ y, p.getD c 0 = y := ⟨_, rfl⟩
      rw [hx] at hc1 b1 HNJ HS
      rw [hy] at hc2 b2 HNJ HS
      have hi0 : (0 : Int) ≤ (j : Int) := by omega
      have hi1 : (j : Int) < (L : Int) := by omega
      have hk0 : (0 : Int) ≤ (k : Int) := by omega
      have hk1 : (k : Int) < (m : Int) := by omega
      have hk2 : (0 : Int) ≤ (c : Int) := by omega
      have hk3 : (c : Int) < (m : Int) := by omega
      clear hx hy hp hrd hlj HC
      by_cases hq : x - y < 1
      case pos =>
        have HF : Hid (B = false) := HNJ.out hq
        have hd : decide (x - y < 1) = true := decide_eq_true hq
        go_wp2
        go_quiet (fail)
        go_wp2
        go_ret
        exact ⟨by rw [HF.out]; rfl, below_drewN hBl.out _⟩
      case neg =>
      have hd : decide (x - y < 1) = false := decide_eq_false hq
      have he : (x - y < 1) = False := eq_false hq
      have HS2 : Hid (∀ i, i < j + 1 → 1 ≤ (rs.getD i []).getD k 0 - (rs.getD i []).getD c 0) := HS.out (by omega)
      clear HS HNJ hq
      go_wp2
      go_quiet (fail)
      go_wp2
      go_roundw
      case rel => exact ⟨j + 1, by omega, by go_num, HS2.out, below_drewN hBl.out _⟩
      case measure => simp [intOf]; omega
  case neg =>
  have hm1 : decide (mg < 1) = false := decide_eq_false hm
  have hm2 : (mg < 1) = False := eq_false hm
  rw [show max mg 1 = mg by omega] at HNO HYE
  go_enter Try.func72, Try.ntmps72
  go_wp2
  go_loopw [16] (fun i wr => ∃ j : Nat, j ≤ L ∧ i = .int .i64 j ∧ Hid (∀ i, i < j → mg ≤ (rs.getD i []).getD k 0 - (rs.getD i []).getD c 0) ∧ Hid (Below w.heap.size w wr)) (fun i _ => L - (intOf i).toNat)
  case atStart => exact ⟨0, Nat.zero_le _, rfl, fun k hk => by omega, Below.refl _ _⟩
  case round =>
    obtain ⟨j, hj, rfl, hA, hBl⟩ := hrel
    by_cases hlt : j < L
    case neg =>
      obtain rfl : j = L := by omega
      have HT : Hid (B = true) := HYE.out hA.out
      clear hlt hj
      go_wp2
      go_ret
      exact ⟨by rw [HT.out]; rfl, hBl.out⟩
    case pos =>
    obtain ⟨⟨b, off⟩, u, rfl, hbl, hc0, hrd⟩ := HC.out wr j hlt hBl.out
    dsimp only at hc0 hbl
    have hlj := HL.out j hlt
    have b1 := HB.out j k hlt hk
    have b2 := HB.out j c hlt hc
    have HNJ : Hid ((rs.getD j []).getD k 0 - (rs.getD j []).getD c 0 < mg → B = false) := HNO.out j hlt
    have HS : Hid (mg ≤ (rs.getD j []).getD k 0 - (rs.getD j []).getD c 0 → ∀ i, i < j + 1 → mg ≤ (rs.getD i []).getD k 0 - (rs.getD i []).getD c 0) := fun hq i hi => by
      rcases Nat.lt_or_ge i j with h | h
      · exact hA.out i h
      · obtain rfl : i = j := by omega
        exact hq
    obtain ⟨p, hp⟩ : ∃ p, rs.getD j [] = p := ⟨_, rfl⟩
    rw [hp] at hrd hlj b1 b2 HNJ HS
    obtain ⟨au, cu, hvu, hu1, hu2, -⟩ := id hrd
    subst hvu
    obtain ⟨⟨b', off'⟩, rfl, hbl', hc1⟩ := rdc hrd wr k (by omega) hBl.out
    obtain ⟨bo, e, -, hc2⟩ := rdc hrd wr c (by omega) hBl.out
    cases e
    dsimp only at hc1 hc2 hbl'
    rw [hlj] at hc0 hu1
    unfold maxLen at hu2
    obtain ⟨x, hx⟩ : ∃ x, p.getD k 0 = x := ⟨_, rfl⟩
    obtain ⟨y, hy⟩ : ∃ y, p.getD c 0 = y := ⟨_, rfl⟩
    rw [hx] at hc1 b1 HNJ HS
    rw [hy] at hc2 b2 HNJ HS
    have hi0 : (0 : Int) ≤ (j : Int) := by omega
    have hi1 : (j : Int) < (L : Int) := by omega
    have hk0 : (0 : Int) ≤ (k : Int) := by omega
    have hk1 : (k : Int) < (m : Int) := by omega
    have hk2 : (0 : Int) ≤ (c : Int) := by omega
    have hk3 : (c : Int) < (m : Int) := by omega
    clear hx hy hp hrd hlj HC
    by_cases hq : x - y < mg
    case pos =>
      have HF : Hid (B = false) := HNJ.out hq
      have hd : decide (x - y < mg) = true := decide_eq_true hq
      go_wp2
      go_quiet (fail)
      go_wp2
      go_ret
      exact ⟨by rw [HF.out]; rfl, below_drewN hBl.out _⟩
    case neg =>
    have hd : decide (x - y < mg) = false := decide_eq_false hq
    have he : (x - y < mg) = False := eq_false hq
    have HS2 : Hid (∀ i, i < j + 1 → mg ≤ (rs.getD i []).getD k 0 - (rs.getD i []).getD c 0) := HS.out (by omega)
    clear HS HNJ hq
    go_wp2
    go_quiet (fail)
    go_wp2
    go_roundw
    case rel => exact ⟨j + 1, by omega, by go_num, HS2.out, below_drewN hBl.out _⟩
    case measure => simp [intOf]; omega
set_option maxHeartbeats 3200000 in
theorem taker_c (v : Value) (rs : List (List Int)) (c m : Nat) (mg : Int) (w : World) (h : Rn w v rs) (h1r : 1 ≤ rs.length) (hl : ∀ i, i < rs.length → (rs.getD i []).length = m) (hb : ∀ i k, i < rs.length → k < m → -120 ≤ (rs.getD i []).getD k 0 ∧ (rs.getD i []).getD k 0 ≤ 0) (hc : c < m) :
    Calls Try.prog 50 #[.int .i64 c, v, .int .i64 mg] w fun e w' => e = .returned (.int .i64 (tkF rs mg c m : Int)) ∧ Below w.heap.size w w' := by
  have HO : Hid (∀ (k : Nat) (W : World), k < m → Below w.heap.size w W → Calls Try.prog 72 #[.int .i64 k, .int .i64 c, v, .int .i64 mg] W fun e w' => e = .returned (.bool (owB rs k c mg)) ∧ Below W.heap.size W w') := fun k W hk hW => outdoes_c v rs k c m mg W (h.below hW) hl hb hk hc
  obtain ⟨a, cap, hv, h1, h2, -⟩ := id h
  unfold maxLen at h2
  have HV : Hid (v = .slice a rs.length cap) := hv
  rw [hv] at h
  obtain ⟨⟨b, off⟩, u, rfl, hbl, hc0, hrd⟩ := rnc h w (rs.length - 1) (by omega) (Below.refl _ _)
  dsimp only at hc0 hbl
  have hlj := hl (rs.length - 1) (by omega)
  have HTL : Hid (∀ k, k ≤ m → tkF rs mg c k < m) := fun k hk => tkF_lt hc k hk
  have HTS : Hid (∀ k, tkF rs mg c (k + 1) = if (rs.getD (rs.length - 1) []).getD (tkF rs mg c k) 0 < (rs.getD (rs.length - 1) []).getD k 0 ∧ owB rs k c mg = true then k else tkF rs mg c k) := fun k => rfl
  obtain ⟨p, hp⟩ : ∃ p, rs.getD (rs.length - 1) [] = p := ⟨_, rfl⟩
  rw [hp] at hrd hlj HTS
  obtain ⟨au, cu, hvu, hu1, hu2, -⟩ := id hrd
  subst hvu
  have HCU : Hid (∀ W j, j < p.length → Below w.heap.size w W → ∃ bo : Nat × Nat, au = some ⟨bo.1, bo.2, none⟩ ∧ bo.1 < w.heap.size ∧ W.cell? ⟨bo.1, bo.2 + j, none⟩ = some (.int .i64 (p.getD j 0))) := rdc hrd
  rw [hlj] at hc0 hu1 HCU
  unfold maxLen at hu2
  obtain ⟨L1, hL1⟩ : ∃ L1 : Nat, rs.length = L1 + 1 := ⟨rs.length - 1, by omega⟩
  rw [hL1] at h1 HV
  rw [show rs.length - 1 = L1 by omega] at hc0
  have hij : (((L1 + 1 : Nat) : Int) - 1) = (L1 : Int) := by push_cast; omega
  have hi0 : (0 : Int) ≤ (L1 : Int) := by omega
  have hi1 : (L1 : Int) < ((L1 + 1 : Nat) : Int) := by push_cast; omega
  obtain ⟨L, hL⟩ : ∃ L : Nat, L1 + 1 = L := ⟨_, rfl⟩
  rw [hL] at h1 hij hi1 HV
  clear h hl hb hv hrd hp hlj hL hL1 h1r
  go_enter Try.func50, Try.ntmps50
  rw [HV.out]
  go_wp2
  go_quiet (fail)
  obtain ⟨wd, hwd⟩ : ∃ W, w.drewN nq = W := ⟨_, rfl⟩
  have HBD : Hid (Below w.heap.size w wd) := by rw [← hwd]; exact below_drewN (Below.refl _ _) _
  rw [hwd]
  clear hwd hc0
  go_wp2
  go_loopw [7, 20] (fun t i wr => ∃ k : Nat, k ≤ m ∧ i = .int .i64 k ∧ t = .int .i64 (tkF rs mg c k : Int) ∧ Hid (Below w.heap.size w wr)) (fun _ i _ => m - (intOf i).toNat)
  case atStart => exact ⟨0, Nat.zero_le _, rfl, rfl, HBD.out⟩
  case round =>
    obtain ⟨k, hk, rfl, rfl, hB⟩ := hrel
    clear HBD
    have htl := HTL.out k hk
    have HT1 : Hid (tkF rs mg c (k + 1) = if p.getD (tkF rs mg c k) 0 < p.getD k 0 ∧ owB rs k c mg = true then k else tkF rs mg c k) := HTS.out k
    obtain ⟨tk, htk⟩ : ∃ tk, tkF rs mg c k = tk := ⟨_, rfl⟩
    have HTK : Hid (tkF rs mg c k = tk) := htk
    rw [htk] at htl HT1 ⊢
    clear htk
    by_cases hkt : k < m
    case neg =>
      obtain rfl : k = m := by omega
      clear hkt hk
      go_wp2
      go_ret
      exact ⟨by rw [HTK.out]; rfl, hB.out⟩
    case pos =>
    obtain ⟨⟨b', off'⟩, rfl, hbl', hc1⟩ := HCU.out wr k hkt hB.out
    obtain ⟨bo, e, -, hc2⟩ := HCU.out wr tk htl hB.out
    cases e
    dsimp only at hc1 hc2 hbl'
    obtain ⟨x, hx⟩ : ∃ x, p.getD k 0 = x := ⟨_, rfl⟩
    obtain ⟨y, hy⟩ : ∃ y, p.getD tk 0 = y := ⟨_, rfl⟩
    rw [hx] at hc1 HT1
    rw [hy] at hc2 HT1
    have hk0 : (0 : Int) ≤ (k : Int) := by omega
    have hk1 : (k : Int) < (m : Int) := by omega
    have hk2 : (0 : Int) ≤ (tk : Int) := by omega
    have hk3 : (tk : Int) < (m : Int) := by omega
    clear hx hy
    by_cases hq : y < x
    case neg =>
      have hd : decide (y < x) = false := decide_eq_false hq
      have he : (y < x) = False := eq_false hq
      have HN : Hid (tkF rs mg c (k + 1) = tk) := by show _ = _; rw [HT1.out, if_neg (fun h => hq h.1)]
      clear HT1 hq
      go_wp2
      go_roundw
      case rel => exact ⟨k + 1, by omega, by go_num, by rw [HN.out], hB.out⟩
      case measure => simp [intOf]; omega
    case pos =>
    have hd : decide (y < x) = true := decide_eq_true hq
    go_wp2_with (fail)
    rw [← HV.out]
    refine (HO.out k _ hkt hB.out).mono ?_
    rintro e w1 ⟨rfl, b1⟩
    have HB1 : Hid (Below w.heap.size w w1) := belowCall hB.out b1 hB.out.size
    obtain ⟨o, ho⟩ : ∃ o, owB rs k c mg = o := ⟨_, rfl⟩
    rw [ho] at HT1 ⊢
    rw [HV.out]
    clear ho b1 hB
    cases o with
    | false =>
      have HN : Hid (tkF rs mg c (k + 1) = tk) := by show _ = _; rw [HT1.out, if_neg (fun h => by cases h.2)]
      clear HT1
      go_wp2
      go_roundw
      case rel => exact ⟨k + 1, by omega, by go_num, by rw [HN.out], HB1.out⟩
      case measure => simp [intOf]; omega
    | true =>
    have HN : Hid (tkF rs mg c (k + 1) = k) := by show _ = _; rw [HT1.out, if_pos ⟨hq, rfl⟩]
    clear HT1
    go_wp2
    go_roundw
    case rel => exact ⟨k + 1, by omega, by go_num, by rw [HN.out], HB1.out⟩
    case measure => simp [intOf]; omega

end Go.Proofs.Ytikgempdohpdjaa

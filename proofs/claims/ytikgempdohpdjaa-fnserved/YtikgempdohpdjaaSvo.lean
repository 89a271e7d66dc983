/- l16Over; no condition. -/
import Derived.Test.YtikgempdohpdjaaSva
namespace Go.Proofs.Ytikgempdohpdjaa
open Go.RowKit Go.ChangeShapes Go.WideShapes Go.ChangeAt
set_option linter.unusedVariables false
set_option linter.unusedSimpArgs false
set_option maxRecDepth 8000

set_option maxHeartbeats 3200000 in
theorem over_c (v : Value) (ms : List (List Int)) (k c m f n : Nat) (mg : Int) (w : World) (h : Rn w v ms) (hfn : f + n ≤ ms.length) (hl : ∀ i, i < ms.length → (ms.getD i []).length = m) (hb : ∀ i k, i < ms.length → k < m → -120 ≤ (ms.getD i []).getD k 0 ∧ (ms.getD i []).getD k 0 ≤ 0) (hk : k < m) (hc : c < m) (hm0 : 0 ≤ mg) (hm1 : mg ≤ 60) :
    Calls Try.prog 53 #[v, .int .i64 k, .int .i64 c, .int .i64 mg, .int .i64 f, .int .i64 ((f : Int) + (n : Int) - 1)] w fun e w' => e = .returned (.bool (owB (wn ms f n) k c mg)) ∧ Below w.heap.size w w' := by
  obtain ⟨a, cap, rfl, h1, h2, -⟩ := id h
  unfold maxLen at h2
  have HC : Hid (∀ W j, j < ms.length → Below w.heap.size w W → ∃ (bo : Nat × Nat) (u : Value), a = some ⟨bo.1, bo.2, none⟩ ∧ bo.1 < w.heap.size ∧ W.cell? ⟨bo.1, bo.2 + j, none⟩ = some u ∧ Rd .i64 w u (ms.getD j [])) := rnc h
  have HNO : Hid (∀ i, i < n → (ms.getD (f + i) []).getD k 0 - (ms.getD (f + i) []).getD c 0 < max mg 1 → owB (wn ms f n) k c mg = false) := fun i hi hn => owB_no (i := i) (by rw [wn_len]; exact hi) (by rw [wn_at _ _ _ _ hi]; exact hn)
  have HYE : Hid ((∀ i, i < n → max mg 1 ≤ (ms.getD (f + i) []).getD k 0 - (ms.getD (f + i) []).getD c 0) → owB (wn ms f n) k c mg = true) := fun h => owB_yes (fun i hi => by rw [wn_len] at hi; rw [wn_at _ _ _ _ hi]; exact h i hi)
  have HL : Hid (∀ i, i < ms.length → (ms.getD i []).length = m) := hl
  have HB : Hid (∀ i k, i < ms.length → k < m → -120 ≤ (ms.getD i []).getD k 0 ∧ (ms.getD i []).getD k 0 ≤ 0) := hb
  obtain ⟨L, hL⟩ : ∃ L, ms.length = L := ⟨_, rfl⟩
  rw [hL] at h1 hfn HC HL HB ⊢
  obtain ⟨B, hB⟩ : ∃ B, owB (wn ms f n) k c mg = B := ⟨_, rfl⟩
  rw [hB] at HNO HYE ⊢
  obtain ⟨to, hto⟩ : ∃ to : Int, (f : Int) + (n : Int) - 1 = to := ⟨_, rfl⟩
  have HTO : Hid ((f : Int) + (n : Int) - 1 = to) := hto
  rw [hto]
  have hfb : (f : Int) ≤ 9223372036854775807 := by omega
  clear hL h hB hl hb hto
  go_enter Try.func53, Try.ntmps53
  go_wp2
  go_loopw [13] (fun i wr => ∃ (j t : Nat), j ≤ n ∧ t = f + j ∧ i = .int .i64 t ∧ Hid (∀ i, i < j → max mg 1 ≤ (ms.getD (f + i) []).getD k 0 - (ms.getD (f + i) []).getD c 0) ∧ Hid (Below w.heap.size w wr)) (fun i _ => f + n - (intOf i).toNat)
  case atStart => exact ⟨0, f, Nat.zero_le _, rfl, rfl, fun k hk => by omega, Below.refl _ _⟩
  case round =>
    obtain ⟨j, t, hj, ht, rfl, hA, hBl⟩ := hrel
    have HT : Hid (t = f + j) := ht
    have htb : t ≤ f + n := by omega
    by_cases hlt : j < n
    case neg =>
      obtain rfl : j = n := by omega
      have HBT : Hid (B = true) := HYE.out hA.out
      have hd : decide ((t : Int) ≤ to) = false := by have := HTO.out; simp; omega
      have he : ((t : Int) ≤ to) = False := eq_false (by have := HTO.out; omega)
      clear hlt hj ht htb
      go_wp2
      go_ret
      exact ⟨by rw [HBT.out]; rfl, hBl.out⟩
    case pos =>
    have htL : t < L := by omega
    obtain ⟨⟨b, off⟩, u, rfl, hbl, hc0, hrd⟩ := HC.out wr t htL hBl.out
    dsimp only at hc0 hbl
    have hlj := HL.out t htL
    have b1 := HB.out t k htL hk
    have b2 := HB.out t c htL hc
    have HNJ : Hid ((ms.getD t []).getD k 0 - (ms.getD t []).getD c 0 < max mg 1 → B = false) := by rw [ht]; exact HNO.out j hlt
    have HS : Hid (max mg 1 ≤ (ms.getD t []).getD k 0 - (ms.getD t []).getD c 0 → ∀ i, i < j + 1 → max mg 1 ≤ (ms.getD (f + i) []).getD k 0 - (ms.getD (f + i) []).getD c 0) := fun hq i hi => by
      rcases Nat.lt_or_ge i j with h | h
      · exact hA.out i h
      · obtain rfl : i = j := by omega
        rw [← HT.out]; exact hq
    have hdt : (t : Int) ≤ to := by have := HTO.out; omega
    obtain ⟨p, hp⟩ : ∃ p, ms.getD t [] = p := ⟨_, rfl⟩
    rw [hp] at hrd hlj b1 b2 HNJ HS
    obtain ⟨au, cu, hvu, hu1, hu2, -⟩ := id hrd
    subst hvu
    obtain ⟨⟨b', off'⟩, rfl, hbl', hc1⟩ := rdc hrd wr k (by omega) hBl.out
    obtain ⟨⟨b3, off3⟩, e, -, hc2⟩ := rdc hrd wr c (by omega) hBl.out
    simp at e
    obtain ⟨rfl, rfl⟩ := e
    dsimp only at hc1 hc2 hbl'
    rw [hlj] at hc0 hu1
    unfold maxLen at hu2
    obtain ⟨x, hx⟩ : ∃ x, p.getD k 0 = x := ⟨_, rfl⟩
    obtain ⟨y, hy⟩ : ∃ y, p.getD c 0 = y := ⟨_, rfl⟩
    rw [hx] at hc1 b1 HNJ HS
    rw [hy] at hc2 b2 HNJ HS
    have hi0 : (0 : Int) ≤ (t : Int) := by omega
    have hi1 : (t : Int) < (L : Int) := by omega
    have hk0 : (0 : Int) ≤ (k : Int) := by omega
    have hk1 : (k : Int) < (m : Int) := by omega
    have hk2 : (0 : Int) ≤ (c : Int) := by omega
    have hk3 : (c : Int) < (m : Int) := by omega
    clear hx hy hp hrd hlj HC ht
    by_cases hq : x ≤ y
    case pos =>
      have HF : Hid (B = false) := HNJ.out (by omega)
      have hd : decide (x ≤ y) = true := decide_eq_true hq
      go_wp2
      go_quiet (fail)
      go_wp2
      go_ret
      exact ⟨by rw [HF.out]; rfl, below_drewN hBl.out _⟩
    case neg =>
    have hd : decide (x ≤ y) = false := decide_eq_false hq
    have he : (x ≤ y) = False := eq_false hq
    by_cases hq2 : x < y + mg
    case pos =>
      have HF : Hid (B = false) := HNJ.out (by omega)
      have hd2 : decide (x < y + mg) = true := decide_eq_true hq2
      clear hq
      go_wp2
      go_quiet (fail)
      go_wp2
      go_ret
      exact ⟨by rw [HF.out]; rfl, below_drewN hBl.out _⟩
    case neg =>
    have hd2 : decide (x < y + mg) = false := decide_eq_false hq2
    have he2 : (x < y + mg) = False := eq_false hq2
    have HS2 : Hid (∀ i, i < j + 1 → max mg 1 ≤ (ms.getD (f + i) []).getD k 0 - (ms.getD (f + i) []).getD c 0) := HS.out (by omega)
    clear HS HNJ hq hq2
    go_wp2
    go_quiet (fail)
    go_wp2
    go_roundw
    case rel => exact ⟨j + 1, t + 1, by omega, by have := HT.out; omega, by go_num, HS2.out, below_drewN hBl.out _⟩
    case measure => have := HT.out; simp [intOf]; omega
theorem svM_next {ms : List (List Int)} {mg : Int} {dw t c s m : Nat} (hm : (ms.getD 0 []).length = m) (ht : 0 < t) (hd : 1 ≤ dw) (hcs : svN ms mg dw (t - 1) = (c, s)) :
    svN ms mg dw t = if 0 ≤ bsF (ms.getD t []) (fun k => decide (s + dw ≤ t) && owB (wn ms (t + 1 - dw) dw) k c mg) m then ((bsF (ms.getD t []) (fun k => decide (s + dw ≤ t) && owB (wn ms (t + 1 - dw) dw) k c mg) m).toNat, t) else (c, s) := by
  obtain ⟨t', rfl⟩ : ∃ t', t = t' + 1 := ⟨t - 1, by omega⟩
  rw [svN, show svN ms mg dw t' = (c, s) from hcs, hm]
  by_cases hq : s + dw ≤ t' + 1
  · have e : (fun k => decide (s + dw ≤ t' + 1) && owB (wn ms (t' + 1 + 1 - dw) dw) k c mg) = fun k => owB (wn ms (t' + 1 + 1 - dw) dw) k c mg := by funext k; rw [decide_eq_true hq]; rfl
    have el : lsR (wn ms (t' + 1 + 1 - dw) dw) = ms.getD (t' + 1) [] := by
      unfold lsR; rw [wn_len, wn_at _ _ _ _ (by omega), show t' + 1 + 1 - dw + (dw - 1) = t' + 1 by omega]
    have hb := bs_tk (rs := wn ms (t' + 1 + 1 - dw) dw) (mg := mg) (c := c) (by rw [wn_len]; exact hd) m
    rw [el] at hb
    rw [e, hb]
    by_cases hn : tkF (wn ms (t' + 1 + 1 - dw) dw) mg c m = c
    · rw [if_pos hn, if_neg (fun h => h.2 hn), if_neg (by omega)]
    · rw [if_neg hn, if_pos ⟨hq, hn⟩, if_pos (by omega)]; simp
  · have hb := bs_none (row := ms.getD (t' + 1) []) (ok := fun k => decide (s + dw ≤ t' + 1) && owB (wn ms (t' + 1 + 1 - dw) dw) k c mg) (fun k => by rw [decide_eq_false hq]; rfl) m
    rw [hb, if_neg (fun h => hq h.1), if_neg (by omega)]
theorem svM_first {ms : List (List Int)} {mg : Int} {dw m : Nat} (hm : (ms.getD 0 []).length = m) (h1 : 1 ≤ m) : 0 ≤ bsF (ms.getD 0 []) (fun _ => true) m ∧ svN ms mg dw 0 = ((bsF (ms.getD 0 []) (fun _ => true) m).toNat, 0) := by
  obtain ⟨m', rfl⟩ : ∃ m', m = m' + 1 := ⟨m - 1, by omega⟩
  exact ⟨(bs_mx (ms.getD 0 []) m').1, by rw [svN, amx, hm]⟩

end Go.Proofs.Ytikgempdohpdjaa

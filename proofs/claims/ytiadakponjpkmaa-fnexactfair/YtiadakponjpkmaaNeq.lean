/- eqIntSS, markIntSS, szIntSS; no condition. -/
import Derived.Test.YtiadakponjpkmaaNst
namespace Go.Proofs.Ytiadakponjpkmaa
open Go.RowKit Go.ChangeShapes Go.WideShapes Go.ChangeAt
set_option linter.unusedVariables false
set_option linter.unusedSimpArgs false
set_option maxRecDepth 8000

set_option maxHeartbeats 3200000 in
/-- two that are alike are found so -/
theorem eqSS (v v' : Value) (ls : List (List Int)) (w : World) (h : Rn w v ls) (h' : Rn w v' ls) :
   Calls Try.prog 45 #[v, v'] w fun e w' => e = .returned (.bool true) ∧ Below w.heap.size w w' := by
  obtain ⟨a, cap, rfl, h1, h2, -⟩ := id h
  obtain ⟨a', cap', rfl, h1', h2', -⟩ := id h'
  unfold maxLen at h2 h2'
  have HC : Hid (∀ W j, j < ls.length → Below w.heap.size w W → ∃ (bo : Nat × Nat) (u : Value), a = some ⟨bo.1, bo.2, none⟩ ∧ bo.1 < w.heap.size ∧ W.cell? ⟨bo.1, bo.2 + j, none⟩ = some u ∧ Rd .i64 w u (ls.getD j [])) := rnc h
  have HC' : Hid (∀ W j, j < ls.length → Below w.heap.size w W → ∃ (bo : Nat × Nat) (u : Value), a' = some ⟨bo.1, bo.2, none⟩ ∧ bo.1 < w.heap.size ∧ W.cell? ⟨bo.1, bo.2 + j, none⟩ = some u ∧ Rd .i64 w u (ls.getD j [])) := rnc h'
  obtain ⟨L, hL⟩ : ∃ L, ls.length = L := ⟨_, rfl⟩
  rw [hL] at h1 h1' HC HC' ⊢
  clear h h' hL
  have hn : ((L : Int) != (L : Int)) = false := by simp
  go_enter Try.func45, Try.ntmps45
  go_wp2
  go_loopw [5] (fun i wr => ∃ j : Nat, j ≤ L ∧ i = .int .i64 j ∧ Hid (Below w.heap.size w wr)) (fun i _ => L - (intOf i).toNat)
  case atStart => exact ⟨0, Nat.zero_le _, rfl, Below.refl _ _⟩
  case round =>
    obtain ⟨j, hj, rfl, hB⟩ := hrel
    by_cases hlt : j < L
    case neg =>
      obtain rfl : j = L := by omega
      clear hlt hj
      go_wp2
      go_ret
      exact ⟨rfl, hB.out⟩
    case pos =>
    obtain ⟨⟨b, off⟩, u, rfl, hbl, hc0, hr0⟩ := HC.out wr j hlt hB.out
    obtain ⟨⟨b', off'⟩, u', rfl, hbl', hc1, hr1⟩ := HC'.out wr j hlt hB.out
    dsimp only at hc0 hc1 hbl hbl'
    obtain ⟨p, hp⟩ : ∃ p, ls.getD j [] = p := ⟨_, rfl⟩
    rw [hp] at hr0 hr1
    have hR0 := hr0.below hB.out
    have hR1 := hr1.below hB.out
    have HCL : Hid (∀ W : Ov wr, Calls Try.prog 35 #[u, u'] W.wd fun e w'' => e = .returned (.bool true) ∧ ∃ W' : Ov wr, w'' = W'.wd) := fun W => ov_call (eqIS u u' p W.wd (hR0.below W.ok) (hR1.below W.ok))
    obtain ⟨x0, k0, rfl, -⟩ := hr0
    obtain ⟨x1, k1, rfl, -⟩ := hr1
    have y0 : ∀ W : Ov wr, W.wd.cell? ⟨b, off + j, none⟩ = some (.slice x0 p.length k0) := ov_cell hc0
    have y1 : ∀ W : Ov wr, W.wd.cell? ⟨b', off' + j, none⟩ = some (.slice x1 p.length k1) := ov_cell hc1
    have ne : Nonempty (Ov wr) := ⟨⟨_, Below.refl _ _⟩⟩
    have hi0 : (0 : Int) ≤ (j : Int) := by omega
    have hi1 : (j : Int) < (L : Int) := by omega
    clear hR0 hR1 hc0 hc1 hp
    go_wp2
    refine region_over (by kernel_rfl) (by kernel_rfl) ?_
    repeat (go_big_quiet_step (first | (go_at_call 35; exact HCL.out _)))
    refine wpQuiet_nil ?_
    rintro _ ⟨W, rfl⟩
    have HBW : Hid (Below w.heap.size w W.wd) := belowCall hB.out W.ok hB.out.size
    clear HCL
    go_wp2
    go_roundw
    case rel => exact ⟨j + 1, by omega, by go_num, HBW.out⟩
    case measure => simp [intOf]; omega

set_option maxHeartbeats 3200000 in
theorem markSS (v : Value) (ls : List (List Int)) (us : List Value) (P : Nat → Nat) (q : Int) (base : Nat) (w : World) (h : On 35 base w v ls us P) (h0 : 0 ≤ q) (hl : ls.length ≤ 1048576) (hq : q + (smL ls ls.length : Int) ≤ 1152921504606846976) :
   Calls Try.prog 46 #[v, .int .i64 q] w fun e w' => e = .returned (.int .i64 (q + (smL ls ls.length : Int))) ∧ Btw (P 0) (P ls.length) w w' := by
  obtain ⟨a, cap, hv, h1, h2, h3⟩ := own_form h.row
  have HO : Hid (On 35 base w v ls us P) := h
  have HMO : Hid (∀ j, j ≤ ls.length → smL ls j ≤ smL ls ls.length) := fun j hj => smL_mono ls j _ hj
  obtain ⟨L, hL⟩ : ∃ L, ls.length = L := ⟨_, rfl⟩
  have HL : Hid (ls.length = L) := hL
  obtain ⟨S, hS⟩ : ∃ S, smL ls ls.length = S := ⟨_, rfl⟩
  have HS : Hid (smL ls ls.length = S) := hS
  rw [hS] at hq HMO ⊢
  have HRW : Hid (w.ownsRow base 35 1 v L us) := by have := h.row; rw [hL] at this; exact this
  rw [hL] at h1 h3 hv hl HMO ⊢
  clear h hL hS
  subst hv
  have HOUT : Hid (∀ k, (Value.slice a L cap).ownBlock = some k → k < P 0) := HO.out.out
  go_enter Try.func46, Try.ntmps46
  go_wp2
  go_loopw [1, 5] (fun k i wr => ∃ j : Nat, j ≤ L ∧ i = .int .i64 j ∧ k = .int .i64 (q + (smL ls j : Int)) ∧ Hid (wr.ownsRow base 35 1 (.slice a L cap) L us) ∧ Hid (∀ i, j ≤ i → i < L → Ow .i64 3 (P i) wr (us.getD i vN) (ls.getD i [])) ∧ Hid (Btw (P 0) (P L) w wr)) (fun _ i _ => L - (intOf i).toNat)
  case atStart => exact ⟨0, Nat.zero_le _, rfl, by simp [smL], HRW.out, fun i _ hi => HO.out.own i (by rw [HL.out]; exact hi), Btw.refl _ _ _⟩
  case round =>
    obtain ⟨j, hj, rfl, rfl, hR, hA, hB⟩ := hrel
    clear HRW
    by_cases hlt : j < L
    case neg =>
      obtain rfl : j = L := by omega
      have HSL : Hid (smL ls j = S) := by show _ = _; rw [← HL.out]; exact HS.out
      clear hlt hj
      rw [HSL.out]
      go_wp2
      go_ret
      exact ⟨rfl, hB.out⟩
    case pos =>
    rcases h3 with h3 | ⟨b, rfl⟩
    · omega
    have HUL : Hid (us.length = L) := HO.out.len.trans HL.out
    have hc : wr.cell? ⟨b, j, none⟩ = some (us.getD j vN) := by
      rw [hR.out.cellAt j (by omega), List.getD_eq_getElem?_getD, List.getElem?_eq_getElem (by rw [HUL.out]; exact hlt)]; rfl
    have hOj := hA.out j (Nat.le_refl _) hlt
    have HLJ := HO.out.lt j (by rw [HL.out]; exact hlt)
    have HLJ : Hid (∀ k, (us.getD j vN).ownBlock = some k → k < P (j + 1)) := HLJ
    have HGJ : Hid (∀ k, (us.getD j vN).ownBlock = some k → P j ≤ k) := fun k e => (World.ownsRow.lt hOj k e).1
    obtain ⟨u, hu⟩ : ∃ u, us.getD j vN = u := ⟨_, rfl⟩
    obtain ⟨p, hp⟩ : ∃ p, ls.getD j [] = p := ⟨_, rfl⟩
    have HSN : Hid (smL ls (j + 1) = smL ls j + p.length) := by show _ = _; rw [smL, hp]
    rw [hu] at hc hOj HLJ HGJ
    rw [hp] at hOj
    have HOJ : Hid (Ow .i64 3 (P j) wr u p) := hOj
    have m1 := HMO.out (j + 1) (by omega)
    have m0 := HMO.out j (by omega)
    rw [HSN.out] at m1
    obtain ⟨s, hs⟩ : ∃ s, smL ls j = s := ⟨_, rfl⟩
    rw [hs] at m1 m0 HSN ⊢
    obtain ⟨au, cu, hvu, -⟩ := own_form hOj
    have hi0 : (0 : Int) ≤ (j : Int) := by omega
    have hi1 : (j : Int) < (L : Int) := by omega
    have HQ : Hid (q + (s : Int) + (p.length : Int) ≤ 1152921504606846976 ∧ 0 ≤ q + (s : Int)) := ⟨by omega, by omega⟩
    have HVU : Hid (u = .slice au p.length cu) := hvu
    rw [hvu] at hc
    clear hOj hu hp hs hvu
    go_wp2_with (fail)
    rw [← HVU.out]
    refine (markI u p (q + (s : Int)) (P j) _ HOJ.out HQ.out.2 HQ.out.1).mono ?_
    rintro e w2 ⟨rfl, -, g2⟩
    have hm0 := HO.out.mono 0 j (Nat.zero_le _) (by rw [HL.out]; omega)
    have hm1 := HO.out.mono (j + 1) L (by omega) (by rw [HL.out]; exact Nat.le_refl _)
    have HR2 : Hid (w2.ownsRow base 35 1 (.slice (some ⟨b, 0, none⟩) L cap) L us) := World.ownsRow.kept hR.out g2 (.inr fun e => by
      have h1 := HOUT.out b rfl
      have h2 := HGJ.out b (e.symm.trans rfl)
      omega)
    have HA2 : Hid (∀ i, j + 1 ≤ i → i < L → Ow .i64 3 (P i) w2 (us.getD i vN) (ls.getD i [])) := fun i hi1 hi2 => by
      refine World.ownsRow.kept (hA.out i (by omega) hi2) g2 ?_
      refine blk_ne' (P := P i) (fun k e => (World.ownsRow.lt (hA.out i (by omega) hi2) k e).1) (fun k e => ?_)
      have h1 := HLJ.out k e
      have h2 := HO.out.mono (j + 1) i (by omega) (by rw [HL.out]; omega)
      omega
    have HB2 : Hid (Btw (P 0) (P L) w w2) := hB.out.trans (Btw.grown g2 (fun k e => by have := HLJ.out k e; have := HGJ.out k e; omega))
    clear g2 hR hA hB hm0 hm1 HOJ HVU
    go_wp2
    go_roundw
    case rel => exact ⟨j + 1, by omega, by go_num, by rw [HSN.out]; push_cast; congr 1; omega, HR2.out, HA2.out, HB2.out⟩
    case measure => simp [intOf]; omega

set_option maxHeartbeats 800000 in
theorem szS_c (v : Value) (zs : List Int) (x : Int) (w : World) (h : Rd .i64 w v zs) (hx : -1 ≤ x) (hx2 : x ≤ 1048576) : Calls Try.prog 70 #[v, .int .i64 x] w fun e w' => ∃ r : Int, e = .returned (.int .i64 r) ∧ -1 ≤ r ∧ r ≤ 1048576 ∧ (0 ≤ r → r + zs.length = x) ∧ w' = w := by
  obtain ⟨a, cap, rfl, h1, h2, -⟩ := h
  unfold maxLen at h2
  by_cases hc : x - (zs.length : Int) < 0
  · have hd : decide (x - (zs.length : Int) < 0) = true := decide_eq_true hc
    go_enter Try.func70, Try.ntmps70
    go_wp2
    go_ret
    exact ⟨_, rfl, by omega, by omega, fun h => by omega, rfl⟩
  · have hd : decide (x - (zs.length : Int) < 0) = false := decide_eq_false hc
    have he : (x - (zs.length : Int) < 0) = False := eq_false hc
    go_enter Try.func70, Try.ntmps70
    go_wp2
    go_ret
    exact ⟨_, rfl, by omega, by omega, fun h => by omega, rfl⟩
set_option maxHeartbeats 3200000 in
theorem szSS_c (v : Value) (ls : List (List Int)) (w : World) (h : Rn w v ls) : Calls Try.prog 43 #[v, .int .i64 1048576] w fun e w' => ∃ r : Int, e = .returned (.int .i64 r) ∧ (0 ≤ r → ls.length ≤ 1048576 ∧ smL ls ls.length ≤ 1048576) ∧ -1 ≤ r ∧ r ≤ 1048576 ∧ w' = w := by
  obtain ⟨a, cap, rfl, h1, h2, -⟩ := id h
  unfold maxLen at h2
  have HC : Hid (∀ W j, j < ls.length → Below w.heap.size w W → ∃ (bo : Nat × Nat) (u : Value), a = some ⟨bo.1, bo.2, none⟩ ∧ bo.1 < w.heap.size ∧ W.cell? ⟨bo.1, bo.2 + j, none⟩ = some u ∧ Rd .i64 w u (ls.getD j [])) := rnc h
  obtain ⟨L, hL⟩ : ∃ L, ls.length = L := ⟨_, rfl⟩
  rw [hL] at h1 HC ⊢
  clear h hL
  by_cases hbig : (1048576 : Int) - (L : Int) < 0
  case pos =>
    have hd : decide ((1048576 : Int) - (L : Int) < 0) = true := decide_eq_true hbig
    go_enter Try.func43, Try.ntmps43
    go_wp2
    go_ret
    exact ⟨_, rfl, fun h => by omega, by omega, by omega, rfl⟩
  have hd : decide ((1048576 : Int) - (L : Int) < 0) = false := decide_eq_false hbig
  have he : ((1048576 : Int) - (L : Int) < 0) = False := eq_false hbig
  go_enter Try.func43, Try.ntmps43
  go_wp2
  go_loop [1, 5] (fun k i => ∃ (j : Nat) (x : Int), j ≤ L ∧ i = .int .i64 j ∧ k = .int .i64 x ∧ 0 ≤ x ∧ Hid (x + (smL ls j : Int) + (L : Int) = 1048576)) (fun _ i => L - (intOf i).toNat)
  case atStart => exact ⟨0, 1048576 - L, Nat.zero_le _, rfl, rfl, by omega, by show _ = _; simp [smL]⟩
  case round =>
    obtain ⟨j, x, hj, rfl, rfl, hx0, hx⟩ := hrel
    clear hd he
    by_cases hlt : j < L
    case neg =>
      obtain rfl : j = L := by omega
      have HX := hx.out
      clear hlt hj
      go_wp2
      go_ret
      exact ⟨_, rfl, fun h => by omega, by omega, by omega, rfl⟩
    case pos =>
    obtain ⟨⟨b, off⟩, u, rfl, hbl, hc0, hrd⟩ := HC.out w j hlt (Below.refl _ _)
    dsimp only at hc0 hbl
    have HSM : Hid (smL ls (j + 1) = smL ls j + (ls.getD j []).length) := rfl
    obtain ⟨p, hp⟩ : ∃ p, ls.getD j [] = p := ⟨_, rfl⟩
    rw [hp] at hrd HSM
    have HRD : Hid (Rd .i64 w u p) := hrd
    obtain ⟨au, cu, hvu, -⟩ := hrd
    have HVU : Hid (u = .slice au p.length cu) := hvu
    rw [hvu] at hc0
    clear hp
    have hi0 : (0 : Int) ≤ (j : Int) := by omega
    have hi1 : (j : Int) < (L : Int) := by omega
    have hxb : x ≤ 1048576 := by have := hx.out; omega
    clear hvu hbig
    go_wp2_with (fail)
    rw [← HVU.out]
    refine (szS_c u _ x _ HRD.out (by omega) hxb).mono ?_
    rintro e w1 ⟨r, rfl, r0, r1, r2, hw⟩
    rw [hw]
    clear hw w1
    by_cases hr : r < 0
    case pos =>
      have hd : decide (r < 0) = true := decide_eq_true hr
      go_wp2
      go_ret
      exact ⟨_, rfl, fun h => by omega, by omega, by omega, rfl⟩
    case neg =>
    have hd : decide (r < 0) = false := decide_eq_false hr
    have he : (r < 0) = False := eq_false hr
    have HN : Hid (r + (smL ls (j + 1) : Int) + (L : Int) = 1048576) := by show _ = _; rw [HSM.out]; have := r2 (by omega); have := hx.out; push_cast; omega
    have hr0 : 0 ≤ r := by omega
    clear r2 hx hr
    go_wp2
    go_round
    case rel => exact ⟨j + 1, r, by omega, by go_num, rfl, hr0, HN.out⟩
    case measure => simp [intOf]; omega

end Go.Proofs.Ytiadakponjpkmaa

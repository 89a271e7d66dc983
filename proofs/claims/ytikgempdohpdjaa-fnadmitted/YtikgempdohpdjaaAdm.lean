/- The model: Admit; no condition. -/
import Derived.Test.YtikgempdohpdjaaAda
namespace Go.Proofs.Ytikgempdohpdjaa
open Go.RowKit Go.ChangeShapes Go.WideShapes Go.ChangeAt
set_option linter.unusedVariables false
set_option linter.unusedSimpArgs false
set_option maxRecDepth 8000

set_option maxHeartbeats 6400000 in
theorem adM_c (v : Value) (hs : List Int) (room : Int) (u : Value) (zs : List Int) (w : World) (h : Rd .i64 w v hs) (h' : Rd .i64 w u zs) : Calls Try.prog 26 #[v, .int .i64 room, u] w (AdR hs room zs w) := by
  have HR : Hid (Rd .i64 w v hs) := h
  have HR' : Hid (Rd .i64 w u zs) := h'
  obtain ⟨a, cap, rfl, h1, h2, -⟩ := id h
  obtain ⟨a', cap', rfl, h1', h2', -⟩ := id h'
  unfold maxLen at h2 h2'
  have HC : Hid (∀ W j, j < hs.length → Below w.heap.size w W → ∃ bo : Nat × Nat, a = some ⟨bo.1, bo.2, none⟩ ∧ bo.1 < w.heap.size ∧ W.cell? ⟨bo.1, bo.2 + j, none⟩ = some (.int .i64 (hs.getD j 0))) := rdc h
  have HC' : Hid (∀ W j, j < zs.length → Below w.heap.size w W → ∃ bo : Nat × Nat, a' = some ⟨bo.1, bo.2, none⟩ ∧ bo.1 < w.heap.size ∧ W.cell? ⟨bo.1, bo.2 + j, none⟩ = some (.int .i64 (zs.getD j 0))) := rdc h'
  have HE : Hid (adB hs room zs = (akB hs && decide (0 ≤ room ∧ room ≤ 100000) && akB zs)) := rfl
  have HNO : Hid (adB hs room zs = false → ∀ W, Below w.heap.size w W → AdR hs room zs w (.returned (.tuple #[.slice none 0 0, .bool false])) W) := fun e W hW => ⟨_, by rw [e], by rw [adR_no e]; exact Ob.nil _ _, hW⟩
  obtain ⟨W0, hW0⟩ : ∃ W, w.alloc (Obj.cells #[] 4) = W := ⟨_, rfl⟩
  obtain ⟨v0, hv0⟩ : ∃ v, Value.slice (some ⟨w.heap.size, 0, none⟩) 0 0 = v := ⟨_, rfl⟩
  have HO0 : Hid (Ob w.heap.size W0 v0 []) := by rw [← hW0, ← hv0]; exact Ob.empty _ w (Nat.le_refl _)
  have HB0 : Hid (Below w.heap.size w W0) := by rw [← hW0]; exact (Below.refl _ _).alloc (Nat.le_refl _) _
  have HW0 : Hid (w.alloc (Obj.cells #[] 4) = W0 ∧ Value.slice (some ⟨w.heap.size, 0, none⟩) 0 0 = v0) := ⟨hW0, hv0⟩
  have HNO2 : Hid (adB hs room zs = false → AdR hs room zs w (.returned (.tuple #[v0, .bool false])) W0) := fun e => ⟨_, by rw [e], by rw [adR_no e]; exact HO0.out, HB0.out⟩
  clear hW0 hv0
  clear h h'
  go_enter Try.func26, Try.ntmps26
  go_wp2_with (fail)
  rw [HW0.out.1, HW0.out.2]
  clear HW0
  refine (asksM_c _ hs _ (HR.out.below HB0.out)).mono ?_
  rintro e w1 ⟨rfl, hw⟩
  rw [hw]
  clear hw w1
  obtain ⟨q1, hq1⟩ : ∃ q, akB hs = q := ⟨_, rfl⟩
  have HQ1 : Hid (akB hs = q1) := hq1
  rw [hq1]
  clear hq1
  cases q1 with
  | false =>
    have HF : Hid (adB hs room zs = false) := by show _ = _; rw [HE.out, HQ1.out]; rfl
    go_wp2
    go_ret2
    exact HNO2.out HF.out
  | true =>
  go_wp2_with (fail)
  refine (asksM_c _ zs _ (HR'.out.below HB0.out)).mono ?_
  rintro e w1 ⟨rfl, hw⟩
  rw [hw]
  clear hw w1
  obtain ⟨q2, hq2⟩ : ∃ q, akB zs = q := ⟨_, rfl⟩
  have HQ2 : Hid (akB zs = q2) := hq2
  rw [hq2]
  clear hq2
  cases q2 with
  | false =>
    have HF : Hid (adB hs room zs = false) := by show _ = _; rw [HE.out, HQ2.out]; simp
    go_wp2
    go_ret2
    exact HNO2.out HF.out
  | true =>
  go_wp2_with (fail)
  refine (in_c room 0 100000 _).mono ?_
  rintro e w1 ⟨rfl, hw⟩
  rw [hw]
  clear hw w1
  by_cases hr : 0 ≤ room ∧ room ≤ 100000
  case neg =>
    have HF : Hid (adB hs room zs = false) := by show _ = _; rw [HE.out, decide_eq_false hr]; simp
    rw [decide_eq_false hr]
    clear hr
    go_wp2
    go_ret2
    exact HNO2.out HF.out
  rw [decide_eq_true hr]
  have HRM : Hid (0 ≤ room ∧ room ≤ 100000) := hr
  have HT : Hid (adB hs room zs = true) := by show _ = _; rw [HE.out, HQ1.out, HQ2.out, decide_eq_true hr]; rfl
  have hl := akB_len HQ1.out
  have hl' := akB_len HQ2.out
  have HSB : Hid (∀ j, j ≤ hs.length → 0 ≤ smZ hs j ∧ smZ hs j ≤ 1000 * (j : Int)) := smZ_bd HQ1.out
  have HHB : Hid (∀ k, k < hs.length → 1 ≤ hs.getD k 0 ∧ hs.getD k 0 ≤ 1000) := akB_at HQ1.out
  have HZB : Hid (∀ k, k < zs.length → 1 ≤ zs.getD k 0 ∧ zs.getD k 0 ≤ 1000) := akB_at HQ2.out
  obtain ⟨t0, ht0⟩ : ∃ t, smZ hs hs.length = t := ⟨_, rfl⟩
  have HTB : Hid (∀ j, j ≤ zs.length → 0 ≤ tkN room t0 zs j ∧ tkN room t0 zs j ≤ 60000 + 1000 * (j : Int)) := tkN_bd HQ2.out (by rw [← ht0]; exact (HSB.out _ (Nat.le_refl _)).1) (by rw [← ht0]; have := (HSB.out _ (Nat.le_refl _)).2; omega)
  obtain ⟨T, hT⟩ : ∃ T, adL room t0 zs = T := ⟨_, rfl⟩
  have HTL : Hid (T.length = zs.length) := by show _ = _; rw [← hT, adL_len]
  have HTA : Hid (∀ k, k < zs.length → T.getD k false = decide (tkN room t0 zs k + zs.getD k 0 ≤ room)) := fun k hk => by rw [← hT, adL_at _ _ _ _ hk]; rfl
  have HAP : Hid (∀ k, k < zs.length → T.take (k + 1) = T.take k ++ [T.getD k false]) := fun k hk => by
    have hk' : k < T.length := by rw [HTL.out]; exact hk
    rw [List.take_succ_eq_append_getElem hk']; simp [List.getElem?_eq_getElem hk']
  have HTR : Hid (adR hs room zs = T) := by show _ = _; rw [adR_yes HT.out, ht0, hT]
  have HSM : Hid (smZ hs hs.length = t0) := ht0
  obtain ⟨L, hL⟩ : ∃ L, hs.length = L := ⟨_, rfl⟩
  obtain ⟨M, hM⟩ : ∃ M, zs.length = M := ⟨_, rfl⟩
  rw [hL] at h1 hl HC HSB HHB HSM ⊢
  rw [hM] at h1' hl' HC' HTB HZB HTL HTA HAP ⊢
  clear hr hT hL hM ht0 HE HNO HNO2 HR HR' HQ1 HQ2
  go_wp2
  go_loop [9, 10] (fun t i => ∃ j : Nat, j ≤ L ∧ i = .int .i64 j ∧ t = .int .i64 (smZ hs j)) (fun _ i => L - (intOf i).toNat)
  case atStart => exact ⟨0, Nat.zero_le _, rfl, rfl⟩
  case round =>
    obtain ⟨j, hj, rfl, rfl⟩ := hrel
    by_cases hlt : j < L
    case pos =>
      obtain ⟨⟨b, off⟩, rfl, hbl, hc0⟩ := HC.out W0 j hlt HB0.out
      dsimp only at hc0 hbl
      have hs1 := HSB.out j hj
      have hz1 := HHB.out j hlt
      have HN : Hid (smZ hs (j + 1) = smZ hs j + hs.getD j 0) := rfl
      obtain ⟨x, hx⟩ : ∃ x, hs.getD j 0 = x := ⟨_, rfl⟩
      obtain ⟨s, hs'⟩ : ∃ s, smZ hs j = s := ⟨_, rfl⟩
      rw [hx] at hc0 hz1 HN
      rw [hs'] at hs1 HN ⊢
      have hi0 : (0 : Int) ≤ (j : Int) := by omega
      have hi1 : (j : Int) < (L : Int) := by omega
      clear hx hs'
      go_wp2
      go_round
      case rel => exact ⟨j + 1, by omega, by go_num, by rw [HN.out]⟩
      case measure => simp [intOf]; omega
    case neg =>
    obtain rfl : j = L := by omega
    rw [HSM.out]
    clear HSB HHB HC hlt hj
    go_wp2
    go_loopw [8, 9, 11] (fun o t i wr => ∃ (k : Nat) (o' : Value), k ≤ M ∧ i = .int .i64 k ∧ o' = o ∧ t = .int .i64 (tkN room t0 zs k) ∧ Hid (Ob w.heap.size wr o' (T.take k)) ∧ Hid (Below w.heap.size w wr)) (fun _ _ i _ => M - (intOf i).toNat)
    case atStart => exact ⟨0, _, Nat.zero_le _, rfl, rfl, rfl, HO0.out, HB0.out⟩
    case round =>
      obtain ⟨k, o', hk, rfl, ho', rfl, hO, hB⟩ := hrel
      subst ho'
      clear HO0 HB0
      by_cases hkt : k < M
      case neg =>
        obtain rfl : k = M := by omega
        have HOF : Hid (Ob w.heap.size wr o' (adR hs room zs)) := by
          have h1 := hO.out
          rw [← HTL.out, List.take_length] at h1
          show Ob _ _ _ _
          rw [HTR.out]; exact h1
        clear hO hkt hk HTB HZB
        go_wp2
        go_ret2
        exact ⟨_, by rw [HT.out]; rfl, HOF.out, hB.out⟩
      case pos =>
      obtain ⟨⟨b, off⟩, rfl, hbl, hc0⟩ := HC'.out wr k hkt hB.out
      dsimp only at hc0 hbl
      have hs1 := HTB.out k hk
      have hz1 := HZB.out k hkt
      have HN : Hid (tkN room t0 zs (k + 1) = if tkN room t0 zs k + zs.getD k 0 ≤ room then tkN room t0 zs k + zs.getD k 0 else tkN room t0 zs k) := rfl
      have HTK : Hid (T.getD k false = decide (tkN room t0 zs k + zs.getD k 0 ≤ room)) := HTA.out k hkt
      have HAK : Hid (T.take (k + 1) = T.take k ++ [T.getD k false]) := HAP.out k hkt
      obtain ⟨x, hx⟩ : ∃ x, zs.getD k 0 = x := ⟨_, rfl⟩
      obtain ⟨s, hs'⟩ : ∃ s, tkN room t0 zs k = s := ⟨_, rfl⟩
      rw [hx] at hc0 hz1 HN HTK
      rw [hs'] at hs1 HN HTK ⊢
      have hi0 : (0 : Int) ≤ (k : Int) := by omega
      have hi1 : (k : Int) < (M : Int) := by omega
      have HLK : Hid ((T.take k).length ≤ 60) := by show _ ≤ _; simp; omega
      have HSZ : Hid (w.heap.size ≤ wr.heap.size) := hB.out.size
      clear hx hs'
      by_cases hq : s + x ≤ room
      case pos =>
        have hd : decide (s + x ≤ room) = true := decide_eq_true hq
        have HN2 : Hid (tkN room t0 zs (k + 1) = s + x) := by show _ = _; rw [HN.out, if_pos hq]
        have HA2 : Hid (T.take (k + 1) = T.take k ++ [true]) := by show _ = _; rw [HAK.out, HTK.out, hd]
        clear HN HTK HAK
        go_wp2_with (at_builtin; refine appB rfl (.tmp 61) (.tmp 63) rfl w.heap.size _ (T.take k) rfl (hO.out.alloc _) wr.heap.size true rfl (by simp) (by have := HLK.out; omega) (by have := HSZ.out; simp; omega) ?_)
        intro v6 w6 ho hb
        have HO6 : Hid (Ob w.heap.size w6 v6 (T.take (k + 1))) := by rw [HA2.out]; exact ho
        have HB6 : Hid (Below w.heap.size w w6) := (hB.out.alloc HSZ.out _).trans hb
        clear ho hb hO hB
        go_wp2
        go_roundw
        case rel => exact ⟨k + 1, _, by omega, by go_num, rfl, by rw [HN2.out], HO6.out, HB6.out⟩
        case measure => simp [intOf]; omega
      case neg =>
      have hd : decide (s + x ≤ room) = false := decide_eq_false hq
      have he : (s + x ≤ room) = False := eq_false hq
      have HN2 : Hid (tkN room t0 zs (k + 1) = s) := by show _ = _; rw [HN.out, if_neg hq]
      have HA2 : Hid (T.take (k + 1) = T.take k ++ [false]) := by show _ = _; rw [HAK.out, HTK.out, hd]
      clear HN HTK HAK hq
      go_wp2_with (at_builtin; refine appB rfl (.tmp 61) (.tmp 63) rfl w.heap.size _ (T.take k) rfl (hO.out.alloc _) wr.heap.size false rfl (by simp) (by have := HLK.out; omega) (by have := HSZ.out; simp; omega) ?_)
      intro v6 w6 ho hb
      have HO6 : Hid (Ob w.heap.size w6 v6 (T.take (k + 1))) := by rw [HA2.out]; exact ho
      have HB6 : Hid (Below w.heap.size w w6) := (hB.out.alloc HSZ.out _).trans hb
      clear ho hb hO hB
      go_wp2
      go_roundw
      case rel => exact ⟨k + 1, _, by omega, by go_num, rfl, by rw [HN2.out], HO6.out, HB6.out⟩
      case measure => simp [intOf]; omega

end Go.Proofs.Ytikgempdohpdjaa

/- The program: Admit; no condition. -/
import Derived.Test.YtikgempdohpdjaaAda
namespace Go.Proofs.Ytikgempdohpdjaa
open Go.RowKit Go.ChangeShapes Go.WideShapes Go.ChangeAt
set_option linter.unusedVariables false
set_option linter.unusedSimpArgs false
set_option maxRecDepth 8000

set_option maxHeartbeats 6400000 in
theorem adI_c (v : Value) (hs : List Int) (room : Int) (u : Value) (zs : List Int) (w : World) (h : Rd .i64 w v hs) (h' : Rd .i64 w u zs) : Calls Try.prog 25 #[v, .int .i64 room, u] w (AdR hs room zs w) := by
  have HR : Hid (Rd .i64 w v hs) := h
  have HR' : Hid (Rd .i64 w u zs) := h'
  obtain ⟨a, cap, rfl, h1, h2, -⟩ := id h
  obtain ⟨a', cap', rfl, h1', h2', -⟩ := id h'
  unfold maxLen at h2 h2'
  have HC : Hid (∀ W j, j < hs.length → Below w.heap.size w W → ∃ bo : Nat × Nat, a = some ⟨bo.1, bo.2, none⟩ ∧ bo.1 < w.heap.size ∧ W.cell? ⟨bo.1, bo.2 + j, none⟩ = some (.int .i64 (hs.getD j 0))) := rdc h
  have HC' : Hid (∀ W j, j < zs.length → Below w.heap.size w W → ∃ bo : Nat × Nat, a' = some ⟨bo.1, bo.2, none⟩ ∧ bo.1 < w.heap.size ∧ W.cell? ⟨bo.1, bo.2 + j, none⟩ = some (.int .i64 (zs.getD j 0))) := rdc h'
  have HE : Hid (adB hs room zs = (akB hs && decide (0 ≤ room ∧ room ≤ 100000) && akB zs)) := rfl
  have HNO : Hid (adB hs room zs = false → ∀ W, Below w.heap.size w W → AdR hs room zs w (.returned (.tuple #[.slice none 0 0, .bool false])) W) := fun e W hW => ⟨_, by rw [e], by rw [adR_no e]; exact Ob.nil _ _, hW⟩
  clear h h'
  go_enter Try.func25, Try.ntmps25
  go_wp2_with (fail)
  refine (asksI_c _ hs _ HR.out).mono ?_
  rintro e w1 ⟨rfl, hw⟩
  rw [hw]
  clear hw w1
  obtain ⟨q1, hq1⟩ : ∃ q, akB hs = q := ⟨_, rfl⟩
  have HQ1 : Hid (akB hs = q1) := hq1
  rw [hq1]
  clear hq1
  cases q1 with
  | false =>
    have HF : Hid (adB hs room zs = false) := by show _ = _; rw [HE.out, HQ1.out]; rfl
    go_wp2
    go_ret2
    exact HNO.out HF.out _ (Below.refl _ _)
  | true =>
  go_wp2_with (fail)
  refine (within_c room 0 100000 _).mono ?_
  rintro e w1 ⟨rfl, hw⟩
  rw [hw]
  clear hw w1
  by_cases hr : 0 ≤ room ∧ room ≤ 100000
  case neg =>
    have HF : Hid (adB hs room zs = false) := by show _ = _; rw [HE.out, decide_eq_false hr]; simp
    rw [decide_eq_false hr]
    clear hr
    go_wp2
    go_ret2
    exact HNO.out HF.out _ (Below.refl _ _)
  rw [decide_eq_true hr]
  have HRM : Hid (0 ≤ room ∧ room ≤ 100000) := hr
  go_wp2_with (fail)
  refine (asksI_c _ zs _ HR'.out).mono ?_
  rintro e w1 ⟨rfl, hw⟩
  rw [hw]
  clear hw w1
  obtain ⟨q2, hq2⟩ : ∃ q, akB zs = q := ⟨_, rfl⟩
  have HQ2 : Hid (akB zs = q2) := hq2
  rw [hq2]
  clear hq2
  cases q2 with
  | false =>
    have HF : Hid (adB hs room zs = false) := by show _ = _; rw [HE.out, HQ2.out]; simp
    clear hr
    go_wp2
    go_ret2
    exact HNO.out HF.out _ (Below.refl _ _)
  | true =>
  have HT : Hid (adB hs room zs = true) := by show _ = _; rw [HE.out, HQ1.out, HQ2.out, decide_eq_true hr]; rfl
  have hl := akB_len HQ1.out
  have hl' := akB_len HQ2.out
  have HSB : Hid (∀ j, j ≤ hs.length → 0 ≤ smZ hs j ∧ smZ hs j ≤ 1000 * (j : Int)) := smZ_bd HQ1.out
  have HHB : Hid (∀ k, k < hs.length → 1 ≤ hs.getD k 0 ∧ hs.getD k 0 ≤ 1000) := akB_at HQ1.out
  have HZB : Hid (∀ k, k < zs.length → 1 ≤ zs.getD k 0 ∧ zs.getD k 0 ≤ 1000) := akB_at HQ2.out
  obtain ⟨t0, ht0⟩ : ∃ t, smZ hs hs.length = t := ⟨_, rfl⟩
  have HTB : Hid (∀ j, j ≤ zs.length → 0 ≤ tkN room t0 zs j ∧ tkN room t0 zs j ≤ 60000 + 1000 * (j : Int)) := tkN_bd HQ2.out (by rw [← ht0]; exact (HSB.out _ (Nat.le_refl _)).1) (by rw [← ht0]; have := (HSB.out _ (Nat.le_refl _)).2; omega)
  obtain ⟨T, hT⟩ : ∃ T, adL room t0 zs = T := ⟨_, rfl⟩
  have HTL : Hid (T.length = zs.length) := by show _ = _; rw [← hT, adL_len]
  have HTA : Hid (∀ k, k < zs.length → T.getD k false = decide (tkN room t0 zs k + zs.getD k 0 ≤ room)) := fun k hk => by rw [← hT, adL_at _ _ _ _ hk]; rfl
  have HTR : Hid (adR hs room zs = T) := by show _ = _; rw [adR_yes HT.out, ht0, hT]
  have HSM : Hid (smZ hs hs.length = t0) := ht0
  obtain ⟨L, hL⟩ : ∃ L, hs.length = L := ⟨_, rfl⟩
  obtain ⟨M, hM⟩ : ∃ M, zs.length = M := ⟨_, rfl⟩
  rw [hL] at h1 hl HC HSB HHB HSM ⊢
  rw [hM] at h1' hl' HC' HTB HZB HTL HTA ⊢
  clear hr hT hL hM ht0 HE HNO HR HR' HQ1 HQ2
  go_wp2
  go_loop [8, 29] (fun t i => ∃ j : Nat, j ≤ L ∧ i = .int .i64 j ∧ t = .int .i64 (smZ hs j)) (fun _ i => L - (intOf i).toNat)
  case atStart => exact ⟨0, Nat.zero_le _, rfl, rfl⟩
  case round =>
    obtain ⟨j, hj, rfl, rfl⟩ := hrel
    by_cases hlt : j < L
    case pos =>
      obtain ⟨⟨b, off⟩, rfl, hbl, hc0⟩ := HC.out w j hlt (Below.refl _ _)
      dsimp only at hc0 hbl
      have hs1 := HSB.out j hj
      have hz1 := HHB.out j hlt
      have HN : Hid (smZ hs (j + 1) = smZ hs j + hs.getD j 0) := rfl
      obtain ⟨x, hx⟩ : ∃ x, hs.getD j 0 = x := ⟨_, rfl⟩
      obtain ⟨s, hs'⟩ : ∃ s, smZ hs j = s := ⟨_, rfl⟩
      rw [hx] at hc0 hz1 HN
      rw [hs'] at hs1 HN ⊢
      have hi0 : (0 : Int) ≤ (j : Int) := by omega
      have hi1 : (j : Int) < (L : Int) := by omega
      clear hx hs'
      go_wp2
      go_round
      case rel => exact ⟨j + 1, by omega, by go_num, by rw [HN.out]⟩
      case measure => simp [intOf]; omega
    case neg =>
    obtain rfl : j = L := by omega
    rw [HSM.out]
    clear HSB HHB HC hlt hj
    obtain ⟨i0, hi, hz0, hz1, hz2⟩ := info_parts toLInfo
    go_wp2_with (at_make; refine wpList_make_full _ rfl _ _ 44 rfl w.heap.size 4 i0 (.bool false) 1 Try.underlying44 hi hz0 hz1 .i64 .i64 _ _ M rfl rfl rfl rfl (by rw [hz2]; omega) (by unfold maxLen; omega) (Nat.le_refl _) ?_)
    intro w2 ho hg
    have HX : Hid (w2.ownsRow w.heap.size 4 1 (.slice (some ⟨w.heap.size, 0, none⟩) M M) M ((mxB T 0).map Value.bool)) := by
      have e : (mxB T 0).map Value.bool = (madeCells #[Value.bool false] M).toList := by rw [toList_madeCells_one]; simp [mxB, HTL.out]
      show World.ownsRow _ _ _ _ _ _ _
      rw [e]; exact ho
    have HB2 : Hid (Below w.heap.size w w2) := grown_below hg (Nat.le_refl _) (by simp)
    clear ho hg
    go_wp2
    go_loopw [8, 42] (fun t i wr => ∃ j : Nat, j ≤ M ∧ i = .int .i64 j ∧ t = .int .i64 (tkN room t0 zs j) ∧ Hid (wr.ownsRow w.heap.size 4 1 (.slice (some ⟨w.heap.size, 0, none⟩) M M) M ((mxB T j).map Value.bool)) ∧ Hid (Below w.heap.size w wr)) (fun _ i _ => M - (intOf i).toNat)
    case atStart => exact ⟨0, Nat.zero_le _, rfl, rfl, HX.out, HB2.out⟩
    case round =>
      obtain ⟨k, hk, rfl, rfl, hO, hB⟩ := hrel
      clear HX HB2
      by_cases hkt : k < M
      case neg =>
        obtain rfl : k = M := by omega
        have HOF : Hid (Ob w.heap.size wr (.slice (some ⟨w.heap.size, 0, none⟩) k k) (adR hs room zs)) := by
          have h1 := hO.out
          rw [show mxB T k = T by have := mxB_full T; rw [HTL.out] at this; exact this] at h1
          show Ob _ _ _ _
          rw [HTR.out, Ob, HTL.out]; exact h1
        clear hO hkt hk HTB HZB
        go_wp2
        go_ret2
        exact ⟨_, by rw [HT.out]; rfl, HOF.out, hB.out⟩
      case pos =>
      obtain ⟨⟨b, off⟩, rfl, hbl, hc0⟩ := HC'.out wr k hkt hB.out
      dsimp only at hc0 hbl
      have hs1 := HTB.out k hk
      have hz1 := HZB.out k hkt
      have HN : Hid (tkN room t0 zs (k + 1) = if tkN room t0 zs k + zs.getD k 0 ≤ room then tkN room t0 zs k + zs.getD k 0 else tkN room t0 zs k) := rfl
      have HTK : Hid (T.getD k false = decide (tkN room t0 zs k + zs.getD k 0 ≤ room)) := HTA.out k hkt
      obtain ⟨x, hx⟩ : ∃ x, zs.getD k 0 = x := ⟨_, rfl⟩
      obtain ⟨s, hs'⟩ : ∃ s, tkN room t0 zs k = s := ⟨_, rfl⟩
      rw [hx] at hc0 hz1 HN HTK
      rw [hs'] at hs1 HN HTK ⊢
      have hi0 : (0 : Int) ≤ (k : Int) := by omega
      have hi1 : (k : Int) < (M : Int) := by omega
      clear hx hs'
      by_cases hq : s + x ≤ room
      case pos =>
        have hd : decide (s + x ≤ room) = true := decide_eq_true hq
        have HN2 : Hid (tkN room t0 zs (k + 1) = s + x) := by show _ = _; rw [HN.out, if_pos hq]
        have hml : (mxB T k).length = M := by rw [mxB_len T k (by rw [HTL.out]; exact hk), HTL.out]
        obtain ⟨y0, hd0⟩ : ∃ u, wr.cell? ⟨w.heap.size, k, none⟩ = some u := ⟨_, by rw [hO.out.cellAt k (by omega), List.getElem?_map, List.getElem?_eq_getElem (by rw [hml]; exact hkt)]; rfl⟩
        have hf0 := hO.out.frozenAt k
        have HS : Hid ((wr.setCell ⟨w.heap.size, k, none⟩ (.bool true)).ownsRow w.heap.size 4 1 (.slice (some ⟨w.heap.size, 0, none⟩) M M) M ((mxB T (k + 1)).map Value.bool)) := by
          have h1 := (hO.out.stored k (.bool true)).1
          have e := mxB_set T k (by rw [HTL.out]; exact hkt)
          rw [HTK.out, hd] at e
          show World.ownsRow _ _ _ _ _ _ _
          rw [← e]; exact h1
        have HBn : Hid (Below w.heap.size w (wr.setCell ⟨w.heap.size, k, none⟩ (.bool true))) := hB.out.setCell (by dsimp only; omega) _
        clear HN HTK hO hB hml
        go_wp2
        go_roundw
        case rel => exact ⟨k + 1, by omega, by go_num, by rw [HN2.out], HS.out, HBn.out⟩
        case measure => simp [intOf]; omega
      case neg =>
      have hd : decide (s + x ≤ room) = false := decide_eq_false hq
      have he : (s + x ≤ room) = False := eq_false hq
      have HN2 : Hid (tkN room t0 zs (k + 1) = s) := by show _ = _; rw [HN.out, if_neg hq]
      have HS : Hid (wr.ownsRow w.heap.size 4 1 (.slice (some ⟨w.heap.size, 0, none⟩) M M) M ((mxB T (k + 1)).map Value.bool)) := by
        rw [← mxB_no T k (by rw [HTL.out]; exact hkt) (by rw [HTK.out, hd])]; exact hO.out
      clear HN HTK hO hq
      go_wp2
      go_roundw
      case rel => exact ⟨k + 1, by omega, by go_num, by rw [HN2.out], HS.out, hB.out⟩
      case measure => simp [intOf]; omega

end Go.Proofs.Ytikgempdohpdjaa

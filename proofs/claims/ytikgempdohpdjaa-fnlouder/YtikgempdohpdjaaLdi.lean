/- The program: Loudness; no condition. -/
import Derived.Test.YtikgempdohpdjaaLdn
namespace Go.Proofs.Ytikgempdohpdjaa
open Go.RowKit Go.ChangeShapes Go.WideShapes Go.ChangeAt
set_option linter.unusedVariables false
set_option linter.unusedSimpArgs false
set_option maxRecDepth 8000

set_option maxHeartbeats 12800000 in
theorem loudI_c (v : Value) (g : List (List Int)) (noise want steps : Int) (w : World) (h : Rn w v g) : Calls Try.prog 22 #[v, .int .i64 noise, .int .i64 want, .int .i64 steps] w (LdR g noise want steps w) := by
  have HR : Hid (Rn w v g) := h
  obtain ⟨a, cap, hv, h1, h2, -⟩ := id h
  unfold maxLen at h2
  have HE : Hid (ldB g noise want steps = (gnB g && decide (1 ≤ noise ∧ noise ≤ 1000) && decide (1 ≤ want ∧ want ≤ 100) && decide (0 ≤ steps ∧ steps ≤ 50))) := rfl
  have HNO : Hid (ldB g noise want steps = false → ∀ W, Below w.heap.size w W → LdR g noise want steps w (.returned (.tuple #[.slice none 0 0, .bool false])) W) := fun e W hW => ⟨_, by rw [e], by rw [ldR_no e]; exact Ow.nil .i64 3 _ _, hW⟩
  have HNA : Hid (ldB g noise want steps = false → LdR g noise want steps w (.returned (.tuple #[.slice (some ⟨w.heap.size, 0, none⟩) 0 0, .bool false])) (w.alloc (Obj.cells #[] 3))) := fun e => ⟨_, by rw [e], by rw [ldR_no e]; exact Ow.empty .i64 3 _ w (Nat.le_refl _), (Below.refl _ _).alloc (Nat.le_refl _) _⟩
  clear h
  subst hv
  go_enter Try.func22, Try.ntmps22
  go_wp2_with (fail)
  refine (gainsI_c _ g _ HR.out).mono ?_
  rintro e w1 ⟨rfl, hw⟩
  rw [hw]
  clear hw w1
  obtain ⟨q1, hq1⟩ : ∃ q, gnB g = q := ⟨_, rfl⟩
  have HQ1 : Hid (gnB g = q1) := hq1
  rw [hq1]
  clear hq1
  cases q1 with
  | false =>
    have HF : Hid (ldB g noise want steps = false) := by show _ = _; rw [HE.out, HQ1.out]; rfl
    go_wp2
    go_ret2
    exact HNO.out HF.out _ (Below.refl _ _)
  | true =>
  go_wp2_with (fail)
  refine (within_c noise 1 1000 _).mono ?_
  rintro e w1 ⟨rfl, hw⟩
  rw [hw]
  clear hw w1
  by_cases hnoise : 1 ≤ noise ∧ noise ≤ 1000
  case neg =>
    have HF : Hid (ldB g noise want steps = false) := by show _ = _; rw [HE.out, decide_eq_false hnoise]; simp
    rw [decide_eq_false hnoise]
    clear hnoise
    go_wp2
    go_ret2
    exact HNO.out HF.out _ (Below.refl _ _)
  rw [decide_eq_true hnoise]
  go_wp2_with (fail)
  refine (within_c want 1 100 _).mono ?_
  rintro e w1 ⟨rfl, hw⟩
  rw [hw]
  clear hw w1
  by_cases hwant : 1 ≤ want ∧ want ≤ 100
  case neg =>
    have HF : Hid (ldB g noise want steps = false) := by show _ = _; rw [HE.out, decide_eq_false hwant]; simp
    rw [decide_eq_false hwant]
    clear hwant
    go_wp2
    go_ret2
    exact HNO.out HF.out _ (Below.refl _ _)
  rw [decide_eq_true hwant]
  go_wp2_with (fail)
  refine (within_c steps 0 50 _).mono ?_
  rintro e w1 ⟨rfl, hw⟩
  rw [hw]
  clear hw w1
  by_cases hsteps : 0 ≤ steps ∧ steps ≤ 50
  case neg =>
    have HF : Hid (ldB g noise want steps = false) := by show _ = _; rw [HE.out, decide_eq_false hsteps]; simp
    rw [decide_eq_false hsteps]
    clear hsteps
    go_wp2
    go_ret2
    exact HNO.out HF.out _ (Below.refl _ _)
  rw [decide_eq_true hsteps]
  have HT : Hid (ldB g noise want steps = true) := by show _ = _; rw [HE.out, HQ1.out, decide_eq_true hnoise, decide_eq_true hwant, decide_eq_true hsteps]; rfl
  have hg := gnB_ok HQ1.out
  have HG : Hid (GOk g) := hg
  have HLO : Hid (∀ s, LOk g.length (ldN g noise want s)) := ldN_ok hg hnoise.1 hnoise.2 hwant.1
  obtain ⟨N, rfl⟩ := Int.eq_ofNat_of_zero_le hsteps.1
  have HTR : Hid (ldR g noise want (N : Int) = ldN g noise want N) := by show _ = _; rw [ldR_yes HT.out]; rfl
  have hN : N ≤ 50 := by omega
  have hlo := hg.hi
  have HCI : Hid (∀ (s : Nat) (o : Value) (W : World), Below w.heap.size w W → Rd .i64 W o (ldN g noise want s) → Calls Try.prog 60 #[.slice a g.length cap, .int .i64 noise, .int .i64 want, o] W fun e w' => ∃ v', e = .returned v' ∧ Ow .i64 3 W.heap.size w' v' (ldN g noise want (s + 1)) ∧ Below W.heap.size W w') := fun s o W hW ho => nextI_c _ g noise want o _ W (HR.out.below hW) ho HG.out hnoise.1 hnoise.2 hwant.1 hwant.2 (HLO.out s)
  obtain ⟨T, hT⟩ : ∃ T, ldN g noise want 0 = T := ⟨_, rfl⟩
  have HTL : Hid (T.length = g.length) := by show _ = _; rw [← hT]; exact (HLO.out 0).len
  have HTA : Hid (∀ k, k < g.length → T.getD k 0 = 1) := fun k hk => by rw [← hT]; simp [ldN, List.getElem?_replicate, hk]
  have HT0 : Hid (ldN g noise want 0 = T) := hT
  obtain ⟨L, hL⟩ : ∃ L, g.length = L := ⟨_, rfl⟩
  rw [hL] at h1 hlo HTL HTA HCI ⊢
  obtain ⟨i0, hi, hz0, hz1, hz2⟩ := info_parts toIInfo
  clear hnoise hwant hsteps hg hT hL HE HNO HNA HR HQ1 HG HLO
  go_wp2_with (at_make; refine wpList_make_full _ rfl _ _ 27 rfl w.heap.size 3 i0 (.int .i64 0) 1 Try.underlying27 hi hz0 hz1 .i64 .i64 _ _ L rfl rfl rfl rfl (by rw [hz2]; omega) (by unfold maxLen; omega) (Nat.le_refl _) ?_)
  intro w2' ho hgm
  have HX : Hid (w2'.ownsRow w.heap.size 3 1 (.slice (some ⟨w.heap.size, 0, none⟩) L L) L ((mix T 0).map (Value.int .i64))) := by
    have e : (mix T 0).map (Value.int .i64) = (madeCells #[Value.int .i64 0] L).toList := by rw [toList_madeCells_one]; simp [mix, HTL.out]
    show World.ownsRow _ _ _ _ _ _ _
    rw [e]; exact ho
  have HB2 : Hid (Below w.heap.size w w2') := grown_below hgm (Nat.le_refl _) (by simp)
  clear ho hgm hi hz0 hz1 hz2
  go_wp2
  go_loopw [35] (fun i wr => ∃ j : Nat, j ≤ L ∧ i = .int .i64 j ∧ Hid (wr.ownsRow w.heap.size 3 1 (.slice (some ⟨w.heap.size, 0, none⟩) L L) L ((mix T j).map (Value.int .i64))) ∧ Hid (Below w.heap.size w wr)) (fun i _ => L - (intOf i).toNat)
  case atStart => exact ⟨0, Nat.zero_le _, rfl, HX.out, HB2.out⟩
  case round =>
    obtain ⟨j, hj, rfl, hO, hB⟩ := hrel
    clear HX HB2
    by_cases hlt : j < L
    case pos =>
      have hml : (mix T j).length = L := by rw [mix_len T j (by rw [HTL.out]; exact hj), HTL.out]
      obtain ⟨y0, hd0⟩ : ∃ y, wr.cell? ⟨w.heap.size, j, none⟩ = some y := ⟨_, by rw [hO.out.cellAt j (by omega), List.getElem?_map, List.getElem?_eq_getElem (by rw [hml]; exact hlt)]; rfl⟩
      have hf0 := hO.out.frozenAt j
      have HS : Hid ((wr.setCell ⟨w.heap.size, j, none⟩ (.int .i64 1)).ownsRow w.heap.size 3 1 (.slice (some ⟨w.heap.size, 0, none⟩) L L) L ((mix T (j + 1)).map (Value.int .i64))) := by
        have h1 := (hO.out.stored j (.int .i64 1)).1
        have e := mix_set .i64 T j (by rw [HTL.out]; exact hlt)
        rw [HTA.out j hlt] at e
        show World.ownsRow _ _ _ _ _ _ _
        rw [← e]; exact h1
      have HBn : Hid (Below w.heap.size w (wr.setCell ⟨w.heap.size, j, none⟩ (.int .i64 1))) := hB.out.setCell (by dsimp only; omega) _
      have hi0 : (0 : Int) ≤ (j : Int) := by omega
      have hi1 : (j : Int) < (L : Int) := by omega
      clear hO hB hml
      go_wp2
      go_roundw
      case rel => exact ⟨j + 1, by omega, by go_num, HS.out, HBn.out⟩
      case measure => simp [intOf]; omega
    case neg =>
    obtain rfl : j = L := by omega
    obtain ⟨o0, ho0⟩ : ∃ o, Value.slice (some ⟨w.heap.size, 0, none⟩) j j = o := ⟨_, rfl⟩
    have HO0 : Hid (Value.slice (some ⟨w.heap.size, 0, none⟩) j j = o0) := ho0
    have HOF : Hid (Ow .i64 3 w.heap.size wr o0 (ldN g noise want 0)) := by
      have h1 := hO.out
      rw [show mix T j = T by have := mix_full T; rw [HTL.out] at this; exact this] at h1
      rw [← ho0, HT0.out]
      show World.ownsRow _ _ _ _ _ _ _
      rw [HTL.out]; exact h1
    clear hO hlt hj ho0 HTL HTA HT0
    go_wp2
    rw [HO0.out]
    clear HO0
    go_loopw [10, 43] (fun o i wr => ∃ (s : Nat) (o' : Value), s ≤ N ∧ i = .int .i64 s ∧ o' = o ∧ Hid (Ow .i64 3 w.heap.size wr o' (ldN g noise want s)) ∧ Hid (Below w.heap.size w wr)) (fun _ i _ => N - (intOf i).toNat)
    case atStart => exact ⟨0, _, Nat.zero_le _, rfl, rfl, HOF.out, hB.out⟩
    case round =>
      obtain ⟨s, o', hs, rfl, ho', hO, hB2⟩ := hrel
      subst ho'
      clear HOF
      by_cases hst : s < N
      case pos =>
        have hsI : (s : Int) < (N : Int) := by omega
        have HRO : Hid (Rd .i64 wr o' (ldN g noise want s)) := hO.out.rd
        go_wp2_with (fail)
        refine (HCI.out s o' _ hB2.out HRO.out).mono ?_
        rintro e w5 ⟨v5, rfl, o5, b5⟩
        have HO5 : Hid (Ow .i64 3 w.heap.size w5 v5 (ldN g noise want (s + 1))) := o5.mono hB2.out.size
        have HB5 : Hid (Below w.heap.size w w5) := belowCall hB2.out b5 hB2.out.size
        clear o5 b5 hO hB2 HRO
        go_wp2
        go_roundw
        case rel => exact ⟨s + 1, _, by omega, by go_num, rfl, HO5.out, HB5.out⟩
        case measure => simp [intOf]; omega
      case neg =>
      obtain rfl : s = N := by omega
      clear hst hs
      go_wp2
      go_ret2
      exact ⟨_, by rw [HT.out]; rfl, by rw [HTR.out]; exact hO.out, hB2.out⟩

end Go.Proofs.Ytikgempdohpdjaa

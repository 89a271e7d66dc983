/- Train, as the specification has it; no condition. -/
import Derived.Test.YtomgdlnpajfjhaaReg5
namespace Go.Proofs.Ytomgdlnpajfjhaa
open Go.RowKit Go.ChangeShapes Go.WideShapes Go.ChangeAt
set_option linter.unusedVariables false
set_option linter.unusedSimpArgs false
set_option maxRecDepth 8000

theorem sgB_fi (a : Int) (h0 : 0 ≤ a) (h1 : a ≤ 1) : floatOfInt .f32 (2 * a - 1) = sgB a := by
  rcases (show a = 0 ∨ a = 1 by omega) with rfl | rfl <;> decide +kernel
set_option maxHeartbeats 1600000 in
theorem of15_c (a b : Int) (a0 : 0 ≤ a) (a1 : a ≤ 1) (b0 : 0 ≤ b) (b1 : b ≤ 1) (w : World) : Calls Try.prog 44 #[.int .i64 a, .int .i64 b] w fun e w' => e = .returned (.agg #[.float .f32 (sgB a), .float .f32 (sgB b)]) ∧ Below w.heap.size w w' := by
  have hsf := storeF
  have ha := sgB_fi a a0 a1
  have hb := sgB_fi b b0 b1
  obtain ⟨x, hx⟩ : ∃ x, sgB a = x := ⟨_, rfl⟩
  obtain ⟨y, hy⟩ : ∃ y, sgB b = y := ⟨_, rfl⟩
  rw [hx] at ha ⊢
  rw [hy] at hb ⊢
  clear hx hy
  go_enter Try.func44, Try.ntmps44
  go_wp2
  exact bodyPost_ret (results_cell_row rfl _ _ _ 27 _ (0, 0) _ rfl (Blk.new _ _ _) Try.underlying27 rfl sz26) rfl ⟨rfl, (Below.refl _ _).alloc (Nat.le_refl _) _⟩
set_option maxHeartbeats 6400000 in
theorem trainM_c (w : World) : Calls Try.prog 43 #[] w fun e w' => ∃ v', e = .returned v' ∧ Og 2 smC 27 w.heap.size w' v' trL ∧ Below w.heap.size w w' := by
  obtain ⟨T, hT⟩ : ∃ T, trL = T := ⟨_, rfl⟩
  have HTL : Hid (T.length = 26) := by show T.length = 26; rw [← hT]; exact trL_len
  have HTA : Hid (∀ k (h : k < T.length), T[k] = (sgB (st k % 2), sgB (st k % 2))) := by show ∀ k (h : k < T.length), T[k] = _; rw [← hT]; exact trL_at
  rw [hT]
  clear hT
  obtain ⟨P, hP⟩ : ∃ P, w.heap.size = P := ⟨_, rfl⟩
  have HP : Hid (w.heap.size = P) := hP
  obtain ⟨W0, hW0⟩ : ∃ W, w.alloc (Obj.cells #[] 27) = W := ⟨_, rfl⟩
  have HW0 : Hid (w.alloc (Obj.cells #[] 27) = W0) := hW0
  have HO0 : Hid (Og 2 smC 27 P W0 (.slice (some ⟨P, 0, none⟩) 0 0) (T.take 0)) := by rw [← hW0, ← hP]; exact World.ownsRow_lit w #[] 0 (Nat.le_refl _) (by simp) (by simp)
  have HB0 : Hid (Below P w W0) := by rw [← hW0, ← hP]; exact (Below.refl _ _).alloc (Nat.le_refl _) _
  clear hW0 hP
  go_enter Try.func43, Try.ntmps43
  rw [HP.out]
  go_wp2
  rw [HW0.out, HP.out]
  go_loopw [1, 2, 3] (fun o r i wr => ∃ (j : Nat) (o' : Value), j ≤ 26 ∧ i = .int .i64 j ∧ r = .int .i64 (st j) ∧ o' = o ∧ Hid (Og 2 smC 27 P wr o' (T.take j)) ∧ Hid (Below P w wr)) (fun _ _ i _ => 26 - (intOf i).toNat)
  case atStart => exact ⟨0, _, by omega, rfl, rfl, rfl, HO0.out, HB0.out⟩
  case round =>
    obtain ⟨j, o', hj, rfl, rfl, ho', hO, hB⟩ := hrel
    subst ho'
    clear HO0 HB0
    by_cases hlt : j < 26
    case neg =>
      obtain rfl : j = 26 := by omega
      have HOF := hO.out
      rw [show T.take 26 = T from List.take_of_length_le (by rw [HTL.out]; omega)] at HOF
      have HOF' : Hid (Og 2 smC 27 P wr o' T) := HOF
      clear hO hlt hj HOF
      go_wp2
      go_ret
      exact ⟨_, rfl, HOF'.out, hB.out⟩
    case pos =>
    have hjl : j < T.length := by rw [HTL.out]; exact hlt
    have sb := st_bd j (by omega)
    have sb0 := sb.1
    have sb1 := sb.2
    have hm : (st j).tmod 2 = st j % 2 := Int.tmod_eq_emod_of_nonneg sb0
    have hq : (st j).tdiv 2 = st j / 2 := Int.tdiv_eq_ediv_of_nonneg sb0
    have hstep := st_step j hlt
    obtain ⟨s, hs⟩ : ∃ s, st j = s := ⟨_, rfl⟩
    have hta : T[j] = (sgB (s % 2), sgB (s % 2)) := by rw [HTA.out j hjl, hs]
    rw [hs] at hm hq hstep sb0 sb1 ⊢
    have HST : Hid (st (j + 1) = nxt s 20) := hstep
    clear sb hs hstep
    go_wp2_with (fail)
    refine (of15_c (s % 2) (s % 2) (by omega) (by omega) (by omega) (by omega) _).mono ?_
    rintro e w2 ⟨rfl, b2⟩
    obtain ⟨u, hu⟩ : ∃ u, sgB (s % 2) = u := ⟨_, rfl⟩
    rw [hu] at hta ⊢
    have HO2 : Hid (Og 2 smC 27 P w2 o' (T.take j)) := hO.out.below b2
    have HB2 : Hid (Below P w w2) := hB.out.trans (b2.mono (by rw [← HP.out]; exact hB.out.size))
    have HTJ : Hid (T.take j ++ [(u, u)] = T.take (j + 1)) := by show _ = _; rw [← hta, List.take_append_getElem]
    obtain ⟨W3, hW3⟩ : ∃ W, w2.alloc (Obj.cells #[.float .f32 u, .float .f32 u] 27) = W := ⟨_, rfl⟩
    have HW3 : Hid (w2.alloc (Obj.cells #[.float .f32 u, .float .f32 u] 27) = W3) := hW3
    have ba : Below w2.heap.size w2 W3 := by rw [← hW3]; exact (Below.refl _ _).alloc (Nat.le_refl _) _
    have HO3 : Hid (Og 2 smC 27 P W3 o' (T.take j)) := HO2.out.below ba
    have HB3 : Hid (Below P w W3) := HB2.out.trans (ba.mono (by rw [← HP.out]; exact HB2.out.size))
    have HK3 : Hid (Blk W3 w2.heap.size #[.float .f32 u, .float .f32 u] 27) := by rw [← hW3]; exact Blk.new _ _ _
    have HS3 : Hid (P ≤ W3.heap.size) := by have := HB3.out.size; show P ≤ _; have := HP.out; omega
    clear b2 hO hB hta hu ba hW3 HO2 HB2
    go_wp2_with (at_builtin; rw [HW3.out]; refine appSm rfl _ _ rfl P _ (T.take j) rfl HO3.out w2.heap.size u u rfl HK3.out (by simp; omega) (by exact HS3.out) ?_)
    intro v6 w6 o6 g6
    have HO6 : Hid (Og 2 smC 27 P w6 v6 (T.take (j + 1))) := by rw [← HTJ.out]; exact o6
    have HB6 : Hid (Below P w w6) := HB3.out.trans (grown_below g6 HS3.out (fun k e => (HO3.out.lt k e).1))
    clear o6 g6 HK3 HS3 HO3 HB3 HW3
    by_cases hb : s % 2 = 1
    · have HN : Hid (st (j + 1) = bits .xor .i64 (s / 2) 20) := by show _ = _; rw [HST.out]; unfold nxt; rw [if_pos hb]
      have hbb : (s % 2 == 1) = true := by simp [hb]
      clear hb
      go_wp2
      go_roundw
      case rel => exact ⟨j + 1, _, by omega, by go_num, by rw [HN.out], rfl, HO6.out, HB6.out⟩
      case measure => simp [intOf]; omega
    · have HN : Hid (st (j + 1) = s / 2) := by show _ = _; rw [HST.out]; unfold nxt; rw [if_neg hb]
      have hbb : (s % 2 == 1) = false := by simp [hb]
      clear hb
      go_wp2
      go_roundw
      case rel => exact ⟨j + 1, _, by omega, by go_num, by rw [HN.out], rfl, HO6.out, HB6.out⟩
      case measure => simp [intOf]; omega

end Go.Proofs.Ytomgdlnpajfjhaa

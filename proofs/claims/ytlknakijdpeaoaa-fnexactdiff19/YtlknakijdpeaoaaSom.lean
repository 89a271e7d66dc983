/- The model's SettingsOk; no condition. -/
import Derived.Test.YtlknakijdpeaoaaSor
import Derived.WalkSmall
namespace Go.Proofs.Ytlknakijdpeaoaa
open Go.RowKit Go.ChangeShapes Go.WideShapes Go.ChangeAt
set_option linter.unusedVariables false
set_option linter.unusedSimpArgs false
set_option maxRecDepth 8000

theorem st_t {r : Se} (h1 : wB r.nm = true) (h2 : vB r.vl = true) : stB r = true := by unfold stB; rw [h1, h2]; rfl
theorem st_f1 {r : Se} (h1 : wB r.nm = false) : stB r = false := by unfold stB; rw [h1]; rfl
theorem st_f2 {r : Se} (h2 : vB r.vl = false) : stB r = false := by unfold stB; rw [h2, Bool.and_false]
set_option maxHeartbeats 6400000 in
theorem setM_c (v : Value) (ls : Ses) (w : World) (h : Rs w v ls) (hsz : ∀ r ∈ ls, r.nm.size ≤ 1048576 ∧ r.vl.size ≤ 1048576) (hln : ls.length ≤ 1048576) : Calls Try.prog 16 #[v] w fun e w' => e = .returned (.bool (sB ls)) ∧ Below w.heap.size w w' := by
  obtain ⟨a, cap, rfl, h1, h2, h3⟩ := h
  unfold maxLen at h2
  go_enter Try.func16, Try.ntmps16
  go_wp2
  go_loopw [3] (fun i wr => ∃ j : Nat, j ≤ ls.length ∧ i = .int .i64 j ∧ Hid (SoT ls j) ∧ Hid (Below w.heap.size w wr)) (fun i _ => ls.length - (intOf i).toNat)
  case atStart => exact ⟨0, Nat.zero_le _, rfl, SoT.zero ls, Below.refl _ _⟩
  case round =>
    obtain ⟨j, hj, rfl, hA, hbr⟩ := hrel
    by_cases hlt : j < ls.length
    case neg =>
      obtain rfl : j = ls.length := by omega
      have hF := hA.out.fin
      clear h3
      by_cases h40 : ls.length ≤ 40
      · rw [decide_eq_true h40] at hF
        have HF : Hid (sB ls = true) := hF
        have q1 : (ls.length : Int) ≤ 40 := by omega
        clear hF
        go_wp2
        go_ret
        exact ⟨by rw [HF.out]; rfl, hbr.out⟩
      · rw [decide_eq_false h40] at hF
        have HF : Hid (sB ls = false) := hF
        have q1 : ¬ ((ls.length : Int) ≤ 40) := by omega
        clear hF
        go_wp2
        go_ret
        exact ⟨by rw [HF.out]; rfl, hbr.out⟩
    case pos =>
    rcases h3 with h3 | ⟨b, off, rfl, h4⟩
    · subst h3; simp at hlt
    have hc := h4 j hlt
    have hcb : b < w.heap.size := block_lt_of_cell hc.1
    obtain ⟨r, hr⟩ : ∃ r, ls[j] = r := ⟨_, rfl⟩
    have hm := hsz _ (List.getElem_mem hlt)
    rw [hr] at hc hm
    have e0 := (hbr.out.cell (p := ⟨b, off + j * 2, none⟩) hcb).trans hc.1
    have e1 := (hbr.out.cell (p := ⟨b, off + j * 2 + 1, none⟩) hcb).trans hc.2
    have hjI : (j : Int) < (ls.length : Int) := by omega
    have HR : Hid (ls[j] = r) := hr
    clear hc hr
    cases hw1 : wB r.nm with
    | false =>
      have HC1 : Hid (∀ W, Calls Try.prog 14 #[.string r.nm] W fun e w' => e = .returned (.bool false) ∧ w' = W) := fun W => by rw [← hw1]; exact wordM_c _ W (by omega)
      have HF : Hid (sB ls = false) := sB_bad hlt (by rw [HR.out]; exact st_f1 hw1)
      clear h4 hw1
      go_wp2_with (fail)
      go_quiet (first | (go_at_call 14; exact Calls.quiet_of_same (HC1.out _)))
      obtain ⟨wy, hwy⟩ : ∃ W, wr.drewN nq = W := ⟨_, rfl⟩
      have HBy : Hid (Below w.heap.size w wy) := by rw [← hwy]; exact below_drewN hbr.out _
      rw [hwy]
      clear hwy e0 e1
      go_wp2
      go_ret
      exact ⟨by rw [HF.out]; rfl, HBy.out⟩
    | true =>
    have HC1 : Hid (∀ W, Calls Try.prog 14 #[.string r.nm] W fun e w' => e = .returned (.bool true) ∧ w' = W) := fun W => by rw [← hw1]; exact wordM_c _ W (by omega)
    cases hv1 : vB r.vl with
    | false =>
      have HC2 : Hid (∀ W, Calls Try.prog 33 #[.string r.vl] W fun e w' => e = .returned (.bool false) ∧ w' = W) := fun W => by rw [← hv1]; exact valM_c _ W (by omega)
      have HF : Hid (sB ls = false) := sB_bad hlt (by rw [HR.out]; exact st_f2 hv1)
      clear h4 hw1 hv1
      go_wp2_with (fail)
      go_quiet (first | (go_at_call 14; exact Calls.quiet_of_same (HC1.out _)) | (go_at_call 33; exact Calls.quiet_of_same (HC2.out _)))
      obtain ⟨wy, hwy⟩ : ∃ W, wr.drewN nq = W := ⟨_, rfl⟩
      have HBy : Hid (Below w.heap.size w wy) := by rw [← hwy]; exact below_drewN hbr.out _
      rw [hwy]
      clear hwy e0 e1
      go_wp2
      go_ret
      exact ⟨by rw [HF.out]; rfl, HBy.out⟩
    | true =>
    have HC2 : Hid (∀ W, Calls Try.prog 33 #[.string r.vl] W fun e w' => e = .returned (.bool true) ∧ w' = W) := fun W => by rw [← hv1]; exact valM_c _ W (by omega)
    have HST : Hid (stB ls[j] = true) := by show stB ls[j] = true; rw [HR.out]; exact st_t hw1 hv1
    cases j with
    | zero =>
      have HN : Hid (SoT ls 1) := SoT.one hlt HST.out
      clear h4 hw1 hv1
      rw [Nat.zero_mul, Nat.add_zero] at e0 e1
      go_wp2_with (fail)
      go_quiet (first | (go_at_call 14; exact Calls.quiet_of_same (HC1.out _)) | (go_at_call 33; exact Calls.quiet_of_same (HC2.out _)))
      obtain ⟨wy, hwy⟩ : ∃ W, wr.drewN nq = W := ⟨_, rfl⟩
      have HBy : Hid (Below w.heap.size w wy) := by rw [← hwy]; exact below_drewN hbr.out _
      rw [hwy]
      clear hwy e0 e1
      go_wp2
      go_roundw
      case rel => exact ⟨1, by omega, by go_num, HN.out, HBy.out⟩
      case measure => simp [intOf]; omega
    | succ k =>
    have hc0 := h4 k (by omega)
    obtain ⟨r0, hr0⟩ : ∃ r0, ls[k] = r0 := ⟨_, rfl⟩
    rw [hr0] at hc0
    have p0 := (hbr.out.cell (p := ⟨b, off + k * 2, none⟩) hcb).trans hc0.1
    cases hb1 : bl r0.nm r.nm with
    | false =>
      have HF : Hid (sB ls = false) := sB_far hlt (by rw [HR.out, hr0]; exact hb1)
      have hbb : Op.bytesLess r0.nm.toList r.nm.toList = false := hb1
      clear h4 hw1 hv1 hc0 hb1 hr0
      go_wp2_with (fail)
      go_quiet (first | (go_at_call 14; exact Calls.quiet_of_same (HC1.out _)) | (go_at_call 33; exact Calls.quiet_of_same (HC2.out _)))
      obtain ⟨wy, hwy⟩ : ∃ W, wr.drewN nq = W := ⟨_, rfl⟩
      have HBy : Hid (Below w.heap.size w wy) := by rw [← hwy]; exact below_drewN hbr.out _
      rw [hwy]
      clear hwy e0 e1
      go_wp2
      go_ret
      exact ⟨by rw [HF.out]; rfl, HBy.out⟩
    | true =>
      have HN : Hid (SoT ls (k + 1 + 1)) := hA.out.next hlt HST.out (by rw [HR.out, hr0]; exact hb1)
      have hbb : Op.bytesLess r0.nm.toList r.nm.toList = true := hb1
      clear h4 hw1 hv1 hc0 hb1 hr0
      go_wp2_with (fail)
      go_quiet (first | (go_at_call 14; exact Calls.quiet_of_same (HC1.out _)) | (go_at_call 33; exact Calls.quiet_of_same (HC2.out _)))
      obtain ⟨wy, hwy⟩ : ∃ W, wr.drewN nq = W := ⟨_, rfl⟩
      have HBy : Hid (Below w.heap.size w wy) := by rw [← hwy]; exact below_drewN hbr.out _
      rw [hwy]
      clear hwy e0 e1
      go_wp2
      go_roundw
      case rel => exact ⟨k + 1 + 1, by omega, by go_num, HN.out, HBy.out⟩
      case measure => simp [intOf]; omega

end Go.Proofs.Ytlknakijdpeaoaa

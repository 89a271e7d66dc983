/- isTaken and zoneOk; no condition. -/
import Derived.Test.YtdnophdldpophaaTMa
import Derived.Test.YtdnophdldpophaaSu
namespace Go.Proofs.Ytdnophdldpophaa
open Go.RowKit Go.ChangeShapes Go.WideShapes Go.ChangeAt
set_option linter.unusedVariables false
set_option linter.unusedSimpArgs false
set_option maxRecDepth 8000
theorem zoneOk_c (z : Int) (w : World) : Calls Try.prog 50 #[.int .i64 z] w fun e w' => e = .returned (.bool (decide (0 ≤ z ∧ z ≤ 99))) ∧ w' = w := by
  go_enter Try.func50, Try.ntmps50
  go_wp2_with (fail)
  refine (within_c _ _ _ _).mono ?_
  rintro e w1 ⟨rfl, rfl⟩
  go_wp2
  go_ret
  exact ⟨by simp, rfl⟩
set_option maxHeartbeats 3200000 in
theorem taken_c (v : Value) (ls : List Tf) (z f : Int) (w : World) (h : Rg 5 tfC w v ls) :
   Calls Try.prog 43 #[v, .int .i64 z, .int .i64 f] w fun e w' => e = .returned (.bool (tkn ls z f)) ∧ Below w.heap.size w w' := by
  obtain ⟨a, cap, rfl, h1, h2, h3⟩ := h
  unfold maxLen at h2
  go_enter Try.func43, Try.ntmps43
  go_wp2
  go_loopw [11] (fun i wr => ∃ j : Nat, j ≤ ls.length ∧ i = .int .i64 j ∧ Hid (∀ t (ht : t < j) (h : t < ls.length), ¬ (ls[t].1 = z ∧ ls[t].2.1 = f)) ∧ Hid (Below w.heap.size w wr)) (fun i _ => ls.length - (intOf i).toNat)
  case atStart => exact ⟨0, Nat.zero_le _, rfl, fun t ht => by omega, Below.refl _ _⟩
  case round =>
    obtain ⟨j, hj, rfl, hA, hbr⟩ := hrel
    by_cases hlt : j < ls.length
    case neg =>
      obtain rfl : j = ls.length := by omega
      have HN : Hid (tkn ls z f = false) := by
        show tkn ls z f = false
        cases hq : tkn ls z f with
        | false => rfl
        | true =>
          obtain ⟨k, hk, he⟩ := (tkn_iff ls z f).1 hq
          exact absurd he (hA.out k hk hk)
      clear h3
      go_wp2
      go_ret
      exact ⟨by rw [HN.out]; rfl, hbr.out⟩
    case pos =>
    rcases h3 with h3 | ⟨b, off, rfl, h4⟩
    · subst h3; simp at hlt
    have hcb : b < w.heap.size := block_lt_of_cell (h4 j hlt 0 _ rfl)
    obtain ⟨r, hr⟩ : ∃ r, ls[j] = r := ⟨_, rfl⟩
    have HR : Hid (ls[j] = r) := hr
    have hc := rangeAt_below (h4 j hlt) hbr.out hcb
    rw [hr] at hc
    have e0 : wr.cell? ⟨b, off + j * 5, none⟩ = some (.int .i64 r.1) := hc 0 _ rfl
    have e1 : wr.cell? ⟨b, off + j * 5 + 1, none⟩ = some (.int .i64 r.2.1) := hc 1 _ rfl
    have e2 : wr.cell? ⟨b, off + j * 5 + 2, none⟩ = some (.int .i64 r.2.2.1) := hc 2 _ rfl
    have e3 : wr.cell? ⟨b, off + j * 5 + 3, none⟩ = some (.int .i64 r.2.2.2.1) := hc 3 _ rfl
    have e4 : wr.cell? ⟨b, off + j * 5 + 4, none⟩ = some (.int .i64 r.2.2.2.2) := hc 4 _ rfl
    have HB2 : Hid (Below w.heap.size w (wr.alloc (Obj.cells #[.int .i64 r.1, .int .i64 r.2.1, .int .i64 r.2.2.1, .int .i64 r.2.2.2.1, .int .i64 r.2.2.2.2] 32))) := hbr.out.alloc hbr.out.size _
    clear h4 hc hr
    have HS : Hid (¬ (r.1 = z ∧ r.2.1 = f) → ∀ t (ht : t < j + 1) (h : t < ls.length), ¬ (ls[t].1 = z ∧ ls[t].2.1 = f)) := fun hne t htt h => by
      by_cases htj : t < j
      · exact hA.out t htj h
      · obtain rfl : t = j := by omega
        rw [HR.out]; exact hne
    by_cases hz : (r.1 == z) = true
    · by_cases hf : (r.2.1 == f) = true
      · have HT : Hid (tkn ls z f = true) := by
          show tkn ls z f = true
          exact (tkn_iff ls z f).2 ⟨j, hlt, by rw [HR.out]; simpa using hz, by rw [HR.out]; simpa using hf⟩
        go_wp2
        go_ret
        exact ⟨by rw [HT.out]; rfl, HB2.out⟩
      · have hf' : (r.2.1 == f) = false := by simpa using hf
        have HS' : Hid (∀ t (ht : t < j + 1) (h : t < ls.length), ¬ (ls[t].1 = z ∧ ls[t].2.1 = f)) := HS.out (fun h => hf (by simpa using h.2))
        clear hf HS
        go_wp2
        go_roundw
        case rel => exact ⟨j + 1, by omega, by go_num, HS'.out, HB2.out⟩
        case measure => simp [intOf]; omega
    · have hz' : (r.1 == z) = false := by simpa using hz
      have HS' : Hid (∀ t (ht : t < j + 1) (h : t < ls.length), ¬ (ls[t].1 = z ∧ ls[t].2.1 = f)) := HS.out (fun h => hz (by simpa using h.1))
      clear hz HS
      go_wp2
      go_roundw
      case rel => exact ⟨j + 1, by omega, by go_num, HS'.out, HB2.out⟩
      case measure => simp [intOf]; omega
end Go.Proofs.Ytdnophdldpophaa

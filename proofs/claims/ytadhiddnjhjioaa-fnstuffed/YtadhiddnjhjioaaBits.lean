/- Contracts of the tests whether all numbers of a slice are bits (the model's and the program's), and the plain function that Stuff computes; no condition. -/
import Derived.Test.YtadhiddnjhjioaaApp
namespace Go.Proofs.Ytadhiddnjhjioaa
open Go.RowKit Go.ChangeShapes Go.WideShapes Go.ChangeAt
set_option linter.unusedVariables false
set_option linter.unusedSimpArgs false
def isBit (z : Int) : Bool := decide (z = 0) || decide (z = 1)
def areB (zs : List Int) : Bool := zs.all isBit
theorem areB_iff (zs : List Int) : areB zs = true ↔ ∀ t, t < zs.length → isBit (zs.getD t 0) = true := by
  unfold areB
  rw [List.all_eq_true]
  constructor
  · intro h t ht
    have := h _ (List.getElem_mem ht)
    simpa [List.getElem?_eq_getElem ht] using this
  · intro h z hz
    obtain ⟨i, hi, rfl⟩ := List.mem_iff_getElem.1 hz
    have := h i hi
    simpa [List.getElem?_eq_getElem hi] using this
theorem areB_no {zs : List Int} {t : Nat} (ht : t < zs.length) (h : isBit (zs.getD t 0) = false) : areB zs = false := by
  cases hb : areB zs with
  | false => rfl
  | true => rw [(areB_iff zs).1 hb t ht] at h; cases h
theorem bit_cases {z : Int} (h : isBit z = true) : z = 0 ∨ z = 1 := by simpa [isBit] using h
theorem bit_no {z : Int} (h : isBit z = false) : z ≠ 0 ∧ z ≠ 1 := by simpa [isBit] using h
set_option maxHeartbeats 800000 in
theorem bits_impl (v : Value) (zs : List Int) (w : World) (h : Rd .i64 w v zs) :
   Calls Try.prog 60 #[v] w fun e w' => e = .returned (.bool (areB zs)) ∧ w' = w := by
  obtain ⟨a, cap, rfl, h1, h2, h3⟩ := h
  unfold maxLen at h2
  go_enter Try.func60, Try.ntmps60
  go_wp2
  go_loop [7] (fun i => ∃ j : Nat, j ≤ zs.length ∧ i = .int .i64 j ∧ Hid (∀ t, t < j → isBit (zs.getD t 0) = true)) (fun i => zs.length - (intOf i).toNat)
  case atStart => exact ⟨0, Nat.zero_le _, rfl, fun t ht => by omega⟩
  case round =>
    obtain ⟨j, hj, rfl, hall⟩ := hrel
    by_cases hlt : j < zs.length
    · rcases h3 with h3 | ⟨b, off, rfl, h4⟩
      · subst h3; simp at hlt
      have hc := h4 j hlt
      have hi : (0 : Int) ≤ (j : Int) := by omega
      have hi2 : (j : Int) < (zs.length : Int) := by omega
      clear h4
      generalize hzj : zs.getD j 0 = z at hc
      have HZ : Hid (zs.getD j 0 = z) := hzj
      clear hzj
      cases hbit : isBit z with
      | true =>
        have hfin : ∀ t, t < j + 1 → isBit (zs.getD t 0) = true := by
          intro t ht
          by_cases htj : t < j
          · exact hall.out t htj
          · obtain rfl : t = j := by omega
            rw [HZ.out]; exact hbit
        have HF := hfin
        clear hfin
        have HF' : Hid (∀ t, t < j + 1 → isBit (zs.getD t 0) = true) := HF
        clear HF hall
        rcases bit_cases hbit with rfl | rfl
        · clear hbit
          go_wp2
          go_round
          case rel => exact ⟨j + 1, by omega, by go_num, HF'⟩
          case measure => simp [intOf]; omega
        · clear hbit
          go_wp2
          go_round
          case rel => exact ⟨j + 1, by omega, by go_num, HF'⟩
          case measure => simp [intOf]; omega
      | false =>
        have hno := areB_no hlt (by rw [HZ.out]; exact hbit)
        obtain ⟨n0, n1⟩ := bit_no hbit
        have m0 : (z != 0) = true := by rw [bne_iff_ne]; exact n0
        have m1 : (z != 1) = true := by rw [bne_iff_ne]; exact n1
        clear hbit n0 n1
        go_wp2
        go_ret
        exact ⟨rfl, rfl⟩
    · obtain rfl : j = zs.length := by omega
      have hyes : areB zs = true := (areB_iff zs).2 hall.out
      clear h3 hall
      go_wp2
      go_ret
      exact ⟨rfl, rfl⟩
set_option maxHeartbeats 800000 in
theorem bits_spec (v : Value) (zs : List Int) (m : Int) (w : World) (h : Rd .i64 w v zs) :
   Calls Try.prog 62 #[v, .int .i64 m] w fun e w' => e = .returned (.bool (areB zs && decide ((zs.length : Int) ≤ m))) ∧ w' = w := by
  obtain ⟨a, cap, rfl, h1, h2, h3⟩ := h
  unfold maxLen at h2
  go_enter Try.func62, Try.ntmps62
  go_wp2
  go_loop [5] (fun i => ∃ j : Nat, j ≤ zs.length ∧ i = .int .i64 j ∧ Hid (∀ t, t < j → isBit (zs.getD t 0) = true)) (fun i => zs.length - (intOf i).toNat)
  case atStart => exact ⟨0, Nat.zero_le _, rfl, fun t ht => by omega⟩
  case round =>
    obtain ⟨j, hj, rfl, hall⟩ := hrel
    by_cases hlt : j < zs.length
    · rcases h3 with h3 | ⟨b, off, rfl, h4⟩
      · subst h3; simp at hlt
      have hc := h4 j hlt
      have hi : (0 : Int) ≤ (j : Int) := by omega
      have hi2 : (j : Int) < (zs.length : Int) := by omega
      clear h4
      generalize hzj : zs.getD j 0 = z at hc
      have HZ : Hid (zs.getD j 0 = z) := hzj
      clear hzj
      cases hbit : isBit z with
      | true =>
        have hfin : ∀ t, t < j + 1 → isBit (zs.getD t 0) = true := by
          intro t ht
          by_cases htj : t < j
          · exact hall.out t htj
          · obtain rfl : t = j := by omega
            rw [HZ.out]; exact hbit
        have HF := hfin
        clear hfin
        have HF' : Hid (∀ t, t < j + 1 → isBit (zs.getD t 0) = true) := HF
        clear HF hall
        rcases bit_cases hbit with rfl | rfl
        · clear hbit
          go_wp2
          go_round
          case rel => exact ⟨j + 1, by omega, by go_num, HF'⟩
          case measure => simp [intOf]; omega
        · clear hbit
          go_wp2
          go_round
          case rel => exact ⟨j + 1, by omega, by go_num, HF'⟩
          case measure => simp [intOf]; omega
      | false =>
        have hno := areB_no hlt (by rw [HZ.out]; exact hbit)
        obtain ⟨n0, n1⟩ := bit_no hbit
        clear hbit
        by_cases hz0 : 0 ≤ z
        · have hz1 : ¬ z ≤ 1 := by omega
          clear n0 n1
          go_wp2
          go_ret
          exact ⟨rfl, rfl⟩
        · clear n0 n1
          go_wp2
          go_ret
          exact ⟨rfl, rfl⟩
    · obtain rfl : j = zs.length := by omega
      have hyes : areB zs = true := (areB_iff zs).2 hall.out
      clear h3 hall
      go_wp2
      go_ret
      exact ⟨rfl, rfl⟩
end Go.Proofs.Ytadhiddnjhjioaa

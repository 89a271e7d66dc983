/- The program's TariffAt; no condition. -/
import Derived.Test.YtdnophdldpophaaTH
import Derived.Test.YtdnophdldpophaaTM
namespace Go.Proofs.Ytdnophdldpophaa
open Go.RowKit Go.ChangeShapes Go.WideShapes Go.ChangeAt
set_option linter.unusedVariables false
set_option linter.unusedSimpArgs false
set_option maxRecDepth 8000
def hoG (z t : Int) : List Tf → Nat → Int → Int → Int
  | [], _, p, _ => p
  | x :: r, j, p, m => if x.1 = z then (if ago x.2.1 t < m then hoG z t r (j + 1) j (ago x.2.1 t) else hoG z t r (j + 1) p m) else hoG z t r (j + 1) p m
/-- the place of the tariff that holds, or -1 -/
def hoF (ls : List Tf) (z t : Int) : Int := hoG z t ls 0 (-1) 86400
theorem hoG_s (ls : List Tf) (z t : Int) : ∀ (r : List Tf) (j : Nat) (p m : Int), HoP ls z t j p m → ls.drop j = r → j ≤ ls.length → HoS ls z t (hoG z t r j p m)
  | [], j, p, m, h, hd, hj => by
    have : ls.length ≤ j := by simpa using hd
    obtain rfl : j = ls.length := by omega
    exact h.done
  | x :: r, j, p, m, h, hd, hj => by
    have hlt : j < ls.length := by
      by_cases hc : j < ls.length
      · exact hc
      · rw [List.drop_eq_nil_of_le (by omega)] at hd; cases hd
    have hx : ls[j] = x := by
      rw [List.drop_eq_getElem_cons hlt] at hd
      exact (List.cons.inj hd).1
    have hr : ls.drop (j + 1) = r := by
      rw [List.drop_eq_getElem_cons hlt] at hd
      exact (List.cons.inj hd).2
    unfold hoG
    by_cases hz : x.1 = z
    · rw [if_pos hz]
      by_cases hm : ago x.2.1 t < m
      · rw [if_pos hm]
        have := h.take hlt (by rw [hx]; exact hz) (by rw [hx]; exact hm)
        rw [hx] at this
        exact hoG_s ls z t r (j + 1) _ _ this hr (by omega)
      · rw [if_neg hm]
        exact hoG_s ls z t r (j + 1) _ _ (h.keep hlt (by rw [hx]; exact hz) (by rw [hx]; exact hm)) hr (by omega)
    · rw [if_neg hz]
      exact hoG_s ls z t r (j + 1) _ _ (h.skip hlt (by rw [hx]; exact hz)) hr (by omega)
theorem hoF_s (ls : List Tf) (z t : Int) : HoS ls z t (hoF ls z t) := hoG_s ls z t ls 0 _ _ (HoP.zero _ _ _) rfl (Nat.zero_le _)
theorem HoS.eq {ls : List Tf} {z t p : Int} (ok : TfOk ls) (h : HoS ls z t p) : p = hoF ls z t := h.uniq ok (hoF_s ls z t)
theorem hoF_bd (ls : List Tf) (z t : Int) : -1 ≤ hoF ls z t ∧ hoF ls z t < ls.length := by
  rcases hoF_s ls z t with ⟨h, -⟩ | ⟨i, h, hi, -⟩ <;> omega
/-- what TariffAt tells -/
def AtR (ls : List Tf) (z t : Int) (w : World) (e : Ending) (w' : World) : Prop :=
  ∃ p, e = .returned (.tuple #[.int .i64 p, .bool (decide (0 ≤ p))]) ∧ (TfOk ls ∧ 0 ≤ t ∧ t ≤ 1000000000 → p = hoF ls z t) ∧ (¬ (TfOk ls ∧ 0 ≤ t ∧ t ≤ 1000000000) → p = -1) ∧ Below w.heap.size w w'
theorem AtR.no {ls : List Tf} {z t : Int} {w w' : World} (h : ¬ (TfOk ls ∧ 0 ≤ t ∧ t ≤ 1000000000)) (b : Below w.heap.size w w') : AtR ls z t w (.returned (.tuple #[.int .i64 (-1), .bool false])) w' := ⟨-1, rfl, fun h' => absurd h' h, fun _ => rfl, b⟩
set_option maxHeartbeats 1600000 in
theorem atI_c (v : Value) (ls : List Tf) (z t : Int) (w : World) (h : Rg 5 tfC w v ls) : Calls Try.prog 22 #[v, .int .i64 z, .int .i64 t] w (AtR ls z t w) := by
  have HH : Hid (Rg 5 tfC w v ls) := h
  obtain ⟨a, cap, rfl, -⟩ := h
  go_enter Try.func22, Try.ntmps22
  go_wp2_with (fail)
  refine (tariffsI_c _ ls w HH.out).mono ?_
  rintro e w1 ⟨r, rfl, hr, b1⟩
  have HR : Hid (r = true ↔ TfOk ls) := hr
  have HB1 : Hid (Below w.heap.size w w1) := b1
  clear hr b1
  cases r with
  | false =>
    have HN : Hid (¬ (TfOk ls ∧ 0 ≤ t ∧ t ≤ 1000000000)) := fun h => by have := HR.out.2 h.1; cases this
    go_wp2
    go_ret2
    exact AtR.no HN.out HB1.out
  | true =>
    have HOK : Hid (TfOk ls) := HR.out.1 rfl
    clear HR
    go_wp2_with (fail)
    refine (within_c _ _ _ _).mono ?_
    rintro e w2 ⟨rfl, hw⟩
    rw [hw]
    clear hw w2
    by_cases ht : 0 ≤ t ∧ t ≤ 1000000000
    · have hd : decide (0 ≤ t ∧ t ≤ 1000000000) = true := by simpa using ht
      rw [hd]
      have HT : Hid (0 ≤ t ∧ t ≤ 1000000000) := ht
      clear hd ht
      go_wp2_with (fail)
      refine (holder_c _ ls z t w1 (HH.out.below HB1.out) HT.out (fun i hi => ⟨(HOK.out.tf i hi).2.2.1, (HOK.out.tf i hi).2.2.2.1⟩) (by have := HOK.out.2; omega)).mono ?_
      rintro e w3 ⟨p, rfl, hp, b3⟩
      have HP : Hid (p = hoF ls z t) := hp.eq HOK.out
      have HB3 : Hid (Below w.heap.size w w3) := belowCall HB1.out b3 HB1.out.size
      clear hp b3
      go_wp2
      go_ret2
      exact ⟨p, rfl, fun _ => HP.out, fun h => absurd ⟨HOK.out, HT.out⟩ h, HB3.out⟩
    · have hd : decide (0 ≤ t ∧ t ≤ 1000000000) = false := by simpa using ht
      rw [hd]
      have HN : Hid (¬ (TfOk ls ∧ 0 ≤ t ∧ t ≤ 1000000000)) := fun h => ht h.2
      clear hd ht
      go_wp2
      go_ret2
      exact AtR.no HN.out HB1.out
end Go.Proofs.Ytdnophdldpophaa

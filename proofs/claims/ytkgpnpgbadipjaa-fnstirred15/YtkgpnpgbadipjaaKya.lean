/- Books of keys; no condition. -/
import Derived.Test.YtkgpnpgbadipjaaHop
import Derived.Test.YtkgpnpgbadipjaaIvs
namespace Go.Proofs.Ytkgpnpgbadipjaa
open Go.RowKit Go.ChangeShapes Go.WideShapes Go.ChangeAt
set_option linter.unusedVariables false
set_option linter.unusedSimpArgs false
set_option maxRecDepth 8000

/-- numbers of a book -/
def kbB (zs : List Int) : Bool := zs.all fun z => decide (1 ≤ z ∧ z ≤ 65535)
def keyB (zs : List Int) (f : Int) : Bool := decide (0 ≤ f ∧ f ≤ 1000000) && (kbB zs && decide (1 ≤ (zs.length : Int) ∧ (zs.length : Int) ≤ 64))
/-- what the exclusive-or tells -/
def keyX (zs : List Int) (f : Int) : Int := xo (zs.getD (f % (zs.length : Int)).toNat 0) (f % 65536)
def keyR (zs : List Int) (f : Int) : Int := if keyB zs f = true then (if keyX zs f = 0 then 1 else keyX zs f) else 0
theorem kbB_at {zs : List Int} (h : kbB zs = true) (k : Nat) (hk : k < zs.length) : 1 ≤ zs.getD k 0 ∧ zs.getD k 0 ≤ 65535 := by
  unfold kbB at h
  rw [List.all_eq_true] at h
  have := h _ (List.getElem_mem hk)
  rw [decide_eq_true_eq] at this
  rw [List.getD_eq_getElem?_getD, List.getElem?_eq_getElem hk, Option.getD_some]; exact this
theorem kbB_no {zs : List Int} (k : Nat) (hk : k < zs.length) (h : ¬ (1 ≤ zs.getD k 0 ∧ zs.getD k 0 ≤ 65535)) : kbB zs = false := by
  cases e : kbB zs with
  | false => rfl
  | true => exact absurd (kbB_at e k hk) h
theorem kbB_all {zs : List Int} (h : ∀ k, k < zs.length → 1 ≤ zs.getD k 0 ∧ zs.getD k 0 ≤ 65535) : kbB zs = true := by
  unfold kbB
  rw [List.all_eq_true]
  intro z hz
  obtain ⟨k, hk, rfl⟩ := List.getElem_of_mem hz
  have := h k hk
  rw [List.getD_eq_getElem?_getD, List.getElem?_eq_getElem hk, Option.getD_some] at this
  rw [decide_eq_true_eq]; exact this
theorem keyX_bd {zs : List Int} {f : Int} (h : keyB zs f = true) : 0 ≤ keyX zs f ∧ keyX zs f ≤ 65535 := by
  unfold keyB at h
  simp only [Bool.and_eq_true, decide_eq_true_eq] at h
  obtain ⟨h1, h2, h3⟩ := h
  have hk : (f % (zs.length : Int)).toNat < zs.length := by
    have := Int.emod_lt_of_pos f (show 0 < (zs.length : Int) by omega)
    have := Int.emod_nonneg f (show (zs.length : Int) ≠ 0 by omega)
    omega
  have := kbB_at h2 _ hk
  exact xo_bd _ _ (by omega) (by omega) (by omega) (by omega)
theorem keyR_bd {zs : List Int} {f : Int} (h : keyB zs f = true) : 0 < keyR zs f ∧ keyR zs f < 65536 := by
  have := keyX_bd h
  unfold keyR
  rw [if_pos h]
  split <;> omega
theorem key_c (x : Int) (w : World) : Calls Try.prog 26 #[.int .i64 x] w fun e w' => e = .returned (.bool (decide (1 ≤ x ∧ x ≤ 65535))) ∧ w' = w := by
  go_enter Try.func26, Try.ntmps26
  go_wp2_with (fail)
  refine (within_c _ _ _ _).mono ?_
  rintro e w1 ⟨rfl, hw⟩
  rw [hw]
  clear hw w1
  go_wp2
  go_ret
  exact ⟨by simp [Bool.decide_and], rfl⟩

end Go.Proofs.Ytkgpnpgbadipjaa

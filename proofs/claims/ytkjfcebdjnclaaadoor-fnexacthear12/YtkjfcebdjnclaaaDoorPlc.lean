/- Places in a list of packets; no condition. -/
import Derived.Test.YtkjfcebdjnclaaaDoorPli
import Derived.Test.YtkjfcebdjnclaaaDoorApk
namespace Go.Proofs.YtkjfcebdjnclaaaDoor
open Go.RowKit Go.ChangeShapes Go.WideShapes Go.ChangeAt
set_option linter.unusedVariables false
set_option linter.unusedSimpArgs false
set_option maxRecDepth 8000

/-- how many stand ahead of a number -/
def pcF (ls : List Pk) (x : Int) : Nat := (ls.takeWhile (fun k => decide (k.s < x))).length
theorem pcF_eq : ∀ (ls : List Pk) (x : Int) (j : Nat), j ≤ ls.length → (∀ t (h : t < ls.length), t < j → ls[t].s < x) → (∀ h : j < ls.length, ¬ ls[j].s < x) → pcF ls x = j
  | [], x, j, hj, _, _ => by simp at hj; simp [pcF, hj]
  | k :: r, x, 0, _, _, h2 => by
    have := h2 (by simp)
    simp [pcF, List.takeWhile_cons, this]
    simpa using this
  | k :: r, x, j + 1, hj, h1, h2 => by
    have h0 : k.s < x := by have := h1 0 (by simp) (by omega); simpa using this
    have ih := pcF_eq r x j (by simpa using hj) (fun t h ht => by have := h1 (t + 1) (by simpa using h) (by omega); simpa using this) (fun h => by have := h2 (by simpa using h); simpa using this)
    simp only [pcF, List.takeWhile_cons, h0, decide_true, if_true, List.length_cons]
    rw [show (r.takeWhile (fun k => decide (k.s < x))).length = pcF r x from rfl, ih]
theorem pcF_le (ls : List Pk) (x : Int) : pcF ls x ≤ ls.length := by
  unfold pcF; exact (List.takeWhile_sublist _).length_le
/-- whether a number is there -/
def thB (ls : List Pk) (x : Int) : Bool := match ls[pcF ls x]? with
  | some k => k.s == x
  | none => false
set_option maxHeartbeats 3200000 in
theorem placeOf_c (v : Value) (ls : List Pk) (x : Int) (w : World) (h : Rg 18 pkC w v ls) : Calls Tryd.prog 79 #[v, .int .i64 x] w fun e w' => e = .returned (.tuple #[.int .i64 (pcF ls x), .bool (thB ls x)]) ∧ Below w.heap.size w w' := by
  obtain ⟨a, cap, rfl, h1, h2, h3⟩ := h
  unfold maxLen at h2
  go_enter Tryd.func79, Tryd.ntmps79
  go_wp2
  go_loopw [6] (fun i wr => ∃ j : Nat, j ≤ ls.length ∧ i = .int .i64 j ∧ Hid (∀ t (ht : t < ls.length), t < j → ls[t].s < x) ∧ Hid (Below w.heap.size w wr)) (fun i _ => ls.length - (intOf i).toNat)
  case atStart => exact ⟨0, Nat.zero_le _, rfl, fun t _ h => by omega, Below.refl _ _⟩
  case round =>
    obtain ⟨j, hj, rfl, hA, hbr⟩ := hrel
    by_cases hlt : j < ls.length
    case neg =>
      obtain rfl : j = ls.length := by omega
      have hpc : pcF ls x = ls.length := pcF_eq ls x _ (Nat.le_refl _) (fun t h ht => hA.out t h ht) (fun h => by omega)
      have HTH : Hid (pcF ls x = ls.length ∧ thB ls x = false) := ⟨hpc, by simp [thB, hpc]⟩
      have hdl : decide ((ls.length : Int) < (ls.length : Int)) = false := by simp
      clear h3 hpc
      go_wp2
      go_quiet (fail)
      go_wp2
      go_ret2
      exact ⟨by rw [HTH.out.1, HTH.out.2]; rfl, below_drewN hbr.out _⟩
    case pos =>
    rcases h3 with h3 | ⟨b, off, rfl, h4⟩
    · subst h3; simp at hlt
    have hcb : b < w.heap.size := block_lt_of_cell (h4 j hlt 0 _ rfl)
    obtain ⟨k, hk⟩ : ∃ k, ls[j] = k := ⟨_, rfl⟩
    have hc : wr.cell? ⟨b, off + j * 18 + 1, none⟩ = some (.int .i64 k.s) := by
      rw [← hk]; exact (rg_mid (rangeAt_below (h4 j hlt) hbr.out hcb)).2.1
    have hi : (0 : Int) ≤ (j : Int) := by omega
    have hi2 : (j : Int) < (ls.length : Int) := by omega
    have HKJ : Hid (ls[j] = k) := hk
    clear h4 hk
    by_cases hs : k.s < x
    case pos =>
      have HN : Hid (∀ t (ht : t < ls.length), t < j + 1 → ls[t].s < x) := fun t ht h => by
        by_cases e : t < j
        · exact hA.out t ht e
        · obtain rfl : t = j := by omega
          rw [HKJ.out]; exact hs
      go_wp2
      go_roundw
      case rel => exact ⟨j + 1, by omega, by go_num, HN.out, hbr.out⟩
      case measure => simp [intOf]; omega
    case neg =>
      have hpc : pcF ls x = j := pcF_eq ls x _ hj (fun t h ht => hA.out t h ht) (fun h => by rw [HKJ.out]; exact hs)
      have HTH : Hid (pcF ls x = j ∧ thB ls x = (k.s == x)) := ⟨hpc, by simp [thB, hpc, List.getElem?_eq_getElem hlt, HKJ.out]⟩
      clear hpc
      go_wp2
      go_quiet (fail)
      go_wp2
      go_ret2
      exact ⟨by rw [HTH.out.1, HTH.out.2]; rfl, below_drewN hbr.out _⟩

end Go.Proofs.YtkjfcebdjnclaaaDoor

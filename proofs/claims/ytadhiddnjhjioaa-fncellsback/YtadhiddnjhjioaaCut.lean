/- Contracts of Cut, the model's and the program's: both hand back the sixteen bytes from a place on, where they are all there; no condition. -/
import Derived.Test.YtadhiddnjhjioaaCell
import Derived.Test.YtadhiddnjhjioaaSl
namespace Go.Proofs.Ytadhiddnjhjioaa
open Go.RowKit Go.ChangeShapes Go.WideShapes Go.ChangeAt
set_option linter.unusedVariables false
set_option linter.unusedSimpArgs false
/-- are sixteen bytes there from the place on -/
def cutOk (zs : List Int) (i : Int) : Bool := decide (0 ≤ i) && decide (i ≤ (zs.length : Int) - 16)
def Z16 : List Int := List.replicate 16 0
def cutL (zs : List Int) (i : Int) : List Int := if cutOk zs i then (zs.drop i.toNat).take 16 else Z16
theorem Z16_B : B16 Z16 := ⟨rfl, by intro z hz; simp [Z16] at hz; omega⟩
theorem cp_zero' (zs : List Int) : cp zs 0 = A16 Z16 := by rw [cp_zero]; rfl
theorem cutL_B {zs : List Int} (h : ∀ z ∈ zs, 0 ≤ z ∧ z ≤ 255) (i : Int) : B16 (cutL zs i) := by
  unfold cutL
  split
  · rename_i hc
    simp [cutOk] at hc
    exact ⟨by simp; omega, fun z hz => h z (List.mem_of_mem_drop (List.mem_of_mem_take hz))⟩
  · exact Z16_B
theorem cutL_at {zs : List Int} (i j : Nat) (hi : i + 16 ≤ zs.length) (hj : j < 16) : (cutL zs (i : Int)).getD j 0 = zs.getD (i + j) 0 := by
  have hc : cutOk zs (i : Int) = true := by simp [cutOk]; omega
  simp [cutL, hc, List.getElem?_take, hj, List.getElem?_drop]
/-- an array of sixteen in a cell and a value beside it, handed back -/
theorem res29 {fn : Func} {p u : Tmp} (h : fn.results = #[.cell p 29, .tmp u]) (tmps : Array Value) (w : World) (g : Nat) (cs : Array Value)
    (hp : tmps.getD p undef = .pointer (some ⟨g, 0, none⟩)) (hg : Blk w g cs 29) (hs : cs.size = 16) (v : Value) (hu : tmps.getD u undef = v) :
    (results fn tmps).run Try.prog w = .ok (.tuple #[.agg cs, v]) w := by
  have hp' : tmps[p]?.getD undef = .pointer (some ⟨g, 0, none⟩) := by simpa using hp
  have hu' : tmps[u]?.getD undef = v := by simpa using hu
  rw [results_cell_tmp h]
  simp [hp', hu', asAddr, run_loadVar_row w g 29 29 cs (0, 0) _ hg Try.underlying29 rfl (by rw [hs]; exact size29)]
set_option maxHeartbeats 800000 in
theorem cut_spec (v : Value) (zs : List Int) (hz : ∀ z ∈ zs, 0 ≤ z ∧ z ≤ 255) (i : Int) (w : World) (h : Rd .u8 w v zs) (hl : zs.length ≤ 1048576) :
   Calls Try.prog 28 #[v, .int .i64 i] w fun e w' => e = .returned (.tuple #[.agg (A16 (cutL zs i)), .bool (cutOk zs i)]) ∧ Below w.heap.size w w' := by
  obtain ⟨a, cap, rfl, h1, h2, h3⟩ := h
  unfold maxLen at h2
  by_cases hc : cutOk zs i = true
  · have hc' : 0 ≤ i ∧ i ≤ (zs.length : Int) - 16 := by simpa [cutOk] using hc
    obtain ⟨k, rfl⟩ := Int.eq_ofNat_of_zero_le hc'.1
    obtain ⟨b, off, rfl, h4⟩ : ∃ b off, a = some ⟨b, off, none⟩ ∧ ∀ i, i < zs.length → w.cell? ⟨b, off + i, none⟩ = some (.int .u8 (zs.getD i 0)) := by
      rcases h3 with h3 | h3
      · subst h3; simp at hc'; omega
      · exact h3
    have hB := cutL_B hz (k : Int)
    have hs16 := A16_size hB
    have HC : Hid (cutOk zs (k : Int) = true) := hc
    have hk2 : (k : Int) ≤ (zs.length : Int) - 16 := hc'.2
    clear hc hc' h3
    have d1 : decide ((k : Int) < 0) = false := by simp
    have d2 : decide ((zs.length : Int) - 16 < (k : Int)) = false := by simp; omega
    go_enter Try.func28, Try.ntmps28
    go_wp2
    go_loopw [7] (fun i wr => ∃ j : Nat, j ≤ 16 ∧ i = .int .i64 j ∧ Blk wr w.heap.size (cp (cutL zs k) 0) 29 ∧ Blk wr (w.heap.size + 1) (cp (cutL zs k) j) 29 ∧ Below w.heap.size w wr) (fun i _ => 16 - (intOf i).toNat)
    case atStart => exact ⟨0, by omega, rfl, by rw [cp_zero]; exact (Blk.new _ _ _).alloc _, by rw [cp_zero]; exact Blk.newAt _ _ _ _ (by simp), ((Below.refl _ _).alloc (Nat.le_refl _) _).alloc (by simp) _⟩
    case round =>
      obtain ⟨j, hj, rfl, k0, k1, hb⟩ := hrel
      by_cases hlt : j < 16
      · have hc : wr.cell? ⟨b, off + (k + j), none⟩ = some (.int .u8 (zs.getD (k + j) 0)) := by
          have := h4 (k + j) (by omega)
          rw [hb.cell (block_lt_of_cell this)]; exact this
        have hd : ∃ v, wr.cell? ⟨w.heap.size + 1, j, none⟩ = some v := by rw [k1.cell j]; exact ⟨_, Array.getElem?_eq_getElem (by rw [cp_size hB j hj]; exact hlt)⟩
        obtain ⟨v, hd⟩ := hd
        have hf := k1.frozen j
        have hs := k1.set j (.int .u8 (zs.getD (k + j) 0))
        rw [← cutL_at k j (by omega) hlt, cp_set hB j hlt, cutL_at k j (by omega) hlt] at hs
        have ht : ((k : Int) + (j : Int)).toNat = k + j := by omega
        have hlt2 : (k : Int) + (j : Int) < (zs.length : Int) := by omega
        clear h4
        go_wp2
        go_roundw
        case rel =>
          refine ⟨j + 1, by omega, by go_num, k0.other _ _ (by dsimp only; omega), ?_, hb.setCell (by dsimp only; omega) _⟩
          simpa [List.getElem?_eq_getElem (show k + j < zs.length by omega)] using hs
        case measure => simp [intOf]; omega
      · obtain rfl : j = 16 := by omega
        rw [cp_full hB] at k1
        clear h4
        go_wp2_with (first | refine ld29 rfl _ rfl _ rfl 29 (A16 (cutL zs k)) (0, 0) k1 hs16 ?_ | refine st29 rfl _ _ rfl _ rfl (cutL zs k) hB rfl 29 (cp (cutL zs k) 0) k0 (cp_size hB 0 (by omega)) ?_)
        have k3 := k0.row (A16 (cutL zs k))
        exact bodyPost_ret (v := .tuple #[.agg (A16 (cutL zs k)), .bool (cutOk zs k)]) (by rw [HC.out]; exact res29 rfl _ _ _ (A16 (cutL zs k)) rfl k3 hs16 _ rfl) rfl ⟨rfl, belowRow hb _ (by omega) _⟩
  · have hcf : cutOk zs i = false := by simpa using hc
    have hL : cutL zs i = Z16 := by simp [cutL, hcf]
    have hc' : i < 0 ∨ (zs.length : Int) - 16 < i := by simp [cutOk] at hc; omega
    rw [hL, hcf]
    have hs16 := A16_size Z16_B
    clear hL hcf hc h3
    have fin : ∀ (tm : Array Value), tm.getD 4 undef = .pointer (some ⟨w.heap.size, 0, none⟩) → tm.getD 5 undef = .bool false → bodyPost Try.prog Try.f28 (fun e w' => e = .returned (.tuple #[.agg (A16 Z16), .bool false]) ∧ Below w.heap.size w w') .ret ⟨tm, []⟩ ((w.alloc (.cells (A16 Z16) 29)).alloc (.cells (A16 Z16) 29)) := by
      intro tm e4 e5
      exact bodyPost_ret (v := .tuple #[.agg (A16 Z16), .bool false]) (res29 rfl _ _ _ (A16 Z16) e4 ((Blk.newAt _ _ _ _ rfl).alloc _) hs16 _ e5) rfl ⟨rfl, ((Below.refl _ _).alloc (Nat.le_refl _) _).alloc (by simp) _⟩
    rcases hc' with hc' | hc'
    · go_enter Try.func28, Try.ntmps28
      go_wp2
      exact fin _ rfl rfl
    · by_cases h0 : i < 0
      · go_enter Try.func28, Try.ntmps28
        go_wp2
        exact fin _ rfl rfl
      · go_enter Try.func28, Try.ntmps28
        go_wp2
        exact fin _ rfl rfl
end Go.Proofs.Ytadhiddnjhjioaa

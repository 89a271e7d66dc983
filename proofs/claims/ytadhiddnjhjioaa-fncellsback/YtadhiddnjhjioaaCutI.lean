/- The contract of the program's Cut: the sixteen bytes from a place on, where they are all there; no condition. -/
import Derived.Test.YtadhiddnjhjioaaCut
import Derived.Deep.MidRow
namespace Go.Proofs.Ytadhiddnjhjioaa
open Go.RowKit Go.ChangeShapes Go.WideShapes Go.ChangeAt
set_option linter.unusedVariables false
set_option linter.unusedSimpArgs false
/-- a slice of sixteen bytes as an array -/
theorem arr29 (b o c : Nat) (W : World) : (Instr.arrayAt 29 (.slice (some ⟨b, o, none⟩) 16 c)).run Try.prog W = .ok (.pointer (some ⟨b, o, none⟩)) W := by
  simp [Instr.arrayAt, run_underlying Try.underlying29]
set_option maxHeartbeats 800000 in
theorem cut_impl (v : Value) (zs : List Int) (hz : ∀ z ∈ zs, 0 ≤ z ∧ z ≤ 255) (i : Int) (w : World) (h : Rd .u8 w v zs) (hl : zs.length ≤ 1048576) :
   Calls Try.prog 18 #[v, .int .i64 i] w fun e w' => e = .returned (.tuple #[.agg (A16 (cutL zs i)), .bool (cutOk zs i)]) ∧ Below w.heap.size w w' := by
  obtain ⟨a, cap, rfl, h1, h2, h3⟩ := h
  unfold maxLen at h2
  by_cases hc : cutOk zs i = true
  · have hc' : 0 ≤ i ∧ i ≤ (zs.length : Int) - 16 := by simpa [cutOk] using hc
    obtain ⟨k, rfl⟩ := Int.eq_ofNat_of_zero_le hc'.1
    obtain ⟨b, off, rfl, h4⟩ : ∃ b off, a = some ⟨b, off, none⟩ ∧ ∀ i, i < zs.length → w.cell? ⟨b, off + i, none⟩ = some (.int .u8 (zs.getD i 0)) := by
      rcases h3 with h3 | h3
      · subst h3; simp at hc'; omega
      · exact h3
    have hB := cutL_B hz (k : Int)
    have hs16 := A16_size hB
    have HC : Hid (cutOk zs (k : Int) = true) := hc
    have hk2 : (k : Int) ≤ (zs.length : Int) - 16 := hc'.2
    clear hc hc' h3
    have d1 : decide ((k : Int) < 0) = false := by simp
    have d2 : decide ((zs.length : Int) - 16 < (k : Int)) = false := by simp; omega
    have ha := arr29 b (off + k) (cap - k)
    have hr : ∀ W, Below w.heap.size w W → W.rangeAt b (off + k) ((cutL zs k).map (Value.int .u8)) := by
      intro W hW j v hv
      have hj : j < 16 := by
        have := (List.getElem?_eq_some_iff.1 hv).1
        have h16 := hB.1
        simp at this; omega
      have h5 := h4 (k + j) (by omega)
      rw [show off + k + j = off + (k + j) by omega, hW.cell (block_lt_of_cell h5), h5, ← cutL_at k j (by omega) hj]
      have h16 := hB.1
      simp [List.getElem?_eq_getElem (show j < (cutL zs k).length by omega)] at hv ⊢
      exact hv
    have hcl : ((cutL zs k).map (Value.int .u8)).length = 16 := by simp [hB.1]
    clear h4
    have hb0 : Below w.heap.size w (w.alloc (.cells (A16 Z16) 29)) := (Below.refl _ _).alloc (Nat.le_refl _) _
    go_enter Try.func18, Try.ntmps18
    go_wp2_with (first | refine wpList_load_mid rfl 29 (.tmp 21) rfl b (off + k) rfl ((cutL zs k).map (Value.int .u8)) _ (hr _ hb0) Try.underlying29 rfl (by rw [hcl]; exact size29) ?_ | refine st29 rfl _ _ rfl w.heap.size rfl (cutL zs k) hB rfl 29 (A16 Z16) (Blk.newAt _ _ _ _ rfl) (A16_size Z16_B) ?_)
    exact bodyPost_ret (v := .tuple #[.agg (A16 (cutL zs k)), .bool (cutOk zs k)]) (by rw [HC.out]; exact res29 rfl _ _ _ (A16 (cutL zs k)) rfl ((Blk.newAt w w.heap.size (A16 Z16) 29 rfl).row _) hs16 _ rfl) rfl ⟨rfl, belowRow hb0 _ (Nat.le_refl _) _⟩
  · have hcf : cutOk zs i = false := by simpa using hc
    have hL : cutL zs i = Z16 := by simp [cutL, hcf]
    have hc' : i < 0 ∨ (zs.length : Int) - 16 < i := by simp [cutOk] at hc; omega
    rw [hL, hcf]
    have hs16 := A16_size Z16_B
    clear hL hcf hc h3
    have fin : ∀ (tm : Array Value), tm.getD 4 undef = .pointer (some ⟨w.heap.size, 0, none⟩) → tm.getD 5 undef = .bool false → bodyPost Try.prog Try.f18 (fun e w' => e = .returned (.tuple #[.agg (A16 Z16), .bool false]) ∧ Below w.heap.size w w') .ret ⟨tm, []⟩ ((w.alloc (.cells (A16 Z16) 29)).setRow w.heap.size (A16 Z16)) := by
      intro tm e4 e5
      exact bodyPost_ret (v := .tuple #[.agg (A16 Z16), .bool false]) (res29 rfl _ _ _ (A16 Z16) e4 ((Blk.newAt w w.heap.size (A16 Z16) 29 rfl).row _) hs16 _ e5) rfl ⟨rfl, belowRow ((Below.refl _ _).alloc (Nat.le_refl _) _) _ (Nat.le_refl _) _⟩
    rcases hc' with hc' | hc'
    · go_enter Try.func18, Try.ntmps18
      go_wp2_with (refine st29 rfl _ _ rfl w.heap.size rfl Z16 Z16_B rfl 29 (A16 Z16) (Blk.newAt _ _ _ _ rfl) hs16 ?_)
      exact fin _ rfl rfl
    · by_cases h0 : i < 0
      · go_enter Try.func18, Try.ntmps18
        go_wp2_with (refine st29 rfl _ _ rfl w.heap.size rfl Z16 Z16_B rfl 29 (A16 Z16) (Blk.newAt _ _ _ _ rfl) hs16 ?_)
        exact fin _ rfl rfl
      · go_enter Try.func18, Try.ntmps18
        go_wp2_with (refine st29 rfl _ _ rfl w.heap.size rfl Z16 Z16_B rfl 29 (A16 Z16) (Blk.newAt _ _ _ _ rfl) hs16 ?_)
        exact fin _ rfl rfl
end Go.Proofs.Ytadhiddnjhjioaa

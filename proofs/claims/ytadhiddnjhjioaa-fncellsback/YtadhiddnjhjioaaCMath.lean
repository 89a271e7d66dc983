/- Plain facts on cells: uncelled, the cells of bytes are the bytes; no condition but that there are some, and not too many. -/
import Derived.Test.YtadhiddnjhjioaaCells
import Derived.Test.YtadhiddnjhjioaaUncI
namespace Go.Proofs.Ytadhiddnjhjioaa
set_option linter.unusedVariables false
set_option linter.unusedSimpArgs false
theorem cellOf_len (ps : List Int) (m : Nat) (l : Bool) (h : ps.length ≤ 15) : (cellOf ps m l).length = 16 := by simp [cellOf]; omega
theorem part_le (ys : List Int) (j : Nat) : (part ys j).length ≤ 15 := by rw [part_len]; omega
theorem cellsTo_len (ys : List Int) : ∀ j, (cellsTo ys j).length = j * 16
  | 0 => rfl
  | j + 1 => by
    have := cellsTo_len ys j
    have h2 := cellOf_len (part ys j) j (decide (ys.length ≤ 15 * j + 15)) (part_le ys j)
    simp [cellsTo, cellAt]; omega
theorem cellsTo_split (ys : List Int) (j : Nat) : ∀ d, ∃ R, cellsTo ys (j + 1 + d) = cellsTo ys j ++ (cellAt ys j ++ R)
  | 0 => ⟨[], by simp [cellsTo]⟩
  | d + 1 => by
    obtain ⟨R, hR⟩ := cellsTo_split ys j d
    exact ⟨R ++ cellAt ys (j + 1 + d), by rw [show j + 1 + (d + 1) = (j + 1 + d) + 1 by omega, cellsTo, hR]; simp⟩
theorem ch_cells (ys : List Int) (n j : Nat) (h : j < n) : ch (cellsTo ys n) j = cellAt ys j := by
  obtain ⟨R, hR⟩ := cellsTo_split ys j (n - (j + 1))
  rw [show j + 1 + (n - (j + 1)) = n by omega] at hR
  have h1 := cellsTo_len ys j
  have h2 := cellOf_len (part ys j) j (decide (ys.length ≤ 15 * j + 15)) (part_le ys j)
  rw [ch, hR, List.drop_append_of_le_length (by omega), List.drop_of_length_le (by omega), List.nil_append, List.take_append_of_le_length (by rw [cellAt]; omega), List.take_of_length_le (by rw [cellAt]; omega)]
theorem cellOf_head (ps : List Int) (m : Nat) (l : Bool) : (cellOf ps m l).getD 0 0 = headOf ps.length m l := by simp [cellOf]
theorem cellOf_cnt (ps : List Int) (m : Nat) (l : Bool) (h : ps.length ≤ 15) : cnt (cellOf ps m l) = (ps.length : Int) := by
  rw [cnt, cellOf_head, headOf]; split <;> omega
theorem cellOf_last (ps : List Int) (m : Nat) (l : Bool) (h : ps.length ≤ 15) : lastB (cellOf ps m l) = l := by
  rw [lastB, cellOf_head, headOf]
  cases l
  · simp; omega
  · simp; omega
theorem cellOf_num (ps : List Int) (m : Nat) (l : Bool) (h : ps.length ≤ 15) : numB (cellOf ps m l) = (m : Int) % 8 := by
  rw [numB, cellOf_head, headOf]; split <;> omega
theorem cellOf_pad {ps : List Int} (hp : bytesOk ps) (m : Nat) (l : Bool) (h : ps.length ≤ 15) : cellOf ps m l = noPad (cellOf ps m l) := by
  have hB := cellOf_B hp h m l
  refine B16_ext hB (noPad_B hB) fun i hi => ?_
  rw [noPad_at _ i hi, cellOf_cnt ps m l h]
  split
  · rfl
  · obtain ⟨k, rfl⟩ : ∃ k, i = k + 1 := ⟨i - 1, by omega⟩
    have hk : ps.length ≤ k := by omega
    simp [cellOf, List.getElem?_append_right hk, List.getElem?_replicate]
    split <;> rfl
theorem cellOf_bytes (ps : List Int) (m : Nat) (l : Bool) (h : ps.length ≤ 15) : bytesOf (cellOf ps m l) = ps := by
  rw [bytesOf, cellOf_cnt ps m l h, Int.toNat_natCast]
  simp [cellOf]
theorem outTo_cells (ys : List Int) (n : Nat) : ∀ j, j ≤ n → outTo (cellsTo ys n) j = ys.take (15 * j)
  | 0, _ => by simp [outTo]
  | j + 1, h => by
    rw [outTo, outTo_cells ys n j (by omega), ch_cells ys n j (by omega), cellAt, cellOf_bytes _ _ _ (part_le ys j), show 15 * (j + 1) = 15 * j + 15 by omega, List.take_add]
    rfl
theorem over_cells (ys : List Int) (n : Nat) (hn : n = (ys.length + 14) / 15) : ∀ j, j < n → overAt (cellsTo ys n) j = false
  | 0, _ => rfl
  | j + 1, h => by
    rw [overAt, ch_cells ys n j (by omega), cellAt, cellOf_last _ _ _ (part_le ys j)]
    simp; omega
theorem fault_cells {ys : List Int} (hy : bytesOk ys) (n : Nat) (hn : n = (ys.length + 14) / 15) (j : Nat) (h : j < n) : faultF (ch (cellsTo ys n) j) j (overAt (cellsTo ys n) j) = 0 := by
  have hpl := part_len ys j
  rw [over_cells ys n hn j h, ch_cells ys n j h, cellAt, faultF, if_neg, if_neg, if_neg, if_neg]
  · simp
  · rw [cellOf_num _ _ _ (part_le ys j)]; simp
  · have := cellOf_pad (part_ok hy j) j (decide (ys.length ≤ 15 * j + 15)) (part_le ys j)
    simpa using this
  · rw [cellOf_cnt _ _ _ (part_le ys j), cellOf_last _ _ _ (part_le ys j)]
    rintro (hb | ⟨hb1, hb2⟩)
    · omega
    · have : ¬ ys.length ≤ 15 * j + 15 := by simpa using hb2
      omega
theorem unc_cells {ys : List Int} (hy : bytesOk ys) (n : Nat) (hn : n = (ys.length + 14) / 15) (h0 : 0 < n) : ∀ k j, j + k = n → uncAt (cellsTo ys n) k j = (ys, 0)
  | 0, j, h => by
    obtain rfl : j = n := by omega
    rw [uncAt, outTo_cells ys j j (Nat.le_refl _), List.take_of_length_le (by omega)]
    obtain ⟨i, rfl⟩ : ∃ i, j = i + 1 := ⟨j - 1, by omega⟩
    rw [overAt, ch_cells ys (i + 1) i (by omega), cellAt, cellOf_last _ _ _ (part_le ys i)]
    have : decide (ys.length ≤ 15 * i + 15) = true := by simp; omega
    rw [this]; rfl
  | k + 1, j, h => by
    rw [uncAt, if_neg (by simpa using fault_cells hy n hn j (by omega))]
    exact unc_cells hy n hn h0 k (j + 1) (by omega)
theorem cells_back {ys : List Int} (hy : bytesOk ys) (h : 0 < cellsN ys) : uncRes (cellsL ys) (cellsN ys) = (ys, 0) := by
  have hl : ys.length ≤ 900 := by
    by_cases h9 : ys.length ≤ 900
    · exact h9
    · rw [cellsN, if_neg h9] at h; omega
  have hn : cellsN ys = (ys.length + 14) / 15 := by rw [cellsN, if_pos hl]
  rw [uncRes, if_pos (by omega), cellsL]
  exact unc_cells hy _ hn h _ _ (by omega)
theorem seven : cellsN [7] = 1 := by decide
end Go.Proofs.Ytadhiddnjhjioaa

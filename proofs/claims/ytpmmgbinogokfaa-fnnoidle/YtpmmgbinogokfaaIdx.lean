/- Where a call is; no condition. -/
import Derived.Test.YtpmmgbinogokfaaAgf
namespace Go.Proofs.Ytpmmgbinogokfaa
open Go.RowKit Go.ChangeShapes Go.WideShapes Go.ChangeAt
set_option linter.unusedVariables false
set_option linter.unusedSimpArgs false
set_option maxRecDepth 8000
set_option maxHeartbeats 800000 in
theorem agWClo_c (x : Ag) (c : Int) (B : Nat) (w : World) (hB : w.cell? ⟨B, 0, none⟩ = some (.int .i64 c)) : Calls Try.prog 91 #[.agg #[.int .i64 x.1, .int .i64 x.2.1, .int .i64 x.2.2], .pointer (some ⟨B, 0, none⟩)] w fun e w' => e = .returned (.bool (x.2.1 == c)) ∧ Below w.heap.size w w' := by
  have hlt := block_lt_of_cell hB
  go_enter Try.func91, Try.ntmps91
  go_wp2
  all_goals
    go_ret
    exact ⟨rfl, (Below.refl _ _).alloc (Nat.le_refl _) _⟩
set_option maxHeartbeats 3200000 in
theorem agWIdx_c (v : Value) (ls : List Ag) (c : Int) (B : Nat) (w : World) (h : Rg 3 agC w v ls) (hB : w.cell? ⟨B, 0, none⟩ = some (.int .i64 c)) :
   Calls Try.prog 90 #[v, .func (.func 91) #[] #[.pointer (some ⟨B, 0, none⟩)]] w fun e w' => e = .returned (.int .i64 (optI (ls.findIdx? fun x => x.2.1 == c))) ∧ Below w.heap.size w w' := by
  obtain ⟨a, cap, rfl, h1, h2, h3⟩ := h
  unfold maxLen at h2
  have HK : Hid (w.cell? ⟨B, 0, none⟩ = some (.int .i64 c)) := hB
  clear hB
  go_enter Try.func90, Try.ntmps90
  go_wp2
  go_loopw [8] (fun i wr => ∃ j : Nat, j ≤ ls.length ∧ i = .int .i64 j ∧ Hid (∀ t (ht : t < j) (h : t < ls.length), (ls[t].2.1 == c) = false) ∧ Hid (Below w.heap.size w wr)) (fun i _ => ls.length - (intOf i).toNat)
  case atStart => exact ⟨0, Nat.zero_le _, rfl, fun t ht => by omega, Below.refl _ _⟩
  case round =>
    obtain ⟨j, hj, rfl, hA, hbr⟩ := hrel
    by_cases hlt : j < ls.length
    case neg =>
      obtain rfl : j = ls.length := by omega
      have HN : Hid ((ls.findIdx? fun x => x.2.1 == c) = none) := by
        show (ls.findIdx? fun x => x.2.1 == c) = none
        rw [List.findIdx?_eq_none_iff]
        intro x hx
        obtain ⟨i, hi, rfl⟩ := List.getElem_of_mem hx
        exact hA.out i hi hi
      clear h3
      go_wp2
      go_ret
      exact ⟨by rw [HN.out]; rfl, hbr.out⟩
    case pos =>
    rcases h3 with h3 | ⟨b, off, rfl, h4⟩
    · subst h3; simp at hlt
    have hcb : b < w.heap.size := block_lt_of_cell (h4 j hlt 0 _ rfl)
    obtain ⟨r, hr⟩ : ∃ r, ls[j] = r := ⟨_, rfl⟩
    have HR : Hid (ls[j] = r) := hr
    have hc := rangeAt_below (h4 j hlt) hbr.out hcb
    rw [hr] at hc
    have e0 : wr.cell? ⟨b, off + j * 3, none⟩ = some (.int .i64 r.1) := hc 0 _ rfl
    have e1 : wr.cell? ⟨b, off + j * 3 + 1, none⟩ = some (.int .i64 r.2.1) := hc 1 _ rfl
    have e2 : wr.cell? ⟨b, off + j * 3 + 2, none⟩ = some (.int .i64 r.2.2) := hc 2 _ rfl
    clear h4 hc hr
    go_wp2_with (fail)
    refine (agWClo_c r c B wr ((hbr.out.cell (block_lt_of_cell HK.out)).trans HK.out)).mono ?_
    rintro e w2 ⟨rfl, b2⟩
    have HB2 : Hid (Below w.heap.size w w2) := belowCall hbr.out b2 hbr.out.size
    clear b2
    by_cases ht : (r.2.1 == c) = true
    · rw [ht]
      have HF : Hid ((ls.findIdx? fun x => x.2.1 == c) = some j) := by
        show (ls.findIdx? fun x => x.2.1 == c) = some j
        rw [List.findIdx?_eq_some_iff_getElem]
        refine ⟨hlt, by rw [HR.out]; exact ht, fun t htj => by rw [hA.out t htj (by omega)]; simp⟩
      clear ht
      go_wp2
      go_ret
      exact ⟨by rw [HF.out]; rfl, HB2.out⟩
    · rw [show (r.2.1 == c) = false by simpa using ht]
      have HF : Hid (∀ t (ht : t < j + 1) (h : t < ls.length), (ls[t].2.1 == c) = false) := fun t htt h => by
        by_cases htj : t < j
        · exact hA.out t htj h
        · obtain rfl : t = j := by omega
          rw [HR.out]; simpa using ht
      clear ht
      go_wp2
      go_roundw
      case rel => exact ⟨j + 1, by omega, by go_num, HF.out, HB2.out⟩
      case measure => simp [intOf]; omega
set_option maxHeartbeats 800000 in
theorem agW_c (v : Value) (ls : List Ag) (c : Int) (w : World) (h : Rg 3 agC w v ls) :
   Calls Try.prog 58 #[v, .int .i64 c] w fun e w' => e = .returned (.int .i64 (optI (ls.findIdx? fun x => x.2.1 == c))) ∧ Below w.heap.size w w' := by
  obtain ⟨W1, hW1⟩ : ∃ W1, w.alloc (Obj.cells #[.int .i64 c] 3) = W1 := ⟨_, rfl⟩
  have b1 : Below w.heap.size w W1 := hW1 ▸ (Below.refl _ _).alloc (Nat.le_refl _) _
  have k1 : Blk W1 w.heap.size #[.int .i64 c] 3 := hW1 ▸ Blk.new _ _ _
  have HC : Hid (Calls Try.prog 90 #[v, .func (.func 91) #[] #[.pointer (some ⟨w.heap.size, 0, none⟩)]] W1 fun e w' => e = .returned (.int .i64 (optI (ls.findIdx? fun x => x.2.1 == c))) ∧ Below W1.heap.size W1 w') := agWIdx_c v ls c w.heap.size W1 (h.below b1) (k1.cell 0)
  have B1 : Hid (Below w.heap.size w W1) := b1
  have HW1 : Hid (_ = W1) := hW1
  obtain ⟨a, cap, rfl, -⟩ := h
  clear hW1 b1 k1
  go_enter Try.func58, Try.ntmps58
  go_wp2_with (fail)
  rw [HW1.out]
  refine HC.out.mono ?_
  rintro e w2 ⟨rfl, b2⟩
  have HF : Hid (Below w.heap.size w w2) := belowCall B1.out b2 B1.out.size
  clear b2
  go_wp2
  go_ret
  exact ⟨rfl, HF.out⟩
set_option maxHeartbeats 800000 in
theorem plcClo_c (x : Wt) (c : Int) (B : Nat) (w : World) (hB : w.cell? ⟨B, 0, none⟩ = some (.int .i64 c)) : Calls Try.prog 93 #[.agg #[.int .i64 x.1, .int .i64 x.2.1, .int .i64 x.2.2.1, .int .i64 x.2.2.2], .pointer (some ⟨B, 0, none⟩)] w fun e w' => e = .returned (.bool (x.1 == c)) ∧ Below w.heap.size w w' := by
  have hlt := block_lt_of_cell hB
  go_enter Try.func93, Try.ntmps93
  go_wp2
  all_goals
    go_ret
    exact ⟨rfl, (Below.refl _ _).alloc (Nat.le_refl _) _⟩
set_option maxHeartbeats 3200000 in
theorem plcIdx_c (v : Value) (ls : List Wt) (c : Int) (B : Nat) (w : World) (h : Rg 4 wtC w v ls) (hB : w.cell? ⟨B, 0, none⟩ = some (.int .i64 c)) :
   Calls Try.prog 92 #[v, .func (.func 93) #[] #[.pointer (some ⟨B, 0, none⟩)]] w fun e w' => e = .returned (.int .i64 (optI (ls.findIdx? fun x => x.1 == c))) ∧ Below w.heap.size w w' := by
  obtain ⟨a, cap, rfl, h1, h2, h3⟩ := h
  unfold maxLen at h2
  have HK : Hid (w.cell? ⟨B, 0, none⟩ = some (.int .i64 c)) := hB
  clear hB
  go_enter Try.func92, Try.ntmps92
  go_wp2
  go_loopw [8] (fun i wr => ∃ j : Nat, j ≤ ls.length ∧ i = .int .i64 j ∧ Hid (∀ t (ht : t < j) (h : t < ls.length), (ls[t].1 == c) = false) ∧ Hid (Below w.heap.size w wr)) (fun i _ => ls.length - (intOf i).toNat)
  case atStart => exact ⟨0, Nat.zero_le _, rfl, fun t ht => by omega, Below.refl _ _⟩
  case round =>
    obtain ⟨j, hj, rfl, hA, hbr⟩ := hrel
    by_cases hlt : j < ls.length
    case neg =>
      obtain rfl : j = ls.length := by omega
      have HN : Hid ((ls.findIdx? fun x => x.1 == c) = none) := by
        show (ls.findIdx? fun x => x.1 == c) = none
        rw [List.findIdx?_eq_none_iff]
        intro x hx
        obtain ⟨i, hi, rfl⟩ := List.getElem_of_mem hx
        exact hA.out i hi hi
      clear h3
      go_wp2
      go_ret
      exact ⟨by rw [HN.out]; rfl, hbr.out⟩
    case pos =>
    rcases h3 with h3 | ⟨b, off, rfl, h4⟩
    · subst h3; simp at hlt
    have hcb : b < w.heap.size := block_lt_of_cell (h4 j hlt 0 _ rfl)
    obtain ⟨r, hr⟩ : ∃ r, ls[j] = r := ⟨_, rfl⟩
    have HR : Hid (ls[j] = r) := hr
    have hc := rangeAt_below (h4 j hlt) hbr.out hcb
    rw [hr] at hc
    have e0 : wr.cell? ⟨b, off + j * 4, none⟩ = some (.int .i64 r.1) := hc 0 _ rfl
    have e1 : wr.cell? ⟨b, off + j * 4 + 1, none⟩ = some (.int .i64 r.2.1) := hc 1 _ rfl
    have e2 : wr.cell? ⟨b, off + j * 4 + 2, none⟩ = some (.int .i64 r.2.2.1) := hc 2 _ rfl
    have e3 : wr.cell? ⟨b, off + j * 4 + 3, none⟩ = some (.int .i64 r.2.2.2) := hc 3 _ rfl
    clear h4 hc hr
    go_wp2_with (fail)
    refine (plcClo_c r c B wr ((hbr.out.cell (block_lt_of_cell HK.out)).trans HK.out)).mono ?_
    rintro e w2 ⟨rfl, b2⟩
    have HB2 : Hid (Below w.heap.size w w2) := belowCall hbr.out b2 hbr.out.size
    clear b2
    by_cases ht : (r.1 == c) = true
    · rw [ht]
      have HF : Hid ((ls.findIdx? fun x => x.1 == c) = some j) := by
        show (ls.findIdx? fun x => x.1 == c) = some j
        rw [List.findIdx?_eq_some_iff_getElem]
        refine ⟨hlt, by rw [HR.out]; exact ht, fun t htj => by rw [hA.out t htj (by omega)]; simp⟩
      clear ht
      go_wp2
      go_ret
      exact ⟨by rw [HF.out]; rfl, HB2.out⟩
    · rw [show (r.1 == c) = false by simpa using ht]
      have HF : Hid (∀ t (ht : t < j + 1) (h : t < ls.length), (ls[t].1 == c) = false) := fun t htt h => by
        by_cases htj : t < j
        · exact hA.out t htj h
        · obtain rfl : t = j := by omega
          rw [HR.out]; simpa using ht
      clear ht
      go_wp2
      go_roundw
      case rel => exact ⟨j + 1, by omega, by go_num, HF.out, HB2.out⟩
      case measure => simp [intOf]; omega
set_option maxHeartbeats 800000 in
theorem plc_c (v : Value) (ls : List Wt) (c : Int) (w : World) (h : Rg 4 wtC w v ls) :
   Calls Try.prog 59 #[v, .int .i64 c] w fun e w' => e = .returned (.int .i64 (optI (ls.findIdx? fun x => x.1 == c))) ∧ Below w.heap.size w w' := by
  obtain ⟨W1, hW1⟩ : ∃ W1, w.alloc (Obj.cells #[.int .i64 c] 3) = W1 := ⟨_, rfl⟩
  have b1 : Below w.heap.size w W1 := hW1 ▸ (Below.refl _ _).alloc (Nat.le_refl _) _
  have k1 : Blk W1 w.heap.size #[.int .i64 c] 3 := hW1 ▸ Blk.new _ _ _
  have HC : Hid (Calls Try.prog 92 #[v, .func (.func 93) #[] #[.pointer (some ⟨w.heap.size, 0, none⟩)]] W1 fun e w' => e = .returned (.int .i64 (optI (ls.findIdx? fun x => x.1 == c))) ∧ Below W1.heap.size W1 w') := plcIdx_c v ls c w.heap.size W1 (h.below b1) (k1.cell 0)
  have B1 : Hid (Below w.heap.size w W1) := b1
  have HW1 : Hid (_ = W1) := hW1
  obtain ⟨a, cap, rfl, -⟩ := h
  clear hW1 b1 k1
  go_enter Try.func59, Try.ntmps59
  go_wp2_with (fail)
  rw [HW1.out]
  refine HC.out.mono ?_
  rintro e w2 ⟨rfl, b2⟩
  have HF : Hid (Below w.heap.size w w2) := belowCall B1.out b2 B1.out.size
  clear b2
  go_wp2
  go_ret
  exact ⟨rfl, HF.out⟩
end Go.Proofs.Ytpmmgbinogokfaa

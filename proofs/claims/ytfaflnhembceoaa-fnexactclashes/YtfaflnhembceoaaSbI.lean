/- Features that are right, the program's way; no condition. -/
import Derived.Test.YtfaflnhembceoaaSbD
namespace Go.Proofs.Ytfaflnhembceoaa
open Go.RowKit Go.ChangeShapes Go.WideShapes Go.ChangeAt
set_option linter.unusedVariables false
set_option linter.unusedSimpArgs false
set_option maxRecDepth 8000
theorem subOk_c (x n : Int) (w : World) : Calls Try.prog 40 #[.int .i64 x, .int .i64 n] w fun e w' => e = .returned (.bool (decide (0 ≤ x ∧ x < n))) ∧ w' = w := by
  go_enter Try.func40, Try.ntmps40
  by_cases h : 0 ≤ x
  · by_cases h2 : x < n
    · go_wp2
      go_ret
      exact ⟨by simp [h, h2], rfl⟩
    · go_wp2
      go_ret
      exact ⟨by simp [h, h2], rfl⟩
  · go_wp2
    go_ret
    exact ⟨by simp; omega, rfl⟩
set_option maxHeartbeats 1600000 in
theorem featOk_c (k o n : Int) (w : World) : Calls Try.prog 83 #[.agg #[.int .i64 k, .int .i64 o], .int .i64 n] w fun e w' => e = .returned (.bool (ftB n (k, o))) ∧ Below w.heap.size w w' := by
  have HB : Hid (Below w.heap.size w (w.alloc (Obj.cells #[.int .i64 k, .int .i64 o] 37))) := (Below.refl _ _).alloc (Nat.le_refl _) _
  go_enter Try.func83, Try.ntmps83
  go_wp2_with (go_at_call 40; refine (subOk_c _ _ _).mono ?_; rintro e w2 ⟨rfl, rfl⟩)
  all_goals
    go_ret
    refine ⟨?_, HB.out⟩
    first | (simp_all [ftB, ptB]; done) | (simp_all [ftB, ptB]; rfl)
theorem clo_c (f g : Int × Int) (B : Nat) (w : World) (hB : Blk w B (H2 f.1 f.2) 37) : Calls Try.prog 99 #[.agg (H2 g.1 g.2), .pointer (some ⟨B, 0, none⟩)] w fun e w' => e = .returned (.bool (twB f g)) ∧ Below w.heap.size w w' := by
  have HB : Hid (Below w.heap.size w (w.alloc (Obj.cells (H2 g.1 g.2) 37))) := (Below.refl _ _).alloc (Nat.le_refl _) _
  have hl := hB.lt
  have c0 := hB.cell 0
  have c1 := hB.cell 1
  simp at c0 c1
  obtain ⟨f1, f2⟩ := f
  obtain ⟨g1, g2⟩ := g
  clear HB
  go_enter Try.func99, Try.ntmps99
  go_wp2
  all_goals
    go_ret
    refine ⟨?_, (Below.refl _ _).alloc (Nat.le_refl _) _⟩
    first | (simp_all [twB]; done) | (simp_all [twB]; rfl)
/-- the place of the first one that stands for f -/
def IxR (f : Int × Int) (ls : Fts) (w : World) (e : Ending) (w' : World) : Prop := ∃ r : Int, e = .returned (.int .i64 r) ∧ (0 ≤ r ↔ ls.any (twB f) = true) ∧ Below w.heap.size w w'
set_option maxHeartbeats 3200000 in
theorem index_c (v : Value) (ls : Fts) (f : Int × Int) (B : Nat) (w : World) (h : Rp mf mg w v ls) (hB : Blk w B (H2 f.1 f.2) 37) :
   Calls Try.prog 104 #[v, .func (.func 99) #[] #[.pointer (some ⟨B, 0, none⟩)]] w (IxR f ls w) := by
  obtain ⟨a, cap, rfl, h1, h2, h3⟩ := h
  unfold maxLen at h2
  have HK : Hid (Blk w B (H2 f.1 f.2) 37) := hB
  clear hB
  go_enter Try.func104, Try.ntmps104
  go_wp2
  go_loopw [8] (fun i wr => ∃ j : Nat, j ≤ ls.length ∧ i = .int .i64 j ∧ Hid (∀ t (ht : t < j) (h : t < ls.length), twB f ls[t] = false) ∧ Hid (Below w.heap.size w wr)) (fun i _ => ls.length - (intOf i).toNat)
  case atStart => exact ⟨0, Nat.zero_le _, rfl, fun t ht => by omega, Below.refl _ _⟩
  case round =>
    obtain ⟨j, hj, rfl, hA, hbr⟩ := hrel
    by_cases hlt : j < ls.length
    case neg =>
      obtain rfl : j = ls.length := by omega
      have HN : Hid (ls.any (twB f) = false) := by
        show ls.any (twB f) = false
        rw [List.any_eq_false]
        intro x hx
        obtain ⟨i, hi, rfl⟩ := List.getElem_of_mem hx
        simpa using hA.out i hi hi
      clear h3
      go_wp2
      go_ret
      exact ⟨_, rfl, ⟨fun h => by omega, fun h => by rw [HN.out] at h; cases h⟩, hbr.out⟩
    case pos =>
    rcases h3 with h3 | ⟨b, off, rfl, h4⟩
    · subst h3; simp at hlt
    have hc := h4 j hlt
    have hcb : b < w.heap.size := block_lt_of_cell hc.1
    obtain ⟨r, hr⟩ : ∃ r, ls[j] = r := ⟨_, rfl⟩
    have HR : Hid (ls[j] = r) := hr
    rw [hr] at hc
    have e0 := (hbr.out.cell (p := ⟨b, off + j * 2, none⟩) hcb).trans hc.1
    have e1 := (hbr.out.cell (p := ⟨b, off + j * 2 + 1, none⟩) hcb).trans hc.2
    clear h4 hc hr
    go_wp2_with (fail)
    refine (clo_c f r B wr (HK.out.below hbr.out HK.out.lt)).mono ?_
    rintro e w2 ⟨rfl, b2⟩
    have HB2 : Hid (Below w.heap.size w w2) := belowCall hbr.out b2 hbr.out.size
    clear b2
    by_cases ht : twB f r = true
    · rw [ht]
      have HF : Hid (ls.any (twB f) = true) := by
        show ls.any (twB f) = true
        rw [List.any_eq_true]
        exact ⟨ls[j], List.getElem_mem hlt, by rw [HR.out]; exact ht⟩
      clear ht
      go_wp2
      go_ret
      exact ⟨_, rfl, ⟨fun _ => HF.out, fun _ => by omega⟩, HB2.out⟩
    · rw [show twB f r = false by simpa using ht]
      have HF : Hid (∀ t (ht : t < j + 1) (h : t < ls.length), twB f ls[t] = false) := fun t htt h => by
        by_cases htj : t < j
        · exact hA.out t htj h
        · obtain rfl : t = j := by omega
          rw [HR.out]; simpa using ht
      clear ht
      go_wp2
      go_roundw
      case rel => exact ⟨j + 1, by omega, by go_num, HF.out, HB2.out⟩
      case measure => simp [intOf]; omega
set_option maxHeartbeats 800000 in
theorem contains_c (v : Value) (ls : Fts) (f : Int × Int) (B : Nat) (w : World) (h : Rp mf mg w v ls) (hB : Blk w B (H2 f.1 f.2) 37) :
   Calls Try.prog 98 #[v, .func (.func 99) #[] #[.pointer (some ⟨B, 0, none⟩)]] w fun e w' => e = .returned (.bool (ls.any (twB f))) ∧ Below w.heap.size w w' := by
  have HC : Hid (Calls Try.prog 104 #[v, .func (.func 99) #[] #[.pointer (some ⟨B, 0, none⟩)]] w (IxR f ls w)) := index_c v ls f B w h hB
  obtain ⟨a, cap, rfl, -⟩ := h
  clear hB
  go_enter Try.func98, Try.ntmps98
  go_wp2_with (fail)
  refine HC.out.mono ?_
  rintro e w2 ⟨r, rfl, hr, b2⟩
  have HF : Hid (ls.any (twB f) = decide (0 ≤ r)) := by
    show ls.any (twB f) = decide (0 ≤ r)
    rw [Bool.eq_iff_iff, ← hr]; simp
  clear hr
  go_wp2
  go_ret
  exact ⟨by rw [HF.out]; rfl, b2⟩
set_option maxHeartbeats 800000 in
theorem ordered_c (v : Value) (ls : Fts) (f : Int × Int) (w : World) (h : Rp mf mg w v ls) : Calls Try.prog 84 #[v, .agg (H2 f.1 f.2)] w fun e w' => e = .returned (.bool (ls.any (twB f))) ∧ Below w.heap.size w w' := by
  obtain ⟨W1, hW1⟩ : ∃ W1, w.alloc (Obj.cells (H2 f.1 f.2) 37) = W1 := ⟨_, rfl⟩
  have b1 : Below w.heap.size w W1 := hW1 ▸ (Below.refl _ _).alloc (Nat.le_refl _) _
  have HC := contains_c v ls f w.heap.size W1 (h.below b1) (hW1 ▸ Blk.new _ _ _)
  have HC2 : Hid (Calls Try.prog 98 #[v, .func (.func 99) #[] #[.pointer (some ⟨w.heap.size, 0, none⟩)]] W1 fun e w' => e = .returned (.bool (ls.any (twB f))) ∧ Below W1.heap.size W1 w') := HC
  have HB1 : Hid (Below w.heap.size w W1) := b1
  have HW1 : Hid (w.alloc (Obj.cells (H2 f.1 f.2) 37) = W1) := hW1
  obtain ⟨a, cap, rfl, -⟩ := h
  clear b1 hW1 HC
  go_enter Try.func84, Try.ntmps84
  go_wp2_with (fail)
  rw [HW1.out]
  refine HC2.out.mono ?_
  rintro e w2 ⟨rfl, b2⟩
  have HF : Hid (Below w.heap.size w w2) := belowCall HB1.out b2 HB1.out.size
  clear b2
  go_wp2
  go_ret
  exact ⟨rfl, HF.out⟩
theorem Rp.take {w : World} {b off cap : Nat} {ls : Fts} (h : ∀ i (h : i < ls.length), w.cell? ⟨b, off + i * 2, none⟩ = some (mf ls[i]) ∧ w.cell? ⟨b, off + i * 2 + 1, none⟩ = some (mg ls[i])) (hc : ls.length ≤ cap) (hm : cap ≤ maxLen) (j : Nat) (hj : j ≤ ls.length) : Rp mf mg w (.slice (some ⟨b, off, none⟩) j cap) (ls.take j) := by
  have hl : (ls.take j).length = j := by simp; omega
  refine ⟨_, cap, by rw [hl], by rw [hl]; omega, hm, .inr ⟨b, off, rfl, fun i hi => ?_⟩⟩
  have := h i (by omega)
  simpa using this
end Go.Proofs.Ytfaflnhembceoaa

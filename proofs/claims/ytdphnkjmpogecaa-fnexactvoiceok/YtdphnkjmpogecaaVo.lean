/- Levels; no condition. -/
import Derived.Test.YtdphnkjmpogecaaSlI
import Derived.Test.YtdphnkjmpogecaaLs
namespace Go.Proofs.Ytdphnkjmpogecaa
open Go.RowKit Go.ChangeShapes Go.WideShapes Go.ChangeAt
set_option linter.unusedVariables false
set_option linter.unusedSimpArgs false
set_option maxRecDepth 8000

/-- all of them are levels -/
def lvB (zs : List Int) : Bool := zs.all (fun z => decide (-32767 ≤ z ∧ z ≤ 32767))
theorem lvB_at {zs : List Int} (h : ∀ t (ht : t < zs.length), -32767 ≤ zs[t] ∧ zs[t] ≤ 32767) : lvB zs = true := by
  unfold lvB; rw [List.all_eq_true]; intro z hz; obtain ⟨t, ht, rfl⟩ := List.getElem_of_mem hz; simpa using h t ht
theorem lvB_no {zs : List Int} (t : Nat) (ht : t < zs.length) (h : ¬ (-32767 ≤ zs[t] ∧ zs[t] ≤ 32767)) : lvB zs = false := by
  cases hq : lvB zs with
  | false => rfl
  | true => unfold lvB at hq; rw [List.all_eq_true] at hq; have := hq _ (List.getElem_mem ht); simp at this; omega
set_option maxHeartbeats 1600000 in
theorem levels_c (v : Value) (zs : List Int) (w : World) (h : Rd .i64 w v zs) : Calls Try.prog 28 #[v] w fun e w' => e = .returned (.bool (lvB zs)) ∧ Below w.heap.size w w' := by
  obtain ⟨a, cap, rfl, h1, h2, h3⟩ := h
  unfold maxLen at h2
  go_enter Try.func28, Try.ntmps28
  go_wp2
  go_loopw [7] (fun i wr => ∃ j : Nat, j ≤ zs.length ∧ i = .int .i64 j ∧ Hid (∀ t (ht : t < j) (h : t < zs.length), -32767 ≤ zs[t] ∧ zs[t] ≤ 32767) ∧ Hid (Below w.heap.size w wr)) (fun i _ => zs.length - (intOf i).toNat)
  case atStart => exact ⟨0, Nat.zero_le _, rfl, fun t ht => by omega, Below.refl _ _⟩
  case round =>
    obtain ⟨j, hj, rfl, hA, hbr⟩ := hrel
    by_cases hlt : j < zs.length
    case neg =>
      obtain rfl : j = zs.length := by omega
      have HN : Hid (lvB zs = true) := lvB_at (fun t ht => hA.out t ht ht)
      clear h3
      go_wp2
      go_ret
      exact ⟨by rw [HN.out]; rfl, hbr.out⟩
    case pos =>
    rcases h3 with h3 | ⟨b, off, rfl, h4⟩
    · subst h3; simp at hlt
    obtain ⟨z, hz⟩ : ∃ z, zs[j] = z := ⟨_, rfl⟩
    have HZ : Hid (zs[j] = z) := hz
    have hc : wr.cell? ⟨b, off + j, none⟩ = some (.int .i64 z) := by
      have := h4 j hlt
      rw [hbr.out.cell (block_lt_of_cell this), this]
      simp [List.getElem?_eq_getElem hlt, hz]
    have hi : (0 : Int) ≤ (j : Int) := by omega
    have hi2 : (j : Int) < (zs.length : Int) := by omega
    clear h4 hz
    by_cases c1 : z < -32767
    · have c1d : decide (z < -32767) = true := by simp; omega
      have HN : Hid (lvB zs = false) := lvB_no j hlt (by rw [HZ.out]; omega)
      go_wp2
      go_ret
      exact ⟨by rw [HN.out]; rfl, hbr.out⟩
    · have c1d : decide (z < -32767) = false := by simp; omega
      by_cases c2 : 32767 < z
      · have c2d : decide (32767 < z) = true := by simp; omega
        have HN : Hid (lvB zs = false) := lvB_no j hlt (by rw [HZ.out]; omega)
        clear c1
        go_wp2
        go_ret
        exact ⟨by rw [HN.out]; rfl, hbr.out⟩
      · have c2d : decide (32767 < z) = false := by simp; omega
        have HN : Hid (∀ t (ht : t < j + 1) (h : t < zs.length), -32767 ≤ zs[t] ∧ zs[t] ≤ 32767) := fun t ht h => by
          by_cases e : t = j
          · subst e; rw [HZ.out]; omega
          · exact hA.out t (by omega) h
        clear c1 c2
        go_wp2
        go_roundw
        case rel => exact ⟨j + 1, by omega, by go_num, HN.out, hbr.out⟩
        case measure => simp [intOf]; omega
set_option maxHeartbeats 1600000 in
theorem voiceI_c (v : Value) (zs : List Int) (w : World) (h : Rd .i64 w v zs) : Calls Try.prog 16 #[v] w fun e w' => e = .returned (.bool (decide (zs.length ≤ 300) && lvB zs)) ∧ Below w.heap.size w w' := by
  have HR : Hid (Rd .i64 w v zs) := h
  have HB : Hid (Below w.heap.size w w) := Below.refl _ _
  obtain ⟨a, cap, rfl, h1, h2, -⟩ := h
  unfold maxLen at h2
  by_cases hl : (zs.length : Int) ≤ 300
  · have hld : decide ((zs.length : Int) ≤ 300) = true := by simp; omega
    have HE : Hid (decide (zs.length ≤ 300) = true) := by show _ = _; simp; omega
    go_enter Try.func16, Try.ntmps16
    go_wp2_with (fail)
    refine (levels_c _ zs _ HR.out).mono ?_
    rintro e w1 ⟨rfl, b1⟩
    have HB1 : Hid (Below w.heap.size w w1) := b1
    obtain ⟨x, hx⟩ : ∃ x, lvB zs = x := ⟨_, rfl⟩
    rw [hx]
    clear b1
    cases x
    · go_wp2
      go_ret
      exact ⟨by rw [HE.out, hx]; rfl, HB1.out⟩
    · go_wp2
      go_ret
      exact ⟨by rw [HE.out, hx]; rfl, HB1.out⟩
  · have hld : decide ((zs.length : Int) ≤ 300) = false := by simp; omega
    have HE : Hid (decide (zs.length ≤ 300) = false) := by show _ = _; simp; omega
    clear hl
    go_enter Try.func16, Try.ntmps16
    go_wp2
    go_ret
    exact ⟨by rw [HE.out]; rfl, HB.out⟩
set_option maxHeartbeats 1600000 in
theorem voiceM_c (v : Value) (zs : List Int) (w : World) (h : Rd .i64 w v zs) : Calls Try.prog 14 #[v] w fun e w' => e = .returned (.bool (decide (zs.length ≤ 300) && lvB zs)) ∧ Below w.heap.size w w' := by
  obtain ⟨a, cap, rfl, h1, h2, h3⟩ := h
  unfold maxLen at h2
  go_enter Try.func14, Try.ntmps14
  go_wp2
  go_loopw [3] (fun i wr => ∃ j : Nat, j ≤ zs.length ∧ i = .int .i64 j ∧ Hid (∀ t (ht : t < j) (h : t < zs.length), -32767 ≤ zs[t] ∧ zs[t] ≤ 32767) ∧ Hid (Below w.heap.size w wr)) (fun i _ => zs.length - (intOf i).toNat)
  case atStart => exact ⟨0, Nat.zero_le _, rfl, fun t ht => by omega, Below.refl _ _⟩
  case round =>
    obtain ⟨j, hj, rfl, hA, hbr⟩ := hrel
    by_cases hlt : j < zs.length
    case neg =>
      obtain rfl : j = zs.length := by omega
      have HN : Hid (lvB zs = true) := lvB_at (fun t ht => hA.out t ht ht)
      have HE : Hid (decide (zs.length ≤ 300) = decide ((zs.length : Int) ≤ 300)) := by show _ = _; congr 1; simp; omega
      clear h3
      go_wp2
      go_ret
      exact ⟨by rw [HN.out, HE.out, Bool.and_true]; rfl, hbr.out⟩
    case pos =>
    rcases h3 with h3 | ⟨b, off, rfl, h4⟩
    · subst h3; simp at hlt
    obtain ⟨z, hz⟩ : ∃ z, zs[j] = z := ⟨_, rfl⟩
    have HZ : Hid (zs[j] = z) := hz
    have hc : wr.cell? ⟨b, off + j, none⟩ = some (.int .i64 z) := by
      have := h4 j hlt
      rw [hbr.out.cell (block_lt_of_cell this), this]
      simp [List.getElem?_eq_getElem hlt, hz]
    have hi : (0 : Int) ≤ (j : Int) := by omega
    have hi2 : (j : Int) < (zs.length : Int) := by omega
    clear h4 hz
    go_wp2_with (fail)
    refine (level_c _ _).mono ?_
    rintro e w1 ⟨rfl, hw1⟩
    rw [hw1]
    clear hw1
    by_cases c1 : -32767 ≤ z ∧ z ≤ 32767
    · have HN : Hid (∀ t (ht : t < j + 1) (h : t < zs.length), -32767 ≤ zs[t] ∧ zs[t] ≤ 32767) := fun t ht h => by
          by_cases e : t = j
          · subst e; rw [HZ.out]; omega
          · exact hA.out t (by omega) h
      have c1d : decide (-32767 ≤ z ∧ z ≤ 32767) = true := by simp; omega
      rw [c1d]
      clear c1
      go_wp2
      go_roundw
      case rel => exact ⟨j + 1, by omega, by go_num, HN.out, hbr.out⟩
      case measure => simp [intOf]; omega
    · have c1d : decide (-32767 ≤ z ∧ z ≤ 32767) = false := by simp; omega
      have HN : Hid (lvB zs = false) := lvB_no j hlt (by rw [HZ.out]; omega)
      rw [c1d]
      clear c1
      go_wp2
      go_ret
      exact ⟨by rw [HN.out, Bool.and_false]; rfl, hbr.out⟩
set_option maxHeartbeats 1600000 in
theorem voiceLaw (v : Value) (zs : List Int) (w : World) (h : Rd .i64 w v zs) : Calls Try.prog 4 #[v] w fun e w' => e = .returned (.bool true) ∧ Below w.heap.size w w' := by
  have HR : Hid (Rd .i64 w v zs) := h
  have HB : Hid (Below w.heap.size w w) := Below.refl _ _
  obtain ⟨a, cap, rfl, h1, h2, -⟩ := h
  unfold maxLen at h2
  obtain ⟨r, hr⟩ : ∃ r, (decide (zs.length ≤ 300) && lvB zs) = r := ⟨_, rfl⟩
  have HRR : Hid ((decide (zs.length ≤ 300) && lvB zs) = r) := hr
  have hrr : (r != r) = false := by simp
  clear hr
  by_cases hbig : (1048576 : Int) < (zs.length : Int)
  · go_enter Try.func4, Try.ntmps4
    go_wp2
    go_ret
    exact ⟨rfl, HB.out⟩
  · have HL : Hid (zs.length ≤ 1048576) := by show _ ≤ _; omega
    go_enter Try.func4, Try.ntmps4
    go_wp2_with (fail)
    refine (toI _ zs _ HR.out HL.out).mono ?_
    rintro e w1 ⟨v1, rfl, o1, b1⟩
    have HB1 : Hid (Below w.heap.size w w1) := b1
    have HO1 : Hid (Rd .i64 w1 v1 zs) := o1.rd
    clear o1 b1
    go_wp2_with (fail)
    refine (voiceM_c _ zs _ HO1.out).mono ?_
    rintro e w2 ⟨rfl, b2⟩
    have HB2 : Hid (Below w.heap.size w w2) := belowCall HB1.out b2 HB1.out.size
    rw [HRR.out]
    clear b2 HB1 HO1
    go_wp2_with (fail)
    refine (toI _ zs _ (HR.out.below HB2.out) HL.out).mono ?_
    rintro e w3 ⟨v3, rfl, o3, b3⟩
    have HB3 : Hid (Below w.heap.size w w3) := belowCall HB2.out b3 HB2.out.size
    have HO3 : Hid (Rd .i64 w3 v3 zs) := o3.rd
    clear o3 b3 HB2
    go_wp2_with (fail)
    refine (voiceI_c _ zs _ HO3.out).mono ?_
    rintro e w4 ⟨rfl, b4⟩
    have HB4 : Hid (Below w.heap.size w w4) := belowCall HB3.out b4 HB3.out.size
    have HO4 : Hid (Rd .i64 w4 v3 zs) := HO3.out.below b4
    rw [HRR.out]
    clear b4 HB3 HO3
    go_wp2_with (fail)
    refine (toI _ zs _ (HR.out.below HB4.out) HL.out).mono ?_
    rintro e w5 ⟨v5, rfl, o5, b5⟩
    have HB5 : Hid (Below w.heap.size w w5) := belowCall HB4.out b5 HB4.out.size
    have HO5 : Hid (Rd .i64 w5 v3 zs ∧ Rd .i64 w5 v5 zs) := ⟨HO4.out.below b5, o5.rd⟩
    clear o5 b5 HB4 HO4
    go_wp2_with (fail)
    refine (eqI _ _ zs zs _ HO5.out.1 HO5.out.2).mono ?_
    rintro e w6 ⟨rfl, b6⟩
    have HB6 : Hid (Below w.heap.size w w6) := belowCall HB5.out b6 HB5.out.size
    have e0 : decide (zs = zs) = true := by simp
    rw [e0]
    clear b6 HB5
    go_wp2
    go_ret
    exact ⟨rfl, HB6.out⟩
end Go.Proofs.Ytdphnkjmpogecaa

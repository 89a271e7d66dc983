/- Served, the model's way; no condition. -/
import Derived.Test.YtpmmgbinogokfaaSrv
namespace Go.Proofs.Ytpmmgbinogokfaa
open Go.RowKit Go.ChangeShapes Go.WideShapes Go.ChangeAt
set_option linter.unusedVariables false
set_option linter.unusedSimpArgs false
set_option maxRecDepth 8000
set_option maxHeartbeats 6400000 in
theorem servedM_c (n g : Int) (va vq : Value) (gs : List Ag) (qs : List Wt) (c : Int) (w : World) (ha : Rg 3 agC w va gs) (hq : Rg 4 wtC w vq qs) :
   Calls Try.prog 33 #[.agg (D4 n va vq g), .int .i64 c] w fun e w' => e = .returned (.tuple #[.int .i64 (servF n g gs qs c).1, .int .i64 (servF n g gs qs c).2]) ∧ Below w.heap.size w w' := by
  obtain ⟨W0, hW0⟩ : ∃ W0, w.alloc (Obj.cells (D4 n va vq g) 27) = W0 := ⟨_, rfl⟩
  have hb0 : Below w.heap.size w W0 := by rw [← hW0]; exact (Below.refl _ _).alloc (Nat.le_refl _) _
  have HB0 : Hid (Below w.heap.size w W0) := hb0
  have HK0 : Hid (Blk W0 w.heap.size (D4 n va vq g) 27) := by rw [← hW0]; exact Blk.new _ _ _
  have HH : Hid (Rg 3 agC w va gs ∧ Rg 4 wtC w vq qs) := ⟨ha, hq⟩
  obtain ⟨a0, p0, rfl, gl, gl2, g3⟩ := ha
  obtain ⟨a1, p1, rfl, ql, ql2, q3⟩ := hq
  unfold maxLen at gl2 ql2
  have G3 : Hid (gs = [] ∨ ∃ b off, a0 = some ⟨b, off, none⟩ ∧ ∀ i (h : i < gs.length), w.rangeAt b (off + i * 3) (agC gs[i])) := g3
  have Q3 : Hid (qs = [] ∨ ∃ b off, a1 = some ⟨b, off, none⟩ ∧ ∀ i (h : i < qs.length), w.rangeAt b (off + i * 4) (wtC qs[i])) := q3
  obtain ⟨gm, hgm⟩ : ∃ m, gs.length = m := ⟨_, rfl⟩
  obtain ⟨m, hm⟩ : ∃ m, qs.length = m := ⟨_, rfl⟩
  have HM : Hid (gs.length = gm ∧ qs.length = m) := ⟨hgm, hm⟩
  rw [hgm] at HH HK0 gl hW0
  rw [hm] at HH HK0 ql hW0
  rw [hgm, hm]
  have x0 := HK0.out.cell 0
  have x1 := HK0.out.cell 1
  have x2 := HK0.out.cell 2
  have x3 := HK0.out.cell 3
  simp at x0 x1 x2 x3
  obtain ⟨s1, s2, hss⟩ : ∃ s1 s2, servF n g gs qs c = (s1, s2) := ⟨_, _, rfl⟩
  have HSS : Hid (servF n g gs qs c = (s1, s2)) := hss
  rw [hss]
  have HW0 : Hid (_ = W0) := hW0
  clear hb0 hW0 hss hgm hm g3 q3
  go_enter Try.func33, Try.ntmps33
  go_wp2_with (fail)
  rw [HW0.out]
  refine (deskM n g _ _ gs qs W0 (HH.out.1.below HB0.out) (HH.out.2.below HB0.out)).mono ?_
  rintro e w1 ⟨r, rfl, hr, b1⟩
  have HB1 : Hid (Below w.heap.size w w1) := belowCall HB0.out b1 HB0.out.size
  have k1 := HK0.out.below b1 HK0.out.lt
  have HR : Hid (r = true ↔ DkOk n g gs qs) := hr
  have y1 := k1.cell 1
  have y2 := k1.cell 2
  simp at y1 y2
  clear hr b1 HK0 HB0 HW0 x0 x1 x2 x3 k1
  cases r with
  | false =>
    have HY : Hid (s1 = 2 ∧ s2 = -1) := by
      have h := HSS.out
      rw [servF, if_neg (fun h => absurd (HR.out.2 h.1) (by simp))] at h
      cases h; exact ⟨rfl, rfl⟩
    clear HR
    go_wp2
    go_ret2
    exact ⟨by rw [HY.out.1, HY.out.2]; rfl, HB1.out⟩
  | true =>
  have HDK : Hid (DkOk n g gs qs) := HR.out.1 rfl
  clear HR
  by_cases hc0 : c < 0
  · have HY : Hid (s1 = 2 ∧ s2 = -1) := by
      have h := HSS.out
      rw [servF, if_neg (fun h => by have := h.2; omega)] at h
      cases h; exact ⟨rfl, rfl⟩
    go_wp2
    go_ret2
    exact ⟨by rw [HY.out.1, HY.out.2]; rfl, HB1.out⟩
  have HSB : Hid (servB gs qs c = (s1, s2)) := by
    show servB gs qs c = (s1, s2)
    have h := HSS.out
    rwa [servF, if_pos ⟨HDK.out, by omega⟩] at h
  clear HSS HDK
  go_wp2
  go_loopw [6] (fun i wr => ∃ j : Nat, j ≤ gm ∧ i = .int .i64 j ∧ Hid (∀ i (h : i < gs.length), i < j → (gs[i].2.1 == c) = false) ∧ wr = w1) (fun i _ => gm - (intOf i).toNat)
  case atStart => exact ⟨0, Nat.zero_le _, rfl, fun i _ h => by omega, rfl⟩
  case round =>
    obtain ⟨j, hj, rfl, AJ, rfl⟩ := hrel
    by_cases hlt : j < gm
    case pos =>
      have hjl : j < gs.length := by rw [HM.out.1]; exact hlt
      obtain ⟨b, off, rfl, h4⟩ : ∃ b off, a0 = some ⟨b, off, none⟩ ∧ _ := by
        rcases G3.out with h | h
        · rw [h] at hjl; simp at hjl
        · exact h
      have hcb : b < w.heap.size := block_lt_of_cell (h4 j hjl 0 _ rfl)
      have hc := rangeAt_below (h4 j hjl) HB1.out hcb
      obtain ⟨r, hr⟩ : ∃ r, gs[j] = r := ⟨_, rfl⟩
      rw [hr] at hc
      obtain ⟨r1, r2, r3⟩ := r
      have e1 := hc 1 _ rfl
      simp only at e1
      have HR : Hid (gs[j] = (r1, r2, r3)) := hr
      clear h4 hc hr
      by_cases hrc : r2 = c
      · have HY : Hid (s1 = 0 ∧ s2 = j) := by
          have h1 : (gs.findIdx? fun x => x.2.1 == c) = some j := by
            rw [List.findIdx?_eq_some_iff_getElem]
            refine ⟨hjl, by rw [HR.out]; simpa using hrc, fun t htj => by rw [AJ.out t (by omega) htj]; simp⟩
          have h := HSB.out
          simp only [servB, h1] at h
          cases h; exact ⟨rfl, rfl⟩
        subst hrc
        go_wp2
        go_ret2
        exact ⟨by rw [HY.out.1, HY.out.2]; rfl, HB1.out⟩
      · have HA : Hid (∀ i (h : i < gs.length), i < j + 1 → (gs[i].2.1 == c) = false) := fun i hi hij => by
          by_cases e : i < j
          · exact AJ.out i hi e
          · obtain rfl : i = j := by omega
            rw [HR.out]; simpa using hrc
        go_wp2
        go_roundw
        case rel => exact ⟨j + 1, by omega, by go_num, HA.out, by first | rfl | trivial⟩
        case measure => simp [intOf]; omega
    case neg =>
    obtain rfl : gm = j := by omega
    have HN1 : Hid ((gs.findIdx? fun x => x.2.1 == c) = none) := (fa_none gs _).2 fun x hx => by
      obtain ⟨i, hi, rfl⟩ := List.getElem_of_mem hx
      exact AJ.out i hi (by rw [← HM.out.1]; exact hi)
    clear AJ hlt
    go_wp2
    obtain ⟨W5, hW5⟩ : ∃ W5, W5 = wr := ⟨_, rfl⟩
    subst hW5
    go_loopw [7] (fun i ww => ∃ j : Nat, j ≤ m ∧ i = .int .i64 j ∧ Hid (∀ i (h : i < qs.length), i < j → (qs[i].1 == c) = false) ∧ ww = W5) (fun i _ => m - (intOf i).toNat)
    case atStart => exact ⟨0, Nat.zero_le _, rfl, fun i _ h => by omega, rfl⟩
    case round =>
      obtain ⟨j, hj, rfl, AJ, rfl⟩ := hrel
      by_cases hlt : j < m
      case pos =>
        have hjl : j < qs.length := by rw [HM.out.2]; exact hlt
        obtain ⟨b, off, rfl, h4⟩ : ∃ b off, a1 = some ⟨b, off, none⟩ ∧ _ := by
          rcases Q3.out with h | h
          · rw [h] at hjl; simp at hjl
          · exact h
        have hcb : b < w.heap.size := block_lt_of_cell (h4 j hjl 0 _ rfl)
        have hc := rangeAt_below (h4 j hjl) HB1.out hcb
        obtain ⟨r, hr⟩ : ∃ r, qs[j] = r := ⟨_, rfl⟩
        rw [hr] at hc
        obtain ⟨r1, r2, r3, r4⟩ := r
        have e1 := hc 0 _ rfl
        simp only [Nat.add_zero] at e1
        have HR : Hid (qs[j] = (r1, r2, r3, r4)) := hr
        clear h4 hc hr
        by_cases hrc : r1 = c
        · have HY : Hid (s1 = 1 ∧ s2 = j) := by
            have h1 : (qs.findIdx? fun x => x.1 == c) = some j := by
              rw [List.findIdx?_eq_some_iff_getElem]
              refine ⟨hjl, by rw [HR.out]; simpa using hrc, fun t htj => by rw [AJ.out t (by omega) htj]; simp⟩
            have h := HSB.out
            simp only [servB, HN1.out, h1] at h
            cases h; exact ⟨rfl, rfl⟩
          subst hrc
          go_wp2
          go_ret2
          exact ⟨by rw [HY.out.1, HY.out.2]; rfl, HB1.out⟩
        · have HA : Hid (∀ i (h : i < qs.length), i < j + 1 → (qs[i].1 == c) = false) := fun i hi hij => by
            by_cases e : i < j
            · exact AJ.out i hi e
            · obtain rfl : i = j := by omega
              rw [HR.out]; simpa using hrc
          go_wp2
          go_roundw
          case rel => exact ⟨j + 1, by omega, by go_num, HA.out, by first | rfl | trivial⟩
          case measure => simp [intOf]; omega
      case neg =>
      obtain rfl : m = j := by omega
      have HN2 : Hid ((qs.findIdx? fun x => x.1 == c) = none) := (fa_none qs _).2 fun x hx => by
        obtain ⟨i, hi, rfl⟩ := List.getElem_of_mem hx
        exact AJ.out i hi (by rw [← HM.out.2]; exact hi)
      have HY : Hid (s1 = 2 ∧ s2 = -1) := by
        have h := HSB.out
        simp only [servB, HN1.out, HN2.out] at h
        cases h; exact ⟨rfl, rfl⟩
      go_wp2
      go_ret2
      exact ⟨by rw [HY.out.1, HY.out.2]; rfl, HB1.out⟩
end Go.Proofs.Ytpmmgbinogokfaa

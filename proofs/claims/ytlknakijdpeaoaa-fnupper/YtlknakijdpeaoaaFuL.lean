/- The law of Upper over texts that are drawn; no condition. -/
import Derived.Test.YtlknakijdpeaoaaUpi
import Derived.Test.YtlknakijdpeaoaaUpm
import Derived.Test.YtlknakijdpeaoaaFut
namespace Go.Proofs.Ytlknakijdpeaoaa
open Go.RowKit Go.ChangeShapes Go.WideShapes Go.ChangeAt
set_option linter.unusedVariables false
set_option linter.unusedSimpArgs false
set_option maxRecDepth 8000

theorem uT_of {s : ByteArray} (h : s ∈ uAB) : (upS s).toList = [] ∨ (wB (upS s) = true ∧ (upS (upS s)).toList = (upS s).toList ∧ (upS s).size = s.size) := by
  have := List.all_eq_true.1 uT_all s h
  unfold uT at this
  simp only [Bool.or_eq_true, Bool.and_eq_true, beq_iff_eq] at this
  exact this
theorem toL_nil {s : ByteArray} (h : s.toList = []) : s = ⟨#[]⟩ := (toList_nil_iff_emptyBytes s).1 h
set_option maxHeartbeats 6400000 in
theorem fnUpperLaw (v : Value) (zs : List Int) (w : World) (h : Rd .u8 w v zs) (hwf : ∀ z ∈ zs, (Lit.int .u8 z).wf = true) : Calls Try.prog 3 #[v] w fun e w' => e = .returned (.bool true) ∧ Below w.heap.size w w' := by
  have hok : ∀ z ∈ zs, 0 ≤ z ∧ z ≤ 255 := fun z hz => bounds_u8 (hwf z hz)
  clear hwf
  by_cases hbig : (1048576 : Int) < (zs.length : Int)
  · go_enter Try.func3, Try.ntmps3
    go_wp2_with (fail)
    refine (big_c v zs w h).mono ?_
    rintro e w2 ⟨rfl, hw2⟩
    obtain rfl : w = w2 := hw2.symm
    rw [decide_eq_true hbig]
    go_wp2
    go_ret
    exact ⟨rfl, Below.refl _ _⟩
  go_enter Try.func3, Try.ntmps3
  go_wp2_with (fail)
  refine (big_c v zs w h).mono ?_
  rintro e w2 ⟨rfl, hw2⟩
  obtain rfl : w = w2 := hw2.symm
  rw [decide_eq_false (show ¬ ((1048576 : Int) < (zs.length : Int)) by omega)]
  go_wp2_with (fail)
  refine (drawUp_c v zs w h hok (by omega)).mono ?_
  rintro e w2 ⟨s, rfl, hs, hs2, b2⟩
  have HB2 : Hid (Below w.heap.size w w2) := b2
  have HU := uT_of hs
  clear b2 hs h hok hbig
  go_wp2_with (fail)
  refine (upperI_c s w2 (by omega)).mono ?_
  rintro e w3 ⟨rfl, b3⟩
  have HB3 : Hid (Below w.heap.size w w3) := belowCall HB2.out b3 HB2.out.size
  clear b3 HB2
  obtain ⟨u, hu⟩ : ∃ u, upS s = u := ⟨_, rfl⟩
  have husz : u.size ≤ 4611686018427387904 := by
    rcases HU with h1 | ⟨h1, -, -⟩
    · rw [hu] at h1; rw [toL_nil h1]; decide
    · rw [hu] at h1; have := long_w h1; omega
  rw [hu] at HU ⊢
  have hne : (u.toList != u.toList) = false := by simp
  have hnw : (wB s != wB s) = false := by simp
  have HS : Hid (upS s = u) := hu
  clear hu
  go_wp2_with (fail)
  refine (upperM_c s w3 (by omega)).mono ?_
  rintro e w4 ⟨rfl, b4⟩
  have HB4 : Hid (Below w.heap.size w w4) := belowCall HB3.out b4 HB3.out.size
  rw [HS.out]
  clear b4 HB3
  go_wp2_with (fail)
  refine (wordI_c s w4 (by omega)).mono ?_
  rintro e w5 ⟨rfl, b5⟩
  have HB5 : Hid (Below w.heap.size w w5) := belowCall HB4.out b5 HB4.out.size
  clear b5 HB4
  go_wp2_with (fail)
  refine (wordM_c s w5 (by omega)).mono ?_
  rintro e w6 ⟨rfl, hw6⟩
  obtain rfl : w5 = w6 := hw6.symm
  go_wp2_with (fail)
  refine (upperI_c _ w5 (by decide)).mono ?_
  rintro e w7 ⟨rfl, b7⟩
  have HB7 : Hid (Below w.heap.size w w7) := belowCall HB5.out b7 HB5.out.size
  rw [uT_one]
  clear b7 HB5
  rcases HU with h1 | ⟨h1, h2, h3⟩
  · obtain rfl := toL_nil h1
    go_wp2
    go_ret
    exact ⟨rfl, HB7.out⟩
  · have hn1 : ¬ (u.toList = []) := by
      intro hh
      rw [toL_nil hh] at h1
      revert h1; decide
    have hn2 : (u.toList == []) = false := by simpa using hn1
    go_wp2_with (fail)
    refine (wordI_c u w7 husz).mono ?_
    rintro e w8 ⟨rfl, b8⟩
    have HB8 : Hid (Below w.heap.size w w8) := belowCall HB7.out b8 HB7.out.size
    rw [h1]
    clear b8 HB7
    go_wp2_with (fail)
    refine (upperI_c u w8 husz).mono ?_
    rintro e w9 ⟨rfl, b9⟩
    have HB9 : Hid (Below w.heap.size w w9) := belowCall HB8.out b9 HB8.out.size
    obtain ⟨u2, hu2⟩ : ∃ u2, upS u = u2 := ⟨_, rfl⟩
    rw [hu2] at h2 ⊢
    have he : (u2.toList == u.toList) = true := by simpa using h2
    have hl : ((u.size : Int) == (s.size : Int)) = true := by simp; omega
    clear b9 HB8 h2 hu2 hn1 h1 husz
    go_wp2
    go_ret
    exact ⟨rfl, HB9.out⟩

end Go.Proofs.Ytlknakijdpeaoaa

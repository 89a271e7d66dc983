/- FnExactTone13, walked; the two tables are as they were laid. -/
import Derived.Test.YtgdejlofkjdkoaaDoorTon
import Derived.Test.YtgdejlofkjdkoaaDoorIvs
namespace Go.Proofs.YtgdejlofkjdkoaaDoor
open Go.RowKit Go.ChangeShapes Go.WideShapes Go.ChangeAt
set_option linter.unusedVariables false
set_option linter.unusedSimpArgs false
set_option maxRecDepth 8000

set_option maxHeartbeats 3200000 in
theorem toneLaw (d sz ph n : Int) (w : World) (hG : RcG w) : Calls Tryd.prog 5 #[.int .i64 d, .int .i64 sz, .int .i64 ph, .int .i64 n] w fun e w' => e = .returned (.bool true) ∧ Below w.heap.size w w' := by
  have HG : Hid (RcG w) := hG
  clear hG
  have HLE : Hid ((tnR d sz ph n).length ≤ 1024) := by
    show _ ≤ _
    unfold tnR
    split
    · rename_i h
      unfold tnB at h
      simp at h
      rw [tnL_len]
      omega
    · simp
  go_enter Tryd.func5, Tryd.ntmps5
  go_wp2_with (fail)
  refine (toneM_c d sz ph n w).mono ?_
  rintro e w1 ⟨v0, rfl, o0, b1⟩
  obtain ⟨L, hL⟩ : ∃ L, tnR d sz ph n = L := ⟨_, rfl⟩
  obtain ⟨bb, hbb⟩ : ∃ b, tnB d sz ph n = b := ⟨_, rfl⟩
  rw [hL] at o0 HLE
  have HTI : Hid (∀ W, RcG W → Calls Tryd.prog 10 #[.int .i64 d, .int .i64 sz, .int .i64 ph, .int .i64 n] W fun e w' => ∃ v, e = .returned (.tuple #[v, .bool bb]) ∧ Ow .i64 3 W.heap.size w' v L ∧ Below W.heap.size W w') := fun W hW => by
    have := toneI_c d sz ph n W hW
    unfold TnR at this
    rw [hL, hbb] at this
    exact this
  rw [hbb]
  have HO1 : Hid (Ow .i64 3 w.heap.size w1 v0 L) := o0
  have HB1 : Hid (Below w.heap.size w w1) := b1
  clear o0 b1 hL hbb
  go_wp2_with (fail)
  refine (HTI.out w1 (HG.out.below HB1.out)).mono ?_
  rintro e w2 ⟨v1, rfl, o1, b2⟩
  have HO2 : Hid (Ow .i64 3 w.heap.size w2 v0 L) := HO1.out.below b2
  have HV2 : Hid (Ow .i64 3 w1.heap.size w2 v1 L) := o1
  have HB2 : Hid (Below w.heap.size w w2) := belowCall HB1.out b2 HB1.out.size
  have HNE : Hid (v0.ownBlock = none ∨ v0.ownBlock ≠ v1.ownBlock) := own_ne HO1.out o1 (Nat.le_refl _)
  clear o1 b2
  go_wp2_with (fail)
  refine (eqIS v1 v0 L w2 HV2.out.rd HO2.out.rd).mono ?_
  rintro e w3 ⟨rfl, b3⟩
  have HO3 : Hid (Ow .i64 3 w.heap.size w3 v0 L) := HO2.out.below b3
  have HV3 : Hid (Ow .i64 3 w1.heap.size w3 v1 L) := HV2.out.below b3
  have HB3 : Hid (Below w.heap.size w w3) := belowCall HB2.out b3 HB2.out.size
  clear b3
  have e0 : (bb != bb) = false := by simp
  have hle := HLE.out
  obtain ⟨N, hN⟩ : ∃ N, L.length = N := ⟨_, rfl⟩
  have HN : Hid (L.length = N) := hN
  rw [hN] at hle
  clear hN HLE HO1 HO2 HV2
  go_wp2_with (fail)
  refine (markI v1 L 1 w1.heap.size w3 HV3.out (by omega) (by rw [HN.out]; omega)).mono ?_
  rintro e w4 ⟨rfl, o4, g4⟩
  rw [HN.out] at o4 ⊢
  have HBS1 : Hid (w.heap.size ≤ w1.heap.size) := HB1.out.size
  have HB4 : Hid (Below w.heap.size w w4) := HB3.out.grown g4 HB3.out.size (fun j hj => Nat.le_trans HBS1.out (World.ownsRow.lt HV3.out j hj).1)
  have HO4 : Hid (Ow .i64 3 w.heap.size w4 v0 L) := World.ownsRow.kept HO3.out g4 HNE.out
  have HV4 : Hid (Rd .i64 w4 v1 (marks .i64 1 N)) := o4.rd
  clear o4 g4 HO3 HV3 HB3
  go_wp2_with (fail)
  refine (heldI v1 1 N w4 HV4.out (by omega) (by omega)).mono ?_
  rintro e w5 ⟨rfl, b5⟩
  have HO5 : Hid (Ow .i64 3 w.heap.size w5 v0 L) := HO4.out.below b5
  have HV5 : Hid (Rd .i64 w5 v1 (marks .i64 1 N)) := HV4.out.below b5
  have HB5 : Hid (Below w.heap.size w w5) := belowCall HB4.out b5 HB4.out.size
  clear b5 HO4 HV4
  have e1 : ((1 : Int) + N != 1 + N) = false := by simp
  go_wp2_with (fail)
  refine (HTI.out w5 (HG.out.below HB5.out)).mono ?_
  rintro e w6 ⟨v2, rfl, o2, b6⟩
  have HO6 : Hid (Ow .i64 3 w.heap.size w6 v0 L) := HO5.out.below b6
  have HV6 : Hid (Rd .i64 w6 v1 (marks .i64 1 N)) := HV5.out.below b6
  have HX6 : Hid (Rd .i64 w6 v2 L) := o2.rd
  have HB6 : Hid (Below w.heap.size w w6) := belowCall HB5.out b6 HB5.out.size
  clear b6 o2 HO5 HV5
  go_wp2_with (fail)
  refine (eqIS v2 v0 L w6 HX6.out HO6.out.rd).mono ?_
  rintro e w7 ⟨rfl, b7⟩
  have HV7 : Hid (Rd .i64 w7 v1 (marks .i64 1 N)) := HV6.out.below b7
  have HB7 : Hid (Below w.heap.size w w7) := belowCall HB6.out b7 HB6.out.size
  clear b7
  go_wp2_with (fail)
  refine (heldI v1 1 N w7 HV7.out (by omega) (by omega)).mono ?_
  rintro e w8 ⟨rfl, b8⟩
  have HB8 : Hid (Below w.heap.size w w8) := belowCall HB7.out b8 HB7.out.size
  clear b8
  go_wp2
  go_ret
  exact ⟨rfl, HB8.out⟩

end Go.Proofs.YtgdejlofkjdkoaaDoor

/- Agents and callers compared; no condition. -/
import Derived.Test.YtpmmgbinogokfaaSk
namespace Go.Proofs.Ytpmmgbinogokfaa
open Go.RowKit Go.ChangeShapes Go.WideShapes Go.ChangeAt
set_option linter.unusedVariables false
set_option linter.unusedSimpArgs false
set_option maxRecDepth 8000
def cmpA (a b : Ag) : Int := orI (cmpI (ones a.1) (ones b.1)) (cmpI a.2.2 b.2.2)
set_option maxHeartbeats 3200000 in
theorem cmpAg_c (a b : Ag) (w : World) (ha : 0 ≤ a.1 ∧ a.1 ≤ 255) (hb : 0 ≤ b.1 ∧ b.1 ≤ 255) :
   Calls Try.prog 103 #[.agg (agC a).toArray, .agg (agC b).toArray] w fun e w' => e = .returned (.int .i64 (cmpA a b)) ∧ Below w.heap.size w w' := by
  obtain ⟨a1, a2, a3⟩ := a
  obtain ⟨b1, b2, b3⟩ := b
  simp only [agC] at ha hb ⊢
  obtain ⟨W1, hW1⟩ : ∃ W1, (w.alloc (Obj.cells #[.int .i64 a1, .int .i64 a2, .int .i64 a3] 36)).alloc (Obj.cells #[.int .i64 b1, .int .i64 b2, .int .i64 b3] 36) = W1 := ⟨_, rfl⟩
  have B1 : Hid (Below w.heap.size w W1) := hW1 ▸ ((Below.refl _ _).alloc (Nat.le_refl _) _).alloc (by simp) _
  have k0 : Blk W1 w.heap.size #[.int .i64 a1, .int .i64 a2, .int .i64 a3] 36 := hW1 ▸ (Blk.new _ _ _).alloc _
  have k1 : Blk W1 (w.heap.size + 1) #[.int .i64 b1, .int .i64 b2, .int .i64 b3] 36 := hW1 ▸ Blk.newAt _ (w.heap.size + 1) _ 36 (by simp)
  have HX : Hid (∀ W, Below W1.heap.size W1 W → (W.cell? ⟨w.heap.size, 0, none⟩ = some (.int .i64 a1) ∧ W.cell? ⟨w.heap.size, 2, none⟩ = some (.int .i64 a3)) ∧ W.cell? ⟨w.heap.size + 1, 0, none⟩ = some (.int .i64 b1) ∧ W.cell? ⟨w.heap.size + 1, 2, none⟩ = some (.int .i64 b3)) := fun W hW =>
    ⟨⟨(k0.below hW k0.lt).cell 0, (k0.below hW k0.lt).cell 2⟩, (k1.below hW k1.lt).cell 0, (k1.below hW k1.lt).cell 2⟩
  have HW1 : Hid (_ = W1) := hW1
  clear k0 k1 hW1
  go_enter Try.func103, Try.ntmps103
  go_wp2
  rw [HW1.out]
  refine region_det [.pointer (some ⟨w.heap.size, 0, none⟩), .int .i64 a1, .int .i64 (ones a1), .pointer (some ⟨w.heap.size + 1, 0, none⟩), .int .i64 b1, .int .i64 (ones b1), .int .i64 (cmpI (ones a1) (ones b1)),
    .pointer (some ⟨w.heap.size, 2, none⟩), .int .i64 a3, .pointer (some ⟨w.heap.size + 1, 2, none⟩), .int .i64 b3, .int .i64 (cmpI a3 b3), .slice (some ⟨W1.heap.size, 0, none⟩) 2 2, .int .i64 (cmpA (a1, a2, a3) (b1, b2, b3)), .int .i64 (cmpA (a1, a2, a3) (b1, b2, b3))]
    (fun d W => Below W1.heap.size W1 W ∧ (d 12 = false → W.heap.size = W1.heap.size) ∧ (d 12 = true → Blk W W1.heap.size #[.int .i64 (cmpI (ones a1) (ones b1)), .int .i64 (cmpI a3 b3)] 3)) (by kernel_rfl) (by kernel_rfl)
    (by simp only [putAll, Act.put, List.setIfInBounds_toArray, List.set_cons_succ, List.set_cons_zero]; exact rfl) ⟨(Below.refl _ _).drew, fun _ => rfl, fun h => by cases h⟩ ⟨?_, ?_, ?_, ?_, ?_, ?_, ?_, ?_, ?_, ?_, ?_, ?_, ?_, ?_, ?_, trivial⟩ ?_
  case refine_16 =>
    rintro d W ⟨I, J1, J2⟩ hn
    have HB : Hid (Below w.heap.size w W) := belowCall B1.out I B1.out.size
    clear I J1 J2 hn B1 HX HW1
    go_wp2
    go_ret
    exact ⟨rfl, HB.out⟩
  all_goals (try (rintro d W ⟨I, J1, J2⟩ hn hd))
  all_goals (try (obtain ⟨⟨x0, x2⟩, y0, y2⟩ := HX.out W I; clear B1 HX HW1))
  · go_wp2
    exact ⟨rfl, rfl, I, J1, J2⟩
  · go_wp2
    exact ⟨rfl, rfl, I, J1, J2⟩
  · go_wp2_with (fail)
    refine (cnt_c _ ha.1 ha.2 _).mono ?_
    rintro e w2 ⟨rfl, rfl⟩
    go_wp2
    exact ⟨rfl, rfl, I, J1, J2⟩
  · go_wp2
    exact ⟨rfl, rfl, I, J1, J2⟩
  · go_wp2
    exact ⟨rfl, rfl, I, J1, J2⟩
  · go_wp2_with (fail)
    refine (cnt_c _ hb.1 hb.2 _).mono ?_
    rintro e w2 ⟨rfl, rfl⟩
    go_wp2
    exact ⟨rfl, rfl, I, J1, J2⟩
  · go_wp2_with (fail)
    refine (cmp_c _ _ _).mono ?_
    rintro e w2 ⟨rfl, rfl⟩
    go_wp2
    exact ⟨rfl, rfl, I, J1, J2⟩
  iterate 4
    · go_wp2
      exact ⟨rfl, rfl, I, J1, J2⟩
  · go_wp2_with (fail)
    refine (cmp_c _ _ _).mono ?_
    rintro e w2 ⟨rfl, rfl⟩
    go_wp2
    exact ⟨rfl, rfl, I, J1, J2⟩
  · have hz := J1 hn
    have HZ : Hid (W.heap.size = W1.heap.size) := hz
    clear hz J1 J2
    go_wp2
    exact ⟨rfl, by rw [← HZ.out], I.trans ((Below.refl _ _).alloc I.size _), fun h => (by cases h), fun _ => Blk.newAt _ _ _ 3 HZ.out.symm⟩
  · have c := J2 (hd ⟨12, .data⟩ (by simp) rfl)
    have z0 := c.cell 0
    have z1 := c.cell 1
    simp at z0 z1
    have HH : Hid _ := z0
    have HH1 : Hid _ := z1
    clear c z0 z1
    go_wp2_with (fail)
    refine (or_c _ _ _ _ HH.out HH1.out).mono ?_
    rintro e w2 ⟨rfl, rfl⟩
    go_wp2
    exact ⟨rfl, rfl, I, J1, J2⟩
  · go_wp2
    exact ⟨rfl, rfl, I, J1, J2⟩
def cmpW (a b : Wt) : Int := orI (cmpI b.2.2.1 a.2.2.1) (cmpI a.2.2.2 b.2.2.2)
set_option maxHeartbeats 3200000 in
theorem cmpWt_c (a b : Wt) (w : World) :
   Calls Try.prog 87 #[.agg (wtC a).toArray, .agg (wtC b).toArray] w fun e w' => e = .returned (.int .i64 (cmpW a b)) ∧ Below w.heap.size w w' := by
  obtain ⟨a1, a2, a3, a4⟩ := a
  obtain ⟨b1, b2, b3, b4⟩ := b
  simp only [wtC]
  obtain ⟨W1, hW1⟩ : ∃ W1, (w.alloc (Obj.cells #[.int .i64 a1, .int .i64 a2, .int .i64 a3, .int .i64 a4] 74)).alloc (Obj.cells #[.int .i64 b1, .int .i64 b2, .int .i64 b3, .int .i64 b4] 74) = W1 := ⟨_, rfl⟩
  have B1 : Hid (Below w.heap.size w W1) := hW1 ▸ ((Below.refl _ _).alloc (Nat.le_refl _) _).alloc (by simp) _
  have k0 : Blk W1 w.heap.size #[.int .i64 a1, .int .i64 a2, .int .i64 a3, .int .i64 a4] 74 := hW1 ▸ (Blk.new _ _ _).alloc _
  have k1 : Blk W1 (w.heap.size + 1) #[.int .i64 b1, .int .i64 b2, .int .i64 b3, .int .i64 b4] 74 := hW1 ▸ Blk.newAt _ (w.heap.size + 1) _ 74 (by simp)
  have HX : Hid (∀ W, Below W1.heap.size W1 W → (W.cell? ⟨w.heap.size, 2, none⟩ = some (.int .i64 a3) ∧ W.cell? ⟨w.heap.size, 3, none⟩ = some (.int .i64 a4)) ∧ W.cell? ⟨w.heap.size + 1, 2, none⟩ = some (.int .i64 b3) ∧ W.cell? ⟨w.heap.size + 1, 3, none⟩ = some (.int .i64 b4)) := fun W hW =>
    ⟨⟨(k0.below hW k0.lt).cell 2, (k0.below hW k0.lt).cell 3⟩, (k1.below hW k1.lt).cell 2, (k1.below hW k1.lt).cell 3⟩
  have HW1 : Hid (_ = W1) := hW1
  clear k0 k1 hW1
  go_enter Try.func87, Try.ntmps87
  go_wp2
  rw [HW1.out]
  refine region_det [.pointer (some ⟨w.heap.size + 1, 2, none⟩), .int .i64 b3, .pointer (some ⟨w.heap.size, 2, none⟩), .int .i64 a3, .int .i64 (cmpI b3 a3),
    .pointer (some ⟨w.heap.size, 3, none⟩), .int .i64 a4, .pointer (some ⟨w.heap.size + 1, 3, none⟩), .int .i64 b4, .int .i64 (cmpI a4 b4), .slice (some ⟨W1.heap.size, 0, none⟩) 2 2, .int .i64 (cmpW (a1, a2, a3, a4) (b1, b2, b3, b4)), .int .i64 (cmpW (a1, a2, a3, a4) (b1, b2, b3, b4))]
    (fun d W => Below W1.heap.size W1 W ∧ (d 10 = false → W.heap.size = W1.heap.size) ∧ (d 10 = true → Blk W W1.heap.size #[.int .i64 (cmpI b3 a3), .int .i64 (cmpI a4 b4)] 3)) (by kernel_rfl) (by kernel_rfl)
    (by simp only [putAll, Act.put, List.setIfInBounds_toArray, List.set_cons_succ, List.set_cons_zero]; exact rfl) ⟨(Below.refl _ _).drew, fun _ => rfl, fun h => by cases h⟩ ⟨?_, ?_, ?_, ?_, ?_, ?_, ?_, ?_, ?_, ?_, ?_, ?_, ?_, trivial⟩ ?_
  case refine_14 =>
    rintro d W ⟨I, J1, J2⟩ hn
    have HB : Hid (Below w.heap.size w W) := belowCall B1.out I B1.out.size
    clear I J1 J2 hn B1 HX HW1
    go_wp2
    go_ret
    exact ⟨rfl, HB.out⟩
  all_goals (try (rintro d W ⟨I, J1, J2⟩ hn hd))
  all_goals (try (obtain ⟨⟨x0, x2⟩, y0, y2⟩ := HX.out W I; clear B1 HX HW1))
  iterate 4
    · go_wp2
      exact ⟨rfl, rfl, I, J1, J2⟩
  · go_wp2_with (fail)
    refine (cmp_c _ _ _).mono ?_
    rintro e w2 ⟨rfl, rfl⟩
    go_wp2
    exact ⟨rfl, rfl, I, J1, J2⟩
  iterate 4
    · go_wp2
      exact ⟨rfl, rfl, I, J1, J2⟩
  · go_wp2_with (fail)
    refine (cmp_c _ _ _).mono ?_
    rintro e w2 ⟨rfl, rfl⟩
    go_wp2
    exact ⟨rfl, rfl, I, J1, J2⟩
  · have hz := J1 hn
    have HZ : Hid (W.heap.size = W1.heap.size) := hz
    clear hz J1 J2
    go_wp2
    exact ⟨rfl, by rw [← HZ.out], I.trans ((Below.refl _ _).alloc I.size _), fun h => (by cases h), fun _ => Blk.newAt _ _ _ 3 HZ.out.symm⟩
  · have c := J2 (hd ⟨10, .data⟩ (by simp) rfl)
    have z0 := c.cell 0
    have z1 := c.cell 1
    simp at z0 z1
    have HH : Hid _ := z0
    have HH1 : Hid _ := z1
    clear c z0 z1
    go_wp2_with (fail)
    refine (or_c _ _ _ _ HH.out HH1.out).mono ?_
    rintro e w2 ⟨rfl, rfl⟩
    go_wp2
    exact ⟨rfl, rfl, I, J1, J2⟩
  · go_wp2
    exact ⟨rfl, rfl, I, J1, J2⟩
end Go.Proofs.Ytpmmgbinogokfaa

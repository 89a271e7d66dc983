/- The program's halfOf; no condition. -/
import Derived.Test.YtljejjfhlpjlfaaTel
namespace Go.Proofs.Ytljejjfhlpjlfaa
open Go.RowKit Go.ChangeShapes Go.WideShapes Go.ChangeAt
set_option linter.unusedVariables false
set_option linter.unusedSimpArgs false
set_option maxRecDepth 8000

/-- the half that an event befalls -/
def halfP (k a : Int) : Int × Bool := if k = 1 then (0, decide (a = 0)) else if k = 2 then (1, decide (a = 0)) else if k = 3 ∨ k = 4 then (a, decide (0 ≤ a ∧ a ≤ 1)) else (0, false)
/-- what befalls a signal on the way -/
def wayP (d : Dt) (k a : Int) : Dt × Bool :=
  if a < 0 ∨ (d.2.2.2.2.length : Int) ≤ a then (d, false)
  else if k = 7 then sendP d (d.2.2.2.2.getD a.toNat (0, 0, 0))
  else if k = 6 then ((d.1, d.2.1, d.2.2.1, d.2.2.2.1, d.2.2.2.2.eraseIdx a.toNat), true)
  else tellP (d.1, d.2.1, d.2.2.1, d.2.2.2.1, d.2.2.2.2.eraseIdx a.toNat) (d.2.2.2.2.getD a.toNat (0, 0, 0)).1 5 (d.2.2.2.2.getD a.toNat (0, 0, 0))
set_option maxHeartbeats 3200000 in
theorem halfOf_c (k a : Int) (w : World) : Calls Try.prog 59 #[.agg (H2 k a)] w fun e w' => e = .returned (.tuple #[.int .i64 (halfP k a).1, .bool (halfP k a).2]) ∧ Below w.heap.size w w' := by
  obtain ⟨W0, hW0⟩ : ∃ W0, w.alloc (Obj.cells (H2 k a) 35) = W0 := ⟨_, rfl⟩
  have kb : Blk W0 w.heap.size (H2 k a) 35 := by rw [← hW0]; exact Blk.new _ _ _
  have HB : Hid (Below w.heap.size w W0) := by rw [← hW0]; exact (Below.refl _ _).alloc (Nat.le_refl _) _
  have c0 := kb.cell 0
  have c1 := kb.cell 1
  simp at c0 c1
  have t1 : ∀ W : Ov W0, W.wd.cell? ⟨w.heap.size, 1, none⟩ = some (.int .i64 a) := ov_cell c1
  have ne1 : Nonempty (Ov W0) := ⟨⟨_, Below.refl _ _⟩⟩
  clear kb
  by_cases v1 : k = 1
  · subst v1
    have HP : Hid (halfP 1 a = (0, decide (a = 0))) := by show halfP _ _ = _; simp [halfP]
    go_enter Try.func59, Try.ntmps59
    go_wp2
    refine region_over (by kernel_rfl) (by kernel_rfl) ?_
    repeat (go_big_quiet_step (first | (go_at_call 48; exact HC.out _)))
    refine wpQuiet_nil ?_
    rintro _ ⟨W, rfl⟩
    have HBW : Hid (Below w.heap.size w W.wd) := belowCall HB.out W.ok HB.out.size
    clear t1
    go_wp2
    rw [HP.out]
    go_ret2
    exact ⟨by first | rfl | simp, HBW.out⟩
  by_cases v2 : k = 2
  · subst v2
    have HP : Hid (halfP 2 a = (1, decide (a = 0))) := by show halfP _ _ = _; simp [halfP]
    go_enter Try.func59, Try.ntmps59
    go_wp2
    refine region_over (by kernel_rfl) (by kernel_rfl) ?_
    repeat (go_big_quiet_step (first | (go_at_call 48; exact HC.out _)))
    refine wpQuiet_nil ?_
    rintro _ ⟨W, rfl⟩
    have HBW : Hid (Below w.heap.size w W.wd) := belowCall HB.out W.ok HB.out.size
    clear t1
    go_wp2
    rw [HP.out]
    go_ret2
    exact ⟨by first | rfl | simp, HBW.out⟩
  by_cases v3 : k = 3
  · subst v3
    have HC : Hid (∀ W : Ov W0, Calls Try.prog 48 #[.int .i64 a] W.wd fun e w'' => e = .returned (.bool (decide (0 ≤ a ∧ a ≤ 1))) ∧ ∃ W' : Ov W0, w'' = W'.wd) := fun W => ov_call ((halfOk_b a _ rfl W.wd).mono fun e w' ⟨h1, h2⟩ => ⟨h1, h2 ▸ Below.refl _ _⟩)
    obtain ⟨q, hq⟩ : ∃ q, decide (0 ≤ a ∧ a ≤ 1) = q := ⟨_, rfl⟩
    rw [hq] at HC
    have HQ : Hid (decide (0 ≤ a ∧ a ≤ 1) = q) := hq
    clear hq
    have HP : Hid (halfP 3 a = (a, q)) := by show halfP _ _ = _; rw [← HQ.out]; simp [halfP]
    go_enter Try.func59, Try.ntmps59
    go_wp2
    refine region_over (by kernel_rfl) (by kernel_rfl) ?_
    repeat (go_big_quiet_step (first | (go_at_call 48; exact HC.out _)))
    refine wpQuiet_nil ?_
    rintro _ ⟨W, rfl⟩
    have HBW : Hid (Below w.heap.size w W.wd) := belowCall HB.out W.ok HB.out.size
    clear t1
    go_wp2
    rw [HP.out]
    go_ret2
    exact ⟨by first | rfl | simp, HBW.out⟩
  by_cases v4 : k = 4
  · subst v4
    have HC : Hid (∀ W : Ov W0, Calls Try.prog 48 #[.int .i64 a] W.wd fun e w'' => e = .returned (.bool (decide (0 ≤ a ∧ a ≤ 1))) ∧ ∃ W' : Ov W0, w'' = W'.wd) := fun W => ov_call ((halfOk_b a _ rfl W.wd).mono fun e w' ⟨h1, h2⟩ => ⟨h1, h2 ▸ Below.refl _ _⟩)
    obtain ⟨q, hq⟩ : ∃ q, decide (0 ≤ a ∧ a ≤ 1) = q := ⟨_, rfl⟩
    rw [hq] at HC
    have HQ : Hid (decide (0 ≤ a ∧ a ≤ 1) = q) := hq
    clear hq
    have HP : Hid (halfP 4 a = (a, q)) := by show halfP _ _ = _; rw [← HQ.out]; simp [halfP]
    go_enter Try.func59, Try.ntmps59
    go_wp2
    refine region_over (by kernel_rfl) (by kernel_rfl) ?_
    repeat (go_big_quiet_step (first | (go_at_call 48; exact HC.out _)))
    refine wpQuiet_nil ?_
    rintro _ ⟨W, rfl⟩
    have HBW : Hid (Below w.heap.size w W.wd) := belowCall HB.out W.ok HB.out.size
    clear t1
    go_wp2
    rw [HP.out]
    go_ret2
    exact ⟨by first | rfl | simp, HBW.out⟩
  have HP : Hid (halfP k a = (0, false)) := by show halfP _ _ = _; simp [halfP, v1, v2, v3, v4]
  have w1 : (k == 1) = false := by simpa using v1
  have F1 : (k = 1) = False := eq_false v1
  have w2 : (k == 2) = false := by simpa using v2
  have F2 : (k = 2) = False := eq_false v2
  have w3 : (k == 3) = false := by simpa using v3
  have F3 : (k = 3) = False := eq_false v3
  have w4 : (k == 4) = false := by simpa using v4
  have F4 : (k = 4) = False := eq_false v4
  clear t1 ne1
  go_enter Try.func59, Try.ntmps59
  go_wp2
  rw [HP.out]
  go_ret2
  exact ⟨by first | rfl | simp, HB.out⟩

end Go.Proofs.Ytljejjfhlpjlfaa

/- The program's TariffsOk; no condition. -/
import Derived.Test.YtdnophdldpophaaTO
import Derived.Test.YtdnophdldpophaaOver
import Derived.Deep.MidRow
namespace Go.Proofs.Ytdnophdldpophaa
open Go.RowKit Go.ChangeShapes Go.WideShapes Go.ChangeAt
set_option linter.unusedVariables false
set_option linter.unusedSimpArgs false
set_option maxRecDepth 8000
def BoR (P : Prop) (w : World) (e : Ending) (w' : World) : Prop := ∃ r, e = .returned (.bool r) ∧ (r = true ↔ P) ∧ Below w.heap.size w w'
theorem BoR.no {P : Prop} {w w' : World} (h : ¬ P) (b : Below w.heap.size w w') : BoR P w (.returned (.bool false)) w' := ⟨_, rfl, ⟨fun h => (by cases h), fun h' => absurd h' h⟩, b⟩
theorem BoR.yes {P : Prop} {w w' : World} (h : P) (b : Below w.heap.size w w') : BoR P w (.returned (.bool true)) w' := ⟨_, rfl, ⟨fun _ => h, fun _ => rfl⟩, b⟩
theorem TfU.succ {ls : List Tf} {j : Nat} (h : TfU ls j) (hj : j < ls.length) (h1 : tfB ls[j] = true) (h2 : tkn (ls.take j) ls[j].1 ls[j].2.1 = false) : TfU ls (j + 1) := fun i hi hij => by
  by_cases hc : i < j
  · exact h i hi hc
  · obtain rfl : i = j := by omega
    exact ⟨h1, h2⟩
set_option maxHeartbeats 3200000 in
theorem tariffsI_c (v : Value) (ls : List Tf) (w : World) (h : Rg 5 tfC w v ls) : Calls Try.prog 19 #[v] w (BoR (TfOk ls) w) := by
  obtain ⟨a, cap, rfl, h1, h2, h3⟩ := h
  have HM : Hid (cap ≤ maxLen) := h2
  unfold maxLen at h2
  by_cases hbig : 40 < ls.length
  · have hb' : (ls.length : Int) > 40 := by omega
    have HN : Hid (¬ TfOk ls) := fun h => by have := h.2; omega
    clear hbig
    go_enter Try.func19, Try.ntmps19
    go_wp2
    go_ret
    exact BoR.no HN.out (Below.refl _ _)
  have hb' : ((ls.length : Int) > 40) = False := eq_false (by omega)
  have HLE : Hid (ls.length ≤ 40) := by show ls.length ≤ 40; omega
  clear hbig
  go_enter Try.func19, Try.ntmps19
  go_wp2
  go_loopw [10] (fun i wr => ∃ j : Nat, j ≤ ls.length ∧ i = .int .i64 j ∧ Hid (TfU ls j) ∧ Hid (Below w.heap.size w wr)) (fun i _ => ls.length - (intOf i).toNat)
  case atStart => exact ⟨0, Nat.zero_le _, rfl, fun t _ ht => by omega, Below.refl _ _⟩
  case round =>
    obtain ⟨j, hj, rfl, hA, hbr⟩ := hrel
    by_cases hlt : j < ls.length
    case neg =>
      obtain rfl : j = ls.length := by omega
      clear h3
      go_wp2
      go_ret
      exact BoR.yes ⟨hA.out, HLE.out⟩ hbr.out
    case pos =>
    rcases h3 with h3 | ⟨b, off, rfl, h4⟩
    · subst h3; simp at hlt
    have hcb : b < w.heap.size := block_lt_of_cell (h4 j hlt 0 _ rfl)
    obtain ⟨r, hr⟩ : ∃ r, ls[j] = r := ⟨_, rfl⟩
    have HR : Hid (ls[j] = r) := hr
    have hc := rangeAt_below (h4 j hlt) hbr.out hcb
    rw [hr] at hc
    have e0 : wr.cell? ⟨b, off + j * 5, none⟩ = some (.int .i64 r.1) := hc 0 _ rfl
    have e1 : wr.cell? ⟨b, off + j * 5 + 1, none⟩ = some (.int .i64 r.2.1) := hc 1 _ rfl
    have e2 : wr.cell? ⟨b, off + j * 5 + 2, none⟩ = some (.int .i64 r.2.2.1) := hc 2 _ rfl
    have e3 : wr.cell? ⟨b, off + j * 5 + 3, none⟩ = some (.int .i64 r.2.2.2.1) := hc 3 _ rfl
    have e4 : wr.cell? ⟨b, off + j * 5 + 4, none⟩ = some (.int .i64 r.2.2.2.2) := hc 4 _ rfl
    obtain ⟨W1, hW1⟩ : ∃ W1, wr.alloc (Obj.cells #[.int .i64 r.1, .int .i64 r.2.1, .int .i64 r.2.2.1, .int .i64 r.2.2.2.1, .int .i64 r.2.2.2.2] 32) = W1 := ⟨_, rfl⟩
    obtain ⟨X, hX⟩ : ∃ X, wr.heap.size = X := ⟨_, rfl⟩
    have HB2 : Hid (Below w.heap.size w W1) := hW1 ▸ hbr.out.alloc hbr.out.size _
    have hk : Blk W1 X #[.int .i64 r.1, .int .i64 r.2.1, .int .i64 r.2.2.1, .int .i64 r.2.2.2.1, .int .i64 r.2.2.2.2] 32 := by rw [← hW1, ← hX]; exact Blk.new _ _ _
    have z0 : ∀ W : Ov W1, W.wd.cell? ⟨X, 0, none⟩ = some (.int .i64 r.1) := ov_cell (hk.cell 0)
    have z1 : ∀ W : Ov W1, W.wd.cell? ⟨X, 1, none⟩ = some (.int .i64 r.2.1) := ov_cell (hk.cell 1)
    have z2 : ∀ W : Ov W1, W.wd.cell? ⟨X, 2, none⟩ = some (.int .i64 r.2.2.1) := ov_cell (hk.cell 2)
    have z3 : ∀ W : Ov W1, W.wd.cell? ⟨X, 3, none⟩ = some (.int .i64 r.2.2.2.1) := ov_cell (hk.cell 3)
    have z4 : ∀ W : Ov W1, W.wd.cell? ⟨X, 4, none⟩ = some (.int .i64 r.2.2.2.2) := ov_cell (hk.cell 4)
    have ne1 : Nonempty (Ov W1) := ⟨⟨_, Below.refl _ _⟩⟩
    obtain ⟨q0, hq0⟩ : ∃ q, tfB r = q := ⟨_, rfl⟩
    obtain ⟨q1, hq1⟩ : ∃ q, tkn (ls.take j) r.1 r.2.1 = q := ⟨_, rfl⟩
    have HOK : Hid (∀ W : Ov W1, Calls Try.prog 42 #[.agg #[.int .i64 r.1, .int .i64 r.2.1, .int .i64 r.2.2.1, .int .i64 r.2.2.2.1, .int .i64 r.2.2.2.2]] W.wd fun e w'' => e = .returned (.bool q0) ∧ ∃ W' : Ov W1, w'' = W'.wd) := fun W => ov_call (hq0 ▸ tariffOk_c r W.wd)
    have HTK : Hid (∀ W : Ov W1, Calls Try.prog 43 #[.slice (some ⟨b, off, none⟩) j cap, .int .i64 r.1, .int .i64 r.2.1] W.wd fun e w'' => e = .returned (.bool q1) ∧ ∃ W' : Ov W1, w'' = W'.wd) := fun W => ov_call (hq1 ▸ taken_c _ (ls.take j) r.1 r.2.1 W.wd (Rg.take (fun i hi => rangeAt_below (rangeAt_below (h4 i hi) HB2.out (block_lt_of_cell (h4 i hi 0 _ rfl))) W.ok (Nat.lt_of_lt_of_le (block_lt_of_cell (h4 i hi 0 _ rfl)) HB2.out.size)) h1 HM.out j hj))
    have HQ : Hid (q0 = true → q1 = false → TfU ls (j + 1)) := fun e0 e1 => hA.out.succ hlt (by rw [HR.out, hq0, e0]) (by rw [HR.out, hq1, e1])
    have HQN : Hid (q0 = false ∨ q1 = true → ¬ TfOk ls) := fun h hok => by
      have h5 := hok.1 j hlt hlt
      rw [HR.out, hq0, hq1] at h5
      rcases h with h | h
      · rw [h] at h5; cases h5.1
      · rw [h] at h5; cases h5.2
    have hjc : j ≤ cap := by omega
    clear h4 hc hr hk hq0 hq1
    cases q0 with
    | false =>
      go_wp2
      refine region_over (by kernel_rfl) (by kernel_rfl) ?_
      repeat (go_big_quiet_step (first | (go_at_call 42; exact HOK.out _)))
      refine wpQuiet_nil ?_
      rintro _ ⟨W, rfl⟩
      go_wp2
      go_ret
      exact BoR.no (HQN.out (.inl (by simp))) (belowCall HB2.out W.ok HB2.out.size)
    | true =>
      cases q1 with
      | true =>
        go_wp2
        refine region_over (by kernel_rfl) (by kernel_rfl) ?_
        repeat (go_big_quiet_step (first | (go_at_call 42; exact HOK.out _) | (go_at_call 43; exact HTK.out _)))
        refine wpQuiet_nil ?_
        rintro _ ⟨W, rfl⟩
        go_wp2
        go_ret
        exact BoR.no (HQN.out (.inr (by simp))) (belowCall HB2.out W.ok HB2.out.size)
      | false =>
        go_wp2
        refine region_over (by kernel_rfl) (by kernel_rfl) ?_
        repeat (go_big_quiet_step (first | (go_at_call 42; exact HOK.out _) | (go_at_call 43; exact HTK.out _)))
        refine wpQuiet_nil ?_
        rintro _ ⟨W, rfl⟩
        go_wp2
        go_roundw
        case rel => exact ⟨j + 1, by omega, by go_num, HQ.out (by simp) (by simp), belowCall HB2.out W.ok HB2.out.size⟩
        case measure => simp [intOf]; omega
end Go.Proofs.Ytdnophdldpophaa

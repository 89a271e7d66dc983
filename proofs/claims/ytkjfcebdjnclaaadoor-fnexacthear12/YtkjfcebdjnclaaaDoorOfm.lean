/- The model: frames told as levels; no condition. -/
import Derived.Test.YtkjfcebdjnclaaaDoorOfi
import Derived.Test.YtkjfcebdjnclaaaDoorExm
namespace Go.Proofs.YtkjfcebdjnclaaaDoor
open Go.RowKit Go.ChangeShapes Go.WideShapes Go.ChangeAt
set_option linter.unusedVariables false
set_option linter.unusedSimpArgs false
set_option maxRecDepth 8000

set_option maxHeartbeats 6400000 in
theorem ofM_c (l : Int) (f : Nat → Int) (hf : ∀ i, i < 16 → 0 ≤ f i ∧ f i ≤ 255) (w : World) : Calls Tryd.prog 41 #[.int .i64 l, .agg (A16 f)] w (OfR l f w) := by
  have HF : Hid (∀ i, i < 16 → 0 ≤ f i ∧ f i ≤ 255) := hf
  obtain ⟨W1, hW1⟩ : ∃ W, (w.alloc (Obj.cells (A16 f) 32)).alloc (Obj.cells (cdA (0, 0)) 25) = W := ⟨_, rfl⟩
  have HX1 : Hid (Bf w f W1) := by rw [← hW1]; exact Bf.new w f
  have HG2 : Hid (W1.heap.size = w.heap.size + 2) := by rw [← hW1]; show _ = _; simp
  have hb0 := (hf 0 (by decide)).1
  have hb1 := (hf 0 (by decide)).2
  have hc0 : W1.cell? ⟨w.heap.size, 0, none⟩ = some (.int .u8 (f 0)) := by rw [HX1.out.f.cell 0]; exact A16_at f 0 (by decide)
  clear hf
  go_enter Tryd.func41, Tryd.ntmps41
  go_wp2_with (fail)
  refine (level_c _ _).mono ?_
  rintro e w1 ⟨rfl, hw⟩
  rw [hw]
  clear hw w1
  by_cases hl : -32767 ≤ l ∧ l ≤ 32767
  case neg =>
    have d : decide (-32767 ≤ l ∧ l ≤ 32767) = false := by simp only [decide_eq_false_iff_not]; exact hl
    have HP : Hid (¬ COk (l, f 0)) := fun h => hl h.1
    rw [d]
    clear hl d
    obtain ⟨W3, hW3⟩ : ∃ W, W1.alloc (Obj.cells #[] 3) = W := ⟨_, rfl⟩
    have b3 : Below W1.heap.size W1 W3 := by rw [← hW3]; exact (Below.refl _ _).alloc (Nat.le_refl _) _
    have X3 := HX1.out.call b3 HX1.out.ge
    have HX3 : Hid (Bf w f W3) := X3
    have HO3 : Hid (Ow .i64 3 w.heap.size (W3.setRow (w.heap.size + 1) (cdA (0, 0))) (.slice (some ⟨W1.heap.size, 0, none⟩) 0 0) []) := by
      have h0 : Ow .i64 3 W1.heap.size W3 (.slice (some ⟨W1.heap.size, 0, none⟩) 0 0) [] := by rw [← hW3]; exact Ow.empty _ _ _ _ (Nat.le_refl _)
      exact (Ow.putRow h0 (by have := HG2.out; omega)).mono (by have := HG2.out; omega)
    clear b3 X3
    go_wp2_with (refine wpList_store_row rfl 25 _ _ rfl (w.heap.size + 1) _ rfl rfl 25 (cdA (0, 0)) HX3.out.z sizeCd rfl (by simp [Value.oneCell']) ?_)
    have hf := HX3.out.fin (0, 0)
    exact bodyPost_ret (results_E rfl _ _ (w.heap.size + 1) (0, 0) _ _ rfl rfl rfl hf.1) rfl ⟨fun h => absurd h HP.out, fun _ => ⟨_, rfl, HO3.out, hf.2⟩⟩
  have d : decide (-32767 ≤ l ∧ l ≤ 32767) = true := by simp only [decide_eq_true_eq]; exact hl
  rw [d]
  by_cases h48 : 48 < f 0
  case pos =>
    have d2 : decide (48 < f 0) = true := by simp only [decide_eq_true_eq]; exact h48
    have HP : Hid (¬ COk (l, f 0)) := fun h => by have := h.2.2; dsimp only at this; omega
    clear hl d h48
    obtain ⟨W3, hW3⟩ : ∃ W, W1.alloc (Obj.cells #[] 3) = W := ⟨_, rfl⟩
    have b3 : Below W1.heap.size W1 W3 := by rw [← hW3]; exact (Below.refl _ _).alloc (Nat.le_refl _) _
    have X3 := HX1.out.call b3 HX1.out.ge
    have HX3 : Hid (Bf w f W3) := X3
    have HO3 : Hid (Ow .i64 3 w.heap.size (W3.setRow (w.heap.size + 1) (cdA (0, 0))) (.slice (some ⟨W1.heap.size, 0, none⟩) 0 0) []) := by
      have h0 : Ow .i64 3 W1.heap.size W3 (.slice (some ⟨W1.heap.size, 0, none⟩) 0 0) [] := by rw [← hW3]; exact Ow.empty _ _ _ _ (Nat.le_refl _)
      exact (Ow.putRow h0 (by have := HG2.out; omega)).mono (by have := HG2.out; omega)
    clear b3 X3
    go_wp2_with (refine wpList_store_row rfl 25 _ _ rfl (w.heap.size + 1) _ rfl rfl 25 (cdA (0, 0)) HX3.out.z sizeCd rfl (by simp [Value.oneCell']) ?_)
    have hf := HX3.out.fin (0, 0)
    exact bodyPost_ret (results_E rfl _ _ (w.heap.size + 1) (0, 0) _ _ rfl rfl rfl hf.1) rfl ⟨fun h => absurd h HP.out, fun _ => ⟨_, rfl, HO3.out, hf.2⟩⟩
  have d2 : decide (48 < f 0) = false := by simp only [decide_eq_false_iff_not]; exact h48
  have HPK : Hid (COk (l, f 0)) := ⟨hl, by dsimp only; omega⟩
  obtain ⟨g2, hg2⟩ : ∃ g, W1.heap.size = g := ⟨_, rfl⟩
  obtain ⟨W2, hW2⟩ : ∃ W, W1.alloc (Obj.cells #[] 3) = W := ⟨_, rfl⟩
  have b2 : Below W1.heap.size W1 W2 := by rw [← hW2]; exact (Below.refl _ _).alloc (Nat.le_refl _) _
  have HX2 : Hid (Bf w f W2) := HX1.out.call b2 HX1.out.ge
  have HO2 : Hid (Ow .i64 3 g2 W2 (.slice (some ⟨g2, 0, none⟩) 0 0) (frNs f 0)) := by rw [← hW2, ← hg2]; exact Ow.empty _ _ _ _ (Nat.le_refl _)
  rw [hg2] at HG2
  clear hl d h48 b2
  go_wp2
  clear hc0
  go_loopw [7, 8] (fun vo i wr => ∃ j : Nat, ∃ v' : Value, j ≤ 15 ∧ i = .int .i64 ((j : Int) + 1) ∧ v' = vo ∧ Hid (Bf w f wr ∧ Ow .i64 3 g2 wr v' (frNs f j))) (fun _ i _ => 16 - (intOf i).toNat)
  case atStart => exact ⟨0, _, Nat.zero_le _, rfl, rfl, HX2.out, HO2.out⟩
  case round =>
    obtain ⟨j, vo, hj, rfl, hvo, hw⟩ := hrel
    subst hvo
    clear HX2 HO2 hW2 hg2
    by_cases hlt : j < 15
    case neg =>
      obtain rfl : j = 15 := by omega
      have HXW : Hid (Bf w f wr) := hw.out.1
      have HOW : Hid (Ow .i64 3 g2 wr vo (frNs f 15)) := hw.out.2
      have hc : wr.cell? ⟨w.heap.size, 0, none⟩ = some (.int .u8 (f 0)) := by rw [HXW.out.f.cell 0]; exact A16_at f 0 (by decide)
      have HNS : Hid (FrP (frNs f 15)) := frNs_ok HF.out
      clear hw
      go_wp2_with (fail)
      refine (exM_c (l, f 0) vo (frNs f 15) wr HOW.out.rd).mono ?_
      rintro e w3 ⟨hy, hn⟩
      by_cases hP : COk (l, f 0)
      · obtain ⟨v3, rfl, o3, b3⟩ := hy ⟨hP, HNS.out⟩
        have HP : Hid (COk (l, f 0)) := hP
        have X3 := HXW.out.call b3 HXW.out.ge
        have HX3 : Hid (Bf w f w3) := X3
        have HO3 : Hid (Ow .i64 3 w.heap.size (w3.setRow (w.heap.size + 1) (cdA (cdE (l, f 0) (frNs f 15)))) v3 (exL (l, f 0) (frNs f 15))) := (Ow.putRow (base := wr.heap.size) o3 (by have := HXW.out.ge; omega)).mono (by have := HXW.out.ge; omega)
        clear hy hn hP o3 b3 X3 hc
        go_wp2_with (refine wpList_store_row rfl 25 _ _ rfl (w.heap.size + 1) _ rfl rfl 25 (cdA (0, 0)) HX3.out.z sizeCd rfl (by simp [Value.oneCell']) ?_)
        have hf := HX3.out.fin (cdE (l, f 0) (frNs f 15))
        exact bodyPost_ret (results_E rfl _ _ (w.heap.size + 1) (cdE (l, f 0) (frNs f 15)) _ _ rfl rfl rfl hf.1) rfl ⟨fun _ => ⟨_, rfl, HO3.out, hf.2⟩, fun h => absurd HP.out h⟩
      · obtain ⟨v3, rfl, o3, b3⟩ := hn (fun h => hP h.1)
        have HP : Hid (¬ COk (l, f 0)) := hP
        have X3 := HXW.out.call b3 HXW.out.ge
        have HX3 : Hid (Bf w f w3) := X3
        have HO3 : Hid (Ow .i64 3 w.heap.size (w3.setRow (w.heap.size + 1) (cdA (0, 0))) v3 []) := (Ow.putRow (base := wr.heap.size) o3 (by have := HXW.out.ge; omega)).mono (by have := HXW.out.ge; omega)
        clear hy hn hP o3 b3 X3 hc
        go_wp2_with (refine wpList_store_row rfl 25 _ _ rfl (w.heap.size + 1) _ rfl rfl 25 (cdA (0, 0)) HX3.out.z sizeCd rfl (by simp [Value.oneCell']) ?_)
        have hf := HX3.out.fin (0, 0)
        exact bodyPost_ret (results_E rfl _ _ (w.heap.size + 1) (0, 0) _ _ rfl rfl rfl hf.1) rfl ⟨fun h => absurd h HP.out, fun _ => ⟨_, rfl, HO3.out, hf.2⟩⟩
    case pos =>
    have HXW : Hid (Bf w f wr) := hw.out.1
    have HOW : Hid (Ow .i64 3 g2 wr vo (frNs f j)) := hw.out.2
    have HNS : Hid (frNs f (j + 1) = frNs f j ++ [f (j + 1) / 16, f (j + 1) % 16]) := rfl
    obtain ⟨x, hx⟩ : ∃ x, f (j + 1) = x := ⟨_, rfl⟩
    have hx0 := (HF.out (j + 1) (by omega)).1
    have hx1 := (HF.out (j + 1) (by omega)).2
    obtain ⟨S, hS⟩ : ∃ S : World → Prop, ∀ W, S W ↔ Blk W w.heap.size (A16 f) 32 := ⟨_, fun _ => Iff.rfl⟩
    have y0 : ∀ W : At S, W.wd.cell? ⟨w.heap.size, j + 1, none⟩ = some (.int .u8 x) := fun W => by rw [((hS _).1 W.ok).cell (j + 1), ← hx]; exact A16_at f (j + 1) (by omega)
    have HS : Hid (∀ W, S W ↔ Blk W w.heap.size (A16 f) 32) := hS
    have ne : Nonempty (At S) := ⟨⟨wr, (hS _).2 HXW.out.f⟩⟩
    rw [hx] at HNS hx0 hx1
    have HEL : Hid ((frNs f j).length = 2 * j) := frNs_len f j
    have HGW : Hid (g2 ≤ wr.heap.size) := by have := HXW.out.ge; have := HG2.out; show _ ≤ _; omega
    have hi1 : (0 : Int) ≤ (j : Int) + 1 := by omega
    have hi2 : (j : Int) + 1 < 16 := by omega
    clear hw hx hS
    go_wp2
    refine region_mixA [true, true, true, true, true, true, true, true, true, true, true, false, false, false] 13 2 S (by kernel_rfl) rfl (by kernel_rfl) (fun _ _ _ _ _ h => h) ((HS.out _).2 HXW.out.f.drew) ?_
    simp only [selT, selF]
    try simp only [Act.put]
    repeat (go_big_quiet_step (fail))
    refine wpQuiet_nil ?_
    refine tail_step ?_
    have X5 : Bf w f (wr.drew.alloc (Obj.cells #[.int .i64 (x / 16), .int .i64 (x % 16)] 3)) := HXW.out.call (B := wr.heap.size) (((Below.refl _ _).drew).alloc (by simp) _) HXW.out.ge
    have HX5 : Hid (Bf w f (wr.drew.alloc (Obj.cells #[.int .i64 (x / 16), .int .i64 (x % 16)] 3))) := X5
    have HOD : Hid (Ow .i64 3 g2 wr.drew vo (frNs f j)) := HOW.out.below (Below.refl _ _).drew
    clear X5
    go_wp2
    refine ⟨(HS.out _).2 HX5.out.f, tail_step ?_⟩
    go_wp2_with (at_builtin; refine app2 rfl (.tmp 24) (.tmp 35) rfl g2 _ (frNs f j) rfl (HOD.out.alloc _) wr.heap.size (x / 16) (x % 16) rfl (by simp) (by simp) (by have := HEL.out; omega) (by have := HGW.out; simp; omega) ?_)
    intro v6 w6 ho hb
    have hg2 := HG2.out
    have X6 := HX5.out.call hb (by omega)
    have HFIN : Hid (Bf w f w6 ∧ Ow .i64 3 g2 w6 v6 (frNs f (j + 1))) := ⟨X6, by rw [HNS.out]; exact ho⟩
    clear ho hb X6 hg2 y0
    go_wp2
    refine ⟨(HS.out _).2 HFIN.out.1.f, tail_end ?_⟩
    go_wp2
    go_roundw
    case rel => exact ⟨j + 1, _, by omega, by go_num, rfl, HFIN.out⟩
    case measure => simp [intOf]; omega

end Go.Proofs.YtkjfcebdjnclaaaDoor

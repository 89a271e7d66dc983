/- The waves of a quarter, made; no condition. -/
import Derived.Test.YtgdejlofkjdkoaaDoorWav
import Derived.Test.YtgdejlofkjdkoaaDoorMixC
namespace Go.Proofs.YtgdejlofkjdkoaaDoor
open Go.RowKit Go.ChangeShapes Go.WideShapes Go.ChangeAt
set_option linter.unusedVariables false
set_option linter.unusedSimpArgs false
set_option maxRecDepth 8000

/-- the block g holds the waves of a quarter -/
def Qt (w : World) (g : Nat) : Prop := ∀ k, k < 65 → w.cell? ⟨g, k, none⟩ = some (.int .i64 (wv k))
theorem Qt.below {w w' : World} {g : Nat} (h : Qt w g) (hb : Below w.heap.size w w') : Qt w' g := fun k hk => by
  have := h k hk
  rw [hb.cell (block_lt_of_cell this)]; exact this
set_option maxHeartbeats 1600000 in
theorem qatI_c (g : Nat) (s : Int) (hs0 : -9223372036854775808 ≤ s) (hs1 : s ≤ 9223372036854775807) (w : World) (h : Qt w g) : Calls Tryd.prog 25 #[.pointer (some ⟨g, 0, none⟩), .int .i64 s] w fun e w' => e = .returned (.int .i64 (wave s)) ∧ w' = w := by
  have H4 : Hid (∀ i, i < 65 → w.cell? ⟨g, i, none⟩ = some (.int .i64 (wv i))) := h
  clear h
  obtain ⟨r, hr⟩ : ∃ r : Nat, s % 256 = (r : Int) := Int.eq_ofNat_of_zero_le (by omega)
  have hr2 : r < 256 := by omega
  have HW : Hid (wave s = waveN r) := by show _ = _; unfold wave; rw [hr]; rfl
  obtain ⟨m, hm⟩ : ∃ m, s.tmod 256 = m := ⟨_, rfl⟩
  have hmr : (m = r ∧ 0 ≤ m) ∨ (m = (r : Int) - 256 ∧ m < 0) := by
    have := tmodC s
    rw [hm] at this
    split at this <;> omega
  have hmm : (m + 256).tmod 256 = r := by
    have hm0 : 0 ≤ m + 256 := by have := tmodC s; rw [hm] at this; split at this <;> omega
    rw [Int.tmod_eq_emod_of_nonneg hm0]; omega
  have hm1 : -256 ≤ m := by omega
  have hm2 : m < 256 := by omega
  have HU : Hid (waveN r = if r ≤ 64 then wv r else if r ≤ 128 then -wv (128 - r) else if r ≤ 192 then -wv (r - 128) else wv (256 - r)) := rfl
  clear hr hmr
  by_cases c1 : r ≤ 64
  · have hc := H4.out r (by omega)
    have HX : Hid (wave s = wv r) := by show _ = _; rw [HW.out, HU.out, if_pos c1]
    have hb := wv_bd r (by omega)
    obtain ⟨x, hx⟩ : ∃ x, wv r = x := ⟨_, rfl⟩
    rw [hx] at hc HX hb
    clear hx HU HW H4
    go_enter Tryd.func25, Tryd.ntmps25
    go_wp2
    go_ret
    exact ⟨by rw [HX.out]; rfl, rfl⟩
  have d1 : decide ((r : Int) ≤ 64) = false := by simp; omega
  by_cases c2 : r ≤ 128
  · have hc := H4.out (128 - r) (by omega)
    have HX : Hid (wave s = -wv (128 - r)) := by show _ = _; rw [HW.out, HU.out, if_neg c1, if_pos c2]
    have hb := wv_bd (128 - r) (by omega)
    obtain ⟨x, hx⟩ : ∃ x, wv (128 - r) = x := ⟨_, rfl⟩
    rw [hx] at hc HX hb
    have hk : (128 - (r : Int)).toNat = 128 - r := by omega
    clear hx HU HW H4
    go_enter Tryd.func25, Tryd.ntmps25
    go_wp2
    go_ret
    exact ⟨by rw [HX.out]; rfl, rfl⟩
  have d2 : decide ((r : Int) ≤ 128) = false := by simp; omega
  by_cases c3 : r ≤ 192
  · have hc := H4.out (r - 128) (by omega)
    have HX : Hid (wave s = -wv (r - 128)) := by show _ = _; rw [HW.out, HU.out, if_neg c1, if_neg c2, if_pos c3]
    have hb := wv_bd (r - 128) (by omega)
    obtain ⟨x, hx⟩ : ∃ x, wv (r - 128) = x := ⟨_, rfl⟩
    rw [hx] at hc HX hb
    have hk : ((r : Int) - 128).toNat = r - 128 := by omega
    clear hx HU HW H4
    go_enter Tryd.func25, Tryd.ntmps25
    go_wp2
    go_ret
    exact ⟨by rw [HX.out]; rfl, rfl⟩
  · have hc := H4.out (256 - r) (by omega)
    have HX : Hid (wave s = wv (256 - r)) := by show _ = _; rw [HW.out, HU.out, if_neg c1, if_neg c2, if_neg c3]
    have hb := wv_bd (256 - r) (by omega)
    obtain ⟨x, hx⟩ : ∃ x, wv (256 - r) = x := ⟨_, rfl⟩
    rw [hx] at hc HX hb
    have d3 : decide ((r : Int) ≤ 192) = false := by simp; omega
    have hk : (256 - (r : Int)).toNat = 256 - r := by omega
    clear hx HU HW H4
    go_enter Tryd.func25, Tryd.ntmps25
    go_wp2
    go_ret
    exact ⟨by rw [HX.out]; rfl, rfl⟩
theorem zeroQ (w : World) : (zeroValue 65).run Tryd.prog w = .ok (.agg (Array.replicate 65 (.int .i64 0))) w := by kernel_rfl
/-- the cells of a quarter of which the first j are made -/
def qC (j : Nat) : Array Value := Array.ofFn (n := 65) fun i => .int .i64 (if i.val < j then wv i.val else 0)
theorem qC_at (j k : Nat) (h : k < 65) : (qC j)[k]? = some (.int .i64 (if k < j then wv k else 0)) := by
  simp [qC, Array.getElem?_ofFn, h]
theorem qC_set (j : Nat) (h : j < 65) : (qC j).setIfInBounds j (.int .i64 (wv j)) = qC (j + 1) := by
  apply Array.ext_getElem?
  intro i
  by_cases hi : i < 65
  · rw [Array.getElem?_setIfInBounds, qC_at _ _ hi, qC_at _ _ hi]
    by_cases e : j = i
    · subst e; simp [qC, h]
    · rw [if_neg e]
      by_cases c : i < j
      · rw [if_pos c, if_pos (by omega)]
      · rw [if_neg c, if_neg (by omega)]
  · simp [qC, hi]
theorem qC_0 : ((Array.replicate 65 (Value.int .i64 0)).setIfInBounds 0 (.int .i64 1073741824)).setIfInBounds 1 (.int .i64 1073418433) = qC 2 := by
  apply Array.ext_getElem?
  intro i
  by_cases hi : i < 65
  · rw [qC_at _ _ hi]
    match i with
    | 0 => rfl
    | 1 => rfl
    | i + 2 => rw [if_neg (by omega)]; simp [hi]
  · simp [qC, hi]
set_option maxHeartbeats 1600000 in
theorem quarterI_c (w : World) : Calls Tryd.prog 24 #[] w fun e w' => ∃ g, e = .returned (.pointer (some ⟨g, 0, none⟩)) ∧ Qt w' g ∧ w.heap.size ≤ g ∧ Below w.heap.size w w' := by
  have hz := zeroQ w
  have HB0 : Hid (Blk (w.alloc (Obj.cells (qC 2) 65)) w.heap.size (qC 2) 65) := Blk.new _ _ _
  have HL0 : Hid (Below w.heap.size w (w.alloc (Obj.cells (qC 2) 65))) := (Below.refl _ _).alloc (Nat.le_refl _) _
  go_enter Tryd.func24, Tryd.ntmps24
  go_wp2
  go_loopw [2] (fun i wr => ∃ j : Nat, j ≤ 62 ∧ i = .int .i64 (j + 2) ∧ Hid (Blk wr w.heap.size (qC (j + 2)) 65) ∧ Hid (Below w.heap.size w wr)) (fun i _ => 64 - (intOf i).toNat)
  case atStart => exact ⟨0, Nat.zero_le _, rfl, by rw [← qC_0] at HB0; exact HB0.out, by rw [← qC_0] at HL0; exact HL0.out⟩
  case round =>
    obtain ⟨j, hj, rfl, hK, hbr⟩ := hrel
    clear HB0 HL0 hz
    by_cases hlt : j < 62
    case neg =>
      obtain rfl : j = 62 := by omega
      go_wp2
      go_ret
      refine ⟨_, rfl, fun k hk => ?_, Nat.le_refl _, hbr.out⟩
      rw [hK.out.cell, qC_at _ _ hk]
      by_cases c : k < 64
      · rw [if_pos c]
      · obtain rfl : k = 64 := by omega
        rw [if_neg c, wv_64]
    case pos =>
    have c1 := hK.out.cell (j + 1)
    rw [qC_at _ _ (by omega), if_pos (by omega)] at c1
    have c0 := hK.out.cell j
    rw [qC_at _ _ (by omega), if_pos (by omega)] at c0
    have b1 := wv_bd (j + 1) (by omega)
    have b0 := wv_bd j (by omega)
    have HST : Hid (wv (j + 2) = near (2146836866 * wv (j + 1)) - wv j) := wv_step j hlt
    obtain ⟨x, hx⟩ : ∃ x, wv (j + 1) = x := ⟨_, rfl⟩
    obtain ⟨y, hy⟩ : ∃ y, wv j = y := ⟨_, rfl⟩
    rw [hx] at c1 b1 HST
    rw [hy] at c0 b0 HST
    obtain ⟨S, hS⟩ : ∃ S : World → Prop, ∀ W, S W ↔ (W.cell? ⟨w.heap.size, j + 1, none⟩ = some (.int .i64 x) ∧ W.cell? ⟨w.heap.size, j, none⟩ = some (.int .i64 y)) := ⟨_, fun _ => Iff.rfl⟩
    have y1 : ∀ W : At S, W.wd.cell? ⟨w.heap.size, j + 1, none⟩ = some (.int .i64 x) := fun W => ((hS _).1 W.ok).1
    have y0 : ∀ W : At S, W.wd.cell? ⟨w.heap.size, j, none⟩ = some (.int .i64 y) := fun W => ((hS _).1 W.ok).2
    have HS : Hid (∀ W, S W ↔ (W.cell? ⟨w.heap.size, j + 1, none⟩ = some (.int .i64 x) ∧ W.cell? ⟨w.heap.size, j, none⟩ = some (.int .i64 y))) := hS
    have HSD : Hid (S wr.drew) := (hS _).2 ⟨c1, c0⟩
    have ne : Nonempty (At S) := ⟨⟨wr, (hS _).2 ⟨c1, c0⟩⟩⟩
    have KS := (hK.out.drew.set (j + 2) (.int .i64 (wv (j + 2))))
    rw [qC_set _ (by omega)] at KS
    have HKS : Hid (Blk (wr.drew.setCell ⟨w.heap.size, j + 2, none⟩ (.int .i64 (wv (j + 2)))) w.heap.size (qC (j + 3)) 65) := KS
    have HBS : Hid (Below w.heap.size w (wr.drew.setCell ⟨w.heap.size, j + 2, none⟩ (.int .i64 (wv (j + 2))))) := hbr.out.drew.setCell (by dsimp only; omega) _
    have HSS : Hid (S (wr.drew.setCell ⟨w.heap.size, j + 2, none⟩ (.int .i64 (wv (j + 2))))) := (hS _).2 ⟨by rw [HKS.out.cell, qC_at _ _ (by omega), if_pos (by omega), hx], by rw [HKS.out.cell, qC_at _ _ (by omega), if_pos (by omega), hy]⟩
    have c2 := hK.out.drew.cell (j + 2)
    rw [qC_at _ _ (by omega), if_neg (by omega)] at c2
    have f2 := hK.out.drew.frozen (j + 2)
    have hN : near (2146836866 * x) ≤ 4000000000 ∧ -4000000000 ≤ near (2146836866 * x) := by unfold near; omega
    rw [HST.out] at HKS HBS HSS
    clear hS hx hy KS c1 c0 hK hbr
    go_wp2
    refine region_mixA [true, true, true, true, true, true, true, true, true, false, true, true, true, true, true, true, false, true, false, false] 20 4 S (by kernel_rfl) rfl (by kernel_rfl) (fun _ _ _ _ _ h => h) HSD.out ?_
    simp only [selT, selF]
    try simp only [Act.put]
    repeat (go_big_quiet_step (fail))
    refine wpQuiet_nil ?_
    refine tail_step ?_
    go_wp2_with (fail)
    refine (nearI_c _ (by omega) (by omega) wr.drew).mono ?_
    rintro e w4 ⟨rfl, hw⟩
    rw [hw]
    clear hw w4
    obtain ⟨n, hn⟩ : ∃ n, near (2146836866 * x) = n := ⟨_, rfl⟩
    rw [hn] at hN HKS HBS HSS ⊢
    clear hn HST
    go_wp2
    refine ⟨HSD.out, tail_step ?_⟩
    go_wp2
    refine ⟨HSD.out, tail_step ?_⟩
    go_wp2
    refine ⟨HSD.out, tail_step ?_⟩
    go_wp2
    refine ⟨HSS.out, tail_end ?_⟩
    go_wp2
    go_roundw
    case rel => exact ⟨j + 1, by omega, by go_num, HKS.out, HBS.out⟩
    case measure => simp [intOf]; omega

end Go.Proofs.YtgdejlofkjdkoaaDoor

/- The table of waves that the model makes; no condition. -/
import Derived.Test.YtgdejlofkjdkoaaDoorWav
import Derived.Test.YtgdejlofkjdkoaaDoorMixT
namespace Go.Proofs.YtgdejlofkjdkoaaDoor
open Go.RowKit Go.ChangeShapes Go.WideShapes Go.ChangeAt
set_option linter.unusedVariables false
set_option linter.unusedSimpArgs false
set_option maxRecDepth 8000

theorem wvL_take (j : Nat) (h : j + 2 < 64) : wvL.take (j + 3) = wvL.take (j + 2) ++ [wv (j + 2)] := by
  have hl : j + 2 < wvL.length := h
  rw [List.take_succ_eq_append_getElem hl]
  simp [wv, List.getElem?_eq_getElem hl]
theorem wvL_at (j k : Nat) (hk : k < j) (hj : j ≤ 64) : (wvL.take j).getD k 0 = wv k := by
  simp [wv, List.getElem?_take, hk]
set_option maxHeartbeats 6400000 in
theorem tableM_c (w : World) : Calls Tryd.prog 39 #[] w fun e w' => ∃ v, e = .returned v ∧ Ow .i64 3 w.heap.size w' v wvR ∧ Below w.heap.size w w' := by
  have HO0 : Hid (Ow .i64 3 w.heap.size (w.alloc (Obj.cells #[.int .i64 1073741824, .int .i64 1073418433] 3)) (.slice (some ⟨w.heap.size, 0, none⟩) 2 2) (wvL.take 2)) := World.ownsRow_lit (e := 3) (size := 1) (base := w.heap.size) w #[.int .i64 1073741824, .int .i64 1073418433] 2 (Nat.le_refl _) (by unfold maxLen; omega) rfl
  have HL0 : Hid (Below w.heap.size w (w.alloc (Obj.cells #[.int .i64 1073741824, .int .i64 1073418433] 3))) := (Below.refl _ _).alloc (Nat.le_refl _) _
  go_enter Tryd.func39, Tryd.ntmps39
  go_wp2
  go_loopw [1, 2] (fun u i wr => ∃ (j : Nat) (vv : Value), j ≤ 62 ∧ i = .int .i64 (j + 2) ∧ vv = u ∧ Hid (Ow .i64 3 w.heap.size wr vv (wvL.take (j + 2))) ∧ Hid (Below w.heap.size w wr)) (fun _ i _ => 64 - (intOf i).toNat)
  case atStart => exact ⟨0, _, Nat.zero_le _, rfl, rfl, HO0.out, HL0.out⟩
  case round =>
    obtain ⟨j, vv, hj, rfl, rfl, hO, hbr⟩ := hrel
    clear HO0 HL0
    by_cases hlt : j < 62
    case neg =>
      obtain rfl : j = 62 := by omega
      have HOA : Hid (Ow .i64 3 w.heap.size (wr.alloc (Obj.cells #[.int .i64 0] 3)) vv wvL) := by have := hO.out.alloc (Obj.cells #[.int .i64 0] 3); exact this
      have HBA : Hid (Below w.heap.size w (wr.alloc (Obj.cells #[.int .i64 0] 3))) := hbr.out.alloc hbr.out.size _
      go_wp2_with (at_builtin; refine appI rfl (.tmp 28) (.tmp 29) rfl w.heap.size _ wvL rfl HOA.out wr.heap.size 0 rfl (by simp) (by decide) (by have := HBA.out.size; exact this) ?_)
      intro v6 w6 ho hb
      have HO6 : Hid (Ow .i64 3 w.heap.size w6 v6 wvR) := ho
      have HB6 : Hid (Below w.heap.size w w6) := HBA.out.trans hb
      clear ho hb
      go_wp2
      go_ret
      exact ⟨_, rfl, HO6.out, HB6.out⟩
    case pos =>
    have HLN0 : (wvL.take (j + 2)).length = j + 2 := by have : wvL.length = 64 := rfl; simp; omega
    obtain ⟨a, cap, hv, hc1, hc2, hz⟩ := own_form hO.out
    rw [HLN0] at hv hc1 hz
    rcases hz with hz | ⟨b, rfl⟩
    · omega
    subst hv
    have HOW : Hid (Ow .i64 3 w.heap.size wr (.slice (some ⟨b, 0, none⟩) (j + 2) cap) (wvL.take (j + 2))) := hO.out
    have h4 : ∀ i, i < j + 2 → wr.cell? ⟨b, i, none⟩ = some (.int .i64 (wv i)) := fun i hi => by
      obtain ⟨_, _, e, _, _, h5⟩ := HOW.out.rd
      rw [HLN0] at e h5
      cases e
      rcases h5 with h5 | ⟨b', off', e, h6⟩
      · rw [h5] at HLN0; simp at HLN0
      · cases e
        have := h6 i hi
        rw [wvL_at _ _ hi (by omega)] at this
        simpa using this
    have b1 := wv_bd (j + 1) (by omega)
    have b0 := wv_bd j (by omega)
    have HTK : Hid (wvL.take (j + 3) = wvL.take (j + 2) ++ [near (2146836866 * wv (j + 1)) - wv j]) := by show _ = _; rw [← wv_step j hlt]; exact wvL_take j (by omega)
    have c2 : wr.cell? ⟨b, 1, none⟩ = some (.int .i64 1073418433) := h4 1 (by omega)
    have c1 := h4 (j + 1) (by omega)
    have c0 := h4 j (by omega)
    obtain ⟨x, hx⟩ : ∃ x, wv (j + 1) = x := ⟨_, rfl⟩
    obtain ⟨y, hy⟩ : ∃ y, wv j = y := ⟨_, rfl⟩
    rw [hx] at b1 HTK c1
    rw [hy] at b0 HTK c0
    obtain ⟨S, hS⟩ : ∃ S : World → Prop, ∀ W, S W ↔ (W.cell? ⟨b, 1, none⟩ = some (.int .i64 1073418433) ∧ W.cell? ⟨b, j + 1, none⟩ = some (.int .i64 x) ∧ W.cell? ⟨b, j, none⟩ = some (.int .i64 y)) := ⟨_, fun _ => Iff.rfl⟩
    have y2 : ∀ W : At S, W.wd.cell? ⟨b, 1, none⟩ = some (.int .i64 1073418433) := fun W => ((hS _).1 W.ok).1
    have y1 : ∀ W : At S, W.wd.cell? ⟨b, j + 1, none⟩ = some (.int .i64 x) := fun W => ((hS _).1 W.ok).2.1
    have y0 : ∀ W : At S, W.wd.cell? ⟨b, j, none⟩ = some (.int .i64 y) := fun W => ((hS _).1 W.ok).2.2
    have HSD : Hid (S wr.drew) := (hS _).2 ⟨c2, c1, c0⟩
    have ne : Nonempty (At S) := ⟨⟨wr, (hS _).2 ⟨c2, c1, c0⟩⟩⟩
    have hN : near (2146836866 * x) ≤ 4000000000 ∧ -4000000000 ≤ near (2146836866 * x) := by unfold near; omega
    have HSA : Hid (∀ z, S (wr.drew.alloc (Obj.cells #[.int .i64 z] 3))) := fun z => (hS _).2 (by
      have hb : Below wr.heap.size wr (wr.drew.alloc (Obj.cells #[.int .i64 z] 3)) := (Below.refl _ _).drew.alloc (by simp) _
      exact ⟨by rw [hb.cell (block_lt_of_cell c2)]; exact c2, by rw [hb.cell (block_lt_of_cell c1)]; exact c1, by rw [hb.cell (block_lt_of_cell c0)]; exact c0⟩)
    have HOD : Hid (∀ z, Ow .i64 3 w.heap.size (wr.drew.alloc (Obj.cells #[.int .i64 z] 3)) (.slice (some ⟨b, 0, none⟩) (j + 2) cap) (wvL.take (j + 2))) := fun z => (show Ow .i64 3 w.heap.size wr.drew _ _ from HOW.out.below (Below.refl _ _).drew).alloc _
    have HBD : Hid (∀ z, Below w.heap.size w (wr.drew.alloc (Obj.cells #[.int .i64 z] 3))) := fun z => hbr.out.drew.alloc hbr.out.size _
    have HLN : Hid ((wvL.take (j + 2)).length = j + 2) := HLN0
    have hn2 : (1 : Int) < (j : Int) + 2 := by omega
    have hn3 : (j : Int) + 1 < (j : Int) + 2 := by omega
    have hn4 : (j : Int) < (j : Int) + 2 := by omega
    have hn5 : (0 : Int) ≤ (j : Int) + 1 := by omega
    have hn6 : (0 : Int) ≤ (j : Int) := by omega
    clear hx hy HLN0 hO hbr hS c0 c1 c2 h4 HOW
    go_wp2
    refine region_mixT [true, true, true, true, true, true, true, true, true, true, true, false, true, true, true, true, true, false, false, false, false] 19 3 S (by kernel_rfl) rfl (by kernel_rfl) (fun _ _ _ _ _ h => h) HSD.out ?_
    simp only [selT, selF]
    try simp only [Act.put]
    repeat (go_big_quiet_step (fail))
    refine wpQuiet_nil ?_
    refine tail_step ?_
    go_wp2_with (fail)
    refine (nearM_c _ (by omega) (by omega) wr.drew).mono ?_
    rintro e w4 ⟨rfl, hw⟩
    rw [hw]
    clear hw w4
    obtain ⟨n, hn⟩ : ∃ n, near (2146836866 * x) = n := ⟨_, rfl⟩
    rw [hn] at hN HTK ⊢
    clear hn
    go_wp2
    refine ⟨HSD.out, tail_step ?_⟩
    go_wp2
    refine ⟨HSD.out, tail_step ?_⟩
    go_wp2
    refine ⟨HSA.out _, tail_end ?_⟩
    go_wp2_with (at_builtin; refine appI rfl (.tmp 8) (.tmp 26) rfl w.heap.size _ (wvL.take (j + 2)) rfl (HOD.out (n - y)) wr.heap.size (n - y) rfl (by simp) (by have := HLN.out; omega) (HBD.out (n - y)).size ?_)
    intro v6 w6 ho hb
    have HO6 : Hid (Ow .i64 3 w.heap.size w6 v6 (wvL.take (j + 3))) := by rw [HTK.out]; exact ho
    have HB6 : Hid (Below w.heap.size w w6) := (HBD.out (n - y)).trans hb
    clear ho hb
    go_wp2
    go_roundw
    case rel => exact ⟨j + 1, _, by omega, by go_num, rfl, HO6.out, HB6.out⟩
    case measure => simp [intOf]; omega

end Go.Proofs.YtgdejlofkjdkoaaDoor

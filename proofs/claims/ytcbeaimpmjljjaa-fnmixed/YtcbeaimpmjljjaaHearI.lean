/- The contract of the program's Heard; no condition. -/
import Derived.Test.YtcbeaimpmjljjaaSort
import Derived.Test.YtcbeaimpmjljjaaMixI
namespace Go.Proofs.Ytcbeaimpmjljjaa
open Go.RowKit Go.ChangeShapes Go.WideShapes Go.ChangeAt
set_option linter.unusedVariables false
set_option linter.unusedSimpArgs false
set_option maxRecDepth 8000
theorem hears_len {n : Int} {cs : Calls2} (h : POk n cs) (l : Int) : (hears cs l).length ≤ 8 := by
  unfold hears
  split
  · simp
  · rename_i i hc
    split
    · simp
    · have hi : i < cs.length := by
        rw [callAt, List.findIdx?_eq_some_iff_getElem] at hc
        exact hc.1
      have hg : cs.getD i (false, []) = cs[i] := by simp [List.getElem?_eq_getElem hi]
      rw [hg, others, List.length_map]
      exact Nat.le_trans (List.length_filter_le _ _) (h.2.2.1 i hi).2.1
set_option maxHeartbeats 1600000 in
theorem heard_c (n : Int) (v : Value) (cs : Calls2) (l : Int) (w : World) (h : RdC w v cs) :
   Calls Try.prog 24 #[.agg #[.int .i64 n, v], .int .i64 l] w (HeardR n cs l w) := by
  have hb : Below w.heap.size w (w.alloc (Obj.cells #[.int .i64 n, v] 26)) := (Below.refl _ _).alloc (Nat.le_refl _) _
  have H : Hid (Calls Try.prog 54 #[.agg #[.int .i64 n, v]] (w.alloc (Obj.cells #[.int .i64 n, v] 26)) (WireR n cs (w.alloc (Obj.cells #[.int .i64 n, v] 26)))) := wireP_c n v cs _ (h.below hb)
  have HB : Hid (Below w.heap.size w (w.alloc (Obj.cells #[.int .i64 n, v] 26))) := hb
  obtain ⟨rv, -, ⟨a0, cap, rfl, -⟩, -⟩ := h
  have HNIL : Hid (∀ W, Ow .i64 3 w.heap.size W (.slice none 0 0) []) := fun W => Ow.nil _ _ _ _
  clear hb
  go_enter Try.func24, Try.ntmps24
  go_wp2_with (fail)
  refine H.out.mono ?_
  rintro e w2 ⟨x, r, rfl, hr, b2, hw⟩
  have HR : Hid (r = true ↔ POk n cs) := hr
  have HB2 : Hid (Below w.heap.size w w2) := belowCall HB.out b2 HB.out.size
  have HW : Hid (r = true → ∃ g ρ chs ps, x = some ⟨g, 0, none⟩ ∧ Wr (w.alloc (Obj.cells #[.int .i64 n, .slice a0 rv.length cap] 26)).heap.size ρ chs w2 g ps cs ∧ (chs.length : Int) = n) := hw
  clear hr b2 hw H HB
  cases r with
  | false =>
    have HN : Hid (¬ POk n cs) := fun h => by have := HR.out.2 h; cases this
    clear HR HW
    go_wp2
    go_ret
    exact ⟨_, [], rfl, HNIL.out _, ⟨fun h => absurd h HN.out, fun _ => rfl⟩, HB2.out⟩
  | true =>
    obtain ⟨g, ρ, chs, ps, rfl, hWr, rfl⟩ := HW.out rfl
    have HP : Hid (POk chs.length cs) := HR.out.1 rfl
    have hpos : 1 ≤ chs.length ∧ chs.length ≤ 40 := by have h1 := HP.out.1; have h2 := HP.out.2.1; omega
    have HWr : Hid (Wr (w.alloc (Obj.cells #[.int .i64 (chs.length : Int), .slice a0 rv.length cap] 26)).heap.size ρ chs w2 g ps cs) := hWr
    clear hWr HR HW
    by_cases hl : 0 ≤ l ∧ l < (chs.length : Int)
    · have hd : decide (0 ≤ l ∧ l < (chs.length : Int)) = true := by simp only [decide_eq_true_eq]; exact hl
      obtain ⟨L, rfl⟩ := Int.eq_ofNat_of_zero_le hl.1
      have hL : L < chs.length := by omega
      obtain ⟨bw, cw, q1, q2, q3, q4, q5, q6⟩ := HWr.out.wireCell (by omega)
      obtain ⟨q, hq⟩ : ∃ q, chs.getD L 0 = q := ⟨_, rfl⟩
      have dq := q6 L hL
      rw [hq] at dq
      have HF : Hid (Calls Try.prog 65 #[ptr g, .chan (some q)] w2 (HearR chs cs (L : Int) w2)) := by
        rw [← hq]
        exact heardBy_c HWr.out (fun c hc => by obtain ⟨i, hi, rfl⟩ := List.getElem_of_mem hc; exact (HP.out.2.2.1 i hi).2.1) (L : Int) (by omega)
      clear q6 hq
      go_wp2_with (go_at_call 63; refine (has_c HWr.out _).mono ?_; rintro e wx ⟨rfl, hwx⟩; rw [hwx]; clear hwx wx; rw [hd])
      refine HF.out.mono ?_
      rintro e w4 ⟨hv, rfl, ho4, b4⟩
      obtain ⟨hs, hhs⟩ : ∃ hs, hears cs (L : Int) = hs := ⟨_, rfl⟩
      rw [hhs] at ho4
      have hhr : ∀ x ∈ hs, 0 ≤ x ∧ x < (chs.length : Int) := by rw [← hhs]; exact hears_range HP.out _
      have hhl : hs.length ≤ 8 := by rw [← hhs]; exact hears_len HP.out _
      have HHS : Hid (hears cs (L : Int) = hs) := hhs
      have HHR : Hid (∀ x ∈ hs, 0 ≤ x ∧ x < (chs.length : Int)) := hhr
      have HW4 : Hid (Wr (w.alloc (Obj.cells #[.int .i64 (chs.length : Int), .slice a0 rv.length cap] 26)).heap.size ρ chs w4 g ps cs) := HWr.out.below b4
      have HB4 : Hid (Below w.heap.size w w4) := belowCall HB2.out b4 HB2.out.size
      obtain ⟨ah, chh, rfl, k1, k2, k3⟩ := own_form ho4
      have HO4 : Hid (w4.ownsRow w2.heap.size 98 1 (.slice ah hs.length chh) hs.length (hs.map (chv chs))) := ho4
      have hsz4 := HB4.out.size
      clear ho4 b4 hhs hhr HF dq q5 HWr HB2
      go_wp2
      go_loopw [7, 33] (fun ov i wr => ∃ t : Nat, t ≤ hs.length ∧ i = .int .i64 t ∧ Hid (Ow .i64 3 w4.heap.size wr ov (hs.take t)) ∧ Hid (Below w4.heap.size w4 wr)) (fun _ i _ => hs.length - (intOf i).toNat)
      case atStart => exact ⟨0, Nat.zero_le _, rfl, (show Ow .i64 3 w4.heap.size w4 (.slice none 0 0) (hs.take 0) from Ow.nil _ _ _ _), Below.refl _ _⟩
      case round =>
        obtain ⟨t, ht, rfl, hO, hB⟩ := hrel
        by_cases htl : t < hs.length
        · rcases k3 with k3 | ⟨bh, rfl⟩
          · omega
          have hzr := HHR.out _ (List.getElem_mem htl)
          obtain ⟨X, hX⟩ := Int.eq_ofNat_of_zero_le hzr.1
          have hbh := (World.ownsRow.lt HO4.out bh rfl).2
          have d0 : wr.cell? ⟨bh, t, none⟩ = some (chv chs hs[t]) := by
            rw [hB.out.cell hbh, World.ownsRow.cellAt HO4.out t (by omega)]
            simp [List.getElem?_eq_getElem htl]
          rw [hX] at hzr d0
          have hXl : X < chs.length := by omega
          obtain ⟨gm, gc, gl⟩ := (HW4.out.below hB.out).lineCell
          obtain ⟨qx, hqx⟩ : ∃ q, chs.getD X 0 = q := ⟨_, rfl⟩
          have d0' : wr.cell? ⟨bh, t, none⟩ = some (.chan (some qx)) := by rw [d0, ← hqx]; rfl
          have hlk := gl X hXl
          rw [hqx] at hlk
          have htI : (t : Int) < (hs.length : Int) := by omega
          have htk : hs.take (t + 1) = hs.take t ++ [(X : Int)] := by rw [List.take_succ_eq_append_getElem htl, hX]
          have HTK : Hid (hs.take (t + 1) = hs.take t ++ [(X : Int)]) := htk
          have htl2 : (hs.take t).length ≤ 8 := by simp; omega
          have hbs := hB.out.size
          clear gl d0 hqx hX htk
          go_wp2_with (at_builtin; refine appI rfl _ _ rfl w4.heap.size _ _ rfl (hO.out.alloc _) wr.heap.size (X : Int) rfl (cell_box _ _ _ 0) (by omega) (by simp; omega) ?_)
          intro v5 w5 ho5 hb5
          have HO5 : Hid (Ow .i64 3 w4.heap.size w5 v5 (hs.take (t + 1))) := by
            show Ow .i64 3 w4.heap.size w5 v5 (hs.take (t + 1))
            rw [HTK.out]; exact ho5
          have HB5 : Hid (Below w4.heap.size w4 w5) := (hB.out.alloc hbs _).trans hb5
          clear ho5 hb5 hO hB hlk gc d0'
          go_wp2
          go_roundw
          case rel => exact ⟨t + 1, by omega, by go_num, HO5.out, HB5.out⟩
          case measure => simp [intOf]; omega
        · obtain rfl : t = hs.length := by omega
          have hO2 := hO.out
          rw [List.take_length] at hO2
          have HSO : Hid (Calls Try.prog 66 #[u7] wr fun e w' => e = .returned (.tuple #[]) ∧ SortR w4.heap.size wr u7 hs w') := sort_c u7 hs w4.heap.size wr hO2 hhl
          have HOB : Hid (∀ k, u7.ownBlock = some k → w4.heap.size ≤ k) := fun k e => (World.ownsRow.lt hO2 k e).1
          have HBW : Hid (Below w.heap.size w wr) := HB4.out.trans (hB.out.mono hsz4)
          have hbs := hB.out.size
          clear hO hO2
          go_wp2_with (fail)
          refine HSO.out.mono ?_
          rintro e w6 ⟨rfl, ys, hp, hsr, ho6, hg6⟩
          have HFIN : Hid (Ow .i64 3 w.heap.size w6 u7 ys ∧ HS (chs.length : Int) cs (L : Int) ys ∧ Below w.heap.size w w6) := by
            refine ⟨ho6.mono hsz4, ⟨fun _ => ?_, fun h => absurd HP.out h⟩, HBW.out.trans (grown_below hg6 (by omega) (fun k e => by have := HOB.out k e; omega))⟩
            have hnd := hears_nodup HP.out (L : Int)
            rw [HHS.out] at hnd ⊢
            have := sorted_asc (n := chs.length) hnd HHR.out hp hsr
            simpa using this
          clear hp hsr ho6 hg6 HSO HOB HBW
          go_wp2
          go_ret
          exact ⟨_, ys, rfl, HFIN.out.1, HFIN.out.2.1, HFIN.out.2.2⟩
    · have hd : decide (0 ≤ l ∧ l < (chs.length : Int)) = false := by simp only [decide_eq_false_iff_not]; exact hl
      have HN : Hid (HS (chs.length : Int) cs l []) := by
        refine ⟨fun _ => ?_, fun _ => rfl⟩
        have hc : callAt cs l = none := by
          cases hcc : callAt cs l with
          | none => rfl
          | some i => exact absurd (callAt_range HP.out (by rw [hcc]; rfl)) hl
        simp [hears, hc, asc_nil]
      go_wp2_with (go_at_call 63; refine (has_c HWr.out _).mono ?_; rintro e wx ⟨rfl, hwx⟩; rw [hwx]; clear hwx wx; rw [hd])
      go_ret
      exact ⟨_, [], rfl, HNIL.out _, HN.out, HB2.out⟩
end Go.Proofs.Ytcbeaimpmjljjaa

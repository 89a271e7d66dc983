/- Levels that fade; no condition. -/
import Derived.Test.YtkjfcebdjnclaaaDoorOfi
import Derived.Test.YtkjfcebdjnclaaaDoorPlc
import Derived.Test.YtkjfcebdjnclaaaDoorOpp
namespace Go.Proofs.YtkjfcebdjnclaaaDoor
open Go.RowKit Go.ChangeShapes Go.WideShapes Go.ChangeAt
set_option linter.unusedVariables false
set_option linter.unusedSimpArgs false
set_option maxRecDepth 8000

/-- levels that fall from one to nothing -/
def fdL (l : Int) : Nat → List Int
  | 0 => []
  | j + 1 => fdL l j ++ [(l * (29 - (j : Int))).tdiv 30]
theorem fdL_len (l : Int) : ∀ j, (fdL l j).length = j
  | 0 => rfl
  | j + 1 => by rw [fdL, List.length_append, fdL_len l j]; rfl
theorem fd_bd (l : Int) (hl : -32767 ≤ l ∧ l ≤ 32767) (j : Nat) (hj : j < 30) : -1000000 ≤ l * (29 - (j : Int)) ∧ l * (29 - (j : Int)) ≤ 1000000 := by
  have h1 : (0 : Int) ≤ 29 - (j : Int) := by omega
  have h2 : 29 - (j : Int) ≤ 29 := by omega
  generalize 29 - (j : Int) = m at h1 h2
  have a1 : l * m ≤ 32767 * m := Int.mul_le_mul_of_nonneg_right hl.2 h1
  have a2 : (-32767) * m ≤ l * m := Int.mul_le_mul_of_nonneg_right hl.1 h1
  omega
set_option maxHeartbeats 3200000 in
theorem fade_c (l : Int) (hl : -32767 ≤ l ∧ l ≤ 32767) (w : World) : Calls Tryd.prog 109 #[.int .i64 l] w fun e w' => ∃ v, e = .returned v ∧ Ow .i64 3 w.heap.size w' v (fdL l 30) ∧ Below w.heap.size w w' := by
  obtain ⟨i0, hi, hz0, hz1, hz2⟩ := info_parts toIInfo
  have HLL : Hid (-32767 ≤ l ∧ l ≤ 32767) := hl
  go_enter Tryd.func109, Tryd.ntmps109
  go_wp2_with (at_make; refine wpList_make_full _ rfl _ _ 26 rfl w.heap.size 3 i0 (.int .i64 0) 1 Tryd.underlying26 hi hz0 hz1 .i64 .i64 _ _ 30 rfl rfl rfl rfl (by rw [hz2]; omega) (by unfold maxLen; omega) (Nat.le_refl _) ?_)
  intro w1 ho hg
  have hx : (madeCells #[Value.int .i64 0] 30).toList = (mz (fdL l 0) 30 0).map (Value.int .i64) := by rw [toList_madeCells_one]; simp [mz, fdL]
  rw [hx] at ho
  have HO1 : Hid (w1.ownsRow w.heap.size 3 1 (.slice (some ⟨w.heap.size, 0, none⟩) 30 30) 30 ((mz (fdL l 0) 30 0).map (Value.int .i64))) := ho
  have HB1 : Hid (Below w.heap.size w w1) := grown_below hg (Nat.le_refl _) (by simp)
  obtain ⟨g, hgg⟩ : ∃ g, w.heap.size = g := ⟨_, rfl⟩
  have HGG : Hid (w.heap.size = g) := hgg
  rw [hgg] at HO1 ⊢
  clear ho hg hx hgg hi hz0 hz1 hz2 hl
  go_wp2
  go_loopw [8] (fun i wr => ∃ j : Nat, j ≤ 30 ∧ i = .int .i64 j ∧ Hid (wr.ownsRow g 3 1 (.slice (some ⟨g, 0, none⟩) 30 30) 30 ((mz (fdL l j) 30 j).map (Value.int .i64)) ∧ Below w.heap.size w wr)) (fun i _ => 30 - (intOf i).toNat)
  case atStart => exact ⟨0, Nat.zero_le _, rfl, HO1.out, HB1.out⟩
  case round =>
    obtain ⟨j, hj, rfl, hw⟩ := hrel
    clear HO1 HB1
    by_cases hlt : j < 30
    case neg =>
      obtain rfl : j = 30 := by omega
      have HO : Hid (Ow .i64 3 w.heap.size wr (.slice (some ⟨g, 0, none⟩) 30 30) (fdL l 30)) := by
        have := hw.out.1
        simp only [mz, Nat.sub_self, List.replicate_zero, List.append_nil] at this
        show Ow _ _ _ _ _ _
        rw [Ow, fdL_len, HGG.out]; exact this
      have HB : Hid (Below w.heap.size w wr) := hw.out.2
      clear hw
      go_wp2
      go_ret
      exact ⟨_, rfl, HO.out, HB.out⟩
    case pos =>
    have hbd := fd_bd l HLL.out j hlt
    have hb1 := hbd.1
    have hb2 := hbd.2
    have o5 := hw.out.1
    have hel : (fdL l j).length = j := fdL_len l j
    obtain ⟨u, hd⟩ : ∃ u, wr.cell? ⟨g, j, none⟩ = some u := by
      rw [o5.cellAt j (by omega)]
      exact ⟨_, List.getElem?_eq_getElem (by simp [mz_len _ _ _ hel hj]; exact hlt)⟩
    have hf := o5.frozenAt j
    have hs := (o5.stored j (.int .i64 ((l * (29 - (j : Int))).tdiv 30))).1
    rw [← List.map_set, mz_set _ _ _ _ hel hlt] at hs
    have HS : Hid ((wr.setCell ⟨g, j, none⟩ (.int .i64 ((l * (29 - (j : Int))).tdiv 30))).ownsRow g 3 1 (.slice (some ⟨g, 0, none⟩) 30 30) 30 ((mz (fdL l (j + 1)) 30 (j + 1)).map (Value.int .i64)) ∧ Below w.heap.size w (wr.setCell ⟨g, j, none⟩ (.int .i64 ((l * (29 - (j : Int))).tdiv 30)))) := ⟨hs, hw.out.2.setCell (by rw [HGG.out]; exact Nat.le_refl _) _⟩
    have hi1 : (0 : Int) ≤ (j : Int) := by omega
    have hi2 : (j : Int) < 30 := by omega
    clear hs o5 hw hel hbd
    go_wp2
    go_roundw
    case rel => exact ⟨j + 1, by omega, by go_num, HS.out⟩
    case measure => simp [intOf]; omega

/-- what the deferred closure leaves -/
def ClQ (gap : Bool) (l : Int) (gv : Nat) (u : FrameMode) (w : World) (e : Ending) (u' : FrameMode) (w' : World) : Prop := u' = u ∧ e = .returned (.tuple #[]) ∧ (gap = false → w' = w) ∧ (gap = true → ∃ v w1, Ow .i64 3 w.heap.size w1 v (fdL l 30) ∧ Below w.heap.size w w1 ∧ w' = w1.setCell ⟨gv, 0, none⟩ v)
set_option maxHeartbeats 3200000 in
theorem clo_d (gg gl gv : Nat) (gap : Bool) (l : Int) (hl : -32767 ≤ l ∧ l ≤ 32767) (old : Value) (w : World) (u : FrameMode) (k0 : Blk w gg #[.bool gap] 4) (k1 : Blk w gl #[.int .i64 l] 3) (k2 : Blk w gv #[old] 26) :
    CallsD Tryd.prog 108 #[.pointer (some ⟨gg, 0, none⟩), .pointer (some ⟨gl, 0, none⟩), .pointer (some ⟨gv, 0, none⟩)] u w (ClQ gap l gv u w) := by
  refine CallsD.mono (R := fun e u' w' => u' = u ∧ (e = .returned (.tuple #[]) ∧ (gap = false → w' = w) ∧ (gap = true → ∃ v w1, Ow .i64 3 w.heap.size w1 v (fdL l 30) ∧ Below w.heap.size w w1 ∧ w' = w1.setCell ⟨gv, 0, none⟩ v))) ?_ (fun e u' w' h => h)
  have c0 := k0.cell 0
  have c1 := k1.cell 0
  simp at c0 c1
  have HL : Hid (-32767 ≤ l ∧ l ≤ 32767) := hl
  have HK : Hid (Blk w gv #[old] 26) := k2
  clear k0 k1 k2 hl
  go_enter_d Tryd.func108, Tryd.ntmps108
  cases gap
  · go_wp2
    go_end0
    exact ⟨rfl, rfl⟩
  · go_wp2_with (fail)
    refine (fade_c l HL.out w).mono ?_
    rintro e w1 ⟨v, rfl, o1, b1⟩
    have HO : Hid (Ow .i64 3 w.heap.size w1 v (fdL l 30) ∧ Below w.heap.size w w1) := ⟨o1, b1⟩
    have K1 := HK.out.below b1 HK.out.lt
    have c2 := K1.cell 0
    have f2 := K1.frozen 0
    simp at c2
    obtain ⟨a, cap, rfl, -⟩ := o1.rd
    clear o1 b1 K1 c0 c1
    go_wp2
    go_end0
    exact ⟨rfl, _, _, HO.out.1, HO.out.2, rfl⟩

theorem Rg.drop {w : World} {b off cap : Nat} {ls : List Pk} (h : ∀ i (h : i < ls.length), w.rangeAt b (off + i * 18) (pkC ls[i])) (hc : ls.length ≤ cap) (hm : cap ≤ maxLen) (j : Nat) (hj : j ≤ ls.length) : Rg 18 pkC w (.slice (some ⟨b, off + j * 18, none⟩) (ls.length - j) (cap - j)) (ls.drop j) := by
  have hl : (ls.drop j).length = ls.length - j := by simp
  refine ⟨_, cap - j, by rw [hl], by rw [hl]; omega, by unfold maxLen at *; omega, .inr ⟨b, off + j * 18, rfl, fun i hi => ?_⟩⟩
  have := h (j + i) (by omega)
  rw [List.getElem_drop, show off + j * 18 + i * 18 = off + (j + i) * 18 by omega]; exact this
set_option maxHeartbeats 3200000 in
theorem from_c (v : Value) (ls : List Pk) (x : Int) (w : World) (h : Rg 18 pkC w v ls) (hn : ls.length ≤ 1000000) : Calls Tryd.prog 83 #[v, .int .i64 x] w (ClR (ls.drop (pcF ls x)) w) := by
  have HR : Hid (Rg 18 pkC w v ls) := h
  have HL : Hid (ls.length ≤ 1000000) := hn
  clear hn
  go_enter Tryd.func83, Tryd.ntmps83
  go_wp2_with (fail)
  refine (placeOf_c v ls x w HR.out).mono ?_
  rintro e w1 ⟨rfl, b1⟩
  have hle := pcF_le ls x
  obtain ⟨j, hj⟩ : ∃ j, pcF ls x = j := ⟨_, rfl⟩
  have HJ : Hid (pcF ls x = j) := hj
  rw [hj] at hle ⊢
  have HR1 : Hid (Rg 18 pkC w1 v ls) := HR.out.below b1
  have HB1 : Hid (Below w.heap.size w w1) := b1
  obtain ⟨a, cap, rfl, h1, h2, h3⟩ := HR1.out
  have HCL : Hid (ls.length ≤ cap ∧ cap ≤ maxLen) := ⟨h1, h2⟩
  have HEN : Hid (∀ v2, Rg 18 pkC w1 v2 (ls.drop j) → Calls Tryd.prog 107 #[v2] w1 (ClR (ls.drop j) w1)) := fun v2 h => clonL_c v2 (ls.drop j) w1 h (by have := HL.out; simp; omega)
  have HQ : Hid (∀ e w', ClR (ls.drop j) w1 e w' → ClR (ls.drop (pcF ls x)) w e w') := fun e w' ⟨v', e1, o, b⟩ => ⟨v', e1, by rw [HJ.out]; exact o.mono HB1.out.size, belowCall HB1.out b HB1.out.size⟩
  unfold maxLen at h2
  clear b1 h HR hj
  by_cases hlt : j < ls.length
  · rcases h3 with h3 | ⟨b, off, rfl, h4⟩
    · subst h3; simp at hlt
    have HRD : Hid (Rg 18 pkC w1 (.slice (some ⟨b, off + j * 18, none⟩) (ls.length - j) (cap - j)) (ls.drop j)) := Rg.drop h4 HCL.out.1 HCL.out.2 j hle
    have hjc : ¬ cap = j := by omega
    have hjc2 : ¬ cap - j = 0 := by omega
    have hjc3 : j < cap := by omega
    clear h4
    go_wp2_with (fail)
    refine (HEN.out _ HRD.out).mono ?_
    rintro e w2 h2'
    have HF := HQ.out _ _ h2'
    obtain ⟨v', rfl, -⟩ := h2'
    have HFF : Hid (ClR (ls.drop (pcF ls x)) w (.returned v') w2) := HF
    clear HF
    go_wp2
    go_ret
    exact HFF.out
  · obtain rfl : j = ls.length := by omega
    have HRD : Hid (∀ A C, C ≤ maxLen → Rg 18 pkC w1 (.slice A 0 C) (ls.drop ls.length)) := fun A C hC => ⟨A, C, by simp, by simp, hC, .inl (by simp)⟩
    clear h3
    cases a with
    | none =>
      go_wp2_with (fail)
      all_goals
        refine (HEN.out _ (by first | exact HRD.out _ _ (by have := HCL.out.2; omega) | (rw [Nat.sub_self]; exact HRD.out _ _ (by have := HCL.out.2; omega)))).mono ?_
        rintro e w2 h2'
        have HF := HQ.out _ _ h2'
        obtain ⟨v', rfl, -⟩ := h2'
        have HFF : Hid (ClR (ls.drop (pcF ls x)) w (.returned v') w2) := HF
        clear HF
        go_wp2
        go_ret
        exact HFF.out
    | some p =>
      go_wp2_with (fail)
      all_goals
        refine (HEN.out _ (by first | exact HRD.out _ _ (by have := HCL.out.2; omega) | (rw [Nat.sub_self]; exact HRD.out _ _ (by have := HCL.out.2; omega)))).mono ?_
        rintro e w2 h2'
        have HF := HQ.out _ _ h2'
        obtain ⟨v', rfl, -⟩ := h2'
        have HFF : Hid (ClR (ls.drop (pcF ls x)) w (.returned v') w2) := HF
        clear HF
        go_wp2
        go_ret
        exact HFF.out

end Go.Proofs.YtkjfcebdjnclaaaDoor

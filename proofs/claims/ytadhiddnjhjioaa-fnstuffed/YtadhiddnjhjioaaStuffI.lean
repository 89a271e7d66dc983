/- The contract of the program's Stuff: the bits that the model's hands back; no condition. -/
import Derived.Test.YtadhiddnjhjioaaStuff
namespace Go.Proofs.Ytadhiddnjhjioaa
open Go.RowKit Go.ChangeShapes Go.WideShapes Go.ChangeAt
set_option linter.unusedVariables false
set_option linter.unusedSimpArgs false
set_option maxHeartbeats 1600000 in
theorem stuff_impl (v : Value) (zs : List Int) (w : World) (h : Rd .i64 w v zs) :
   Calls Try.prog 24 #[v] w fun e w' => ∃ v', e = .returned (.tuple #[v', .bool (stuffOk zs)]) ∧ Ow .i64 3 w.heap.size w' v' (stuffL zs) ∧ Below w.heap.size w w' := by
  have hh := h
  obtain ⟨a, cap, rfl, h1, h2, h3⟩ := h
  unfold maxLen at h2
  by_cases hbig : 2000 < zs.length
  · have hok : stuffOk zs = false := by simp [stuffOk]; intro; omega
    have hL : stuffL zs = [] := by simp [stuffL, hok]
    have hd : decide ((2000 : Int) < (zs.length : Int)) = true := by simp; omega
    clear h3 hh
    go_enter Try.func24, Try.ntmps24
    go_wp2
    go_ret2
    exact ⟨_, by first | rfl | (rw [hok]; rfl), by rw [hL]; exact Ow.nil _ _ _ _, Below.refl _ _⟩
  have hd : decide ((2000 : Int) < (zs.length : Int)) = false := by simp; omega
  have hdec : areB zs = stuffOk zs := by simp [stuffOk]; omega
  have HD : Hid (areB zs = stuffOk zs) := hdec
  clear hdec
  go_enter Try.func24, Try.ntmps24
  go_wp2_with fail
  refine (bits_impl _ zs _ hh).mono ?_
  rintro e w1 ⟨rfl, hw1⟩
  have hw1' := hw1.symm
  subst hw1'
  rw [HD.out]
  cases hok : stuffOk zs with
  | false =>
    have hL : stuffL zs = [] := by simp [stuffL, hok]
    clear HD h3 hh
    go_wp2
    go_ret2
    exact ⟨_, by first | rfl | (rw [hok]; rfl), by rw [hL]; exact Ow.nil _ _ _ _, Below.refl _ _⟩
  | true =>
    have hL : stuffL zs = (stS zs zs.length).1 := by simp [stuffL, hok]
    have hB : areB zs = true ∧ zs.length ≤ 2000 := by simpa [stuffOk] using hok
    obtain ⟨hB1, hB2⟩ := hB
    have hbit := (areB_iff zs).1 hB1
    have HOK : Hid (stuffOk zs = true) := hok
    clear HD hok hB1 hh hbig
    have HB : Hid (∀ t, t < zs.length → isBit (zs.getD t 0) = true) := hbit
    clear hbit
    have HL : Hid (stuffL zs = (stS zs zs.length).1) := hL
    clear hL
    go_wp2
    go_loopw [4, 5, 18] (fun u o i wr => ∃ j : Nat, j ≤ zs.length ∧ i = .int .i64 j ∧ o = .int .i64 (stS zs j).2 ∧ Ow .i64 3 w.heap.size wr u (stS zs j).1 ∧ Below w.heap.size w wr) (fun _ _ i _ => zs.length - (intOf i).toNat)
    case atStart => exact ⟨0, Nat.zero_le _, rfl, rfl, Ow.nil _ _ _ _, Below.refl _ _⟩
    case round =>
      obtain ⟨j, hj, rfl, rfl, hw, hbr⟩ := hrel
      have hbd := stS_bd zs j hj
      by_cases hlt : j < zs.length
      · have hss := stS_succ zs j hlt
        have HSS : Hid (stS zs (j + 1) = stepS (stS zs j) (zs.getD j 0)) := hss
        clear hss
        rcases h3 with h3 | ⟨b, off, rfl, h4⟩
        · subst h3; simp at hlt
        have hc : wr.cell? ⟨b, off + j, none⟩ = some (.int .i64 (zs.getD j 0)) := by
          have := h4 j hlt
          rw [hbr.cell (block_lt_of_cell this)]; exact this
        have hblt := block_lt_of_cell (h4 j hlt)
        have hc2 : ∀ w2, Below w.heap.size w w2 → w2.cell? ⟨b, off + j, none⟩ = some (.int .i64 (zs.getD j 0)) := by
          intro w2 hb2; have := h4 j hlt; rw [hb2.cell (block_lt_of_cell this)]; exact this
        have HC2 : Hid (∀ w2, Below w.heap.size w w2 → w2.cell? ⟨b, off + j, none⟩ = some (.int .i64 (zs.getD j 0))) := hc2
        clear hc2 h4
        have hi : (0 : Int) ≤ (j : Int) := by omega
        have hi2 : (j : Int) < (zs.length : Int) := by omega
        have hbz := HB.out j hlt
        generalize hzj : zs.getD j 0 = z at hc hbz HC2 HSS
        clear hzj
        generalize hst : stS zs j = st at hw hbd HSS
        clear hst
        obtain ⟨ys, on⟩ := st
        dsimp only at hw hbd ⊢
        go_wp2_with (at_builtin; refine appI rfl (.tmp 22) (.tmp 24) rfl w.heap.size _ ys rfl (hw.alloc _) wr.heap.size z rfl (by simp) (by omega) (by have := hbr.size; simp; omega) ?_)
        intro v1 w1 ho1 hb1
        have hs0 := hbr.size
        have hbr1 : Below w.heap.size w w1 := (hbr.alloc hs0 _).trans hb1
        have hc1 := HC2.out w1 hbr1
        clear hc hw hb1 hbr HC2 hc1
        rcases bit_cases hbz with rfl | rfl
        · rw [stepS_0] at HSS
          clear hbz
          go_wp2
          go_roundw
          case rel => exact ⟨j + 1, by omega, by go_num, by rw [HSS.out]; rfl, by rw [HSS.out]; exact ho1, hbr1⟩
          case measure => simp [intOf]; omega
        · clear hbz
          by_cases h5 : on = 4
          · subst h5
            rw [stepS_5] at HSS
            have hs1 := hbr1.size
            go_wp2_with (first | (at_builtin; refine appI rfl (.tmp 31) (.tmp 32) rfl w.heap.size _ (ys ++ [1]) rfl (ho1.alloc _) w1.heap.size 0 rfl (by simp) (by simp; omega) (by simp; omega) ?_) | go_in)
            intro v2 w2 ho2 hb2
            have hbr2 : Below w.heap.size w w2 := (hbr1.alloc hs1 _).trans hb2
            clear hb2 hbr1 ho1
            go_wp2
            go_roundw
            case rel => exact ⟨j + 1, by omega, by go_num, by rw [HSS.out], by rw [HSS.out]; simpa using ho2, hbr2⟩
            case measure => simp [intOf]; omega
          · rw [stepS_1 _ _ h5] at HSS
            have h5b : (on + 1 == 5) = false := by simp; omega
            go_wp2
            go_roundw
            case rel => exact ⟨j + 1, by omega, by go_num, by rw [HSS.out]; rfl, by rw [HSS.out]; exact ho1, hbr1⟩
            case measure => simp [intOf]; omega
      · obtain rfl : j = zs.length := by omega
        clear h3 HB
        go_wp2
        go_ret2
        exact ⟨_, by rw [HOK.out]; rfl, by rw [HL.out]; exact hw, hbr⟩
end Go.Proofs.Ytadhiddnjhjioaa

/- The contract of the program's Unstuff: the bits that the model's hands back; no condition. -/
import Derived.Test.YtadhiddnjhjioaaUn
namespace Go.Proofs.Ytadhiddnjhjioaa
open Go.RowKit Go.ChangeShapes Go.WideShapes Go.ChangeAt
set_option linter.unusedVariables false
set_option linter.unusedSimpArgs false
set_option maxHeartbeats 1600000 in
theorem un_impl (v : Value) (zs : List Int) (w : World) (h : Rd .i64 w v zs) :
   Calls Try.prog 26 #[v] w fun e w' => ∃ v', e = .returned (.tuple #[v', .bool (unOk zs)]) ∧ Ow .i64 3 w.heap.size w' v' (unL zs) ∧ Below w.heap.size w w' := by
  have hh := h
  obtain ⟨a, cap, rfl, h1, h2, h3⟩ := h
  unfold maxLen at h2
  by_cases hbig : 4000 < zs.length
  · obtain ⟨hok, hL⟩ : unOk zs = false ∧ unL zs = [] := un_in (by simp [unIn]; intro; omega)
    have hd : decide ((4000 : Int) < (zs.length : Int)) = true := by simp; omega
    clear h3 hh
    go_enter Try.func26, Try.ntmps26
    go_wp2
    go_ret2
    exact ⟨_, by first | rfl | (rw [hok]; rfl), by rw [hL]; exact Ow.nil _ _ _ _, Below.refl _ _⟩
  have hd : decide ((4000 : Int) < (zs.length : Int)) = false := by simp; omega
  have HD : Hid (areB zs = unIn zs) := by show areB zs = unIn zs; simp [unIn]; omega
  go_enter Try.func26, Try.ntmps26
  go_wp2_with fail
  refine (bits_impl _ zs _ hh).mono ?_
  rintro e w1 ⟨rfl, hw1⟩
  have hw1' := hw1.symm
  subst hw1'
  rw [HD.out]
  cases hin : unIn zs with
  | false =>
    obtain ⟨hok, hL⟩ := un_in hin
    clear HD h3 hh hin
    go_wp2
    go_ret2
    exact ⟨_, by first | rfl | (rw [hok]; rfl), by rw [hL]; exact Ow.nil _ _ _ _, Below.refl _ _⟩
  | true =>
    have hB : areB zs = true ∧ zs.length ≤ 4000 := by simpa [unIn] using hin
    obtain ⟨hB1, hB2⟩ := hB
    have hbit := (areB_iff zs).1 hB1
    have HIN : Hid (unIn zs = true) := hin
    clear HD hin hB1 hh hbig
    have HB : Hid (∀ t, t < zs.length → isBit (zs.getD t 0) = true) := hbit
    clear hbit
    go_wp2
    go_loopw [4, 5, 18] (fun u o i wr => ∃ (j : Nat) (ys : List Int) (on : Int), j ≤ zs.length ∧ i = .int .i64 j ∧ o = .int .i64 on ∧ Hid (stU zs j = some (ys, on)) ∧ Ow .i64 3 w.heap.size wr u ys ∧ Below w.heap.size w wr) (fun _ _ i _ => zs.length - (intOf i).toNat)
    case atStart => exact ⟨0, [], 0, Nat.zero_le _, rfl, rfl, rfl, Ow.nil _ _ _ _, Below.refl _ _⟩
    case round =>
      obtain ⟨j, ys, on, hj, rfl, rfl, HS, hw, hbr⟩ := hrel
      have hbd := stU_bd zs j hj ys on HS.out
      have hs0 := hbr.size
      by_cases hlt : j < zs.length
      · have HSS : Hid (stU zs (j + 1) = stepU (stU zs j) (zs.getD j 0)) := stU_succ zs j hlt
        rw [HS.out] at HSS
        rcases h3 with h3 | ⟨b, off, rfl, h4⟩
        · subst h3; simp at hlt
        have hc : wr.cell? ⟨b, off + j, none⟩ = some (.int .i64 (zs.getD j 0)) := by
          have := h4 j hlt; rw [hbr.cell (block_lt_of_cell this)]; exact this
        clear h4
        have hi : (0 : Int) ≤ (j : Int) := by omega
        have hi2 : (j : Int) < (zs.length : Int) := by omega
        have hbz := HB.out j hlt
        generalize hzj : zs.getD j 0 = z at hc hbz HSS
        clear hzj
        by_cases hon : on < 5
        · have hbuilt := hw.alloc (.cells #[.int .i64 z] 3)
          rcases bit_cases hbz with rfl | rfl
          · rw [stepU_0 _ _ hon] at HSS
            clear hbz
            go_wp2_with (first | (at_builtin; refine appI rfl (.tmp 24) (.tmp 26) rfl w.heap.size _ ys rfl (hw.alloc _) wr.heap.size 0 rfl (by simp) (by omega) (by simp; omega) ?_) | go_in)
            intro v1 w1 ho1 hb1
            have hbr1 : Below w.heap.size w w1 := (hbr.alloc hs0 _).trans hb1
            clear hc hw hb1 hbr hbuilt
            go_wp2
            go_roundw
            case rel => exact ⟨j + 1, ys ++ [0], 0, by omega, by go_num, rfl, HSS, ho1, hbr1⟩
            case measure => simp [intOf]; omega
          · rw [stepU_1 _ _ hon] at HSS
            clear hbz
            go_wp2_with (first | (at_builtin; refine appI rfl (.tmp 24) (.tmp 26) rfl w.heap.size _ ys rfl (hw.alloc _) wr.heap.size 1 rfl (by simp) (by omega) (by simp; omega) ?_) | go_in)
            intro v1 w1 ho1 hb1
            have hbr1 : Below w.heap.size w w1 := (hbr.alloc hs0 _).trans hb1
            clear hc hw hb1 hbr hbuilt
            go_wp2
            go_roundw
            case rel => exact ⟨j + 1, ys ++ [1], on + 1, by omega, by go_num, rfl, HSS, ho1, hbr1⟩
            case measure => simp [intOf]; omega
        · obtain rfl : on = 5 := by omega
          rcases bit_cases hbz with rfl | rfl
          · rw [stepU_50] at HSS
            clear hbz
            go_wp2
            go_roundw
            case rel => exact ⟨j + 1, ys, 0, by omega, by go_num, rfl, HSS, hw, hbr⟩
            case measure => simp [intOf]; omega
          · rw [stepU_51] at HSS
            obtain ⟨hok, hL⟩ := un_none (j + 1) (by omega) HSS.out
            clear hbz
            go_wp2
            go_ret2
            exact ⟨_, by first | rfl | (rw [hok]; rfl), by first | exact Ow.nil _ _ _ _ | (rw [hL]; exact Ow.nil _ _ _ _), hbr⟩
      · obtain rfl : j = zs.length := by omega
        clear h3 HB
        by_cases h5 : on = 5
        · subst h5
          obtain ⟨hok, hL⟩ := un_five HS.out
          go_wp2
          go_ret2
          exact ⟨_, by first | rfl | (rw [hok]; rfl), by first | exact Ow.nil _ _ _ _ | (rw [hL]; exact Ow.nil _ _ _ _), hbr⟩
        · obtain ⟨hok, hL⟩ := un_good HIN.out h5 HS.out
          have HOK : Hid (unOk zs = true) := hok
          have h5b : (on == 5) = false := by simp; omega
          clear hok
          go_wp2
          go_ret2
          exact ⟨_, by rw [HOK.out]; rfl, by rw [hL]; exact hw, hbr⟩
end Go.Proofs.Ytadhiddnjhjioaa

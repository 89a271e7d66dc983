/- The contract of the library's sort of whole numbers, where there are few of them; no condition but that. -/
import Derived.Test.YtcbeaimpmjljjaaHearS
import Derived.BigRegion
namespace Go.Proofs.Ytcbeaimpmjljjaa
open Go.RowKit Go.ChangeShapes Go.WideShapes Go.ChangeAt
set_option linter.unusedVariables false
set_option linter.unusedSimpArgs false
set_option maxRecDepth 8000
theorem less_c (x y : Int) (w : World) : Calls Try.prog 105 #[.int .i64 x, .int .i64 y] w fun e w' => e = .returned (.bool (decide (x < y))) ∧ w' = w := by
  have hx : (x != x) = false := by simp
  go_enter Try.func105, Try.ntmps105
  go_wp2
  go_ret
  exact ⟨rfl, rfl⟩
theorem len_c (n : Nat) (h : n ≤ 8) (w : World) : Calls Try.prog 89 #[.int .u64 (n : Int)] w fun e w' => ∃ k, e = .returned (.int .i64 k) ∧ w' = w := by
  match n, h with
  | 0, _ | 1, _ | 2, _ | 3, _ | 4, _ | 5, _ | 6, _ | 7, _ | 8, _ =>
    go_enter Try.func89, Try.ntmps89
    go_wp2
    go_ret
    exact ⟨_, rfl, rfl⟩
/-- sorted below i; sorted up to i but for place j -/
def Srt (i : Nat) (ys : List Int) : Prop := ∀ p q, p < q → q < i → ys.getD p 0 ≤ ys.getD q 0
def Srt' (i j : Nat) (ys : List Int) : Prop := ∀ p q, p < q → q ≤ i → q ≠ j → ys.getD p 0 ≤ ys.getD q 0
/-- places j and the one ahead exchanged -/
def swp (ys : List Int) (j : Nat) : List Int := (ys.set j (ys.getD (j - 1) 0)).set (j - 1) (ys.getD j 0)
theorem swp_len (ys : List Int) (j : Nat) : (swp ys j).length = ys.length := by simp [swp]
theorem swp_at (ys : List Int) (j : Nat) (h0 : 0 < j) (hj : j < ys.length) (q : Nat) : (swp ys j).getD q 0 = if q = j then ys.getD (j - 1) 0 else if q = j - 1 then ys.getD j 0 else ys.getD q 0 := by
  rw [swp]
  simp only [List.getD_eq_getElem?_getD, List.getElem?_set, List.length_set]
  by_cases h1 : j - 1 = q
  · subst h1
    have h2 : ¬ j - 1 = j := by omega
    simp [h2, show j - 1 < ys.length by omega]
  · by_cases h2 : j = q
    · subst h2; simp [h1, hj]
    · have h3 : ¬ q = j := fun h => h2 h.symm
      have h4 : ¬ q = j - 1 := fun h => h1 h.symm
      simp [h1, h2, h3, h4]
theorem swp_perm (ys : List Int) (j : Nat) (h0 : 0 < j) (hj : j < ys.length) : (swp ys j).Perm ys := by
  obtain ⟨k, rfl⟩ : ∃ k, j = k + 1 := ⟨j - 1, by omega⟩
  have e : ys = ys.take k ++ ys[k] :: ys[k + 1] :: ys.drop (k + 2) := by
    rw [← List.drop_eq_getElem_cons hj, ← List.drop_eq_getElem_cons (by omega), List.take_append_drop]
  have e2 : swp ys (k + 1) = ys.take k ++ ys[k + 1] :: ys[k] :: ys.drop (k + 2) := by
    apply List.ext_getElem?
    intro q
    have h1 := swp_at ys (k + 1) (by omega) hj q
    have hlen := swp_len ys (k + 1)
    have hl2 : (ys.take k ++ ys[k + 1] :: ys[k] :: ys.drop (k + 2)).length = ys.length := by simp; omega
    by_cases hq : q < ys.length
    · rw [List.getElem?_eq_getElem (by omega), List.getElem?_eq_getElem (by omega)]
      congr 1
      have h2 : (swp ys (k + 1)).getD q 0 = (swp ys (k + 1))[q]'(by omega) := by simp [List.getElem?_eq_getElem (show q < (swp ys (k + 1)).length by omega)]
      rw [← h2, h1]
      rw [List.getElem_append]
      by_cases c1 : q < k
      · simp [show ¬ q = k + 1 by omega, show ¬ q = k by omega, c1, List.getElem?_eq_getElem hq, show q < min k ys.length by omega]
      · by_cases c2 : q = k
        · subst c2
          simp [List.getElem?_eq_getElem hj, show min q ys.length = q by omega]
        · by_cases c3 : q = k + 1
          · subst c3
            simp [List.getElem?_eq_getElem (show k < ys.length by omega), show min k ys.length = k by omega]
            omega
          · have c4 : ∃ t, q = k + 2 + t := ⟨q - (k + 2), by omega⟩
            obtain ⟨t, rfl⟩ := c4
            have hx : ys.getD (k + 2 + t) 0 = ys[k + 2 + t] := by simp [List.getElem?_eq_getElem hq]
            simp only [show ¬ k + 2 + t = k + 1 by omega, show ¬ k + 2 + t = k + 1 - 1 by omega, if_false, hx]
            simp [show ¬ k + 2 + t < min k ys.length by omega, show min k ys.length = k by omega, show k + 2 + t - k = t + 2 by omega]
    · rw [List.getElem?_eq_none (by omega), List.getElem?_eq_none (by omega)]
  rw [e2]
  conv => rhs; rw [e]
  exact (List.Perm.swap _ _ _).append_left _
theorem swp_srt {i j : Nat} {ys : List Int} (h : Srt' i j ys) (h0 : 0 < j) (hji : j ≤ i) (hi : i < ys.length) (hlt : ys.getD j 0 < ys.getD (j - 1) 0) : Srt' i (j - 1) (swp ys j) := by
  intro p q hpq hq hne
  rw [swp_at ys j h0 (by omega) p, swp_at ys j h0 (by omega) q]
  by_cases c1 : q = j
  · rw [if_pos c1]
    by_cases d1 : p = j
    · omega
    · rw [if_neg d1]
      by_cases d2 : p = j - 1
      · rw [if_pos d2]; omega
      · rw [if_neg d2]
        exact h p (j - 1) (by omega) (by omega) (by omega)
  · rw [if_neg c1, if_neg hne]
    have hq' := h p q hpq hq c1
    by_cases d1 : p = j
    · rw [if_pos d1]
      exact h (j - 1) q (by omega) hq c1
    · rw [if_neg d1]
      by_cases d2 : p = j - 1
      · rw [if_pos d2]
        exact h j q (by omega) hq c1
      · rw [if_neg d2]; exact hq'
theorem srt_done {i j : Nat} {ys : List Int} (h : Srt' i j ys) (hji : j ≤ i) (hd : j = 0 ∨ ¬ ys.getD j 0 < ys.getD (j - 1) 0) : Srt (i + 1) ys := by
  intro p q hpq hq
  by_cases c : q = j
  · subst c
    rcases hd with hd | hd
    · omega
    · by_cases d : p = q - 1
      · rw [d]; omega
      · have := h p (q - 1) (by omega) (by omega) (by omega)
        omega
  · exact h p q hpq (by omega) c
theorem grown_dr {w w' : World} {row : Option Nat} (h : w.grownBy w' row) (n : Nat) : w.grownBy (w'.drewN n) row := ⟨h.os, h.tape, h.output, h.size, h.block⟩
def SortR (base : Nat) (w : World) (v : Value) (zs : List Int) (w' : World) : Prop := ∃ ys, ys.Perm zs ∧ Srt zs.length ys ∧ Ow .i64 3 base w' v ys ∧ w.grownBy w' v.ownBlock
set_option maxHeartbeats 1600000 in
theorem ins_c (v : Value) (zs : List Int) (base : Nat) (w : World) (h : Ow .i64 3 base w v zs) (hn : zs.length ≤ 1000) :
   Calls Try.prog 99 #[v, .int .i64 0, .int .i64 (zs.length : Int)] w fun e w' => e = .returned (.tuple #[]) ∧ SortR base w v zs w' := by
  rcases h.2 with ⟨rfl, hl⟩ | ⟨g, cap, cur, rfl, hb, hg, hnc, hcm, hcs, ht⟩
  · obtain rfl : zs = [] := List.eq_nil_of_length_eq_zero hl
    have HF : Hid (SortR base w (.slice none 0 0) [] w) := ⟨[], List.Perm.refl _, fun p q _ hq => by simp at hq, h, grown_refl _ _⟩
    clear hl h
    go_enter Try.func99, Try.ntmps99
    go_wp2
    refine wp_loop_rounds 1 ?_
    rw [rounds_succ]
    go_wp2
    go_end0
    exact ⟨rfl, HF.out⟩
  · unfold maxLen at hcm
    have HOW : Hid (Ow .i64 3 base w (.slice (some ⟨g, 0, none⟩) zs.length cap) zs) := h
    clear h hg hcs ht
    go_enter Try.func99, Try.ntmps99
    go_wp2
    go_loopw [6] (fun iv wr => ∃ (i : Nat) (ys : List Int), 1 ≤ i ∧ i ≤ 1001 ∧ iv = .int .i64 i ∧ Hid (Ow .i64 3 base wr (.slice (some ⟨g, 0, none⟩) zs.length cap) ys ∧ ys.Perm zs ∧ Srt i ys ∧ w.grownBy wr (some g))) (fun iv _ => 1001 - (intOf iv).toNat)
    case atStart => exact ⟨1, zs, by omega, by omega, rfl, HOW.out, List.Perm.refl _, fun p q h1 h2 => by omega, grown_refl _ _⟩
    case round =>
      obtain ⟨i, ys, hi1, hi2, rfl, hY⟩ := hrel
      clear HOW
      by_cases hlt : i < zs.length
      · have hltI : (i : Int) < (zs.length : Int) := by omega
        have HJ0 : Hid (Ow .i64 3 base wr (.slice (some ⟨g, 0, none⟩) zs.length cap) ys ∧ ys.Perm zs ∧ Srt' i i ys ∧ w.grownBy wr (some g)) := ⟨hY.out.1, hY.out.2.1, fun p q h1 h2 h3 => hY.out.2.2.1 p q h1 (by omega), hY.out.2.2.2⟩
        clear hY
        go_wp2
        go_loopw [7] (fun jv wr => ∃ (j : Nat) (ys : List Int), j ≤ i ∧ jv = .int .i64 j ∧ Hid (Ow .i64 3 base wr (.slice (some ⟨g, 0, none⟩) zs.length cap) ys ∧ ys.Perm zs ∧ Srt' i j ys ∧ w.grownBy wr (some g))) (fun jv _ => (intOf jv).toNat)
        case atStart => exact ⟨i, ys, Nat.le_refl _, rfl, HJ0.out⟩
        case round =>
          obtain ⟨j, ys, hj, rfl, hY⟩ := hrel
          clear HJ0
          have hyl : ys.length = zs.length := hY.out.2.1.length_eq
          by_cases h0 : 0 < j
          · have h0I : (0 : Int) < (j : Int) := by omega
            obtain ⟨x, hx⟩ : ∃ x, ys.getD j 0 = x := ⟨_, rfl⟩
            obtain ⟨y, hy⟩ : ∃ y, ys.getD (j - 1) 0 = y := ⟨_, rfl⟩
            have hO := hY.out.1
            have hOr : wr.ownsRow base 3 1 (.slice (some ⟨g, 0, none⟩) zs.length cap) zs.length (ys.map (Value.int .i64)) := by rw [← hyl]; rw [← hyl] at hO; exact hO
            have cx : wr.cell? ⟨g, j, none⟩ = some (.int .i64 x) := by
              rw [World.ownsRow.cellAt hOr j (by omega), ← hx]
              simp [List.getElem?_eq_getElem (show j < ys.length by omega)]
            have cy : wr.cell? ⟨g, j - 1, none⟩ = some (.int .i64 y) := by
              rw [World.ownsRow.cellAt hOr (j - 1) (by omega), ← hy]
              simp [List.getElem?_eq_getElem (show j - 1 < ys.length by omega)]
            have fx := World.ownsRow.frozenAt hOr j
            have fy := World.ownsRow.frozenAt hOr (j - 1)
            obtain ⟨k, rfl⟩ : ∃ k, j = k + 1 := ⟨j - 1, by omega⟩
            simp only [Nat.add_sub_cancel] at cy fy hy
            have hkz : k + 1 < zs.length := by omega
            have hkI : (k : Int) + 1 < (zs.length : Int) := by omega
            have hkI2 : ((k + 1 : Nat) : Int) < (zs.length : Int) := by omega
            have hkI3 : (k : Int) < (zs.length : Int) := by omega
            have hYL : ys.length ≤ zs.length ∧ zs.length ≤ ys.length := by omega
            have HXY : Hid (ys.getD (k + 1) 0 = x ∧ ys.getD k 0 = y) := ⟨hx, hy⟩
            have HOR : Hid (wr.ownsRow base 3 1 (.slice (some ⟨g, 0, none⟩) zs.length cap) zs.length (ys.map (Value.int .i64))) := hOr
            clear hO hOr hx hy hyl
            by_cases hxy : x < y
            · have hd : decide (x < y) = true := by simp [hxy]
              have HNX : Hid (∀ m, Ow .i64 3 base (((wr.drewN m).setCell ⟨g, k + 1, none⟩ (.int .i64 y)).setCell ⟨g, k, none⟩ (.int .i64 x)) (.slice (some ⟨g, 0, none⟩) zs.length cap) (swp ys (k + 1)) ∧ (swp ys (k + 1)).Perm zs ∧ Srt' i k (swp ys (k + 1)) ∧ w.grownBy (((wr.drewN m).setCell ⟨g, k + 1, none⟩ (.int .i64 y)).setCell ⟨g, k, none⟩ (.int .i64 x)) (some g)) := by
                intro m
                have hm := World.ownsRow.kept HOR.out (grown_dr (grown_refl wr none) m) (by simp [Value.ownBlock])
                have hst := World.ownsRow.stored (World.ownsRow.stored hm (k + 1) (.int .i64 y)).1 k (.int .i64 x)
                have e1 : ((ys.map (Value.int .i64)).set (k + 1) (.int .i64 y)).set k (.int .i64 x) = (swp ys (k + 1)).map (Value.int .i64) := by
                  rw [swp, Nat.add_sub_cancel, HXY.out.1, HXY.out.2, List.map_set, List.map_set]
                rw [e1] at hst
                have hl2 : (swp ys (k + 1)).length = zs.length := by rw [swp_len]; omega
                refine ⟨?_, (swp_perm ys (k + 1) (by omega) (by omega)).trans hY.out.2.1, ?_, grown_trans (grown_trans (grown_dr hY.out.2.2.2 m) (grown_set _ _ _ _)) (grown_set _ _ _ _)⟩
                · rw [Ow, hl2]; exact hst.1
                · have := swp_srt hY.out.2.2.1 (by omega) hj (by omega) (by rw [HXY.out.1, Nat.add_sub_cancel, HXY.out.2]; exact hxy)
                  rw [Nat.add_sub_cancel] at this; exact this
              clear hY HOR
              go_wp2
              go_quiet (first | (go_at_call 105; exact Calls.quiet_of_same (less_c _ _ _)))
              go_wp2
              go_region
              go_wp2
              go_roundw
              case rel => exact ⟨k, _, by omega, by go_num, HNX.out _⟩
              case measure => simp [intOf]
            · have hd : decide (x < y) = false := by simp [hxy]
              have HF : Hid (∀ m, Ow .i64 3 base (wr.drewN m) (.slice (some ⟨g, 0, none⟩) zs.length cap) ys ∧ ys.Perm zs ∧ Srt (i + 1) ys ∧ w.grownBy (wr.drewN m) (some g)) := fun m =>
                ⟨World.ownsRow.kept hY.out.1 (grown_dr (grown_refl wr none) m) (by simp [Value.ownBlock]), hY.out.2.1, srt_done hY.out.2.2.1 hj (.inr (by rw [HXY.out.1, Nat.add_sub_cancel, HXY.out.2]; exact hxy)), grown_dr hY.out.2.2.2 m⟩
              clear hY HOR
              go_wp2
              go_quiet (first | (go_at_call 105; exact Calls.quiet_of_same (less_c _ _ _)))
              go_wp2
              go_roundw
              case rel => exact ⟨i + 1, ys, by omega, by omega, by go_num, HF.out _⟩
              case measure => simp [intOf]; omega
          · obtain rfl : j = 0 := by omega
            have HF : Hid (∀ m, Ow .i64 3 base (wr.drewN m) (.slice (some ⟨g, 0, none⟩) zs.length cap) ys ∧ ys.Perm zs ∧ Srt (i + 1) ys ∧ w.grownBy (wr.drewN m) (some g)) := fun m =>
              ⟨World.ownsRow.kept hY.out.1 (grown_dr (grown_refl wr none) m) (by simp [Value.ownBlock]), hY.out.2.1, srt_done hY.out.2.2.1 hj (.inl rfl), grown_dr hY.out.2.2.2 m⟩
            clear hY hyl
            go_wp2
            go_quiet (fail)
            go_wp2
            go_roundw
            case rel => exact ⟨i + 1, ys, by omega, by omega, by go_num, HF.out _⟩
            case measure => simp [intOf]; omega
      · have HF : Hid (SortR base w (.slice (some ⟨g, 0, none⟩) zs.length cap) zs wr) := ⟨ys, hY.out.2.1, fun p q h1 h2 => hY.out.2.2.1 p q h1 (by omega), hY.out.1, hY.out.2.2.2⟩
        have hf : ((i : Int) < (zs.length : Int)) = False := by simp; omega
        clear hY
        go_wp2
        go_end0
        exact ⟨rfl, HF.out⟩
theorem pdq_c (v : Value) (zs : List Int) (base : Nat) (lim : Int) (w : World) (h : Ow .i64 3 base w v zs) (hn : zs.length ≤ 8) :
   Calls Try.prog 88 #[v, .int .i64 0, .int .i64 (zs.length : Int), .int .i64 lim] w fun e w' => e = .returned (.tuple #[]) ∧ SortR base w v zs w' := by
  have HI : Hid (Calls Try.prog 99 #[v, .int .i64 0, .int .i64 (zs.length : Int)] w fun e w' => e = .returned (.tuple #[]) ∧ SortR base w v zs w') := ins_c v zs base w h (by omega)
  obtain ⟨a, cap, rfl, h1, h2, -⟩ := h.rd
  clear h
  go_enter Try.func88, Try.ntmps88
  go_wp2
  refine wp_loop_rounds 1 ?_
  rw [rounds_succ]
  go_wp2_with (fail)
  refine HI.out.mono ?_
  rintro e w2 ⟨rfl, h2⟩
  have H2 : Hid (SortR base w (.slice a zs.length cap) zs w2) := h2
  clear h2
  go_wp2
  exact bodyPost_ret (v := .tuple #[]) (results_none rfl _ _ _) rfl ⟨rfl, H2.out⟩
theorem sort_c (v : Value) (zs : List Int) (base : Nat) (w : World) (h : Ow .i64 3 base w v zs) (hn : zs.length ≤ 8) :
   Calls Try.prog 66 #[v] w fun e w' => e = .returned (.tuple #[]) ∧ SortR base w v zs w' := by
  have HI : Hid (∀ lim, Calls Try.prog 88 #[v, .int .i64 0, .int .i64 (zs.length : Int), .int .i64 lim] w fun e w' => e = .returned (.tuple #[]) ∧ SortR base w v zs w') := fun lim => pdq_c v zs base lim w h hn
  obtain ⟨a, cap, rfl, h1, h2, -⟩ := h.rd
  unfold maxLen at h2
  clear h
  have HLN : Hid (Calls Try.prog 89 #[.int .u64 (zs.length : Int)] w fun e w' => ∃ k, e = .returned (.int .i64 k) ∧ w' = w) := len_c zs.length hn w
  have hcv : (zs.length : Int) % 18446744073709551616 = zs.length := by omega
  go_enter Try.func66, Try.ntmps66
  go_wp2_with (fail)
  refine HLN.out.mono ?_
  rintro e wx ⟨lim, rfl, hwx⟩
  rw [hwx]
  clear hwx wx
  go_wp2_with (fail)
  refine (HI.out lim).mono ?_
  rintro e w2 ⟨rfl, h2⟩
  have H2 : Hid (SortR base w (.slice a zs.length cap) zs w2) := h2
  clear h2
  go_wp2
  go_end0
  exact ⟨rfl, H2.out⟩
/-- what is sorted and has the same numbers is what ascends -/
theorem sorted_asc {n : Nat} {l ys : List Int} (hn : l.Nodup) (h : ∀ x ∈ l, 0 ≤ x ∧ x < n) (hp : ys.Perm l) (hs : Srt l.length ys) : ys = asc n l := by
  have hpa : ys.Perm (asc n l) := hp.trans (asc_perm hn h).symm
  refine List.Perm.eq_of_pairwise (le := fun a b : Int => a ≤ b) (fun a b _ _ h1 h2 => by omega) ?_ ?_ hpa
  · rw [List.pairwise_iff_getElem]
    intro p q h1 h2 hpq
    have := hs p q hpq (by rw [← hp.length_eq]; exact h2)
    simpa [List.getElem?_eq_getElem h1, List.getElem?_eq_getElem h2] using this
  · rw [asc]
    refine List.Pairwise.filter _ ?_
    rw [List.pairwise_map]
    exact List.Pairwise.imp (fun {a b} (h : a < b) => by omega) List.pairwise_lt_range
end Go.Proofs.Ytcbeaimpmjljjaa

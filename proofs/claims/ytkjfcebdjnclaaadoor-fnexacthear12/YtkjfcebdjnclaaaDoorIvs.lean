/- Rows of whole numbers, and levels; no condition. -/
import Derived.Test.YtkjfcebdjnclaaaDoorStp
import Derived.Test.YtkjfcebdjnclaaaDoorSl
import Derived.Test.YtkjfcebdjnclaaaDoorReg
import Derived.Deep.QuietTactic
import Derived.BigQuiet
import Derived.OwnWalk
namespace Go.Proofs.YtkjfcebdjnclaaaDoor
open Go.RowKit Go.ChangeShapes Go.WideShapes Go.ChangeAt
set_option linter.unusedVariables false
set_option linter.unusedSimpArgs false
set_option maxRecDepth 8000
set_option maxHeartbeats 800000 in
theorem toI (v : Value) (zs : List Int) (w : World) (h : Rd .i64 w v zs) (hl : zs.length ≤ 1048576) :
   Calls Tryd.prog 34 #[v] w fun e w' => ∃ v', e = .returned v' ∧ Ow .i64 3 w.heap.size w' v' zs ∧ Below w.heap.size w w' := by
  obtain ⟨a, cap, rfl, h1, h2, h3⟩ := h
  unfold maxLen at h2
  obtain ⟨i0, hi, hz0, hz1, hz2⟩ := info_parts toIInfo
  go_enter Tryd.func34, Tryd.ntmps34
  go_wp2_with (at_make; refine wpList_make_full _ rfl _ _ 26 rfl w.heap.size 3 i0 (.int .i64 0) 1 Tryd.underlying26 hi hz0 hz1 .i64 .i64 _ _ zs.length rfl rfl rfl rfl (by rw [hz2]; omega) (by unfold maxLen; omega) (Nat.le_refl _) ?_)
  intro w1 ho hg
  have hx : (madeCells #[Value.int .i64 0] zs.length).toList = (mix zs 0).map (Value.int .i64) := by
    rw [toList_madeCells_one]; simp [mix]
  rw [hx] at ho
  have hb : Below w.heap.size w w1 := grown_below hg (Nat.le_refl _) (by simp)
  clear hx hg
  go_wp2
  go_loopw [4] (fun i wr => ∃ j : Nat, j ≤ zs.length ∧ i = .int .i64 j ∧ wr.ownsRow w.heap.size 3 1 (.slice (some ⟨w.heap.size, 0, none⟩) zs.length zs.length) zs.length ((mix zs j).map (Value.int .i64)) ∧ Below w.heap.size w wr) (fun i _ => zs.length - (intOf i).toNat)
  case atStart => exact ⟨0, Nat.zero_le _, rfl, ho, hb⟩
  case round =>
    obtain ⟨j, hj, rfl, hw, hbr⟩ := hrel
    clear ho hb
    by_cases hlt : j < zs.length
    · rcases h3 with h3 | ⟨b, off, rfl, h4⟩
      · subst h3; simp at hlt
      · have hc : wr.cell? ⟨b, off + j, none⟩ = some (.int .i64 (zs.getD j 0)) := by
          have := h4 j hlt
          rw [hbr.cell (block_lt_of_cell this)]; exact this
        have hd : ∃ u, wr.cell? ⟨w.heap.size, j, none⟩ = some u := by
          rw [hw.cellAt j (by omega)]
          exact ⟨_, List.getElem?_eq_getElem (by simp [mix_len zs j hj]; exact hlt)⟩
        obtain ⟨u, hd⟩ := hd
        have hf := hw.frozenAt j
        have hs := hw.stored j (.int .i64 (zs.getD j 0))
        rw [mix_set .i64 zs j hlt] at hs
        have HS := hs.1
        clear h4 hs hw
        go_wp2
        go_roundw
        case rel => exact ⟨j + 1, by omega, by go_num, by simpa [List.getElem?_eq_getElem hlt] using HS, hbr.setCell (by dsimp only; omega) _⟩
        case measure => simp [intOf]; omega
    · obtain rfl : j = zs.length := by omega
      rw [mix_full] at hw
      clear h3
      go_wp2
      go_ret
      exact ⟨_, rfl, hw, hbr⟩

set_option maxHeartbeats 800000 in
theorem eqI (v v' : Value) (xs ys : List Int) (w : World) (h : Rd .i64 w v xs) (h' : Rd .i64 w v' ys) :
   Calls Tryd.prog 35 #[v, v'] w fun e w' => e = .returned (.bool (decide (xs = ys))) ∧ Below w.heap.size w w' := by
  obtain ⟨a, cap, rfl, h1, h2, h3⟩ := h
  obtain ⟨a', cap', rfl, h1', h2', h3'⟩ := h'
  unfold maxLen at h2 h2'
  by_cases hne : xs.length = ys.length
  · have hneb : ((xs.length : Int) != (ys.length : Int)) = false := by simp [hne]
    go_enter Tryd.func35, Tryd.ntmps35
    go_wp2
    go_loopw [5] (fun i wr => ∃ j : Nat, j ≤ xs.length ∧ i = .int .i64 j ∧ Hid (∀ t, t < j → xs.getD t 0 = ys.getD t 0) ∧ Below w.heap.size w wr) (fun i _ => xs.length - (intOf i).toNat)
    case atStart => exact ⟨0, Nat.zero_le _, rfl, fun t ht => by omega, Below.refl _ _⟩
    case round =>
      obtain ⟨j, hj, rfl, hall, hbr⟩ := hrel
      by_cases hlt : j < xs.length
      · rcases h3 with h3 | ⟨b, off, rfl, h4⟩
        · subst h3; simp at hlt
        rcases h3' with h3' | ⟨b', off', rfl, h4'⟩
        · subst h3'; simp at hne; subst hne; simp at hlt
        have hc : wr.cell? ⟨b, off + j, none⟩ = some (.int .i64 (xs.getD j 0)) := by
          have := h4 j hlt
          rw [hbr.cell (block_lt_of_cell this)]; exact this
        have hc' : wr.cell? ⟨b', off' + j, none⟩ = some (.int .i64 (ys.getD j 0)) := by
          have := h4' j (by omega)
          rw [hbr.cell (block_lt_of_cell this)]; exact this
        have hi : (0 : Int) ≤ (j : Int) := by omega
        have hi2 : (j : Int) < (xs.length : Int) := by omega
        have hi3 : (j : Int) < (ys.length : Int) := by omega
        have hjy : j < ys.length := by omega
        have HN : Hid (xs.length = ys.length) := hne
        clear h4 h4' hne
        go_wp2
        go_quiet (fail)
        go_wp2
        · have hn : (xs[j] != ys[j]) = true := by assumption
          have hab : decide (xs = ys) = false := by
            simp only [decide_eq_false_iff_not]
            intro h; subst h; simp at hn
          go_ret
          exact ⟨by rw [hab]; rfl, below_drewN hbr _⟩
        · have he : (xs[j] != ys[j]) = false := by assumption
          go_roundw
          case rel =>
            refine ⟨j + 1, by omega, by go_num, fun t ht => ?_, below_drewN hbr _⟩
            by_cases hjk : t < j
            · exact hall.out t hjk
            · obtain rfl : t = j := by omega
              simpa [List.getElem?_eq_getElem hlt, List.getElem?_eq_getElem hjy] using he
          case measure => simp [intOf]; omega
      · obtain rfl : j = xs.length := by omega
        have hab : decide (xs = ys) = true := by simp only [decide_eq_true_eq]; exact ext_getD hne hall.out
        have HN : Hid (xs.length = ys.length) := hne
        clear h3 h3' hne
        go_wp2
        go_ret
        exact ⟨by rw [hab]; rfl, hbr⟩
  · have hneb : ((xs.length : Int) != (ys.length : Int)) = true := by rw [bne_iff_ne]; omega
    have hab : decide (xs = ys) = false := by
      simp only [decide_eq_false_iff_not]
      intro h; subst h; exact hne rfl
    have HN : Hid (¬ xs.length = ys.length) := hne
    clear hne h3 h3'
    go_enter Tryd.func35, Tryd.ntmps35
    go_wp2
    go_ret
    exact ⟨by rw [hab]; rfl, Below.refl _ _⟩
theorem eqIS (v v' : Value) (xs : List Int) (w : World) (h : Rd .i64 w v xs) (h' : Rd .i64 w v' xs) :
   Calls Tryd.prog 35 #[v, v'] w fun e w' => e = .returned (.bool true) ∧ Below w.heap.size w w' :=
  (eqI v v' xs xs w h h').mono fun e w' he => ⟨by rw [he.1]; simp, he.2⟩

set_option maxHeartbeats 800000 in
theorem markI (v : Value) (zs : List Int) (q : Int) (base : Nat) (w : World) (h : Ow .i64 3 base w v zs) (h0 : 0 ≤ q) (hq : q + zs.length ≤ 1152921504606846976) :
   Calls Tryd.prog 37 #[v, .int .i64 q] w fun e w' => e = .returned (.int .i64 (q + zs.length)) ∧ Ow .i64 3 base w' v (marks .i64 q zs.length) ∧ w.grownBy w' v.ownBlock := by
  have hh := h
  rcases h.2 with ⟨rfl, hn⟩ | ⟨g, cap, cur, rfl, hb, hg, hnc, hcm, hcs, ht⟩
  · obtain rfl : zs = [] := List.eq_nil_of_length_eq_zero hn
    clear hn h
    go_enter Tryd.func37, Tryd.ntmps37
    go_wp2
    refine wp_loop_rounds 1 ?_
    rw [rounds_succ]
    go_wp2
    go_ret
    exact ⟨by simp, by simpa [marks] using hh, grown_refl _ _⟩
  · clear h hg hcs ht
    unfold maxLen at hcm
    go_enter Tryd.func37, Tryd.ntmps37
    go_wp2
    go_loopw [1, 5] (fun c i wr => ∃ j : Nat, j ≤ zs.length ∧ i = .int .i64 j ∧ c = .int .i64 (q + j) ∧ wr.ownsRow base 3 1 (.slice (some ⟨g, 0, none⟩) zs.length cap) zs.length ((mk .i64 q zs j).map (Value.int .i64)) ∧ w.grownBy wr (some g)) (fun _ i _ => zs.length - (intOf i).toNat)
    case atStart => exact ⟨0, Nat.zero_le _, rfl, by simp, by simpa [mk, marks, Ow] using hh, grown_refl _ _⟩
    case round =>
      obtain ⟨j, hj, rfl, rfl, hw, hbr⟩ := hrel
      by_cases hlt : j < zs.length
      · have hd : ∃ u, wr.cell? ⟨g, j, none⟩ = some u := by
          rw [hw.cellAt j (by omega)]
          exact ⟨_, List.getElem?_eq_getElem (by simp [mk_len .i64 q zs j hj]; exact hlt)⟩
        obtain ⟨u, hd⟩ := hd
        have hf := hw.frozenAt j
        have hs := hw.stored j (.int .i64 (IntKind.wrap .i64 (q + j)))
        rw [mk_set .i64 q zs j hlt] at hs
        have HS : Hid _ := hs
        clear hs hw hh
        go_wp2
        go_roundw
        case rel =>
          refine ⟨j + 1, by omega, by go_num, by go_num, ?_, ?_⟩
          · have := HS.out.1
            rw [wrap_i64 (by omega)] at this
            exact this
          · have := grown_trans hbr HS.out.2
            rw [wrap_i64 (by omega)] at this
            exact this
        case measure => simp [intOf]; omega
      · obtain rfl : j = zs.length := by omega
        clear hh
        go_wp2
        go_ret
        exact ⟨rfl, by simpa [mk, marks_len, Ow] using hw, hbr⟩

set_option maxHeartbeats 800000 in
theorem heldI (v : Value) (q : Int) (n : Nat) (w : World) (h : Rd .i64 w v (marks .i64 q n)) (h0 : 0 ≤ q) (hq : q + n ≤ 1152921504606846976) :
   Calls Tryd.prog 38 #[v, .int .i64 q] w fun e w' => e = .returned (.int .i64 (q + n)) ∧ Below w.heap.size w w' := by
  obtain ⟨a, cap, rfl, h1, h2, h3⟩ := h
  rw [marks_len] at h1 h3
  rw [marks_len]
  unfold maxLen at h2
  go_enter Tryd.func38, Tryd.ntmps38
  go_wp2
  go_loopw [1, 5] (fun c i wr => ∃ j : Nat, j ≤ n ∧ i = .int .i64 j ∧ c = .int .i64 (q + j) ∧ Below w.heap.size w wr) (fun _ i _ => n - (intOf i).toNat)
  case atStart => exact ⟨0, Nat.zero_le _, rfl, by simp, Below.refl _ _⟩
  case round =>
    obtain ⟨j, hj, rfl, rfl, hbr⟩ := hrel
    by_cases hlt : j < n
    · rcases h3 with h3 | ⟨b, off, rfl, h4⟩
      · have := congrArg List.length h3; rw [marks_len] at this; simp at this; omega
      have hc : wr.cell? ⟨b, off + j, none⟩ = some (.int .i64 (IntKind.wrap .i64 (q + j))) := by
        have := h4 j hlt
        rw [marks_at _ _ _ _ hlt] at this
        rw [hbr.cell (block_lt_of_cell this)]; exact this
      have hi : (0 : Int) ≤ (j : Int) := by omega
      have hi2 : (j : Int) < (n : Int) := by omega
      clear h4
      go_wp2
      go_roundw
      case rel => exact ⟨j + 1, by omega, by go_num, by go_num, hbr⟩
      case measure => simp [intOf]; omega
    · obtain rfl : j = n := by omega
      clear h3
      go_wp2
      go_ret
      exact ⟨rfl, hbr⟩
/-- all of them are levels -/
def lvB (zs : List Int) : Bool := zs.all (fun z => decide (-32767 ≤ z ∧ z ≤ 32767))
theorem lvB_at {zs : List Int} (h : ∀ t (ht : t < zs.length), -32767 ≤ zs[t] ∧ zs[t] ≤ 32767) : lvB zs = true := by
  unfold lvB; rw [List.all_eq_true]; intro z hz; obtain ⟨t, ht, rfl⟩ := List.getElem_of_mem hz; simpa using h t ht
theorem lvB_no {zs : List Int} (t : Nat) (ht : t < zs.length) (h : ¬ (-32767 ≤ zs[t] ∧ zs[t] ≤ 32767)) : lvB zs = false := by
  cases hq : lvB zs with
  | false => rfl
  | true => unfold lvB at hq; rw [List.all_eq_true] at hq; have := hq _ (List.getElem_mem ht); simp at this; omega
set_option maxHeartbeats 1600000 in
theorem levels_c (v : Value) (zs : List Int) (w : World) (h : Rd .i64 w v zs) : Calls Tryd.prog 98 #[v] w fun e w' => e = .returned (.bool (lvB zs)) ∧ Below w.heap.size w w' := by
  obtain ⟨a, cap, rfl, h1, h2, h3⟩ := h
  unfold maxLen at h2
  go_enter Tryd.func98, Tryd.ntmps98
  go_wp2
  go_loopw [7] (fun i wr => ∃ j : Nat, j ≤ zs.length ∧ i = .int .i64 j ∧ Hid (∀ t (ht : t < j) (h : t < zs.length), -32767 ≤ zs[t] ∧ zs[t] ≤ 32767) ∧ Hid (Below w.heap.size w wr)) (fun i _ => zs.length - (intOf i).toNat)
  case atStart => exact ⟨0, Nat.zero_le _, rfl, fun t ht => by omega, Below.refl _ _⟩
  case round =>
    obtain ⟨j, hj, rfl, hA, hbr⟩ := hrel
    by_cases hlt : j < zs.length
    case neg =>
      obtain rfl : j = zs.length := by omega
      have HN : Hid (lvB zs = true) := lvB_at (fun t ht => hA.out t ht ht)
      clear h3
      go_wp2
      go_ret
      exact ⟨by rw [HN.out]; rfl, hbr.out⟩
    case pos =>
    rcases h3 with h3 | ⟨b, off, rfl, h4⟩
    · subst h3; simp at hlt
    obtain ⟨z, hz⟩ : ∃ z, zs[j] = z := ⟨_, rfl⟩
    have HZ : Hid (zs[j] = z) := hz
    have hc : wr.cell? ⟨b, off + j, none⟩ = some (.int .i64 z) := by
      have := h4 j hlt
      rw [hbr.out.cell (block_lt_of_cell this), this]
      simp [List.getElem?_eq_getElem hlt, hz]
    have hi : (0 : Int) ≤ (j : Int) := by omega
    have hi2 : (j : Int) < (zs.length : Int) := by omega
    clear h4 hz
    by_cases c1 : z < -32767
    · have c1d : decide (z < -32767) = true := by simp; omega
      have HN : Hid (lvB zs = false) := lvB_no j hlt (by rw [HZ.out]; omega)
      go_wp2
      go_ret
      exact ⟨by rw [HN.out]; rfl, hbr.out⟩
    · have c1d : decide (z < -32767) = false := by simp; omega
      by_cases c2 : 32767 < z
      · have c2d : decide (32767 < z) = true := by simp; omega
        have HN : Hid (lvB zs = false) := lvB_no j hlt (by rw [HZ.out]; omega)
        clear c1
        go_wp2
        go_ret
        exact ⟨by rw [HN.out]; rfl, hbr.out⟩
      · have c2d : decide (32767 < z) = false := by simp; omega
        have HN : Hid (∀ t (ht : t < j + 1) (h : t < zs.length), -32767 ≤ zs[t] ∧ zs[t] ≤ 32767) := fun t ht h => by
          by_cases e : t = j
          · subst e; rw [HZ.out]; omega
          · exact hA.out t (by omega) h
        clear c1 c2
        go_wp2
        go_roundw
        case rel => exact ⟨j + 1, by omega, by go_num, HN.out, hbr.out⟩
        case measure => simp [intOf]; omega
set_option maxHeartbeats 1600000 in
theorem voiceI_c (v : Value) (zs : List Int) (w : World) (h : Rd .i64 w v zs) : Calls Tryd.prog 58 #[v] w fun e w' => e = .returned (.bool (decide (zs.length ≤ 300) && lvB zs)) ∧ Below w.heap.size w w' := by
  have HR : Hid (Rd .i64 w v zs) := h
  have HB : Hid (Below w.heap.size w w) := Below.refl _ _
  obtain ⟨a, cap, rfl, h1, h2, -⟩ := h
  unfold maxLen at h2
  by_cases hl : (zs.length : Int) ≤ 300
  · have hld : decide ((zs.length : Int) ≤ 300) = true := by simp; omega
    have HE : Hid (decide (zs.length ≤ 300) = true) := by show _ = _; simp; omega
    go_enter Tryd.func58, Tryd.ntmps58
    go_wp2_with (fail)
    refine (levels_c _ zs _ HR.out).mono ?_
    rintro e w1 ⟨rfl, b1⟩
    have HB1 : Hid (Below w.heap.size w w1) := b1
    obtain ⟨x, hx⟩ : ∃ x, lvB zs = x := ⟨_, rfl⟩
    rw [hx]
    clear b1
    cases x
    · go_wp2
      go_ret
      exact ⟨by rw [HE.out, hx]; rfl, HB1.out⟩
    · go_wp2
      go_ret
      exact ⟨by rw [HE.out, hx]; rfl, HB1.out⟩
  · have hld : decide ((zs.length : Int) ≤ 300) = false := by simp; omega
    have HE : Hid (decide (zs.length ≤ 300) = false) := by show _ = _; simp; omega
    clear hl
    go_enter Tryd.func58, Tryd.ntmps58
    go_wp2
    go_ret
    exact ⟨by rw [HE.out]; rfl, HB.out⟩
set_option maxHeartbeats 1600000 in
theorem voiceM_c (v : Value) (zs : List Int) (w : World) (h : Rd .i64 w v zs) : Calls Tryd.prog 62 #[v] w fun e w' => e = .returned (.bool (decide (zs.length ≤ 300) && lvB zs)) ∧ Below w.heap.size w w' := by
  obtain ⟨a, cap, rfl, h1, h2, h3⟩ := h
  unfold maxLen at h2
  go_enter Tryd.func62, Tryd.ntmps62
  go_wp2
  go_loopw [3] (fun i wr => ∃ j : Nat, j ≤ zs.length ∧ i = .int .i64 j ∧ Hid (∀ t (ht : t < j) (h : t < zs.length), -32767 ≤ zs[t] ∧ zs[t] ≤ 32767) ∧ Hid (Below w.heap.size w wr)) (fun i _ => zs.length - (intOf i).toNat)
  case atStart => exact ⟨0, Nat.zero_le _, rfl, fun t ht => by omega, Below.refl _ _⟩
  case round =>
    obtain ⟨j, hj, rfl, hA, hbr⟩ := hrel
    by_cases hlt : j < zs.length
    case neg =>
      obtain rfl : j = zs.length := by omega
      have HN : Hid (lvB zs = true) := lvB_at (fun t ht => hA.out t ht ht)
      have HE : Hid (decide (zs.length ≤ 300) = decide ((zs.length : Int) ≤ 300)) := by show _ = _; congr 1; simp; omega
      clear h3
      go_wp2
      go_ret
      exact ⟨by rw [HN.out, HE.out, Bool.and_true]; rfl, hbr.out⟩
    case pos =>
    rcases h3 with h3 | ⟨b, off, rfl, h4⟩
    · subst h3; simp at hlt
    obtain ⟨z, hz⟩ : ∃ z, zs[j] = z := ⟨_, rfl⟩
    have HZ : Hid (zs[j] = z) := hz
    have hc : wr.cell? ⟨b, off + j, none⟩ = some (.int .i64 z) := by
      have := h4 j hlt
      rw [hbr.out.cell (block_lt_of_cell this), this]
      simp [List.getElem?_eq_getElem hlt, hz]
    have hi : (0 : Int) ≤ (j : Int) := by omega
    have hi2 : (j : Int) < (zs.length : Int) := by omega
    clear h4 hz
    go_wp2_with (fail)
    refine (level_c _ _).mono ?_
    rintro e w1 ⟨rfl, hw1⟩
    rw [hw1]
    clear hw1
    by_cases c1 : -32767 ≤ z ∧ z ≤ 32767
    · have HN : Hid (∀ t (ht : t < j + 1) (h : t < zs.length), -32767 ≤ zs[t] ∧ zs[t] ≤ 32767) := fun t ht h => by
          by_cases e : t = j
          · subst e; rw [HZ.out]; omega
          · exact hA.out t (by omega) h
      have c1d : decide (-32767 ≤ z ∧ z ≤ 32767) = true := by simp; omega
      rw [c1d]
      clear c1
      go_wp2
      go_roundw
      case rel => exact ⟨j + 1, by omega, by go_num, HN.out, hbr.out⟩
      case measure => simp [intOf]; omega
    · have c1d : decide (-32767 ≤ z ∧ z ≤ 32767) = false := by simp; omega
      have HN : Hid (lvB zs = false) := lvB_no j hlt (by rw [HZ.out]; omega)
      rw [c1d]
      clear c1
      go_wp2
      go_ret
      exact ⟨by rw [HN.out, Bool.and_false]; rfl, hbr.out⟩

end Go.Proofs.YtkjfcebdjnclaaaDoor

/- l18Told, by the specification; no condition. -/
import Derived.Test.YtmfmlbiplagmiaaDoorFls
import Derived.Test.YtmfmlbiplagmiaaDoorFmx
import Derived.Test.YtmfmlbiplagmiaaDoorFsq
import Derived.Test.YtmfmlbiplagmiaaDoorFai
namespace Go.Proofs.YtmfmlbiplagmiaaDoor
open Go.RowKit Go.ChangeShapes Go.WideShapes Go.ChangeAt
set_option linter.unusedVariables false
set_option linter.unusedSimpArgs false
set_option maxRecDepth 8000

theorem hasB_L : hasB false = hasL := by funext i t; rfl
theorem hasB_C : hasB true = hasC := by funext i t; rfl
theorem fst18_ge (f : Tk → Bool) (ts : List Tk) : -1 ≤ fst18 f ts := by
  cases h : ts.any f with
  | false => rw [fst18_no h]; decide
  | true => have := fst18_yes h; omega
theorem bkB_nums {ts : List Tk} {ls cs : List Int} (h : bkB ts ls cs = true) : (∀ i (hi : i < ls.length), -1 ≤ ls[i]) ∧ (∀ i (hi : i < cs.length), -1 ≤ cs[i]) := by
  unfold bkB at h; simp only [Bool.and_eq_true, decide_eq_true_eq] at h
  refine ⟨fun i hi => ?_, fun i hi => ?_⟩
  · have h2 := List.all_eq_true.1 h.2.2.2.2.1 _ (List.getElem_mem hi)
    unfold nuB at h2; simp only [decide_eq_true_eq] at h2; exact h2.1
  · have h2 := List.all_eq_true.1 h.2.2.2.2.2 _ (List.getElem_mem hi)
    unfold nuB at h2; simp only [decide_eq_true_eq] at h2; exact h2.1
set_option maxHeartbeats 12800000 in
theorem toldM_c (va vl vc v : Value) (hvl : ∃ a L c, vl = .slice a L c) (hvc : ∃ a L c, vc = .slice a L c) (ts : List Tk) (zs : List Int) (c : Bool) (k1 k2 : Int) (w : World) (h : Rg 3 tkC w va ts) (hz : Rd .i64 w v zs) (hn : ts.length ≤ 1000) (hzn : zs.length ≤ 30) (hnz : ∀ i (hi : i < zs.length), -1 ≤ zs[i]) :
   Calls Tryd.prog 41 #[.agg (B3 va vl vc), v, .bool c, .int .i64 k1, .int .i64 k2] w (FaR (nuF k1 k2 zs (wr18 (hasB c) zs.length ts)) w) := by
  obtain ⟨P, hP⟩ : ∃ P, w.heap.size = P := ⟨_, rfl⟩
  obtain ⟨W1, hW1⟩ : ∃ W, (w.alloc (Obj.cells (B3 va vl vc) 27)).alloc (Obj.cells #[] 65) = W := ⟨_, rfl⟩
  have HB1 : Hid (Below w.heap.size w W1) := by rw [← hW1]; exact ((Below.refl _ _).alloc (Nat.le_refl _) _).alloc (by simp) _
  have HK1 : Hid (Blk W1 P (B3 va vl vc) 27) := by show Blk _ _ _ _; rw [← hW1, ← hP]; exact (Blk.new _ _ _).alloc _
  have HO1 : Hid (Og 2 flC 65 w.heap.size W1 (.slice (some ⟨P + 1, 0, none⟩) 0 0) (fw k1 (wrB zs (wr18 (hasB c) zs.length ts)) 0)) := by
    show Og _ _ _ _ _ _ _
    have := World.ownsRow_lit (e := 65) (size := 2) (base := w.heap.size) (w.alloc (Obj.cells (B3 va vl vc) 27)) #[] 0 (by simp) (by simp) (by simp)
    rw [hW1] at this
    simpa [Og, fw, hP] using this
  have HP : Hid (w.heap.size = P) := hP
  have HW1 : Hid (_ = W1) := hW1
  have HZ : Hid (Rd .i64 w v zs) := hz
  have HN : Hid (ts.length ≤ 1000 ∧ zs.length ≤ 30) := ⟨hn, hzn⟩
  have HNZ : Hid (∀ i (hi : i < zs.length), -1 ≤ zs[i]) := hnz
  have HFS : Hid (∀ W (i : Nat), Below w.heap.size w W → Calls Tryd.prog 65 #[.agg (B3 va vl vc), .int .i64 (i : Int), .bool c] W fun e w' => e = .returned (.int .i64 (fst18 (hasB c i) ts)) ∧ Below W.heap.size W w') := fun W i hb => first_c va vl vc ts i c W (h.below hb) HN.out.1
  have HFA : Hid (∀ i, i < zs.length → (wr18 (hasB c) zs.length ts).getD i 0 = fst18 (hasB c i) ts ∧ -1 ≤ fst18 (hasB c i) ts) := fun i hi => ⟨wr18_get _ _ _ _ hi, fst18_ge _ _⟩
  obtain ⟨fs, hfs⟩ : ∃ fs, wr18 (hasB c) zs.length ts = fs := ⟨_, rfl⟩
  rw [hfs] at HO1 HFA ⊢
  obtain ⟨ta, tL, tc, rfl⟩ : ∃ a L cap, va = .slice a L cap := by obtain ⟨a, c, e, -⟩ := h; exact ⟨a, _, c, e⟩
  obtain ⟨za, zc, rfl⟩ : ∃ a cap, v = .slice a zs.length cap := by obtain ⟨a, c, e, -⟩ := hz; exact ⟨a, c, e⟩
  obtain ⟨la, lL, lc, hvl⟩ : ∃ a L cap, vl = .slice a L cap := hvl
  obtain ⟨ca, cL, cc, hvc⟩ : ∃ a L cap, vc = .slice a L cap := hvc
  subst hvl hvc
  obtain ⟨v0, hv0⟩ : ∃ x, Value.slice (some ⟨P + 1, 0, none⟩) 0 0 = x := ⟨_, rfl⟩
  rw [hv0] at HO1
  have HV0 : Hid (Value.slice (some ⟨P + 1, 0, none⟩) 0 0 = v0) := hv0
  clear hP hW1 h hz hn hzn hnz hfs hv0
  go_enter Tryd.func41, Tryd.ntmps41
  go_wp2
  rw [HW1.out, HP.out, HV0.out]

  go_loopw [11, 12] (fun lv i wr => ∃ (j : Nat) (l : Value), l = lv ∧ i = .int .i64 (j : Int) ∧ j ≤ zs.length ∧ Hid (Og 2 flC 65 w.heap.size wr l (fw k1 (wrB zs fs) j)) ∧ Hid (Blk wr P (B3 (.slice ta tL tc) (.slice la lL lc) (.slice ca cL cc)) 27) ∧ Hid (Below w.heap.size w wr)) (fun _ i _ => zs.length - (intOf i).toNat)
  case atStart => exact ⟨0, _, rfl, rfl, Nat.zero_le _, HO1.out, HK1.out, HB1.out⟩
  case round =>
    obtain ⟨j, lv, rfl, rfl, hj, hO, hK, hB⟩ := hrel
    clear HO1 HK1 HB1
    by_cases hlt : j < zs.length
    case neg =>
      obtain rfl : zs.length = j := by omega
      clear hlt hj
      have hnl : ¬ ((zs.length : Int) < (zs.length : Int)) := by omega
      have HO2 : Hid (Og 2 flC 65 w.heap.size wr lv (fw k1 (wrB zs fs) zs.length ++ fw k2 (frB' zs fs) 0)) := by show Og _ _ _ _ _ _ _; rw [show fw k2 (frB' zs fs) 0 = [] from rfl, List.append_nil]; exact hO.out
      have HK2 : Hid (Blk wr P (B3 (.slice ta tL tc) (.slice la lL lc) (.slice ca cL cc)) 27) := hK.out
      have HB2 : Hid (Below w.heap.size w wr) := hB.out
      clear hO hK hB
      go_wp2
      go_loopw [11, 14] (fun lv i wr => ∃ (j : Nat) (l : Value), l = lv ∧ i = .int .i64 (j : Int) ∧ j ≤ zs.length ∧ Hid (Og 2 flC 65 w.heap.size wr l (fw k1 (wrB zs fs) zs.length ++ fw k2 (frB' zs fs) j)) ∧ Hid (Blk wr P (B3 (.slice ta tL tc) (.slice la lL lc) (.slice ca cL cc)) 27) ∧ Hid (Below w.heap.size w wr)) (fun _ i _ => zs.length - (intOf i).toNat)
      case atStart => exact ⟨0, _, rfl, rfl, Nat.zero_le _, HO2.out, HK2.out, HB2.out⟩
      case round =>
        obtain ⟨j, lv, rfl, rfl, hj, hO, hK, hB⟩ := hrel
        clear HO2 HK2 HB2
        by_cases hlt : j < zs.length
        case neg =>
          obtain rfl : zs.length = j := by omega
          clear hlt hj
          have hnl : ¬ ((zs.length : Int) < (zs.length : Int)) := by omega
          clear hK
          go_wp2
          go_ret
          exact ⟨_, rfl, hO.out, hB.out⟩
        case pos =>
        obtain ⟨b, off, cp, he, -, -, c0⟩ := rd_at (HZ.out.below hB.out) hlt
        cases he
        have HY : Hid (frB' zs fs j = true → fw k2 (frB' zs fs) (j + 1) = fw k2 (frB' zs fs) j ++ [(k2, (j : Int))]) := fw_yes
        have HX : Hid (frB' zs fs j = false → fw k2 (frB' zs fs) (j + 1) = fw k2 (frB' zs fs) j) := fw_no
        obtain ⟨hf1, hf2⟩ := HFA.out j hlt
        have hnj := HNZ.out j hlt
        have HPE : Hid (frB' zs fs j = (decide (fst18 (hasB c (j : Int)) ts = -1) && decide (zs[j] ≠ -1))) := by
          show _ = _
          unfold frB'
          rw [hf1]
          simp [List.getD, hlt]
        obtain ⟨z, hz⟩ : ∃ z, zs[j] = z := ⟨_, rfl⟩
        obtain ⟨f, hf⟩ : ∃ z, fst18 (hasB c (j : Int)) ts = z := ⟨_, rfl⟩
        rw [hz] at c0 HPE hnj
        rw [hf] at HPE hf2
        have HFC : Hid (Calls Tryd.prog 65 #[.agg (B3 (.slice ta tL tc) (.slice la lL lc) (.slice ca cL cc)), .int .i64 (j : Int), .bool c] wr fun e w' => e = .returned (.int .i64 f) ∧ Below wr.heap.size wr w') := by rw [← hf]; exact HFS.out wr j hB.out
        have hi0 : (0 : Int) ≤ (j : Int) := by omega
        have hi1 : (j : Int) < (zs.length : Int) := by omega
        have hwj : wrap64 ((j : Int) + 1) = (j : Int) + 1 := wrap64_in (by have := HN.out; omega)
        have HFL : Hid ((fw k1 (wrB zs fs) zs.length ++ fw k2 (frB' zs fs) j).length ≤ 1000) := by show _ ≤ _; simp only [List.length_append]; have h9 := fw_len k1 (wrB zs fs) zs.length; have h8 := fw_len k2 (frB' zs fs) j; have := HN.out; omega
        have x0 := hK.out.cell 0
        have x1 := hK.out.cell 1
        have x2 := hK.out.cell 2
        simp at x0 x1 x2
        have HO3 : Hid (Og 2 flC 65 w.heap.size wr lv (fw k1 (wrB zs fs) zs.length ++ fw k2 (frB' zs fs) j)) := hO.out
        have HK3 : Hid (Blk wr P (B3 (.slice ta tL tc) (.slice la lL lc) (.slice ca cL cc)) 27) := hK.out
        have HB3 : Hid (Below w.heap.size w wr) := hB.out
        clear hz hf hf1 hO hK hB hj
        go_wp2_with (fail)
        refine HFC.out.mono ?_
        rintro e w2 ⟨rfl, b2⟩
        have HO4 : Hid (Og 2 flC 65 w.heap.size w2 lv (fw k1 (wrB zs fs) zs.length ++ fw k2 (frB' zs fs) j)) := HO3.out.below b2
        have HK4 : Hid (Blk w2 P (B3 (.slice ta tL tc) (.slice la lL lc) (.slice ca cL cc)) 27) := HK3.out.below b2 HK3.out.lt
        have HB4 : Hid (Below w.heap.size w w2) := belowCall HB3.out b2 HB3.out.size
        have d0 : w2.cell? ⟨b, off + j, none⟩ = some (.int .i64 z) := (b2.cell (block_lt_of_cell c0)).trans c0
        clear x0 x1 x2 b2 c0 HO3 HK3 HB3 HFC
        by_cases g1 : f < 0
        case neg =>
          have e1 : decide (f < 0) = false := decide_eq_false g1
          have hfm : f ≠ -1 := by omega
          have HO5 : Hid (Og 2 flC 65 w.heap.size w2 lv (fw k1 (wrB zs fs) zs.length ++ fw k2 (frB' zs fs) (j + 1))) := by show Og _ _ _ _ _ _ _; rw [HX.out (by rw [HPE.out]; simp [hfm])]; exact HO4.out
          clear HY HX HPE hf2 hnj
          go_wp2
          go_roundw
          case rel => exact ⟨j + 1, _, rfl, by go_num, by omega, HO5.out, HK4.out, HB4.out⟩
          case measure => (rw [hwj]; exact meas18 hlt)
        case pos =>
        have e1 : decide (f < 0) = true := decide_eq_true g1
        have hfm : f = -1 := by omega
        by_cases g2 : 0 ≤ z
        case neg =>
          have e2 : decide (0 ≤ z) = false := decide_eq_false g2
          have hzm : z = -1 := by omega
          have HO5 : Hid (Og 2 flC 65 w.heap.size w2 lv (fw k1 (wrB zs fs) zs.length ++ fw k2 (frB' zs fs) (j + 1))) := by show Og _ _ _ _ _ _ _; rw [HX.out (by rw [HPE.out]; simp [hzm])]; exact HO4.out
          clear HY HX HPE hf2 hnj
          go_wp2
          go_roundw
          case rel => exact ⟨j + 1, _, rfl, by go_num, by omega, HO5.out, HK4.out, HB4.out⟩
          case measure => (rw [hwj]; exact meas18 hlt)
        case pos =>
        have e2 : decide (0 ≤ z) = true := decide_eq_true g2
        have hzm : z ≠ -1 := by omega
        have HZZ : Hid (fw k2 (frB' zs fs) (j + 1) = fw k2 (frB' zs fs) j ++ [(k2, (j : Int))]) := HY.out (by rw [HPE.out]; simp [hfm, hzm])
        obtain ⟨W6, hW6⟩ : ∃ W, w2.alloc (Obj.cells #[.int .i64 k2, .int .i64 (j : Int)] 65) = W := ⟨_, rfl⟩
        have ba : Below w2.heap.size w2 W6 := by rw [← hW6]; exact (Below.refl _ _).alloc (Nat.le_refl _) _
        have HC6 : Hid (Blk W6 w2.heap.size #[.int .i64 k2, .int .i64 (j : Int)] 65) := by show Blk _ _ _ _; rw [← hW6]; exact Blk.new _ _ _
        have HO6 : Hid (Og 2 flC 65 w.heap.size W6 lv (fw k1 (wrB zs fs) zs.length ++ fw k2 (frB' zs fs) j)) := HO4.out.below ba
        have HK6 : Hid (Blk W6 P (B3 (.slice ta tL tc) (.slice la lL lc) (.slice ca cL cc)) 27) := HK4.out.below ba HK4.out.lt
        have HB6 : Hid (Below w.heap.size w W6) := belowCall HB4.out ba HB4.out.size
        have HW6 : Hid (w2.alloc (Obj.cells #[.int .i64 k2, .int .i64 (j : Int)] 65) = W6) := hW6
        clear hW6 ba HO4 HK4 HB4 HY HX HPE hf2 hnj
        go_wp2_with (at_builtin; rw [HW6.out]; refine appF rfl _ _ rfl w.heap.size _ (fw k1 (wrB zs fs) zs.length ++ fw k2 (frB' zs fs) j) rfl HO6.out w2.heap.size (k2, (j : Int)) rfl HC6.out HFL.out HB6.out.size ?_)
        intro v7 w7 o7 g7 p7
        have HO7 : Hid (Og 2 flC 65 w.heap.size w7 v7 (fw k1 (wrB zs fs) zs.length ++ fw k2 (frB' zs fs) (j + 1))) := by show Og _ _ _ _ _ _ _; rw [HZZ.out]; exact o7
        have HK7 : Hid (Blk w7 P (B3 (.slice ta tL tc) (.slice la lL lc) (.slice ca cL cc)) 27) := HK6.out.grown g7 (row_blk HO6.out HK6.out (by decide))
        have HB7 : Hid (Below w.heap.size w w7) := HB6.out.trans (grown_below g7 HB6.out.size (fun k e => (World.ownsRow.lt HO6.out k e).1))
        clear o7 g7 p7 HO6 HK6 HB6 HC6 HW6
        go_wp2
        go_roundw
        case rel => exact ⟨j + 1, _, rfl, by go_num, by omega, HO7.out, HK7.out, HB7.out⟩
        case measure => (rw [hwj]; exact meas18 hlt)
    case pos =>
    obtain ⟨b, off, cp, he, -, -, c0⟩ := rd_at (HZ.out.below hB.out) hlt
    cases he
    have HY : Hid (wrB zs fs j = true → fw k1 (wrB zs fs) (j + 1) = fw k1 (wrB zs fs) j ++ [(k1, (j : Int))]) := fw_yes
    have HX : Hid (wrB zs fs j = false → fw k1 (wrB zs fs) (j + 1) = fw k1 (wrB zs fs) j) := fw_no
    obtain ⟨hf1, hf2⟩ := HFA.out j hlt
    have hnj := HNZ.out j hlt
    have HPE : Hid (wrB zs fs j = (decide (fst18 (hasB c (j : Int)) ts ≠ -1) && decide (zs[j] ≠ fst18 (hasB c (j : Int)) ts))) := by
      show _ = _
      unfold wrB
      rw [hf1]
      simp [List.getD, hlt]
    obtain ⟨z, hz⟩ : ∃ z, zs[j] = z := ⟨_, rfl⟩
    obtain ⟨f, hf⟩ : ∃ z, fst18 (hasB c (j : Int)) ts = z := ⟨_, rfl⟩
    rw [hz] at c0 HPE hnj
    rw [hf] at HPE hf2
    have HFC : Hid (Calls Tryd.prog 65 #[.agg (B3 (.slice ta tL tc) (.slice la lL lc) (.slice ca cL cc)), .int .i64 (j : Int), .bool c] wr fun e w' => e = .returned (.int .i64 f) ∧ Below wr.heap.size wr w') := by rw [← hf]; exact HFS.out wr j hB.out
    have hi0 : (0 : Int) ≤ (j : Int) := by omega
    have hi1 : (j : Int) < (zs.length : Int) := by omega
    have hwj : wrap64 ((j : Int) + 1) = (j : Int) + 1 := wrap64_in (by have := HN.out; omega)
    have HFL : Hid ((fw k1 (wrB zs fs) j).length ≤ 1000) := by show _ ≤ _; have h8 := fw_len k1 (wrB zs fs) j; have := HN.out; omega
    have x0 := hK.out.cell 0
    have x1 := hK.out.cell 1
    have x2 := hK.out.cell 2
    simp at x0 x1 x2
    have HO3 : Hid (Og 2 flC 65 w.heap.size wr lv (fw k1 (wrB zs fs) j)) := hO.out
    have HK3 : Hid (Blk wr P (B3 (.slice ta tL tc) (.slice la lL lc) (.slice ca cL cc)) 27) := hK.out
    have HB3 : Hid (Below w.heap.size w wr) := hB.out
    clear hz hf hf1 hO hK hB hj
    go_wp2_with (fail)
    refine HFC.out.mono ?_
    rintro e w2 ⟨rfl, b2⟩
    have HO4 : Hid (Og 2 flC 65 w.heap.size w2 lv (fw k1 (wrB zs fs) j)) := HO3.out.below b2
    have HK4 : Hid (Blk w2 P (B3 (.slice ta tL tc) (.slice la lL lc) (.slice ca cL cc)) 27) := HK3.out.below b2 HK3.out.lt
    have HB4 : Hid (Below w.heap.size w w2) := belowCall HB3.out b2 HB3.out.size
    have d0 : w2.cell? ⟨b, off + j, none⟩ = some (.int .i64 z) := (b2.cell (block_lt_of_cell c0)).trans c0
    clear x0 x1 x2 b2 c0 HO3 HK3 HB3 HFC
    by_cases g1 : 0 ≤ f
    case neg =>
      have e1 : decide (0 ≤ f) = false := decide_eq_false g1
      have hfm : f = -1 := by omega
      have HO5 : Hid (Og 2 flC 65 w.heap.size w2 lv (fw k1 (wrB zs fs) (j + 1))) := by show Og _ _ _ _ _ _ _; rw [HX.out (by rw [HPE.out]; simp [hfm])]; exact HO4.out
      clear HY HX HPE hf2 hnj
      go_wp2
      go_roundw
      case rel => exact ⟨j + 1, _, rfl, by go_num, by omega, HO5.out, HK4.out, HB4.out⟩
      case measure => (rw [hwj]; exact meas18 hlt)
    case pos =>
    have e1 : decide (0 ≤ f) = true := decide_eq_true g1
    have hfm : f ≠ -1 := by omega
    by_cases g2 : z = f
    case pos =>
      have e2 : (z != f) = false := by simp [g2]
      have HO5 : Hid (Og 2 flC 65 w.heap.size w2 lv (fw k1 (wrB zs fs) (j + 1))) := by show Og _ _ _ _ _ _ _; rw [HX.out (by rw [HPE.out]; simp [g2])]; exact HO4.out
      clear HY HX HPE hf2 hnj
      go_wp2
      go_roundw
      case rel => exact ⟨j + 1, _, rfl, by go_num, by omega, HO5.out, HK4.out, HB4.out⟩
      case measure => (rw [hwj]; exact meas18 hlt)
    case neg =>
    have e2 : (z != f) = true := bne_iff_ne.2 g2
    have HZZ : Hid (fw k1 (wrB zs fs) (j + 1) = fw k1 (wrB zs fs) j ++ [(k1, (j : Int))]) := HY.out (by rw [HPE.out]; simp [hfm, g2])
    obtain ⟨W6, hW6⟩ : ∃ W, w2.alloc (Obj.cells #[.int .i64 k1, .int .i64 (j : Int)] 65) = W := ⟨_, rfl⟩
    have ba : Below w2.heap.size w2 W6 := by rw [← hW6]; exact (Below.refl _ _).alloc (Nat.le_refl _) _
    have HC6 : Hid (Blk W6 w2.heap.size #[.int .i64 k1, .int .i64 (j : Int)] 65) := by show Blk _ _ _ _; rw [← hW6]; exact Blk.new _ _ _
    have HO6 : Hid (Og 2 flC 65 w.heap.size W6 lv (fw k1 (wrB zs fs) j)) := HO4.out.below ba
    have HK6 : Hid (Blk W6 P (B3 (.slice ta tL tc) (.slice la lL lc) (.slice ca cL cc)) 27) := HK4.out.below ba HK4.out.lt
    have HB6 : Hid (Below w.heap.size w W6) := belowCall HB4.out ba HB4.out.size
    have HW6 : Hid (w2.alloc (Obj.cells #[.int .i64 k1, .int .i64 (j : Int)] 65) = W6) := hW6
    clear hW6 ba HO4 HK4 HB4 HY HX HPE hf2 hnj
    go_wp2_with (at_builtin; rw [HW6.out]; refine appF rfl _ _ rfl w.heap.size _ (fw k1 (wrB zs fs) j) rfl HO6.out w2.heap.size (k1, (j : Int)) rfl HC6.out HFL.out HB6.out.size ?_)
    intro v7 w7 o7 g7 p7
    have HO7 : Hid (Og 2 flC 65 w.heap.size w7 v7 (fw k1 (wrB zs fs) (j + 1))) := by show Og _ _ _ _ _ _ _; rw [HZZ.out]; exact o7
    have HK7 : Hid (Blk w7 P (B3 (.slice ta tL tc) (.slice la lL lc) (.slice ca cL cc)) 27) := HK6.out.grown g7 (row_blk HO6.out HK6.out (by decide))
    have HB7 : Hid (Below w.heap.size w w7) := HB6.out.trans (grown_below g7 HB6.out.size (fun k e => (World.ownsRow.lt HO6.out k e).1))
    clear o7 g7 p7 HO6 HK6 HB6 HC6 HW6
    go_wp2
    go_roundw
    case rel => exact ⟨j + 1, _, rfl, by go_num, by omega, HO7.out, HK7.out, HB7.out⟩
    case measure => (rw [hwj]; exact meas18 hlt)

end Go.Proofs.YtmfmlbiplagmiaaDoor

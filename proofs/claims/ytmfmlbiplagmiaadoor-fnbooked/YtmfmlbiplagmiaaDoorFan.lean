/- Faults, by the specification; no condition. -/
import Derived.Test.YtmfmlbiplagmiaaDoorFam
namespace Go.Proofs.YtmfmlbiplagmiaaDoor
open Go.RowKit Go.ChangeShapes Go.WideShapes Go.ChangeAt
set_option linter.unusedVariables false
set_option linter.unusedSimpArgs false
set_option maxRecDepth 8000

theorem twB_no {ts : List Tk} {j : Nat} (h : ∀ k (hk : k < ts.length), k < j → shB (ts.getD j (0, 0, 0)) ts[k] = false) : twB ts j = false := by
  unfold twB
  rw [List.any_eq_false]
  intro x hx
  rw [List.mem_take_iff_getElem] at hx
  obtain ⟨i, hi, rfl⟩ := hx
  rw [h i (by omega) (by omega)]; simp
theorem twB_yes {ts : List Tk} {j k : Nat} (hk : k < ts.length) (hkj : k < j) (h : shB (ts.getD j (0, 0, 0)) ts[k] = true) : twB ts j = true := by
  unfold twB
  rw [List.any_eq_true]
  exact ⟨ts[k], by rw [List.mem_take_iff_getElem]; exact ⟨k, by omega, rfl⟩, h⟩
set_option maxHeartbeats 25600000 in
theorem faultsM_c (va vl vc : Value) (ts : List Tk) (ls cs : List Int) (w : World) (h : Rbk w va vl vc ts ls cs) :
   Calls Tryd.prog 13 #[.agg (B3 va vl vc)] w (FaR (faL ts ls cs) w) := by
  obtain ⟨P, hP⟩ : ∃ P, w.heap.size = P := ⟨_, rfl⟩
  obtain ⟨W1, hW1⟩ : ∃ W, (w.alloc (Obj.cells (B3 va vl vc) 27)).alloc (Obj.cells #[] 65) = W := ⟨_, rfl⟩
  have HB1 : Hid (Below w.heap.size w W1) := by rw [← hW1]; exact ((Below.refl _ _).alloc (Nat.le_refl _) _).alloc (by simp) _
  have HO1 : Hid (Og 2 flC 65 w.heap.size W1 (.slice (some ⟨P + 1, 0, none⟩) 0 0) []) := by
    show Og _ _ _ _ _ _ _
    have := World.ownsRow_lit (e := 65) (size := 2) (base := w.heap.size) (w.alloc (Obj.cells (B3 va vl vc) 27)) #[] 0 (by simp) (by simp) (by simp)
    rw [hW1] at this
    simpa [Og, hP] using this
  have HRD : Hid (∀ W, Below w.heap.size w W → Rbk W va vl vc ts ls cs) := fun W hb => h.below hb
  have HOK : Hid (∀ W, Below w.heap.size w W → Calls Tryd.prog 14 #[.agg (B3 va vl vc)] W fun e w' => e = .returned (.bool (bkB ts ls cs)) ∧ Below W.heap.size W w') := fun W hb => okM_c va vl vc ts ls cs W (h.below hb)
  have HNO : Hid (bkB ts ls cs = false → faL ts ls cs = [(7, 0)]) := faL_no
  have HYE : Hid (bkB ts ls cs = true → faL ts ls cs = ftL ts ls cs ∧ (ts.length ≤ 30 ∧ ls.length ≤ 30 ∧ cs.length ≤ 30) ∧ (∀ i (hi : i < ls.length), -1 ≤ ls[i]) ∧ (∀ i (hi : i < cs.length), -1 ≤ cs[i])) := fun e => ⟨faL_yes e, bkB_len e, bkB_nums e⟩
  have HTL : Hid (∀ W, Below w.heap.size w W → ts.length ≤ 1000 → ls.length ≤ 30 → (∀ i (hi : i < ls.length), -1 ≤ ls[i]) → Calls Tryd.prog 41 #[.agg (B3 va vl vc), vl, .bool false, .int .i64 3, .int .i64 4] W (FaR (nuF 3 4 ls (wr18 hasL ls.length ts)) W)) := fun W hb h1 h2 h3 => by
    have hr := h.below hb
    have := toldM_c va vl vc vl (by obtain ⟨a, c, e, -⟩ := h.2.1; exact ⟨a, _, c, e⟩) (by obtain ⟨a, c, e, -⟩ := h.2.2; exact ⟨a, _, c, e⟩) ts ls false 3 4 W hr.1 hr.2.1 h1 h2 h3
    rw [hasB_L] at this
    exact this
  have HTC : Hid (∀ W, Below w.heap.size w W → ts.length ≤ 1000 → cs.length ≤ 30 → (∀ i (hi : i < cs.length), -1 ≤ cs[i]) → Calls Tryd.prog 41 #[.agg (B3 va vl vc), vc, .bool true, .int .i64 5, .int .i64 6] W (FaR (nuF 5 6 cs (wr18 hasC cs.length ts)) W)) := fun W hb h1 h2 h3 => by
    have hr := h.below hb
    have := toldM_c va vl vc vc (by obtain ⟨a, c, e, -⟩ := h.2.1; exact ⟨a, _, c, e⟩) (by obtain ⟨a, c, e, -⟩ := h.2.2; exact ⟨a, _, c, e⟩) ts cs true 5 6 W hr.1 hr.2.2 h1 h2 h3
    rw [hasB_C] at this
    exact this
  obtain ⟨Q, hQ⟩ : ∃ Q, bkB ts ls cs = Q := ⟨_, rfl⟩
  rw [hQ] at HOK HNO HYE
  obtain ⟨⟨ta, tc, rfl, -⟩, ⟨la, lc, rfl, -⟩, ⟨ca, cc, rfl, -⟩⟩ := h
  obtain ⟨BK, hBK⟩ : ∃ c : Array Value, (B3 (.slice ta ts.length tc) (.slice la ls.length lc) (.slice ca cs.length cc)) = c := ⟨_, rfl⟩
  have HK1 : Hid (Blk W1 P BK 27) := by show Blk _ _ _ _; rw [← hW1, ← hP, ← hBK]; exact (Blk.new _ _ _).alloc _
  have HBK : Hid ((B3 (.slice ta ts.length tc) (.slice la ls.length lc) (.slice ca cs.length cc)) = BK) := hBK
  have x0 := HK1.out.cell 0
  have x1 := HK1.out.cell 1
  have x2 := HK1.out.cell 2
  rw [← hBK] at x0 x1 x2
  simp at x0 x1 x2
  have HP : Hid (w.heap.size = P) := hP
  have HW1 : Hid (_ = W1) := hW1
  obtain ⟨v0, hv0⟩ : ∃ x, Value.slice (some ⟨P + 1, 0, none⟩) 0 0 = x := ⟨_, rfl⟩
  rw [hv0] at HO1
  have HV0 : Hid (Value.slice (some ⟨P + 1, 0, none⟩) 0 0 = v0) := hv0
  clear hP hW1 hQ hBK hv0
  go_enter Tryd.func13, Tryd.ntmps13
  go_wp2_with (fail)
  rw [HW1.out, HP.out, HV0.out]
  refine (HOK.out W1 HB1.out).mono ?_
  rintro e w2 ⟨rfl, b2⟩
  have HB2 : Hid (Below w.heap.size w w2) := belowCall HB1.out b2 HB1.out.size
  have HK2 : Hid (Blk w2 P BK 27) := HK1.out.below b2 HK1.out.lt
  have HO2 : Hid (Og 2 flC 65 w.heap.size w2 v0 []) := HO1.out.below b2
  clear x0 x1 x2 b2 HB1 HK1 HO1 HW1 HOK HV0
  cases Q with
  | false =>
    obtain ⟨W3, hW3⟩ : ∃ W, w2.alloc (Obj.cells #[.int .i64 7, .int .i64 0] 65) = W := ⟨_, rfl⟩
    have ba : Below w2.heap.size w2 W3 := by rw [← hW3]; exact (Below.refl _ _).alloc (Nat.le_refl _) _
    have HC3 : Hid (Blk W3 w2.heap.size #[.int .i64 7, .int .i64 0] 65) := by show Blk _ _ _ _; rw [← hW3]; exact Blk.new _ _ _
    have HO3 : Hid (Og 2 flC 65 w.heap.size W3 v0 []) := HO2.out.below ba
    have HB3 : Hid (Below w.heap.size w W3) := belowCall HB2.out ba HB2.out.size
    have HW3 : Hid (w2.alloc (Obj.cells #[.int .i64 7, .int .i64 0] 65) = W3) := hW3
    have HE : Hid (faL ts ls cs = [(7, 0)]) := HNO.out (by first | rfl | trivial)
    clear hW3 ba HO2 HB2 HK2 HNO HYE
    go_wp2_with (at_builtin; rw [HW3.out]; refine appF rfl _ _ rfl w.heap.size _ [] rfl HO3.out w2.heap.size (7, 0) rfl HC3.out (by simp) HB3.out.size ?_)
    intro v7 w7 o7 g7 p7
    have HF : Hid (FaR (faL ts ls cs) w (.returned v7) w7) := ⟨_, rfl, by rw [HE.out]; exact o7, HB3.out.trans (grown_below g7 HB3.out.size (fun k e => (World.ownsRow.lt HO3.out k e).1))⟩
    clear o7 g7 p7
    go_wp2
    go_ret
    exact HF.out
  | true =>
  obtain ⟨hE, ⟨l1, l2, l3⟩, hn1, hn2⟩ := HYE.out (by first | rfl | trivial)
  have HLN : Hid (ts.length ≤ 30 ∧ ls.length ≤ 30 ∧ cs.length ≤ 30) := ⟨l1, l2, l3⟩
  have HE : Hid (faL ts ls cs = (fw 1 (twB ts) ts.length ++ fw 2 (seB ts) ts.length) ++ nuF 3 4 ls (wr18 hasL ls.length ts) ++ nuF 5 6 cs (wr18 hasC cs.length ts)) := hE
  have HT1 : Hid (∀ W, Below w.heap.size w W → Calls Tryd.prog 41 #[.agg (B3 (.slice ta ts.length tc) (.slice la ls.length lc) (.slice ca cs.length cc)), .slice la ls.length lc, .bool false, .int .i64 3, .int .i64 4] W (FaR (nuF 3 4 ls (wr18 hasL ls.length ts)) W)) := fun W hb => HTL.out W hb (by omega) l2 hn1
  have HT2 : Hid (∀ W, Below w.heap.size w W → Calls Tryd.prog 41 #[.agg (B3 (.slice ta ts.length tc) (.slice la ls.length lc) (.slice ca cs.length cc)), .slice ca cs.length cc, .bool true, .int .i64 5, .int .i64 6] W (FaR (nuF 5 6 cs (wr18 hasC cs.length ts)) W)) := fun W hb => HTC.out W hb (by omega) l3 hn2
  have HO3 : Hid (Og 2 flC 65 w.heap.size w2 v0 (fw 1 (twB ts) 0)) := HO2.out
  clear hE l1 l2 l3 hn1 hn2 HNO HYE HTL HTC HO2
  go_wp2
  go_loopw [3, 4] (fun lv i wr => ∃ (j : Nat) (l : Value), l = lv ∧ i = .int .i64 (j : Int) ∧ j ≤ ts.length ∧ Hid (Og 2 flC 65 w.heap.size wr l (fw 1 (twB ts) j)) ∧ Hid (Blk wr P BK 27) ∧ Hid (Below w.heap.size w wr)) (fun _ i _ => ts.length - (intOf i).toNat)
  case atStart => exact ⟨0, _, rfl, rfl, Nat.zero_le _, HO3.out, HK2.out, HB2.out⟩
  case round =>
    obtain ⟨j, lv, rfl, rfl, hj, hO, hK, hB⟩ := hrel
    clear HO3 HK2 HB2
    obtain ⟨wz, hwz⟩ : ∃ W, W = wr := ⟨_, rfl⟩
    subst hwz
    have x0 := hK.out.cell 0
    rw [← HBK.out] at x0
    simp at x0
    by_cases hlt : j < ts.length
    case neg =>
      obtain rfl : ts.length = j := by omega
      clear hlt hj
      have hnl : ¬ ((ts.length : Int) < (ts.length : Int)) := by omega
      have HLA : Hid ((fw 1 (twB ts) ts.length).length ≤ 30) := Nat.le_trans (fw_len _ _ _) HLN.out.1
      obtain ⟨A, hA⟩ : ∃ A, fw 1 (twB ts) ts.length = A := ⟨_, rfl⟩
      rw [hA] at hO HE HLA
      have HO4 : Hid (Og 2 flC 65 w.heap.size wz lv (A ++ fw 2 (seB ts) 0)) := by show Og _ _ _ _ _ _ _; rw [show fw 2 (seB ts) 0 = [] from rfl, List.append_nil]; exact hO.out
      have HK4 : Hid (Blk wz P BK 27) := hK.out
      have HB4 : Hid (Below w.heap.size w wz) := hB.out
      clear hO hK hB hA
      go_wp2
      clear x0
      go_loopw [3, 6] (fun lv i wr => ∃ (j : Nat) (l : Value), l = lv ∧ i = .int .i64 (j : Int) ∧ j ≤ ts.length ∧ Hid (Og 2 flC 65 w.heap.size wr l (A ++ fw 2 (seB ts) j)) ∧ Hid (Blk wr P BK 27) ∧ Hid (Below w.heap.size w wr)) (fun _ i _ => ts.length - (intOf i).toNat)
      case atStart => exact ⟨0, _, rfl, rfl, Nat.zero_le _, HO4.out, HK4.out, HB4.out⟩
      case round =>
        obtain ⟨j, lv, rfl, rfl, hj, hO, hK, hB⟩ := hrel
        clear HO4 HK4 HB4
        by_cases hlt : j < ts.length
        case neg =>
          obtain rfl : ts.length = j := by omega
          clear hlt hj
          have hnl : ¬ ((ts.length : Int) < (ts.length : Int)) := by omega
          have HLB : Hid ((fw 2 (seB ts) ts.length).length ≤ 30 ∧ (nuF 3 4 ls (wr18 hasL ls.length ts)).length ≤ 60 ∧ (nuF 5 6 cs (wr18 hasC cs.length ts)).length ≤ 60) := ⟨Nat.le_trans (fw_len _ _ _) HLN.out.1, by have := nuF_len 3 4 ls (wr18 hasL ls.length ts); have := HLN.out; omega, by have := nuF_len 5 6 cs (wr18 hasC cs.length ts); have := HLN.out; omega⟩
          obtain ⟨B, hB'⟩ : ∃ A, fw 2 (seB ts) ts.length = A := ⟨_, rfl⟩
          obtain ⟨C, hC'⟩ : ∃ A, nuF 3 4 ls (wr18 hasL ls.length ts) = A := ⟨_, rfl⟩
          obtain ⟨D, hD'⟩ : ∃ A, nuF 5 6 cs (wr18 hasC cs.length ts) = A := ⟨_, rfl⟩
          rw [hB'] at hO HE HLB
          rw [hC'] at HT1 HE HLB
          rw [hD'] at HT2 HE HLB
          have HO5 : Hid (Og 2 flC 65 w.heap.size wr lv (A ++ B)) := hO.out
          have HK5 : Hid (Blk wr P BK 27) := hK.out
          have HB5 : Hid (Below w.heap.size w wr) := hB.out
          have k5 := hK.out
          rw [← HBK.out] at k5
          have x0 := k5.cell 0
          have x1 := k5.cell 1
          have x2 := k5.cell 2
          simp at x0 x1 x2
          clear hO hK hB k5 hB' hC' hD'
          go_wp2_with (fail)
          refine (HT1.out wr HB5.out).mono ?_
          rintro e w6 ⟨v6, rfl, o6, b6⟩
          have HO6 : Hid (Og 2 flC 65 w.heap.size w6 lv (A ++ B)) := HO5.out.below b6
          have HK6 : Hid (Blk w6 P BK 27) := HK5.out.below b6 HK5.out.lt
          have HB6 : Hid (Below w.heap.size w w6) := belowCall HB5.out b6 HB5.out.size
          have HR6 : Hid (Rg 2 flC w6 v6 C) := o6.rd flC_len
          clear x0 x1 x2 o6 b6 HO5 HK5 HB5
          go_wp2_with (at_builtin; refine appFs rfl _ _ rfl w.heap.size _ (A ++ B) rfl HO6.out _ C rfl HR6.out (by have := HLB.out; have := HLA.out; simp; omega) HB6.out.size ?_)
          intro v7 w7 o7 g7 p7
          have HO7 : Hid (Og 2 flC 65 w.heap.size w7 v7 (A ++ B ++ C)) := by show Og _ _ _ _ _ _ _; simpa only [List.append_assoc] using o7
          have HK7 : Hid (Blk w7 P BK 27) := HK6.out.grown g7 (row_blk HO6.out HK6.out (by decide))
          have HB7 : Hid (Below w.heap.size w w7) := HB6.out.trans (grown_below g7 HB6.out.size (fun k e => (World.ownsRow.lt HO6.out k e).1))
          have k7 := HK7.out
          rw [← HBK.out] at k7
          have x0 := k7.cell 0
          have x1 := k7.cell 1
          have x2 := k7.cell 2
          simp at x0 x1 x2
          clear o7 g7 p7 k7 HO6 HK6 HB6 HR6
          go_wp2_with (fail)
          refine (HT2.out w7 HB7.out).mono ?_
          rintro e w8 ⟨v8, rfl, o8, b8⟩
          have HO8 : Hid (Og 2 flC 65 w.heap.size w8 v7 (A ++ B ++ C)) := HO7.out.below b8
          have HB8 : Hid (Below w.heap.size w w8) := belowCall HB7.out b8 HB7.out.size
          have HR8 : Hid (Rg 2 flC w8 v8 D) := o8.rd flC_len
          clear x0 x1 x2 o8 b8 HO7 HK7 HB7
          go_wp2_with (at_builtin; refine appFs rfl _ _ rfl w.heap.size _ (A ++ B ++ C) rfl HO8.out _ D rfl HR8.out (by have := HLB.out; have := HLA.out; simp; omega) HB8.out.size ?_)
          intro v9 w9 o9 g9 p9
          have HF : Hid (FaR (faL ts ls cs) w (.returned v9) w9) := ⟨_, rfl, by rw [HE.out]; simpa only [List.append_assoc] using o9, HB8.out.trans (grown_below g9 HB8.out.size (fun k e => (World.ownsRow.lt HO8.out k e).1))⟩
          clear o9 g9 p9
          go_wp2
          go_ret
          exact HF.out
        case pos =>
        have hji : (j : Int) < (ts.length : Int) := by omega
        have hwj : wrap64 ((j : Int) + 1) = (j : Int) + 1 := wrap64_in (by have := HLN.out; omega)
        have HY : Hid (seB ts j = true → fw 2 (seB ts) (j + 1) = fw 2 (seB ts) j ++ [(2, (j : Int))]) := fw_yes
        have HX : Hid (seB ts j = false → fw 2 (seB ts) (j + 1) = fw 2 (seB ts) j) := fw_no
        have HPE : Hid (seB ts j = decide (ts[j].1 = ts[j].2.1)) := by show _ = _; unfold seB; simp [List.getD, hlt]
        have HFL : Hid ((A ++ fw 2 (seB ts) j).length ≤ 1000) := by show _ ≤ _; rw [List.length_append]; have h8 := fw_len 2 (seB ts) j; have := HLA.out; have := HLN.out; omega
        obtain ⟨b, off, cp, he, -, -, c0, c1, c2⟩ := rg_at (HRD.out wr hB.out).1 hlt
        have hk4 := hK.out
        rw [← HBK.out] at hk4
        have xr : wr.cell? ⟨P, 0, none⟩ = some (.slice ta ts.length tc) := by have := hk4.cell 0; simpa using this
        have x0 : ∀ W : Ov wr, W.wd.cell? ⟨P, 0, none⟩ = some (.slice ta ts.length tc) := fun W => (W.ok.cell hk4.lt).trans xr
        cases he
        have y0 : ∀ W : Ov wr, W.wd.cell? ⟨b, off + j * 3, none⟩ = some (.int .i64 ts[j].1) := ov_cell c0
        have y1 : ∀ W : Ov wr, W.wd.cell? ⟨b, off + j * 3 + 1, none⟩ = some (.int .i64 ts[j].2.1) := ov_cell c1
        obtain ⟨tj, htj⟩ : ∃ x, ts[j] = x := ⟨_, rfl⟩
        rw [htj] at y0 y1 HPE
        obtain ⟨j0, j1, j2⟩ := tj
        dsimp only at y0 y1
        have hj0 : (0 : Int) ≤ (j : Int) := by omega
        have HWS : Hid (∀ W : Ov wr, Og 2 flC 65 w.heap.size W.wd lv (A ++ fw 2 (seB ts) j) ∧ Blk W.wd P BK 27 ∧ Below w.heap.size w W.wd) := fun W => ⟨hO.out.below W.ok, hK.out.below W.ok hK.out.lt, belowCall hB.out W.ok hB.out.size⟩
        have ne : Nonempty (Ov wr) := ⟨⟨_, Below.refl _ _⟩⟩
        clear htj c0 c1 c2 hk4 hj hO hK hB
        go_wp2
        refine region_over (by kernel_rfl) (by kernel_rfl) ?_
        repeat (go_big_quiet_step (fail))
        refine wpQuiet_nil ?_
        rintro _ ⟨W, rfl⟩
        obtain ⟨hO5, hK5, hB5⟩ := HWS.out W
        obtain ⟨w5, hw5⟩ : ∃ V, W.wd = V := ⟨_, rfl⟩
        rw [hw5] at hO5 hK5 hB5 ⊢
        have HO5 : Hid (Og 2 flC 65 w.heap.size w5 lv (A ++ fw 2 (seB ts) j)) := hO5
        have HK5 : Hid (Blk w5 P BK 27) := hK5
        have HB5 : Hid (Below w.heap.size w w5) := hB5
        clear x0 y0 y1 ne HWS hw5 hO5 hK5 hB5
        by_cases g : j0 = j1
        case neg =>
          have e1 : (j0 == j1) = false := by simp [g]
          have HO6 : Hid (Og 2 flC 65 w.heap.size w5 lv (A ++ fw 2 (seB ts) (j + 1))) := by show Og _ _ _ _ _ _ _; rw [HX.out (by rw [HPE.out]; exact decide_eq_false g)]; exact HO5.out
          clear g HY HX HPE
          go_wp2
          go_roundw
          case rel => exact ⟨j + 1, _, rfl, by go_num, by omega, HO6.out, HK5.out, HB5.out⟩
          case measure => (rw [hwj]; exact meas18 hlt)
        case pos =>
        have e1 : (j0 == j1) = true := by simp [g]
        have HZZ : Hid (fw 2 (seB ts) (j + 1) = fw 2 (seB ts) j ++ [(2, (j : Int))]) := HY.out (by rw [HPE.out]; exact decide_eq_true g)
        obtain ⟨W6, hW6⟩ : ∃ W, w5.alloc (Obj.cells #[.int .i64 2, .int .i64 (j : Int)] 65) = W := ⟨_, rfl⟩
        have ba : Below w5.heap.size w5 W6 := by rw [← hW6]; exact (Below.refl _ _).alloc (Nat.le_refl _) _
        have HC6 : Hid (Blk W6 w5.heap.size #[.int .i64 2, .int .i64 (j : Int)] 65) := by show Blk _ _ _ _; rw [← hW6]; exact Blk.new _ _ _
        have HO6 : Hid (Og 2 flC 65 w.heap.size W6 lv (A ++ fw 2 (seB ts) j)) := HO5.out.below ba
        have HK6 : Hid (Blk W6 P BK 27) := HK5.out.below ba HK5.out.lt
        have HB6 : Hid (Below w.heap.size w W6) := belowCall HB5.out ba HB5.out.size
        have HW6 : Hid (w5.alloc (Obj.cells #[.int .i64 2, .int .i64 (j : Int)] 65) = W6) := hW6
        clear g hW6 ba HO5 HK5 HB5 HY HX HPE
        go_wp2_with (at_builtin; rw [HW6.out]; refine appF rfl _ _ rfl w.heap.size _ (A ++ fw 2 (seB ts) j) rfl HO6.out w5.heap.size (2, (j : Int)) rfl HC6.out HFL.out HB6.out.size ?_)
        intro v7 w7 o7 g7 p7
        have HO7 : Hid (Og 2 flC 65 w.heap.size w7 v7 (A ++ fw 2 (seB ts) (j + 1))) := by show Og _ _ _ _ _ _ _; rw [HZZ.out]; simpa only [List.append_assoc] using o7
        have HK7 : Hid (Blk w7 P BK 27) := HK6.out.grown g7 (row_blk HO6.out HK6.out (by decide))
        have HB7 : Hid (Below w.heap.size w w7) := HB6.out.trans (grown_below g7 HB6.out.size (fun k e => (World.ownsRow.lt HO6.out k e).1))
        clear o7 g7 p7 HO6 HK6 HB6 HC6 HW6
        go_wp2
        go_roundw
        case rel => exact ⟨j + 1, _, rfl, by go_num, by omega, HO7.out, HK7.out, HB7.out⟩
        case measure => (rw [hwj]; exact meas18 hlt)
    case pos =>
    have hji : (j : Int) < (ts.length : Int) := by omega
    have HJ : Hid (ts.getD j (0, 0, 0) = ts[j]) := by show _ = _; simp [List.getD, hlt]
    have hwj : wrap64 ((j : Int) + 1) = (j : Int) + 1 := wrap64_in (by have := HLN.out; omega)
    obtain ⟨tj, htj⟩ : ∃ x, ts[j] = x := ⟨_, rfl⟩
    have HTJ : Hid (ts[j] = tj) := htj
    have HTY : Hid (∀ k (hk : k < ts.length), k < j → shB tj ts[k] = true → twB ts j = true) := fun k hk hkj e => twB_yes hk hkj (by rw [HJ.out, HTJ.out]; exact e)
    have HTN : Hid ((∀ k (hk : k < ts.length), k < j → shB tj ts[k] = false) → twB ts j = false) := fun e => twB_no fun k hk hkj => by rw [HJ.out, HTJ.out]; exact e k hk hkj
    have HFL : Hid ((fw 1 (twB ts) j).length ≤ 1000) := by have := fw_len 1 (twB ts) j; have := HLN.out; show _ ≤ _; omega
    have HY : Hid (twB ts j = true → fw 1 (twB ts) (j + 1) = fw 1 (twB ts) j ++ [(1, (j : Int))]) := fw_yes
    have HX : Hid (twB ts j = false → fw 1 (twB ts) (j + 1) = fw 1 (twB ts) j) := fw_no
    have HSH : Hid (∀ (k : Nat) (hk : k < ts.length) W, Calls Tryd.prog 34 #[.agg #[.int .i64 tj.1, .int .i64 tj.2.1, .int .i64 tj.2.2], .agg #[.int .i64 ts[k].1, .int .i64 ts[k].2.1, .int .i64 ts[k].2.2]] W fun e w' => e = .returned (.bool (shB tj ts[k])) ∧ Below W.heap.size W w') := fun k hk W => shares_c _ _ _ _ _ _ W
    have HO4 : Hid (Og 2 flC 65 w.heap.size wz lv (fw 1 (twB ts) j)) := hO.out
    have HK4 : Hid (Blk wz P BK 27) := hK.out
    have HB4 : Hid (Below w.heap.size w wz) := hB.out
    have HLT : Hid (j < ts.length) := hlt
    clear hO hK hB hj htj
    go_wp2
    clear x0
    go_loopw [3, 5] (fun l3 i wr => ∃ (k : Nat), lv = l3 ∧ i = .int .i64 (k : Int) ∧ k ≤ j ∧ Hid (∀ q (hq : q < ts.length), q < k → shB tj ts[q] = false) ∧ Hid (Below wz.heap.size wz wr)) (fun _ i _ => j - (intOf i).toNat)
    case atStart => exact ⟨0, rfl, rfl, Nat.zero_le _, fun q hq h => by omega, Below.refl _ _⟩
    case round =>
      obtain ⟨k, rfl, rfl, hk, hA, hC⟩ := hrel
      by_cases hkj : k < j
      case neg =>
        obtain rfl : j = k := by omega
        have HO5 : Hid (Og 2 flC 65 w.heap.size wr lv (fw 1 (twB ts) (j + 1))) := by show Og _ _ _ _ _ _ _; rw [HX.out (HTN.out hA.out)]; exact HO4.out.below hC.out
        have HK5 : Hid (Blk wr P BK 27) := HK4.out.below hC.out HK4.out.lt
        have HB5 : Hid (Below w.heap.size w wr) := belowCall HB4.out hC.out HB4.out.size
        have hnl : ¬ ((j : Int) < (j : Int)) := by omega
        clear hA hC hk hkj HO4 HK4 HB4 HSH HTY HTN HY HX
        go_wp2
        go_roundw
        case rel => exact ⟨j + 1, _, rfl, by go_num, by omega, HO5.out, HK5.out, HB5.out⟩
        case measure => (rw [hwj]; exact meas18 hlt)
      case pos =>
      have hkl : k < ts.length := by omega
      obtain ⟨b, off, cp, he, -, -, c0, c1, c2⟩ := rg_at (HRD.out wr (belowCall HB4.out hC.out HB4.out.size)).1 hlt
      obtain ⟨b', off', cp', he', -, -, d0, d1, d2⟩ := rg_at (HRD.out wr (belowCall HB4.out hC.out HB4.out.size)).1 hkl
      have hk4 := HK4.out.below hC.out HK4.out.lt
      rw [← HBK.out] at hk4
      obtain ⟨qb, hqb⟩ : ∃ q, shB tj ts[k] = q := ⟨_, rfl⟩
      have HCA : Hid (∀ W : Ov wr, Calls Tryd.prog 34 #[.agg #[.int .i64 tj.1, .int .i64 tj.2.1, .int .i64 tj.2.2], .agg #[.int .i64 ts[k].1, .int .i64 ts[k].2.1, .int .i64 ts[k].2.2]] W.wd fun e w'' => e = .returned (.bool qb) ∧ ∃ W' : Ov wr, w'' = W'.wd) := fun W => ov_call (by have := HSH.out k hkl W.wd; rw [hqb] at this; exact this)
      have HQT : Hid (qb = true → twB ts j = true) := fun e => HTY.out k hkl hkj (by rw [hqb]; exact e)
      have HQF : Hid (qb = false → ∀ q (hq : q < ts.length), q < k + 1 → shB tj ts[q] = false) := fun e q hq h => by
        rcases Nat.lt_or_ge q k with h' | h'
        · exact hA.out q hq h'
        · obtain rfl : q = k := by omega
          rw [hqb]; exact e
      have x0 : ∀ W : Ov wr, W.wd.cell? ⟨P, 0, none⟩ = some (.slice ta ts.length tc) := fun W => (W.ok.cell hk4.lt).trans (by have := hk4.cell 0; simpa using this)
      cases he
      cases he'
      have y0 : ∀ W : Ov wr, W.wd.cell? ⟨b, off + j * 3, none⟩ = some (.int .i64 tj.1) := ov_cell (by rw [← HTJ.out]; exact c0)
      have y1 : ∀ W : Ov wr, W.wd.cell? ⟨b, off + j * 3 + 1, none⟩ = some (.int .i64 tj.2.1) := ov_cell (by rw [← HTJ.out]; exact c1)
      have y2 : ∀ W : Ov wr, W.wd.cell? ⟨b, off + j * 3 + 2, none⟩ = some (.int .i64 tj.2.2) := ov_cell (by rw [← HTJ.out]; exact c2)
      have z0 : ∀ W : Ov wr, W.wd.cell? ⟨b, off + k * 3, none⟩ = some (.int .i64 ts[k].1) := ov_cell d0
      have z1 : ∀ W : Ov wr, W.wd.cell? ⟨b, off + k * 3 + 1, none⟩ = some (.int .i64 ts[k].2.1) := ov_cell d1
      have z2 : ∀ W : Ov wr, W.wd.cell? ⟨b, off + k * 3 + 2, none⟩ = some (.int .i64 ts[k].2.2) := ov_cell d2
      obtain ⟨tk, htk⟩ : ∃ x, ts[k] = x := ⟨_, rfl⟩
      rw [htk] at HCA z0 z1 z2
      obtain ⟨j0, j1, j2⟩ := tj
      obtain ⟨k0, k1, k2⟩ := tk
      dsimp only at y0 y1 y2 z0 z1 z2 HCA
      have hj0 : (0 : Int) ≤ (j : Int) := by omega
      have hk0 : (0 : Int) ≤ (k : Int) := by omega
      have hk1 : (k : Int) < (j : Int) := by omega
      have hk2 : (k : Int) < (ts.length : Int) := by omega
      have hwk : wrap64 ((k : Int) + 1) = (k : Int) + 1 := wrap64_in (by have := HLN.out; omega)
      have HCR : Hid (∀ W : Ov wr, Below wz.heap.size wz W.wd) := fun W => belowCall hC.out W.ok hC.out.size
      have ne : Nonempty (Ov wr) := ⟨⟨_, Below.refl _ _⟩⟩
      clear htk hqb hA hC c0 c1 c2 d0 d1 d2 hk4 hk
      go_wp2
      refine region_over (by kernel_rfl) (by kernel_rfl) ?_
      repeat (go_big_quiet_step (first | (go_at_call 34; exact HCA.out _)))
      refine wpQuiet_nil ?_
      rintro _ ⟨W, rfl⟩
      have HWB : Hid (Below wz.heap.size wz W.wd) := HCR.out W
      clear x0 y0 y1 y2 z0 z1 z2 ne HCA HCR
      cases qb with
      | false =>
        have HF : Hid (∀ q (hq : q < ts.length), q < k + 1 → shB (j0, j1, j2) ts[q] = false) := HQF.out (by first | rfl | trivial)
        clear HQF HQT
        go_wp2
        go_roundw
        case rel => exact ⟨k + 1, rfl, by go_num, by omega, HF.out, HWB.out⟩
        case measure => (rw [hwk]; exact meas18 hkj)
      | true =>
        have HZZ : Hid (fw 1 (twB ts) (j + 1) = fw 1 (twB ts) j ++ [(1, (j : Int))]) := HY.out (HQT.out (by first | rfl | trivial))
        obtain ⟨w5, hw5⟩ : ∃ V, W.wd = V := ⟨_, rfl⟩
        rw [hw5] at HWB ⊢
        clear hw5 HQF HQT
        obtain ⟨W6, hW6⟩ : ∃ W, w5.alloc (Obj.cells #[.int .i64 1, .int .i64 (j : Int)] 65) = W := ⟨_, rfl⟩
        have ba : Below w5.heap.size w5 W6 := by rw [← hW6]; exact (Below.refl _ _).alloc (Nat.le_refl _) _
        have HC6 : Hid (Blk W6 w5.heap.size #[.int .i64 1, .int .i64 (j : Int)] 65) := by show Blk _ _ _ _; rw [← hW6]; exact Blk.new _ _ _
        have HO6 : Hid (Og 2 flC 65 w.heap.size W6 lv (fw 1 (twB ts) j)) := (HO4.out.below HWB.out).below ba
        have HK6 : Hid (Blk W6 P BK 27) := (HK4.out.below HWB.out HK4.out.lt).below ba (HK4.out.below HWB.out HK4.out.lt).lt
        have HB6 : Hid (Below w.heap.size w W6) := belowCall (belowCall HB4.out HWB.out HB4.out.size) ba (Nat.le_trans HB4.out.size HWB.out.size)
        have HW6 : Hid (w5.alloc (Obj.cells #[.int .i64 1, .int .i64 (j : Int)] 65) = W6) := hW6
        clear hW6 ba HO4 HK4 HB4 HY HX HWB HSH HTY HTN
        go_wp2_with (at_builtin; rw [HW6.out]; refine appF rfl _ _ rfl w.heap.size _ (fw 1 (twB ts) j) rfl HO6.out w5.heap.size (1, (j : Int)) rfl HC6.out HFL.out HB6.out.size ?_)
        intro v7 w7 o7 g7 p7
        have HO7 : Hid (Og 2 flC 65 w.heap.size w7 v7 (fw 1 (twB ts) (j + 1))) := by show Og _ _ _ _ _ _ _; rw [HZZ.out]; exact o7
        have HK7 : Hid (Blk w7 P BK 27) := HK6.out.grown g7 (row_blk HO6.out HK6.out (by decide))
        have HB7 : Hid (Below w.heap.size w w7) := HB6.out.trans (grown_below g7 HB6.out.size (fun k e => (World.ownsRow.lt HO6.out k e).1))
        clear o7 g7 p7 HO6 HK6 HB6 HC6 HW6
        go_wp2
        go_roundw
        case rel => exact ⟨j + 1, _, rfl, by go_num, Nat.succ_le_of_lt HLT.out, HO7.out, HK7.out, HB7.out⟩
        case measure => (rw [hwj]; exact meas18 hlt)

end Go.Proofs.YtmfmlbiplagmiaaDoor

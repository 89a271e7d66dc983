/- What an op does by itself; no condition. -/
import Derived.Test.YtpmmgbinogokfaaLv
namespace Go.Proofs.Ytpmmgbinogokfaa
open Go.RowKit Go.ChangeShapes Go.WideShapes Go.ChangeAt
set_option linter.unusedVariables false
set_option linter.unusedSimpArgs false
set_option maxRecDepth 8000
set_option maxHeartbeats 3200000 in
theorem giveUp_c (B L : Nat) (now g : Int) (va vq vc : Value) (gs : List Ag) (qs : List Wt) (cs : List Int) (c : Int) (w : World) (h : Lv B w L now g va vq vc gs qs cs) (hn : qs.length ≤ 1048576) :
   Calls Try.prog 81 #[.pointer (some ⟨L, 0, none⟩), .int .i64 c] w fun e w' => Below B w w' ∧ (((qs.findIdx? fun x => x.1 == c) = none ∧ e = .returned (.bool false)) ∨ ∃ i, (qs.findIdx? fun x => x.1 == c) = some i ∧ e = .returned (.bool true) ∧ ∃ vq', Lv B w' L now g va vq' vc gs (qs.eraseIdx i) cs) := by
  have hBw : B ≤ w.heap.size := Nat.le_trans h.lb (Nat.le_of_lt h.blk.lt)
  have c2 := h.blk.cell 2
  have HL : Hid (Lv B w L now g va vq vc gs qs cs) := h
  obtain ⟨a, cap, rfl, -⟩ := h.qu
  simp at c2
  clear h
  go_enter Try.func81, Try.ntmps81
  go_wp2_with (fail)
  refine (plc_c _ qs c w HL.out.qu).mono ?_
  rintro e w2 ⟨rfl, b2⟩
  have L2 : Hid (Lv B w2 L now g va (.slice a qs.length cap) vc gs qs cs) := HL.out.below b2
  have B2 : Hid (Below B w w2) := b2.mono hBw
  obtain ⟨u, hu⟩ : ∃ u, optI (qs.findIdx? fun x => x.1 == c) = u := ⟨_, rfl⟩
  have HU : Hid (optI (qs.findIdx? fun x => x.1 == c) = u) := hu
  rw [hu]
  clear hu b2 c2 HL
  by_cases hu0 : 0 ≤ u
  · obtain ⟨i, hi, hui⟩ := optI_some HU.out hu0
    have HI : Hid ((qs.findIdx? fun x => x.1 == c) = some i) := hi
    have hil : i < qs.length := by
      rw [List.findIdx?_eq_some_iff_getElem] at hi; exact hi.1
    have hun : ¬ u < 0 := by omega
    have HUI : Hid (u = (i : Int)) := hui
    clear hi hui HU
    go_wp2_with (fail)
    rw [HUI.out]
    refine (leave_c B L now g va _ vc gs qs cs i w2 L2.out hn hil).mono ?_
    rintro e w3 ⟨rfl, vq', l3, b3, -⟩
    have HF : Hid (Below B w w3 ∧ ∃ vq', Lv B w3 L now g va vq' vc gs (qs.eraseIdx i) cs) := ⟨B2.out.trans b3, _, l3⟩
    clear l3 b3 L2 B2
    go_wp2
    go_ret
    exact ⟨HF.out.1, .inr ⟨i, HI.out, rfl, HF.out.2⟩⟩
  · have HN : Hid ((qs.findIdx? fun x => x.1 == c) = none) := none_of HU.out hu0
    go_wp2
    go_ret
    exact ⟨B2.out, .inl ⟨HN.out, rfl⟩⟩
/-- what begin tells -/
def BgR (B L : Nat) (t g : Int) (vc : Value) (cs : List Int) (r : Option (List Ag × List Wt)) (w : World) (e : Ending) (w' : World) : Prop :=
  Below B w w' ∧ ((r = none ∧ e = .returned (.bool false)) ∨ ∃ gs1 qs1, r = some (gs1, qs1) ∧ e = .returned (.bool true) ∧ ∃ va' vq', Lv B w' L t g va' vq' vc gs1 qs1 cs)
set_option maxHeartbeats 6400000 in
theorem begin_c (B L : Nat) (now g : Int) (va vq vc : Value) (gs : List Ag) (qs : List Wt) (cs : List Int) (k t a s p : Int) (w : World) (h : Lv B w L now g va vq vc gs qs cs) (hn : qs.length ≤ 1048576) (hg : gs.length ≤ 1048576) (hk : k = 1 ∨ k = 2 ∨ k = 3 ∨ k = 4) :
   Calls Try.prog 48 #[.pointer (some ⟨L, 0, none⟩), .agg #[.int .i64 k, .int .i64 t, .int .i64 a, .int .i64 s, .int .i64 p]] w (BgR B L t g vc cs (beg t gs qs k a s p) w) := by
  have hBw : B ≤ w.heap.size := Nat.le_trans h.lb (Nat.le_of_lt h.blk.lt)
  have hLw : L < w.heap.size := h.blk.lt
  have l0 := h.setNow t
  obtain ⟨W0, hW0⟩ : ∃ W0, w.setCell ⟨L, 0, none⟩ (.int .i64 t) = W0 := ⟨_, rfl⟩
  have hs0 : W0.heap.size = w.heap.size := by rw [← hW0]; simp
  rw [hW0] at l0
  obtain ⟨W2, hW2⟩ : ∃ W2, W0.alloc (Obj.cells #[.int .i64 k, .int .i64 t, .int .i64 a, .int .i64 s, .int .i64 p] 38) = W2 := ⟨_, rfl⟩
  have b2 : Below W0.heap.size W0 W2 := hW2 ▸ (Below.refl _ _).alloc (Nat.le_refl _) _
  have l2 := l0.below b2
  have k2 : Blk W2 w.heap.size #[.int .i64 k, .int .i64 t, .int .i64 a, .int .i64 s, .int .i64 p] 38 := hW2 ▸ Blk.newAt _ _ _ 38 hs0.symm
  have L2 : Hid (Lv B W2 L t g va vq vc gs qs cs) := l2
  have K2 : Hid (Blk W2 w.heap.size #[.int .i64 k, .int .i64 t, .int .i64 a, .int .i64 s, .int .i64 p] 38) := k2
  have B2 : Hid (Below B w W2) := by
    have h1 : Below B w W0 := hW0 ▸ (Below.refl _ _).setCell (by dsimp only; exact h.lb) _
    exact h1.trans (b2.mono (by omega))
  have y0 := k2.cell 0
  have y1 := k2.cell 1
  have y2 := k2.cell 2
  have y3 := k2.cell 3
  have y4 := k2.cell 4
  simp at y0 y1 y2 y3 y4
  have hk2 := k2.lt
  have HW0 : Hid (w.setCell ⟨L, 0, none⟩ (.int .i64 t) = W0) := hW0
  have HW2 : Hid (W0.alloc (Obj.cells #[.int .i64 k, .int .i64 t, .int .i64 a, .int .i64 s, .int .i64 p] 38) = W2) := hW2
  have cw := h.blk.cell 0
  have fw := h.blk.frozen 0
  simp at cw
  clear h b2 l0 l2 k2 hW0 hW2 hs0
  rcases hk with rfl | rfl | rfl | rfl
  · go_enter Try.func48, Try.ntmps48
    go_wp2_with (fail)
    rw [HW0.out, HW2.out]
    refine (comer_c 1 t a s p W2).mono ?_
    rintro e w3 ⟨rfl, b3⟩
    have L3 : Hid (Lv B w3 L t g va vq vc gs qs cs) := L2.out.below b3
    have B3 : Hid (Below B w w3) := B2.out.trans (b3.mono (Nat.le_trans hBw (by omega)))
    clear b3 L2 B2 y0 y1 y2 y3 y4 cw fw HW0 HW2 K2
    go_wp2_with (fail)
    refine (come_c B L t g va vq vc gs qs cs (a, s, p, t) w3 L3.out hn).mono ?_
    rintro e w4 ⟨rfl, vq', l4, b4⟩
    have HF : Hid (BgR B L t g vc cs (beg t gs qs 1 a s p) w (.returned (.bool true)) w4) := ⟨B3.out.trans b4, .inr ⟨gs, qs ++ [(a, s, p, t)], by simp [beg], rfl, _, _, l4⟩⟩
    clear l4 b4 L3 B3
    go_wp2
    go_ret
    exact HF.out
  · go_enter Try.func48, Try.ntmps48
    go_wp2_with (fail)
    rw [HW0.out, HW2.out]
    refine (giveUp_c B L t g va vq vc gs qs cs a W2 L2.out hn).mono ?_
    rintro e w3 ⟨b3, hr⟩
    rcases hr with ⟨h1, rfl⟩ | ⟨i, h1, rfl, vq', l3⟩
    · have HF : Hid (BgR B L t g vc cs (beg t gs qs 2 a s p) w (.returned (.bool false)) w3) := ⟨B2.out.trans b3, .inl ⟨by simp [beg, h1], rfl⟩⟩
      clear h1 b3 L2 B2 y0 y1 y2 y3 y4 cw fw HW0 HW2 K2
      go_wp2
      go_ret
      exact HF.out
    · have HF : Hid (BgR B L t g vc cs (beg t gs qs 2 a s p) w (.returned (.bool true)) w3) := ⟨B2.out.trans b3, .inr ⟨gs, qs.eraseIdx i, by simp [beg, h1], rfl, _, _, l3⟩⟩
      clear h1 b3 l3 L2 B2 y0 y1 y2 y3 y4 cw fw HW0 HW2 K2
      go_wp2
      go_ret
      exact HF.out
  · by_cases hr : 0 ≤ a ∧ a < gs.length
    · obtain ⟨i, rfl⟩ := Int.eq_ofNat_of_zero_le hr.1
      have hil : i < gs.length := by omega
      obtain ⟨x, hx⟩ : ∃ x, gs[i]? = some x := ⟨_, List.getElem?_eq_getElem hil⟩
      have HX : Hid (gs[i]? = some x) := hx
      have HXE : Hid (gs[i] = x) := (List.getElem?_eq_some_iff.1 hx).2
      have HD : Hid (decide (0 ≤ (i : Int) ∧ (i : Int) < gs.length) = true) := decide_eq_true hr
      clear hr hx
      go_enter Try.func48, Try.ntmps48
      go_wp2_with (fail)
      rw [HW0.out, HW2.out]
      refine (has_c B L t g va vq vc gs qs cs i W2 L2.out).mono ?_
      rintro e w3 ⟨rfl, rfl⟩
      rw [HD.out]
      go_wp2_with (fail)
      refine (end_c B L t g va vq vc gs qs cs i x _ L2.out HX.out hg).mono ?_
      rintro e w4 hr
      rcases hr with ⟨h1, rfl, rfl⟩ | ⟨h1, rfl, va', l4, b4⟩
      · have HF : Hid (BgR B L t g vc cs (beg t gs qs 3 i s p) w (.returned (.bool false)) w4) := ⟨B2.out, .inl ⟨by simp [beg, hil, HXE.out, h1], rfl⟩⟩
        clear h1 L2 B2 y0 y1 y2 y3 y4 cw fw HW0 HW2 K2
        go_wp2
        go_ret
        exact HF.out
      · have HF : Hid (BgR B L t g vc cs (beg t gs qs 3 i s p) w (.returned (.bool true)) w4) := ⟨B2.out.trans b4, .inr ⟨gs.set i (x.1, -1, t), qs, by simp [beg, hil, HXE.out, h1], rfl, _, _, l4⟩⟩
        clear h1 l4 b4 L2 B2 y0 y1 y2 y3 y4 cw fw HW0 HW2 K2
        go_wp2
        go_ret
        exact HF.out
    · have HD : Hid (decide (0 ≤ a ∧ a < gs.length) = false) := decide_eq_false hr
      have HF : Hid (BgR B L t g vc cs (beg t gs qs 3 a s p) w (.returned (.bool false)) W2) := ⟨B2.out, .inl ⟨by simp [beg]; intro h1 h2; exact absurd ⟨h1, h2⟩ hr, rfl⟩⟩
      clear hr
      go_enter Try.func48, Try.ntmps48
      go_wp2_with (fail)
      rw [HW0.out, HW2.out]
      refine (has_c B L t g va vq vc gs qs cs a W2 L2.out).mono ?_
      rintro e w3 ⟨rfl, rfl⟩
      rw [HD.out]
      go_wp2
      go_ret
      exact HF.out
  · by_cases hr : 0 ≤ a ∧ a < gs.length
    · obtain ⟨i, rfl⟩ := Int.eq_ofNat_of_zero_le hr.1
      have hil : i < gs.length := by omega
      obtain ⟨x, hx⟩ : ∃ x, gs[i]? = some x := ⟨_, List.getElem?_eq_getElem hil⟩
      have HX : Hid (gs[i]? = some x) := hx
      have HXE : Hid (gs[i] = x) := (List.getElem?_eq_some_iff.1 hx).2
      have HD : Hid (decide (0 ≤ (i : Int) ∧ (i : Int) < gs.length) = true) := decide_eq_true hr
      clear hr hx
      go_enter Try.func48, Try.ntmps48
      go_wp2_with (fail)
      rw [HW0.out, HW2.out]
      refine (has_c B L t g va vq vc gs qs cs i W2 L2.out).mono ?_
      rintro e w3 ⟨rfl, rfl⟩
      rw [HD.out]
      obtain ⟨b, cap, rfl, hbL, hBb, hbw, hcap⟩ := L2.out.agb hil
      obtain ⟨m, hm⟩ : ∃ m, gs.length = m := ⟨_, rfl⟩
      have HM : Hid (gs.length = m) := hm
      have hi2 : (i : Int) < (m : Int) := by omega
      have hi1 : (0 : Int) ≤ (i : Int) := by omega
      have him : i < m := by omega
      obtain ⟨x1, x2, x3⟩ := x
      have hOb : w.heap.size ≠ b := by
        intro e
        have h1 := L2.out.ag
        rcases h1.2 with ⟨h2, -⟩ | ⟨b', cap', cur, h2, -, h3, -⟩
        · cases h2
        · cases h2
          have h4 := K2.out
          rw [Blk, e, h3] at h4
          cases h4
      have HG : Hid (∀ W, w3.grownBy W (some b) → W.cell? ⟨L, 1, none⟩ = some (.slice (some ⟨b, 0, none⟩) m cap) ∧ W.cell? ⟨w.heap.size, 2, none⟩ = some (.int .i64 i) ∧ W.cell? ⟨w.heap.size, 3, none⟩ = some (.int .i64 s)) := fun W hW => by
        have hk : Blk W L (L5 t (.slice (some ⟨b, 0, none⟩) m cap) vq g vc) 83 := by rw [Blk, hW.block L L2.out.blk.lt (by simp; exact Ne.symm hbL), ← hm]; exact L2.out.blk
        have hk2 : Blk W w.heap.size #[.int .i64 4, .int .i64 t, .int .i64 i, .int .i64 s, .int .i64 p] 38 := by rw [Blk, hW.block _ K2.out.lt (by simpa using hOb)]; exact K2.out
        exact ⟨hk.cell 1, hk2.cell 2, hk2.cell 3⟩
      have HSL : Hid (∀ y : Ag, (gs.set i y).length = m) := fun y => by simpa using hm
      have HO0 : Hid (Og 3 agC 36 B w3 (.slice (some ⟨b, 0, none⟩) m cap) gs) := by show Og _ _ _ _ _ _ _; rw [← hm]; exact L2.out.ag
      clear hm
      go_wp2
      refine region_det [.pointer (some ⟨L, 0, none⟩), .pointer (some ⟨L, 0, none⟩), .pointer (some ⟨L, 1, none⟩), .slice (some ⟨b, 0, none⟩) m cap, .pointer (some ⟨w.heap.size, 2, none⟩), .int .i64 i, .pointer (some ⟨w.heap.size, 3, none⟩), .int .i64 s, .pointer (some ⟨b, i * 3, none⟩), .pointer (some ⟨b, i * 3, none⟩), undef]
        (fun d W => w3.grownBy W (some b) ∧ Og 3 agC 36 B W (.slice (some ⟨b, 0, none⟩) m cap) (gs.set i ((if d 10 = true then s else x1), x2, x3))) (by kernel_rfl) (by kernel_rfl)
        (by simp only [putAll, Act.put, List.setIfInBounds_toArray, List.set_cons_succ, List.set_cons_zero]; exact rfl) ⟨⟨rfl, rfl, rfl, Nat.le_refl _, fun _ _ _ => rfl⟩, by simp only [Bool.false_eq_true, if_false]; rw [set_self HX.out]; exact HO0.out⟩ ⟨?_, ?_, ?_, ?_, ?_, ?_, ?_, ?_, ?_, ?_, ?_, trivial⟩ ?_
      case refine_12 =>
        rintro d W ⟨G, O⟩ hn
        have h10 := hn 10 (by decide)
        rw [h10] at O
        have HF : Hid (BgR B L t g vc cs (beg t gs qs 4 i s p) w (.returned (.bool true)) W) := by
          refine ⟨B2.out.trans (grown_below G (by omega) (fun k e => by cases e; exact hBb)), .inr ⟨gs.set i (s, x2, x3), qs, by simp [beg, hil, HXE.out], rfl, (.slice (some ⟨b, 0, none⟩) m cap), vq, ?_⟩⟩
          have hL := L2.out
          have hM := HM.out
          subst hM
          have := hL.setAgent W (gs.set i (s, x2, x3)) (by simp) G (by simpa using O)
          simpa using this
        clear G O hn h10
        go_wp2
        go_ret
        exact HF.out
      all_goals (try (rintro d W ⟨G, O⟩ hn hd; obtain ⟨c1, c2, c3⟩ := HG.out W G))
      iterate 10
        · go_wp2
          exact ⟨rfl, rfl, G, O⟩
      · obtain ⟨d0, d1, d2, f0, f1, f2⟩ := Og.cells O (HSL.out _) (set_at HX.out)
        have hO := own_set1 agC_len O (HSL.out _) i 0 _ (s, x2, x3) (.int .i64 s) (set_at HX.out) (by decide) rfl
        rw [List.set_set] at hO
        have HO : Hid (Og 3 agC 36 B (W.setCell ⟨b, i * 3, none⟩ (.int .i64 s)) (.slice (some ⟨b, 0, none⟩) m cap) (gs.set i (s, x2, x3))) := hO
        have HGG : Hid (w3.grownBy (W.setCell ⟨b, i * 3, none⟩ (.int .i64 s)) (some b)) := grown_trans G (grown_set' _ _ _ _)
        clear hO O G
        go_wp2
        exact ⟨rfl, rfl, HGG.out, HO.out⟩
    · have HD : Hid (decide (0 ≤ a ∧ a < gs.length) = false) := decide_eq_false hr
      have HF : Hid (BgR B L t g vc cs (beg t gs qs 4 a s p) w (.returned (.bool false)) W2) := ⟨B2.out, .inl ⟨by simp [beg]; intro h1 h2; exact absurd ⟨h1, h2⟩ hr, rfl⟩⟩
      clear hr
      go_enter Try.func48, Try.ntmps48
      go_wp2_with (fail)
      rw [HW0.out, HW2.out]
      refine (has_c B L t g va vq vc gs qs cs a W2 L2.out).mono ?_
      rintro e w3 ⟨rfl, rfl⟩
      rw [HD.out]
      go_wp2
      go_ret
      exact HF.out
end Go.Proofs.Ytpmmgbinogokfaa

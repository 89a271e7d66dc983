/- l9DrawAny and DrawRate; no condition. -/
import Derived.Test.YtdnophdldpophaaDrF
namespace Go.Proofs.Ytdnophdldpophaa
open Go.RowKit Go.ChangeShapes Go.WideShapes Go.ChangeAt
set_option linter.unusedVariables false
set_option linter.unusedSimpArgs false
set_option maxRecDepth 8000
theorem results_tmp4 {fn : Func} {t u v x : Tmp} (h : fn.results = #[.tmp t, .tmp u, .tmp v, .tmp x]) (tmps : Array Value) (P : Program) (w : World) :
    (results fn tmps).run P w = .ok (.tuple #[tmps.getD t undef, tmps.getD u undef, tmps.getD v undef, tmps.getD x undef]) w := by
  simp [results, h]
theorem results_tmp5 {fn : Func} {t u v x y : Tmp} (h : fn.results = #[.tmp t, .tmp u, .tmp v, .tmp x, .tmp y]) (tmps : Array Value) (P : Program) (w : World) :
    (results fn tmps).run P w = .ok (.tuple #[tmps.getD t undef, tmps.getD u undef, tmps.getD v undef, tmps.getD x undef, tmps.getD y undef]) w := by
  simp [results, h]
theorem Og.row {base b m oc : Nat} {W : World} {ls : List Tf} (h : Og 5 tfC 32 base W (.slice (some ⟨b, 0, none⟩) m oc) ls) (hm : ls.length = m) : W.ownsRow base 32 5 (.slice (some ⟨b, 0, none⟩) m oc) m (ls.flatMap tfC) := by
  have h' := h
  unfold Og at h'
  rw [hm] at h'
  exact h'
/-- a tariff with one field turned -/
def tfSet (x : Tf) (c : Nat) (y : Int) : Tf := match c with
  | 0 => (y, x.2)
  | 1 => (x.1, y, x.2.2)
  | 2 => (x.1, x.2.1, y, x.2.2.2)
  | 3 => (x.1, x.2.1, x.2.2.1, y, x.2.2.2.2)
  | _ => (x.1, x.2.1, x.2.2.1, x.2.2.2.1, y)
theorem tf_set : ∀ (ls : List Tf) (p c : Nat) (y : Int), p < ls.length → c < 5 → (ls.flatMap tfC).set (p * 5 + c) (.int .i64 y) = (ls.set p (tfSet (ls.getD p (0, 0, 0, 0, 0)) c y)).flatMap tfC
  | [], p, c, y, h, _ => by simp at h
  | x :: ls, 0, c, y, _, hc => by
    match c, hc with
    | 0, _ => simp [tfSet, tfC]
    | 1, _ => simp [tfSet, tfC]
    | 2, _ => simp [tfSet, tfC]
    | 3, _ => simp [tfSet, tfC]
    | 4, _ => simp [tfSet, tfC]
  | x :: ls, p + 1, c, y, h, hc => by
    have ih := tf_set ls p c y (by simpa using h) hc
    rw [List.flatMap_cons, List.set_append_right _ _ (by rw [tfC_len]; omega), tfC_len, show (p + 1) * 5 + c - 5 = p * 5 + c by omega, ih]
    simp
set_option maxHeartbeats 12800000 in
theorem l9Any_c (g : Nat) (cv : Value) (zs : List Int) (w : World) (h : Dr w g cv zs) : Calls Try.prog 32 #[.pointer (some ⟨g, 0, none⟩)] w (DlR g cv zs w) := by
  obtain ⟨P, hP⟩ : ∃ P, w.heap.size = P := ⟨_, rfl⟩
  have HP : Hid (w.heap.size = P) := hP
  have D_w : Hid (Dc w w g cv zs) := Dc.start h
  go_enter Try.func32, Try.ntmps32
  go_wp2_with (fail)
  refine (l9Draw_c g cv zs w h).mono ?_
  rintro e w1 ⟨v, ls, rfl, ho, hl, d1, g1⟩
  rw [hP] at ho
  have D_w1 : Hid (Dc w w1 g cv zs) := D_w.out.draw d1 g1
  clear d1 g1 D_w h
  have O_w1 : Hid (Og 5 tfC 32 P w1 v ls) := ho
  obtain ⟨oa, oc, rfl, hform⟩ := ho.form'
  have HL : Hid (ls.length ≤ 100) := hl
  clear ho hl
  obtain ⟨m, hm⟩ : ∃ m, ls.length = m := ⟨_, rfl⟩
  have HM : Hid (ls.length = m) := hm
  rw [hm] at O_w1 ⊢
  clear hm
  by_cases h0 : m = 0
  · subst h0
    clear hform
    go_wp2
    go_ret
    exact ⟨_, ls, rfl, by rw [HP.out]; exact O_w1.out, HL.out, D_w1.out.dr, D_w1.out.gr⟩
  obtain ⟨b, hb, hb1, hb2⟩ : ∃ b, oa = some ⟨b, 0, none⟩ ∧ P ≤ b ∧ b < w1.heap.size := by
    rcases hform with hf | ⟨b, h1, h2, h3⟩
    · have := HM.out; rw [hf] at this; simp at this; omega
    · exact ⟨b, h1, h2, h3⟩
  subst hb
  clear hform
  have h0b : ((m : Int) == 0) = false := beq_eq_false_iff_ne.2 (by omega)
  go_wp2_with (fail)
  refine (once_c g cv zs 15 _ D_w1.out.dr (by omega)).mono ?_
  rintro e w2 ⟨r, rfl, d1, g1⟩
  have D_w2 : Hid (Dc w w2 g cv zs) := D_w1.out.draw d1 g1
  have O_w2 : Hid (Og 5 tfC 32 P w2 (.slice (some ⟨b, 0, none⟩) m oc) ls) := O_w1.out.draw g1 (by have := D_w1.out.lt; omega)
  clear d1 g1 D_w1 O_w1
  cases r with
  | false =>
    go_wp2
    go_ret
    exact ⟨_, ls, rfl, by rw [HP.out]; exact O_w2.out, HL.out, D_w2.out.dr, D_w2.out.gr⟩
  | true =>
  have hmi : (m : Int) ≤ 1099511627776 := by have := HL.out; have := HM.out; omega
  go_wp2_with (fail)
  refine (below_c g cv zs (m : Int) _ D_w2.out.dr (by omega)).mono ?_
  rintro e w3 ⟨p, rfl, hp0, hp1, hp2, d1, g1⟩
  have D_w3 : Hid (Dc w w3 g cv zs) := D_w2.out.draw d1 g1
  have O_w3 : Hid (Og 5 tfC 32 P w3 (.slice (some ⟨b, 0, none⟩) m oc) ls) := O_w2.out.draw g1 (by have := D_w2.out.lt; omega)
  clear d1 g1 D_w2 O_w2
  have hp1 := hp1 (by omega)
  obtain ⟨pn, rfl⟩ := Int.eq_ofNat_of_zero_le hp0
  have hpn : pn < m := by omega
  clear hp2 hmi h0
  go_wp2_with (fail)
  refine (below_c g cv zs 5 _ D_w3.out.dr (by omega)).mono ?_
  rintro e w4 ⟨c, rfl, hc0, hc1, hc2, d1, g1⟩
  have D_w4 : Hid (Dc w w4 g cv zs) := D_w3.out.draw d1 g1
  have O_w4 : Hid (Og 5 tfC 32 P w4 (.slice (some ⟨b, 0, none⟩) m oc) ls) := O_w3.out.draw g1 (by have := D_w3.out.lt; omega)
  clear d1 g1 D_w3 O_w3
  clear hc2
  have hc1 := hc1 (by omega)
  by_cases hc0e : c = 0
  · subst hc0e
    clear hc0 hc1
    have ba : Below w4.heap.size w4 (w4.alloc (Obj.cells #[.int .i64 (-1), .int .i64 99, .int .i64 100] 3)) := (Below.refl _ _).alloc (Nat.le_refl _) _
    have lr : Rd .i64 (w4.alloc (Obj.cells #[.int .i64 (-1), .int .i64 99, .int .i64 100] 3)) (.slice (some ⟨w4.heap.size, 0, none⟩) 3 3) [-1, 99, 100] := Rd.lit w4 [-1, 99, 100] (by decide)
    have hgl : g < w4.heap.size := D_w4.out.dr.lt
    obtain ⟨W5, hW5⟩ : ∃ W, w4.alloc (Obj.cells #[.int .i64 (-1), .int .i64 99, .int .i64 100] 3) = W := ⟨_, rfl⟩
    obtain ⟨qW5, hqW5⟩ : ∃ X, w4.heap.size = X := ⟨_, rfl⟩
    rw [hW5] at ba lr
    rw [hqW5] at lr hgl
    have LR : Hid (Rd .i64 W5 (.slice (some ⟨qW5, 0, none⟩) 3 3) [-1, 99, 100]) := lr
    have LN : Hid (g < qW5) := hgl
    have D_W5 : Hid (Dc w W5 g cv zs) := D_w4.out.below ba
    have O_W5 : Hid (Og 5 tfC 32 P W5 (.slice (some ⟨b, 0, none⟩) m oc) ls) := O_w4.out.below ba
    clear ba lr hgl D_w4 O_w4
    go_wp2_with (fail)
    refine (pickInt_c g cv zs (.slice (some ⟨qW5, 0, none⟩) 3 3) [-1, 99, 100] _ D_W5.out.dr LR.out (.inr (by have := LN.out; simp [Value.ownBlock]; omega)) (by decide) (by decide)).mono ?_
    rintro e w6 ⟨y, rfl, d1, g1⟩
    have D_w6 : Hid (Dc w w6 g cv zs) := D_W5.out.draw d1 g1
    have O_w6 : Hid (Og 5 tfC 32 P w6 (.slice (some ⟨b, 0, none⟩) m oc) ls) := O_W5.out.draw g1 (by have := D_W5.out.lt; omega)
    clear d1 g1 D_W5 O_W5 hW5 hqW5 LR LN
    obtain ⟨u, hu⟩ : ∃ u, w6.cell? ⟨b, pn * 5 + 0, none⟩ = some u := by
      rw [World.ownsRow.cellAt (Og.row O_w6.out HM.out) (pn * 5 + 0) (by omega)]
      exact ⟨_, List.getElem?_eq_getElem (by rw [fm_len tfC_len, HM.out]; omega)⟩
    have hf : w6.frozen? ⟨b, pn * 5 + 0, none⟩ = false := World.ownsRow.frozenAt (Og.row O_w6.out HM.out) _
    have HF : Hid (∃ ls' : List Tf, ls'.length = ls.length ∧ Og 5 tfC 32 P (w6.setCell ⟨b, pn * 5 + 0, none⟩ (.int .i64 y)) (.slice (some ⟨b, 0, none⟩) m oc) ls' ∧ Dc w (w6.setCell ⟨b, pn * 5 + 0, none⟩ (.int .i64 y)) g cv zs) := by
      have hs := World.ownsRow.stored (Og.row O_w6.out HM.out) (pn * 5 + 0) (.int .i64 y)
      refine ⟨ls.set pn (tfSet (ls.getD pn (0, 0, 0, 0, 0)) 0 y), ?_, ?_, D_w6.out.app (fun k e => by cases e; rw [HP.out]; exact hb1) hs.2⟩
      · simp
      · unfold Og; rw [List.length_set, HM.out, ← tf_set ls pn 0 y (by rw [HM.out]; exact hpn) (by omega)]; exact hs.1
    clear D_w6 O_w6
    simp only [Nat.add_zero] at hu hf HF
    go_wp2
    go_ret
    obtain ⟨ls', h1, h2, h3⟩ := HF.out
    exact ⟨_, ls', rfl, by rw [HP.out]; exact h2, by have := HL.out; omega, h3.dr, h3.gr⟩
  have hb0c : (c == 0) = false := beq_eq_false_iff_ne.2 hc0e
  by_cases hc1e : c = 1
  · subst hc1e
    clear hc0 hc1
    have ba : Below w4.heap.size w4 (w4.alloc (Obj.cells #[.int .i64 (-1), .int .i64 86400, .int .i64 0] 3)) := (Below.refl _ _).alloc (Nat.le_refl _) _
    have lr : Rd .i64 (w4.alloc (Obj.cells #[.int .i64 (-1), .int .i64 86400, .int .i64 0] 3)) (.slice (some ⟨w4.heap.size, 0, none⟩) 3 3) [-1, 86400, 0] := Rd.lit w4 [-1, 86400, 0] (by decide)
    have hgl : g < w4.heap.size := D_w4.out.dr.lt
    obtain ⟨W5, hW5⟩ : ∃ W, w4.alloc (Obj.cells #[.int .i64 (-1), .int .i64 86400, .int .i64 0] 3) = W := ⟨_, rfl⟩
    obtain ⟨qW5, hqW5⟩ : ∃ X, w4.heap.size = X := ⟨_, rfl⟩
    rw [hW5] at ba lr
    rw [hqW5] at lr hgl
    have LR : Hid (Rd .i64 W5 (.slice (some ⟨qW5, 0, none⟩) 3 3) [-1, 86400, 0]) := lr
    have LN : Hid (g < qW5) := hgl
    have D_W5 : Hid (Dc w W5 g cv zs) := D_w4.out.below ba
    have O_W5 : Hid (Og 5 tfC 32 P W5 (.slice (some ⟨b, 0, none⟩) m oc) ls) := O_w4.out.below ba
    clear ba lr hgl D_w4 O_w4
    go_wp2_with (fail)
    refine (pickInt_c g cv zs (.slice (some ⟨qW5, 0, none⟩) 3 3) [-1, 86400, 0] _ D_W5.out.dr LR.out (.inr (by have := LN.out; simp [Value.ownBlock]; omega)) (by decide) (by decide)).mono ?_
    rintro e w6 ⟨y, rfl, d1, g1⟩
    have D_w6 : Hid (Dc w w6 g cv zs) := D_W5.out.draw d1 g1
    have O_w6 : Hid (Og 5 tfC 32 P w6 (.slice (some ⟨b, 0, none⟩) m oc) ls) := O_W5.out.draw g1 (by have := D_W5.out.lt; omega)
    clear d1 g1 D_W5 O_W5 hW5 hqW5 LR LN
    obtain ⟨u, hu⟩ : ∃ u, w6.cell? ⟨b, pn * 5 + 1, none⟩ = some u := by
      rw [World.ownsRow.cellAt (Og.row O_w6.out HM.out) (pn * 5 + 1) (by omega)]
      exact ⟨_, List.getElem?_eq_getElem (by rw [fm_len tfC_len, HM.out]; omega)⟩
    have hf : w6.frozen? ⟨b, pn * 5 + 1, none⟩ = false := World.ownsRow.frozenAt (Og.row O_w6.out HM.out) _
    have HF : Hid (∃ ls' : List Tf, ls'.length = ls.length ∧ Og 5 tfC 32 P (w6.setCell ⟨b, pn * 5 + 1, none⟩ (.int .i64 y)) (.slice (some ⟨b, 0, none⟩) m oc) ls' ∧ Dc w (w6.setCell ⟨b, pn * 5 + 1, none⟩ (.int .i64 y)) g cv zs) := by
      have hs := World.ownsRow.stored (Og.row O_w6.out HM.out) (pn * 5 + 1) (.int .i64 y)
      refine ⟨ls.set pn (tfSet (ls.getD pn (0, 0, 0, 0, 0)) 1 y), ?_, ?_, D_w6.out.app (fun k e => by cases e; rw [HP.out]; exact hb1) hs.2⟩
      · simp
      · unfold Og; rw [List.length_set, HM.out, ← tf_set ls pn 1 y (by rw [HM.out]; exact hpn) (by omega)]; exact hs.1
    clear D_w6 O_w6
    go_wp2
    go_ret
    obtain ⟨ls', h1, h2, h3⟩ := HF.out
    exact ⟨_, ls', rfl, by rw [HP.out]; exact h2, by have := HL.out; omega, h3.dr, h3.gr⟩
  have hb1c : (c == 1) = false := beq_eq_false_iff_ne.2 hc1e
  by_cases hc2e : c = 2
  · subst hc2e
    clear hc0 hc1
    have ba : Below w4.heap.size w4 (w4.alloc (Obj.cells #[.int .i64 0, .int .i64 10000, .int .i64 10001] 3)) := (Below.refl _ _).alloc (Nat.le_refl _) _
    have lr : Rd .i64 (w4.alloc (Obj.cells #[.int .i64 0, .int .i64 10000, .int .i64 10001] 3)) (.slice (some ⟨w4.heap.size, 0, none⟩) 3 3) [0, 10000, 10001] := Rd.lit w4 [0, 10000, 10001] (by decide)
    have hgl : g < w4.heap.size := D_w4.out.dr.lt
    obtain ⟨W5, hW5⟩ : ∃ W, w4.alloc (Obj.cells #[.int .i64 0, .int .i64 10000, .int .i64 10001] 3) = W := ⟨_, rfl⟩
    obtain ⟨qW5, hqW5⟩ : ∃ X, w4.heap.size = X := ⟨_, rfl⟩
    rw [hW5] at ba lr
    rw [hqW5] at lr hgl
    have LR : Hid (Rd .i64 W5 (.slice (some ⟨qW5, 0, none⟩) 3 3) [0, 10000, 10001]) := lr
    have LN : Hid (g < qW5) := hgl
    have D_W5 : Hid (Dc w W5 g cv zs) := D_w4.out.below ba
    have O_W5 : Hid (Og 5 tfC 32 P W5 (.slice (some ⟨b, 0, none⟩) m oc) ls) := O_w4.out.below ba
    clear ba lr hgl D_w4 O_w4
    go_wp2_with (fail)
    refine (pickInt_c g cv zs (.slice (some ⟨qW5, 0, none⟩) 3 3) [0, 10000, 10001] _ D_W5.out.dr LR.out (.inr (by have := LN.out; simp [Value.ownBlock]; omega)) (by decide) (by decide)).mono ?_
    rintro e w6 ⟨y, rfl, d1, g1⟩
    have D_w6 : Hid (Dc w w6 g cv zs) := D_W5.out.draw d1 g1
    have O_w6 : Hid (Og 5 tfC 32 P w6 (.slice (some ⟨b, 0, none⟩) m oc) ls) := O_W5.out.draw g1 (by have := D_W5.out.lt; omega)
    clear d1 g1 D_W5 O_W5 hW5 hqW5 LR LN
    obtain ⟨u, hu⟩ : ∃ u, w6.cell? ⟨b, pn * 5 + 2, none⟩ = some u := by
      rw [World.ownsRow.cellAt (Og.row O_w6.out HM.out) (pn * 5 + 2) (by omega)]
      exact ⟨_, List.getElem?_eq_getElem (by rw [fm_len tfC_len, HM.out]; omega)⟩
    have hf : w6.frozen? ⟨b, pn * 5 + 2, none⟩ = false := World.ownsRow.frozenAt (Og.row O_w6.out HM.out) _
    have HF : Hid (∃ ls' : List Tf, ls'.length = ls.length ∧ Og 5 tfC 32 P (w6.setCell ⟨b, pn * 5 + 2, none⟩ (.int .i64 y)) (.slice (some ⟨b, 0, none⟩) m oc) ls' ∧ Dc w (w6.setCell ⟨b, pn * 5 + 2, none⟩ (.int .i64 y)) g cv zs) := by
      have hs := World.ownsRow.stored (Og.row O_w6.out HM.out) (pn * 5 + 2) (.int .i64 y)
      refine ⟨ls.set pn (tfSet (ls.getD pn (0, 0, 0, 0, 0)) 2 y), ?_, ?_, D_w6.out.app (fun k e => by cases e; rw [HP.out]; exact hb1) hs.2⟩
      · simp
      · unfold Og; rw [List.length_set, HM.out, ← tf_set ls pn 2 y (by rw [HM.out]; exact hpn) (by omega)]; exact hs.1
    clear D_w6 O_w6
    go_wp2
    go_ret
    obtain ⟨ls', h1, h2, h3⟩ := HF.out
    exact ⟨_, ls', rfl, by rw [HP.out]; exact h2, by have := HL.out; omega, h3.dr, h3.gr⟩
  have hb2c : (c == 2) = false := beq_eq_false_iff_ne.2 hc2e
  by_cases hc3e : c = 3
  · subst hc3e
    clear hc0 hc1
    have ba : Below w4.heap.size w4 (w4.alloc (Obj.cells #[.int .i64 (-1), .int .i64 100000, .int .i64 100001] 3)) := (Below.refl _ _).alloc (Nat.le_refl _) _
    have lr : Rd .i64 (w4.alloc (Obj.cells #[.int .i64 (-1), .int .i64 100000, .int .i64 100001] 3)) (.slice (some ⟨w4.heap.size, 0, none⟩) 3 3) [-1, 100000, 100001] := Rd.lit w4 [-1, 100000, 100001] (by decide)
    have hgl : g < w4.heap.size := D_w4.out.dr.lt
    obtain ⟨W5, hW5⟩ : ∃ W, w4.alloc (Obj.cells #[.int .i64 (-1), .int .i64 100000, .int .i64 100001] 3) = W := ⟨_, rfl⟩
    obtain ⟨qW5, hqW5⟩ : ∃ X, w4.heap.size = X := ⟨_, rfl⟩
    rw [hW5] at ba lr
    rw [hqW5] at lr hgl
    have LR : Hid (Rd .i64 W5 (.slice (some ⟨qW5, 0, none⟩) 3 3) [-1, 100000, 100001]) := lr
    have LN : Hid (g < qW5) := hgl
    have D_W5 : Hid (Dc w W5 g cv zs) := D_w4.out.below ba
    have O_W5 : Hid (Og 5 tfC 32 P W5 (.slice (some ⟨b, 0, none⟩) m oc) ls) := O_w4.out.below ba
    clear ba lr hgl D_w4 O_w4
    go_wp2_with (fail)
    refine (pickInt_c g cv zs (.slice (some ⟨qW5, 0, none⟩) 3 3) [-1, 100000, 100001] _ D_W5.out.dr LR.out (.inr (by have := LN.out; simp [Value.ownBlock]; omega)) (by decide) (by decide)).mono ?_
    rintro e w6 ⟨y, rfl, d1, g1⟩
    have D_w6 : Hid (Dc w w6 g cv zs) := D_W5.out.draw d1 g1
    have O_w6 : Hid (Og 5 tfC 32 P w6 (.slice (some ⟨b, 0, none⟩) m oc) ls) := O_W5.out.draw g1 (by have := D_W5.out.lt; omega)
    clear d1 g1 D_W5 O_W5 hW5 hqW5 LR LN
    obtain ⟨u, hu⟩ : ∃ u, w6.cell? ⟨b, pn * 5 + 3, none⟩ = some u := by
      rw [World.ownsRow.cellAt (Og.row O_w6.out HM.out) (pn * 5 + 3) (by omega)]
      exact ⟨_, List.getElem?_eq_getElem (by rw [fm_len tfC_len, HM.out]; omega)⟩
    have hf : w6.frozen? ⟨b, pn * 5 + 3, none⟩ = false := World.ownsRow.frozenAt (Og.row O_w6.out HM.out) _
    have HF : Hid (∃ ls' : List Tf, ls'.length = ls.length ∧ Og 5 tfC 32 P (w6.setCell ⟨b, pn * 5 + 3, none⟩ (.int .i64 y)) (.slice (some ⟨b, 0, none⟩) m oc) ls' ∧ Dc w (w6.setCell ⟨b, pn * 5 + 3, none⟩ (.int .i64 y)) g cv zs) := by
      have hs := World.ownsRow.stored (Og.row O_w6.out HM.out) (pn * 5 + 3) (.int .i64 y)
      refine ⟨ls.set pn (tfSet (ls.getD pn (0, 0, 0, 0, 0)) 3 y), ?_, ?_, D_w6.out.app (fun k e => by cases e; rw [HP.out]; exact hb1) hs.2⟩
      · simp
      · unfold Og; rw [List.length_set, HM.out, ← tf_set ls pn 3 y (by rw [HM.out]; exact hpn) (by omega)]; exact hs.1
    clear D_w6 O_w6
    go_wp2
    go_ret
    obtain ⟨ls', h1, h2, h3⟩ := HF.out
    exact ⟨_, ls', rfl, by rw [HP.out]; exact h2, by have := HL.out; omega, h3.dr, h3.gr⟩
  have hb3c : (c == 3) = false := beq_eq_false_iff_ne.2 hc3e
  by_cases hc4e : c = 4
  · subst hc4e
    clear hc0 hc1
    have ba : Below w4.heap.size w4 (w4.alloc (Obj.cells #[.int .i64 (-1), .int .i64 100000, .int .i64 100001] 3)) := (Below.refl _ _).alloc (Nat.le_refl _) _
    have lr : Rd .i64 (w4.alloc (Obj.cells #[.int .i64 (-1), .int .i64 100000, .int .i64 100001] 3)) (.slice (some ⟨w4.heap.size, 0, none⟩) 3 3) [-1, 100000, 100001] := Rd.lit w4 [-1, 100000, 100001] (by decide)
    have hgl : g < w4.heap.size := D_w4.out.dr.lt
    obtain ⟨W5, hW5⟩ : ∃ W, w4.alloc (Obj.cells #[.int .i64 (-1), .int .i64 100000, .int .i64 100001] 3) = W := ⟨_, rfl⟩
    obtain ⟨qW5, hqW5⟩ : ∃ X, w4.heap.size = X := ⟨_, rfl⟩
    rw [hW5] at ba lr
    rw [hqW5] at lr hgl
    have LR : Hid (Rd .i64 W5 (.slice (some ⟨qW5, 0, none⟩) 3 3) [-1, 100000, 100001]) := lr
    have LN : Hid (g < qW5) := hgl
    have D_W5 : Hid (Dc w W5 g cv zs) := D_w4.out.below ba
    have O_W5 : Hid (Og 5 tfC 32 P W5 (.slice (some ⟨b, 0, none⟩) m oc) ls) := O_w4.out.below ba
    clear ba lr hgl D_w4 O_w4
    go_wp2_with (fail)
    refine (pickInt_c g cv zs (.slice (some ⟨qW5, 0, none⟩) 3 3) [-1, 100000, 100001] _ D_W5.out.dr LR.out (.inr (by have := LN.out; simp [Value.ownBlock]; omega)) (by decide) (by decide)).mono ?_
    rintro e w6 ⟨y, rfl, d1, g1⟩
    have D_w6 : Hid (Dc w w6 g cv zs) := D_W5.out.draw d1 g1
    have O_w6 : Hid (Og 5 tfC 32 P w6 (.slice (some ⟨b, 0, none⟩) m oc) ls) := O_W5.out.draw g1 (by have := D_W5.out.lt; omega)
    clear d1 g1 D_W5 O_W5 hW5 hqW5 LR LN
    obtain ⟨u, hu⟩ : ∃ u, w6.cell? ⟨b, pn * 5 + 4, none⟩ = some u := by
      rw [World.ownsRow.cellAt (Og.row O_w6.out HM.out) (pn * 5 + 4) (by omega)]
      exact ⟨_, List.getElem?_eq_getElem (by rw [fm_len tfC_len, HM.out]; omega)⟩
    have hf : w6.frozen? ⟨b, pn * 5 + 4, none⟩ = false := World.ownsRow.frozenAt (Og.row O_w6.out HM.out) _
    have HF : Hid (∃ ls' : List Tf, ls'.length = ls.length ∧ Og 5 tfC 32 P (w6.setCell ⟨b, pn * 5 + 4, none⟩ (.int .i64 y)) (.slice (some ⟨b, 0, none⟩) m oc) ls' ∧ Dc w (w6.setCell ⟨b, pn * 5 + 4, none⟩ (.int .i64 y)) g cv zs) := by
      have hs := World.ownsRow.stored (Og.row O_w6.out HM.out) (pn * 5 + 4) (.int .i64 y)
      refine ⟨ls.set pn (tfSet (ls.getD pn (0, 0, 0, 0, 0)) 4 y), ?_, ?_, D_w6.out.app (fun k e => by cases e; rw [HP.out]; exact hb1) hs.2⟩
      · simp
      · unfold Og; rw [List.length_set, HM.out, ← tf_set ls pn 4 y (by rw [HM.out]; exact hpn) (by omega)]; exact hs.1
    clear D_w6 O_w6
    go_wp2
    go_ret
    obtain ⟨ls', h1, h2, h3⟩ := HF.out
    exact ⟨_, ls', rfl, by rw [HP.out]; exact h2, by have := HL.out; omega, h3.dr, h3.gr⟩
  have hb4c : (c == 4) = false := beq_eq_false_iff_ne.2 hc4e
  omega
def RaR (w : World) (e : Ending) (w' : World) : Prop := ∃ v ls z b t, e = .returned (.tuple #[v, .int .i64 z, .int .i64 b, .int .i64 t]) ∧ Rg 5 tfC w' v ls ∧ Below w.heap.size w w'
end Go.Proofs.Ytdnophdldpophaa

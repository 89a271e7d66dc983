/- DrawDigit; no condition. -/
import Derived.Test.YtgdejlofkjdkoaaDoorSld
namespace Go.Proofs.YtgdejlofkjdkoaaDoor
open Go.RowKit Go.ChangeShapes Go.WideShapes Go.ChangeAt
set_option linter.unusedVariables false
set_option linter.unusedSimpArgs false
set_option maxRecDepth 8000

set_option maxHeartbeats 6400000 in
theorem drawD_c (v : Value) (zs : List Int) (w : World) (h : Rd .u8 w v zs) (hok : ∀ z ∈ zs, 0 ≤ z ∧ z ≤ 255) (hlen : zs.length ≤ 1048576) :
   Calls Tryd.prog 13 #[v] w fun e w' => ∃ v' ys, e = .returned v' ∧ Ow .i64 3 w.heap.size w' v' ys ∧ Below w.heap.size w w' := by
  have HR : Hid (Rd .u8 w v zs) := h
  clear h
  go_enter Tryd.func13, Tryd.ntmps13
  go_wp2_with (fail)
  refine (new_c v zs w HR.out hok (by omega)).mono ?_
  rintro e w1 ⟨g, rfl, d1, hg, b1⟩
  have HD1 : Hid (Dc w1 w1 g v zs) := Dc.start d1
  have HB1 : Hid (Below w.heap.size w w1) := b1
  have HGG : Hid (w.heap.size ≤ g) := hg
  clear d1 b1 hg
  go_wp2_with (fail)
  refine (once_c _ _ _ _ _ HD1.out.dr (by omega)).mono ?_
  rintro e w2 ⟨p, rfl, d2, g2⟩
  have HD : Hid (Dc w1 w2 g v zs) := HD1.out.draw d2 g2
  clear d2 g2 HD1
  cases p
  case false =>
    go_wp2_with (fail)
    refine (draw13_c g v zs 128 w2 HD.out.dr (by omega) (by omega)).mono ?_
    rintro e w4 ⟨vl, ys, rfl, o4, d4⟩
    have HD4 : Hid (Dc w1 w4 g v zs) := HD.out.draw d4.dr d4.gr
    have HO4 : Hid (Ow .i64 3 w1.heap.size w4 vl ys) := o4.mono HD.out.gr.size
    clear o4 d4 HD
    go_wp2_with (fail)
    refine (once_c _ _ _ _ _ HD4.out.dr (by omega)).mono ?_
    rintro e w5 ⟨p, rfl, d5, g5⟩
    have HD5 : Hid (Dc w1 w5 g v zs) := HD4.out.draw d5 g5
    have HO5 : Hid (Ow .i64 3 w1.heap.size w5 vl ys) := HO4.out.drawn g5 HD4.out.lt
    clear d5 g5 HD4 HO4
    have HB5 : Hid (Below w.heap.size w w5) := HB1.out.grown HD5.out.gr HB1.out.size (fun j hj => by simp at hj; subst hj; exact HGG.out)
    obtain ⟨al, cl, rfl, hc1, hc2, hz⟩ := own_form HO5.out
    have HWW : Hid (w.heap.size ≤ w1.heap.size) := HB1.out.size
    cases p
    case false =>
      go_wp2
      go_ret
      exact ⟨_, _, rfl, HO5.out.mono HWW.out, HB5.out⟩
    case true =>
    rcases hz with hz | ⟨gl, rfl⟩
    · obtain rfl : ys = [] := List.eq_nil_of_length_eq_zero hz
      clear hz
      go_wp2
      go_ret
      exact ⟨_, _, rfl, HO5.out.mono HWW.out, HB5.out⟩
    by_cases hl0 : ys.length = 0
    · have HY : Hid (ys = []) := List.eq_nil_of_length_eq_zero hl0
      have hl1 : ((ys.length : Nat) : Int) = 0 := by omega
      have h50 := HO5.out
      rw [hl0] at h50
      have H50 : Hid (Ow .i64 3 w1.heap.size w5 (.slice (some ⟨gl, 0, none⟩) 0 cl) ys) := h50
      clear h50
      go_wp2
      go_ret
      exact ⟨_, _, rfl, H50.out.mono HWW.out, HB5.out⟩
    have hl1 : (0 : Int) < (ys.length : Int) := by omega
    have oo := HO5.out
    unfold Ow at oo
    have c0 : ∃ u, w5.cell? ⟨gl, 0, none⟩ = some u := by
      rw [oo.cellAt 0 (by omega)]
      exact ⟨_, List.getElem?_eq_getElem (by simp; omega)⟩
    obtain ⟨u, c0⟩ := c0
    have f0 := oo.frozenAt 0
    have HO6 : Hid (Ow .i64 3 w1.heap.size (w5.setCell ⟨gl, 0, none⟩ (.int .i64 32768)) (.slice (some ⟨gl, 0, none⟩) ys.length cl) (ys.set 0 32768)) := by
      have := (oo.stored 0 (.int .i64 32768)).1
      rw [← List.map_set] at this
      show Ow _ _ _ _ _ _
      unfold Ow
      rw [List.length_set]
      exact this
    have HB6 : Hid (Below w.heap.size w (w5.setCell ⟨gl, 0, none⟩ (.int .i64 32768))) := HB5.out.setCell (by dsimp only; exact Nat.le_trans HWW.out (World.ownsRow.lt HO5.out gl rfl).1) _
    clear oo
    go_wp2
    go_ret
    exact ⟨_, _, rfl, HO6.out.mono HWW.out, HB6.out⟩
  case true =>
    go_wp2_with (fail)
    refine (below_c g v zs _ _ HD.out.dr (by omega)).mono ?_
    rintro e w3 ⟨x, rfl, x0, x1, -, d3, g3⟩
    have x2 := x1 (by omega)
    have HD3 : Hid (Dc w1 w3 g v zs) := HD.out.draw d3 g3
    clear d3 g3 x1 HD
    have HD : Hid (Dc w1 w3 g v zs) := HD3.out
    clear HD3
    go_wp2_with (fail)
    refine (draw13_c g v zs (128 + x - 1) w3 HD.out.dr (by omega) (by omega)).mono ?_
    rintro e w4 ⟨vl, ys, rfl, o4, d4⟩
    have HD4 : Hid (Dc w1 w4 g v zs) := HD.out.draw d4.dr d4.gr
    have HO4 : Hid (Ow .i64 3 w1.heap.size w4 vl ys) := o4.mono HD.out.gr.size
    clear o4 d4 HD
    go_wp2_with (fail)
    refine (once_c _ _ _ _ _ HD4.out.dr (by omega)).mono ?_
    rintro e w5 ⟨p, rfl, d5, g5⟩
    have HD5 : Hid (Dc w1 w5 g v zs) := HD4.out.draw d5 g5
    have HO5 : Hid (Ow .i64 3 w1.heap.size w5 vl ys) := HO4.out.drawn g5 HD4.out.lt
    clear d5 g5 HD4 HO4
    have HB5 : Hid (Below w.heap.size w w5) := HB1.out.grown HD5.out.gr HB1.out.size (fun j hj => by simp at hj; subst hj; exact HGG.out)
    obtain ⟨al, cl, rfl, hc1, hc2, hz⟩ := own_form HO5.out
    have HWW : Hid (w.heap.size ≤ w1.heap.size) := HB1.out.size
    cases p
    case false =>
      go_wp2
      go_ret
      exact ⟨_, _, rfl, HO5.out.mono HWW.out, HB5.out⟩
    case true =>
    rcases hz with hz | ⟨gl, rfl⟩
    · obtain rfl : ys = [] := List.eq_nil_of_length_eq_zero hz
      clear hz
      go_wp2
      go_ret
      exact ⟨_, _, rfl, HO5.out.mono HWW.out, HB5.out⟩
    by_cases hl0 : ys.length = 0
    · have HY : Hid (ys = []) := List.eq_nil_of_length_eq_zero hl0
      have hl1 : ((ys.length : Nat) : Int) = 0 := by omega
      have h50 := HO5.out
      rw [hl0] at h50
      have H50 : Hid (Ow .i64 3 w1.heap.size w5 (.slice (some ⟨gl, 0, none⟩) 0 cl) ys) := h50
      clear h50
      go_wp2
      go_ret
      exact ⟨_, _, rfl, H50.out.mono HWW.out, HB5.out⟩
    have hl1 : (0 : Int) < (ys.length : Int) := by omega
    have oo := HO5.out
    unfold Ow at oo
    have c0 : ∃ u, w5.cell? ⟨gl, 0, none⟩ = some u := by
      rw [oo.cellAt 0 (by omega)]
      exact ⟨_, List.getElem?_eq_getElem (by simp; omega)⟩
    obtain ⟨u, c0⟩ := c0
    have f0 := oo.frozenAt 0
    have HO6 : Hid (Ow .i64 3 w1.heap.size (w5.setCell ⟨gl, 0, none⟩ (.int .i64 32768)) (.slice (some ⟨gl, 0, none⟩) ys.length cl) (ys.set 0 32768)) := by
      have := (oo.stored 0 (.int .i64 32768)).1
      rw [← List.map_set] at this
      show Ow _ _ _ _ _ _
      unfold Ow
      rw [List.length_set]
      exact this
    have HB6 : Hid (Below w.heap.size w (w5.setCell ⟨gl, 0, none⟩ (.int .i64 32768))) := HB5.out.setCell (by dsimp only; exact Nat.le_trans HWW.out (World.ownsRow.lt HO5.out gl rfl).1) _
    clear oo
    go_wp2
    go_ret
    exact ⟨_, _, rfl, HO6.out.mono HWW.out, HB6.out⟩

end Go.Proofs.YtgdejlofkjdkoaaDoor

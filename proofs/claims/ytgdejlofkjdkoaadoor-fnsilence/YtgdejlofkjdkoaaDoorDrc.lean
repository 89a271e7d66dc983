/- Voice that is drawn; no condition. -/
import Derived.Test.YtgdejlofkjdkoaaDoorDra
import Derived.Test.YtgdejlofkjdkoaaDoorApp
namespace Go.Proofs.YtgdejlofkjdkoaaDoor
open Go.RowKit Go.ChangeShapes Go.WideShapes Go.ChangeAt
set_option linter.unusedVariables false
set_option linter.unusedSimpArgs false
set_option maxRecDepth 8000
def clip (x : Int) : Int := if x < -32767 then -32767 else if 32767 < x then 32767 else x
theorem clip_bd (x : Int) : -32767 ≤ clip x ∧ clip x ≤ 32767 := by unfold clip; split <;> (try split) <;> omega
set_option maxHeartbeats 1600000 in
theorem clip_c (x : Int) (w : World) : Calls Tryd.prog 52 #[.int .i64 x] w fun e w' => e = .returned (.int .i64 (clip x)) ∧ w' = w := by
  by_cases h1 : x < -32767
  · have HC : Hid (clip x = -32767) := by show _ = _; unfold clip; rw [if_pos h1]
    go_enter Tryd.func52, Tryd.ntmps52
    go_wp2
    go_ret
    exact ⟨by rw [HC.out]; rfl, rfl⟩
  · by_cases h2 : 32767 < x
    · have HC : Hid (clip x = 32767) := by show _ = _; unfold clip; rw [if_neg h1, if_pos h2]
      have d1 : decide (x < -32767) = false := by simp; omega
      clear h1
      go_enter Tryd.func52, Tryd.ntmps52
      go_wp2
      go_ret
      exact ⟨by rw [HC.out]; rfl, rfl⟩
    · have HC : Hid (clip x = x) := by show _ = _; unfold clip; rw [if_neg h1, if_neg h2]
      have d1 : decide (x < -32767) = false := by simp; omega
      have d2 : decide (32767 < x) = false := by simp; omega
      clear h1 h2
      go_enter Tryd.func52, Tryd.ntmps52
      go_wp2
      go_ret
      exact ⟨by rw [HC.out]; rfl, rfl⟩
theorem Dc.belowB {w W W' : World} {g : Nat} {cv : Value} {zs : List Int} (h : Dc w W g cv zs) (hb : Below w.heap.size W W') : Dc w W' g cv zs := by
  have hg := h.gr
  obtain ⟨i, hh, k, h1, h2⟩ := h.dr.cur
  have hrd : Rd .u8 W' cv zs := by
    obtain ⟨a, cap, hv, e1, e2, e3⟩ := h.dr.rd
    refine ⟨a, cap, hv, e1, e2, ?_⟩
    rcases e3 with e3 | ⟨bb, off, rfl, e4⟩
    · exact .inl e3
    · rcases h.cl with h0 | h0
      · exact .inl h0
      · refine .inr ⟨bb, off, rfl, fun i hi => ?_⟩
        have hlt := h0 bb (by rw [hv]; rfl)
        rw [← e4 i hi]
        simp only [World.cell?, hb.block bb hlt]
  exact ⟨⟨⟨i, hh, k.below hb h.lt, h1, h2⟩, hrd, h.dr.ap, h.dr.ok, h.dr.len⟩, ⟨hb.os.trans hg.os, hb.tape.trans hg.tape, hb.output.trans hg.output, Nat.le_trans hg.size hb.size, fun j hj hn => (hb.block j hj).trans (hg.block j hj hn)⟩, h.lt, h.cl⟩
theorem Ow.drawn {base : Nat} {W W' : World} {v : Value} {ys : List Int} {g : Nat} (h : Ow .i64 3 base W v ys) (hg : W.grownBy W' (some g)) (hl : g < base) : Ow .i64 3 base W' v ys := World.ownsRow.kept (row := some g) h hg (h.low g hl)
theorem getD_bd (ys : List Int) (k : Nat) (lo hi : Int) (h : ∀ y ∈ ys, lo ≤ y ∧ y ≤ hi) (hk : k < ys.length) : lo ≤ ys.getD k 0 ∧ ys.getD k 0 ≤ hi := by
  rw [List.getD_eq_getElem?_getD, List.getElem?_eq_getElem hk, Option.getD_some]; exact h _ (List.getElem_mem hk)
set_option maxHeartbeats 6400000 in
theorem ldraw_c (g : Nat) (cv : Value) (zs : List Int) (n : Int) (w : World) (h : Dr w g cv zs) (hn : 0 ≤ n) (hn2 : n ≤ 400) :
   Calls Tryd.prog 50 #[.pointer (some ⟨g, 0, none⟩), .int .i64 n] w fun e w' => ∃ v ys, e = .returned v ∧ Ow .i64 3 w.heap.size w' v ys ∧ (ys.length : Int) = n ∧ Dc w w' g cv zs := by
  have HD0 : Hid (Dc w w g cv zs) := Dc.start h
  obtain ⟨W0, hW0⟩ : ∃ W, w.alloc (Obj.cells #[] 3) = W := ⟨_, rfl⟩
  have HDA : Hid (Dc w W0 g cv zs) := by rw [← hW0]; exact HD0.out.below ((Below.refl _ _).alloc (Nat.le_refl _) _)
  obtain ⟨v0, hv0⟩ : ∃ v, Value.slice (some ⟨w.heap.size, 0, none⟩) 0 0 = v := ⟨_, rfl⟩
  have HOA : Hid (Ow .i64 3 w.heap.size W0 v0 []) := by rw [← hW0, ← hv0]; exact Ow.empty .i64 3 _ w (Nat.le_refl _)
  have HW0 : Hid (w.alloc (Obj.cells #[] 3) = W0 ∧ Value.slice (some ⟨w.heap.size, 0, none⟩) 0 0 = v0) := ⟨hW0, hv0⟩
  clear h hW0 hv0 HD0
  go_enter Tryd.func50, Tryd.ntmps50
  go_wp2_with (fail)
  rw [HW0.out.1, HW0.out.2]
  clear HW0
  refine (below_c g cv zs _ _ HDA.out.dr (by omega)).mono ?_
  rintro e w1 ⟨x, rfl, x0, x1, -, d1, g1⟩
  have x2 := x1 (by omega)
  have HD1 : Hid (Dc w w1 g cv zs) := HDA.out.draw d1 g1
  have HO1 : Hid (Ow .i64 3 w.heap.size w1 v0 []) := HOA.out.drawn g1 HDA.out.lt
  clear d1 g1 x1 HDA HOA
  go_wp2
  go_loopw [5, 6, 7, 8] (fun o x v i wr => ∃ (j : Nat) (ys : List Int) (x' v' : Int) (o' : Value), i = .int .i64 j ∧ x = .int .i64 x' ∧ v = .int .i64 v' ∧ o' = o ∧ (-32767 ≤ x' ∧ x' ≤ 32767) ∧ (-(200 * (j : Int)) ≤ v' ∧ v' ≤ 200 * (j : Int)) ∧ Hid ((j : Int) ≤ n ∧ ys.length = j) ∧ Hid (Ow .i64 3 w.heap.size wr o' ys) ∧ Hid (Dc w wr g cv zs)) (fun _ _ _ i _ => n.toNat - (intOf i).toNat)
  case atStart => exact ⟨0, [], _, _, _, rfl, rfl, rfl, rfl, by omega, by omega, ⟨by omega, rfl⟩, HO1.out, HD1.out⟩
  case round =>
    obtain ⟨j, ys, x', v', o', rfl, rfl, rfl, ho', hx', hv', hj, hO, hD⟩ := hrel
    subst ho'
    clear HO1 HD1
    have hjn := hj.out.1
    by_cases hlt : (j : Int) < n
    case neg =>
      have HJ : Hid ((ys.length : Int) = n) := by have := hj.out.2; show _ = _; omega
      go_wp2
      go_ret
      exact ⟨_, rfl, ys, hO.out, HJ.out, hD.out⟩
    case pos =>
    go_wp2_with (fail)
    refine (once_c _ _ _ _ _ hD.out.dr (by omega)).mono ?_
    rintro e wa ⟨p, rfl, d1, g1⟩
    have HDa : Hid (Dc w wa g cv zs) := hD.out.draw d1 g1
    have HOa : Hid (Ow .i64 3 w.heap.size wa o' ys) := hO.out.drawn g1 hD.out.lt
    clear d1 g1 hD hO
    cases p
    case false =>
      have HSZ : Hid (w.heap.size ≤ wa.heap.size) := HDa.out.gr.size
      have HLN : Hid (ys.length = j) := hj.out.2
      have hj100 : (j : Int) ≤ 400 := by omega
      go_wp2_with (at_builtin; refine appI rfl (.tmp 23) (.tmp 25) rfl w.heap.size _ ys rfl (HOa.out.alloc _) wa.heap.size x' rfl (by simp) (by have := HLN.out; omega) (by have := HSZ.out; simp; omega) ?_)
      intro v6 w6 ho hb
      have HO6 : Hid (Ow .i64 3 w.heap.size w6 v6 (ys ++ [x'])) := ho
      have HD6 : Hid (Dc w w6 g cv zs) := (HDa.out.below ((Below.refl _ _).alloc (Nat.le_refl _) _)).belowB hb
      clear ho hb HOa HDa HSZ
      go_wp2_with (fail)
      refine (below_c _ _ _ _ _ HD6.out.dr (by omega)).mono ?_
      rintro e w7 ⟨y, rfl, y0, y1, -, d1, g1⟩
      have y2 := y1 (by omega)
      have HD7 : Hid (Dc w w7 g cv zs) := HD6.out.draw d1 g1
      have HO7 : Hid (Ow .i64 3 w.heap.size w7 v6 (ys ++ [x'])) := HO6.out.drawn g1 HD6.out.lt
      clear d1 g1 HD6 HO6 y1
      go_wp2_with (fail)
      refine (clip_c _ _).mono ?_
      rintro e w8 ⟨rfl, rfl⟩
      have hcl := clip_bd (x' + (v' + y - 200))
      generalize clip (x' + (v' + y - 200)) = x'' at hcl ⊢
      go_wp2
      go_roundw
      case rel => exact ⟨j + 1, ys ++ [x'], _, _, _, by go_num, rfl, rfl, rfl, hcl, by omega, ⟨by omega, by simp [HLN.out]⟩, HO7.out, HD7.out⟩
      case measure => simp [intOf]; omega
    case true =>
      obtain ⟨W, hW⟩ : ∃ W, wa.alloc (Obj.cells #[.int .i64 32767, .int .i64 (-32767), .int .i64 0, .int .i64 5000, .int .i64 (-20000)] 3) = W := ⟨_, rfl⟩
      have al : Below wa.heap.size wa W := by rw [← hW]; exact (Below.refl _ _).alloc (Nat.le_refl _) _
      have HDW : Hid (Dc w W g cv zs) := HDa.out.below al
      have HOW : Hid (Ow .i64 3 w.heap.size W o' ys) := HOa.out.below al
      have HRW : Hid (Rd .i64 W (.slice (some ⟨wa.heap.size, 0, none⟩) 5 5) [32767, -32767, 0, 5000, -20000]) := by
        have := Rd.lit wa [32767, -32767, 0, 5000, -20000] (by simp)
        rw [← hW]; exact this
      have HAP : Hid ((Value.slice (some ⟨wa.heap.size, 0, none⟩) 5 5).ownBlock = none ∨ (Value.slice (some ⟨wa.heap.size, 0, none⟩) 5 5).ownBlock ≠ some g) := by
        right; have := HDa.out.dr.lt; simp [Value.ownBlock]; omega
      clear al HDa HOa
      go_wp2_with (fail)
      refine (pickInt_c _ _ _ _ [32767, -32767, 0, 5000, -20000] _ HDW.out.dr HRW.out HAP.out (by simp) (by simp)).mono ?_
      rintro e wa ⟨x', rfl, ⟨k, hk, hx⟩, d3, g3⟩
      have hx' : -32767 ≤ x' ∧ x' ≤ 32767 := by rw [hx]; exact getD_bd _ k _ _ (by decide) hk
      have HDa : Hid (Dc w wa g cv zs) := HDW.out.draw d3 g3
      have HOa : Hid (Ow .i64 3 w.heap.size wa o' ys) := HOW.out.drawn g3 HDW.out.lt
      clear d3 g3 hx hk hW HDW HOW HRW HAP
      have HSZ : Hid (w.heap.size ≤ wa.heap.size) := HDa.out.gr.size
      have HLN : Hid (ys.length = j) := hj.out.2
      have hj100 : (j : Int) ≤ 400 := by omega
      go_wp2_with (at_builtin; refine appI rfl (.tmp 23) (.tmp 25) rfl w.heap.size _ ys rfl (HOa.out.alloc _) wa.heap.size x' rfl (by simp) (by have := HLN.out; omega) (by have := HSZ.out; simp; omega) ?_)
      intro v6 w6 ho hb
      have HO6 : Hid (Ow .i64 3 w.heap.size w6 v6 (ys ++ [x'])) := ho
      have HD6 : Hid (Dc w w6 g cv zs) := (HDa.out.below ((Below.refl _ _).alloc (Nat.le_refl _) _)).belowB hb
      clear ho hb HOa HDa HSZ
      go_wp2_with (fail)
      refine (below_c _ _ _ _ _ HD6.out.dr (by omega)).mono ?_
      rintro e w7 ⟨y, rfl, y0, y1, -, d1, g1⟩
      have y2 := y1 (by omega)
      have HD7 : Hid (Dc w w7 g cv zs) := HD6.out.draw d1 g1
      have HO7 : Hid (Ow .i64 3 w.heap.size w7 v6 (ys ++ [x'])) := HO6.out.drawn g1 HD6.out.lt
      clear d1 g1 HD6 HO6 y1
      go_wp2_with (fail)
      refine (clip_c _ _).mono ?_
      rintro e w8 ⟨rfl, rfl⟩
      have hcl := clip_bd (x' + (v' + y - 200))
      generalize clip (x' + (v' + y - 200)) = x'' at hcl ⊢
      go_wp2
      go_roundw
      case rel => exact ⟨j + 1, ys ++ [x'], _, _, _, by go_num, rfl, rfl, rfl, hcl, by omega, ⟨by omega, by simp [HLN.out]⟩, HO7.out, HD7.out⟩
      case measure => simp [intOf]; omega


end Go.Proofs.YtgdejlofkjdkoaaDoor

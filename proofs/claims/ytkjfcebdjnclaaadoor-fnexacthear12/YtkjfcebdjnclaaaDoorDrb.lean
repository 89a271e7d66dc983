/- Draws of voices; no condition. -/
import Derived.Test.YtkjfcebdjnclaaaDoorDraw
import Derived.Test.YtkjfcebdjnclaaaDoorApp
import Derived.Test.YtkjfcebdjnclaaaDoorCbh
import Derived.Test.YtkjfcebdjnclaaaDoorExi
namespace Go.Proofs.YtkjfcebdjnclaaaDoor
open Go.RowKit Go.ChangeShapes Go.WideShapes Go.ChangeAt
set_option linter.unusedVariables false
set_option linter.unusedSimpArgs false
set_option maxRecDepth 8000

/-- what lies below where the drawing began has not turned -/
theorem Dc.belowB {w W W' : World} {g : Nat} {cv : Value} {zs : List Int} (h : Dc w W g cv zs) (hb : Below w.heap.size W W') : Dc w W' g cv zs := by
  have hg := h.gr
  obtain ⟨i, hh, k, h1, h2⟩ := h.dr.cur
  have hrd : Rd .u8 W' cv zs := by
    obtain ⟨a, cap, hv, e1, e2, e3⟩ := h.dr.rd
    refine ⟨a, cap, hv, e1, e2, ?_⟩
    rcases e3 with e3 | ⟨bb, off, rfl, e4⟩
    · exact .inl e3
    · rcases h.cl with h0 | h0
      · exact .inl h0
      · refine .inr ⟨bb, off, rfl, fun i hi => ?_⟩
        have hlt := h0 bb (by rw [hv]; rfl)
        rw [← e4 i hi]
        simp only [World.cell?, hb.block bb hlt]
  exact ⟨⟨⟨i, hh, k.below hb h.lt, h1, h2⟩, hrd, h.dr.ap, h.dr.ok, h.dr.len⟩, ⟨hb.os.trans hg.os, hb.tape.trans hg.tape, hb.output.trans hg.output, Nat.le_trans hg.size hb.size, fun j hj hn => (hb.block j hj).trans (hg.block j hj hn)⟩, h.lt, h.cl⟩
theorem Ow.drawn {base : Nat} {W W' : World} {v : Value} {ys : List Int} {g : Nat} (h : Ow .i64 3 base W v ys) (hg : W.grownBy W' (some g)) (hl : g < base) : Ow .i64 3 base W' v ys := World.ownsRow.kept (row := some g) h hg (h.low g hl)
theorem size_c (v : Value) (zs : List Int) (n : Int) (w : World) (h : Rd .u8 w v zs) (hlen : zs.length ≤ 1048576) (hn : 2 ≤ n) (hn2 : n ≤ 1000) :
   Calls Tryd.prog 56 #[v, .int .i64 n] w fun e w' => ∃ x : Int, e = .returned (.int .i64 x) ∧ 2 ≤ x ∧ x ≤ n ∧ w' = w := by
  obtain ⟨a, cap, rfl, -, h2, -⟩ := h
  unfold maxLen at h2
  by_cases hc : n < 2 + (zs.length : Int) / 20
  · go_enter Tryd.func56, Tryd.ntmps56
    go_wp2
    go_ret
    exact ⟨_, rfl, by omega, by omega, rfl⟩
  · go_enter Tryd.func56, Tryd.ntmps56
    go_wp2
    go_ret
    exact ⟨_, rfl, by omega, by omega, rfl⟩
theorem getD_bd (ys : List Int) (k : Nat) (lo hi : Int) (h : ∀ y ∈ ys, lo ≤ y ∧ y ≤ hi) (hk : k < ys.length) : lo ≤ ys.getD k 0 ∧ ys.getD k 0 ≤ hi := by
  rw [List.getD_eq_getElem?_getD, List.getElem?_eq_getElem hk, Option.getD_some]; exact h _ (List.getElem_mem hk)
set_option maxHeartbeats 6400000 in
theorem ldraw_c (g : Nat) (cv : Value) (zs : List Int) (n : Int) (w : World) (h : Dr w g cv zs) (hn : 0 ≤ n) (hn2 : n ≤ 100) :
   Calls Tryd.prog 69 #[.pointer (some ⟨g, 0, none⟩), .int .i64 n] w fun e w' => ∃ v ys, e = .returned v ∧ Ow .i64 3 w.heap.size w' v ys ∧ (ys.length : Int) = n ∧ Dc w w' g cv zs := by
  have HD0 : Hid (Dc w w g cv zs) := Dc.start h
  obtain ⟨W0, hW0⟩ : ∃ W, w.alloc (Obj.cells #[] 3) = W := ⟨_, rfl⟩
  have HDA : Hid (Dc w W0 g cv zs) := by rw [← hW0]; exact HD0.out.below ((Below.refl _ _).alloc (Nat.le_refl _) _)
  obtain ⟨v0, hv0⟩ : ∃ v, Value.slice (some ⟨w.heap.size, 0, none⟩) 0 0 = v := ⟨_, rfl⟩
  have HOA : Hid (Ow .i64 3 w.heap.size W0 v0 []) := by rw [← hW0, ← hv0]; exact Ow.empty .i64 3 _ w (Nat.le_refl _)
  have HW0 : Hid (w.alloc (Obj.cells #[] 3) = W0 ∧ Value.slice (some ⟨w.heap.size, 0, none⟩) 0 0 = v0) := ⟨hW0, hv0⟩
  clear h hW0 hv0 HD0
  go_enter Tryd.func69, Tryd.ntmps69
  go_wp2_with (fail)
  rw [HW0.out.1, HW0.out.2]
  clear HW0
  refine (below_c g cv zs _ _ HDA.out.dr (by omega)).mono ?_
  rintro e w1 ⟨x, rfl, x0, x1, -, d1, g1⟩
  have x2 := x1 (by omega)
  have HD1 : Hid (Dc w w1 g cv zs) := HDA.out.draw d1 g1
  have HO1 : Hid (Ow .i64 3 w.heap.size w1 v0 []) := HOA.out.drawn g1 HDA.out.lt
  clear d1 g1 x1 HDA HOA
  go_wp2
  go_loopw [5, 6, 7, 8] (fun o x v i wr => ∃ (j : Nat) (ys : List Int) (x' v' : Int) (o' : Value), i = .int .i64 j ∧ x = .int .i64 x' ∧ v = .int .i64 v' ∧ o' = o ∧ (-32767 ≤ x' ∧ x' ≤ 32767) ∧ (-(200 * (j : Int)) ≤ v' ∧ v' ≤ 200 * (j : Int)) ∧ Hid ((j : Int) ≤ n ∧ ys.length = j) ∧ Hid (Ow .i64 3 w.heap.size wr o' ys) ∧ Hid (Dc w wr g cv zs)) (fun _ _ _ i _ => n.toNat - (intOf i).toNat)
  case atStart => exact ⟨0, [], _, _, _, rfl, rfl, rfl, rfl, by omega, by omega, ⟨by omega, rfl⟩, HO1.out, HD1.out⟩
  case round =>
    obtain ⟨j, ys, x', v', o', rfl, rfl, rfl, ho', hx', hv', hj, hO, hD⟩ := hrel
    subst ho'
    clear HO1 HD1
    have hjn := hj.out.1
    by_cases hlt : (j : Int) < n
    case neg =>
      have HJ : Hid ((ys.length : Int) = n) := by have := hj.out.2; show _ = _; omega
      go_wp2
      go_ret
      exact ⟨_, rfl, ys, hO.out, HJ.out, hD.out⟩
    case pos =>
    go_wp2_with (fail)
    refine (once_c _ _ _ _ _ hD.out.dr (by omega)).mono ?_
    rintro e wa ⟨p, rfl, d1, g1⟩
    have HDa : Hid (Dc w wa g cv zs) := hD.out.draw d1 g1
    have HOa : Hid (Ow .i64 3 w.heap.size wa o' ys) := hO.out.drawn g1 hD.out.lt
    clear d1 g1 hD hO
    cases p
    case false =>
      have HSZ : Hid (w.heap.size ≤ wa.heap.size) := HDa.out.gr.size
      have HLN : Hid (ys.length = j) := hj.out.2
      have hj100 : (j : Int) ≤ 100 := by omega
      go_wp2_with (at_builtin; refine appI rfl (.tmp 23) (.tmp 25) rfl w.heap.size _ ys rfl (HOa.out.alloc _) wa.heap.size x' rfl (by simp) (by have := HLN.out; omega) (by have := HSZ.out; simp; omega) ?_)
      intro v6 w6 ho hb
      have HO6 : Hid (Ow .i64 3 w.heap.size w6 v6 (ys ++ [x'])) := ho
      have HD6 : Hid (Dc w w6 g cv zs) := (HDa.out.below ((Below.refl _ _).alloc (Nat.le_refl _) _)).belowB hb
      clear ho hb HOa HDa HSZ
      go_wp2_with (fail)
      refine (below_c _ _ _ _ _ HD6.out.dr (by omega)).mono ?_
      rintro e w7 ⟨y, rfl, y0, y1, -, d1, g1⟩
      have y2 := y1 (by omega)
      have HD7 : Hid (Dc w w7 g cv zs) := HD6.out.draw d1 g1
      have HO7 : Hid (Ow .i64 3 w.heap.size w7 v6 (ys ++ [x'])) := HO6.out.drawn g1 HD6.out.lt
      clear d1 g1 HD6 HO6 y1
      go_wp2_with (fail)
      refine (clip_c _ _).mono ?_
      rintro e w8 ⟨rfl, rfl⟩
      have hcl := clip_bd (x' + (v' + y - 200))
      generalize clip (x' + (v' + y - 200)) = x'' at hcl ⊢
      go_wp2
      go_roundw
      case rel => exact ⟨j + 1, ys ++ [x'], _, _, _, by go_num, rfl, rfl, rfl, hcl, by omega, ⟨by omega, by simp [HLN.out]⟩, HO7.out, HD7.out⟩
      case measure => simp [intOf]; omega
    case true =>
      obtain ⟨W, hW⟩ : ∃ W, wa.alloc (Obj.cells #[.int .i64 32767, .int .i64 (-32767), .int .i64 0, .int .i64 5000, .int .i64 (-20000)] 3) = W := ⟨_, rfl⟩
      have al : Below wa.heap.size wa W := by rw [← hW]; exact (Below.refl _ _).alloc (Nat.le_refl _) _
      have HDW : Hid (Dc w W g cv zs) := HDa.out.below al
      have HOW : Hid (Ow .i64 3 w.heap.size W o' ys) := HOa.out.below al
      have HRW : Hid (Rd .i64 W (.slice (some ⟨wa.heap.size, 0, none⟩) 5 5) [32767, -32767, 0, 5000, -20000]) := by
        have := Rd.lit wa [32767, -32767, 0, 5000, -20000] (by simp)
        rw [← hW]; exact this
      have HAP : Hid ((Value.slice (some ⟨wa.heap.size, 0, none⟩) 5 5).ownBlock = none ∨ (Value.slice (some ⟨wa.heap.size, 0, none⟩) 5 5).ownBlock ≠ some g) := by
        right; have := HDa.out.dr.lt; simp [Value.ownBlock]; omega
      clear al HDa HOa
      go_wp2_with (fail)
      refine (pickInt_c _ _ _ _ [32767, -32767, 0, 5000, -20000] _ HDW.out.dr HRW.out HAP.out (by simp) (by simp)).mono ?_
      rintro e wa ⟨x', rfl, ⟨k, hk, hx⟩, d3, g3⟩
      have hx' : -32767 ≤ x' ∧ x' ≤ 32767 := by rw [hx]; exact getD_bd _ k _ _ (by decide) hk
      have HDa : Hid (Dc w wa g cv zs) := HDW.out.draw d3 g3
      have HOa : Hid (Ow .i64 3 w.heap.size wa o' ys) := HOW.out.drawn g3 HDW.out.lt
      clear d3 g3 hx hk hW HDW HOW HRW HAP
      have HSZ : Hid (w.heap.size ≤ wa.heap.size) := HDa.out.gr.size
      have HLN : Hid (ys.length = j) := hj.out.2
      have hj100 : (j : Int) ≤ 100 := by omega
      go_wp2_with (at_builtin; refine appI rfl (.tmp 23) (.tmp 25) rfl w.heap.size _ ys rfl (HOa.out.alloc _) wa.heap.size x' rfl (by simp) (by have := HLN.out; omega) (by have := HSZ.out; simp; omega) ?_)
      intro v6 w6 ho hb
      have HO6 : Hid (Ow .i64 3 w.heap.size w6 v6 (ys ++ [x'])) := ho
      have HD6 : Hid (Dc w w6 g cv zs) := (HDa.out.below ((Below.refl _ _).alloc (Nat.le_refl _) _)).belowB hb
      clear ho hb HOa HDa HSZ
      go_wp2_with (fail)
      refine (below_c _ _ _ _ _ HD6.out.dr (by omega)).mono ?_
      rintro e w7 ⟨y, rfl, y0, y1, -, d1, g1⟩
      have y2 := y1 (by omega)
      have HD7 : Hid (Dc w w7 g cv zs) := HD6.out.draw d1 g1
      have HO7 : Hid (Ow .i64 3 w.heap.size w7 v6 (ys ++ [x'])) := HO6.out.drawn g1 HD6.out.lt
      clear d1 g1 HD6 HO6 y1
      go_wp2_with (fail)
      refine (clip_c _ _).mono ?_
      rintro e w8 ⟨rfl, rfl⟩
      have hcl := clip_bd (x' + (v' + y - 200))
      generalize clip (x' + (v' + y - 200)) = x'' at hcl ⊢
      go_wp2
      go_roundw
      case rel => exact ⟨j + 1, ys ++ [x'], _, _, _, by go_num, rfl, rfl, rfl, hcl, by omega, ⟨by omega, by simp [HLN.out]⟩, HO7.out, HD7.out⟩
      case measure => simp [intOf]; omega

set_option maxHeartbeats 6400000 in
theorem dany_c (g : Nat) (cv : Value) (zs : List Int) (n : Int) (w : World) (h : Dr w g cv zs) (hn : 2 ≤ n) (hn2 : n ≤ 60) :
   Calls Tryd.prog 55 #[.pointer (some ⟨g, 0, none⟩), .int .i64 n] w fun e w' => ∃ v ys, e = .returned v ∧ Ow .i64 3 w.heap.size w' v ys ∧ ys.length ≤ 400 ∧ Dc w w' g cv zs := by
  have HD0 : Hid (Dc w w g cv zs) := Dc.start h
  clear h
  go_enter Tryd.func55, Tryd.ntmps55
  go_wp2_with (fail)
  refine (below_c g cv zs _ _ HD0.out.dr (by omega)).mono ?_
  rintro e w1 ⟨x, rfl, x0, x1, -, d1, g1⟩
  have x2 := x1 (by omega)
  have HD1 : Hid (Dc w w1 g cv zs) := HD0.out.draw d1 g1
  clear d1 g1 x1 HD0
  go_wp2_with (fail)
  refine (ldraw_c g cv zs _ _ HD1.out.dr x0 (by omega)).mono ?_
  rintro e w2 ⟨o, ys, rfl, o2, l2, d2⟩
  have HD2 : Hid (Dc w w2 g cv zs) := HD1.out.draw d2.dr d2.gr
  have HO2 : Hid (Ow .i64 3 w.heap.size w2 o ys) := o2.mono HD1.out.gr.size
  have HL2 : Hid (ys.length ≤ 60) := by show _ ≤ _; omega
  clear o2 l2 d2 HD1
  go_wp2_with (fail)
  refine (once_c _ _ _ _ _ HD2.out.dr (by omega)).mono ?_
  rintro e wa ⟨p, rfl, d1, g1⟩
  have HDa : Hid (Dc w wa g cv zs) := HD2.out.draw d1 g1
  have HOa : Hid (Ow .i64 3 w.heap.size wa o ys) := HO2.out.drawn g1 HD2.out.lt
  clear d1 g1 HD2 HO2
  cases p
  case false =>
    have HLa : Hid (ys.length ≤ 61) := by have := HL2.out; show _ ≤ _; omega
    clear HL2
    go_wp2_with (fail)
    refine (once_c _ _ _ _ _ HDa.out.dr (by omega)).mono ?_
    rintro e wc ⟨q, rfl, d1, g1⟩
    have HDc : Hid (Dc w wc g cv zs) := HDa.out.draw d1 g1
    have HOc : Hid (Ow .i64 3 w.heap.size wc o ys) := HOa.out.drawn g1 HDa.out.lt
    clear d1 g1 HDa HOa
    cases q
    · go_wp2
      go_ret
      first
      | exact ⟨_, ys, rfl, HOc.out, by have := HLa.out; omega, HDc.out⟩
      | exact ⟨_, rfl, ys, HOc.out, by have := HLa.out; omega, HDc.out⟩
    · go_wp2_with (fail)
      refine (below_c _ _ _ _ _ HDc.out.dr (by omega)).mono ?_
      rintro e wd ⟨y, rfl, y0, y1, -, d1, g1⟩
      have y2 := y1 (by omega)
      have HDd : Hid (Dc w wd g cv zs) := HDc.out.draw d1 g1
      clear d1 g1 y1 HDc HOc HLa
      obtain ⟨k, rfl⟩ := Int.eq_ofNat_of_zero_le y0
      obtain ⟨i0, hi, hz0, hz1, hz2⟩ := info_parts toIInfo
      have e300 : Hid ((300 + (k : Int)) = ((300 + k : Nat) : Int)) := by show _ = _; simp
      go_wp2_with (at_make; refine wpList_make_full _ rfl _ _ 26 rfl wd.heap.size 3 i0 (.int .i64 0) 1 Tryd.underlying26 hi hz0 hz1 .i64 .i64 _ _ (300 + k) rfl rfl e300.out e300.out (by rw [hz2]; omega) (by unfold maxLen; omega) (Nat.le_refl _) ?_)
      intro we ho hg
      have HOe : Hid (Ow .i64 3 w.heap.size we (.slice (some ⟨wd.heap.size, 0, none⟩) (300 + k) (300 + k)) (List.replicate (300 + k) 0)) := by
        refine Ow.mono (base := wd.heap.size) ?_ HDd.out.gr.size
        have hx : (madeCells #[Value.int .i64 0] (300 + k)).toList = (List.replicate (300 + k) (0 : Int)).map (Value.int .i64) := by
          rw [toList_madeCells_one]; simp
        have ho' := ho
        rw [hx] at ho'
        unfold Ow
        rw [List.length_replicate]
        exact ho'
      have HDe : Hid (Dc w we g cv zs) := HDd.out.below (grown_below hg (Nat.le_refl _) (by simp))
      clear ho hg HDd
      go_wp2
      go_ret
      first
      | exact ⟨_, _, rfl, HOe.out, by simp; omega, HDe.out⟩
      | exact ⟨_, rfl, _, HOe.out, by simp; omega, HDe.out⟩
  case true =>
    obtain ⟨W, hW⟩ : ∃ W, wa.alloc (Obj.cells #[.int .i64 32768, .int .i64 (-32768)] 3) = W := ⟨_, rfl⟩
    have al : Below wa.heap.size wa W := by rw [← hW]; exact (Below.refl _ _).alloc (Nat.le_refl _) _
    have HDW : Hid (Dc w W g cv zs) := HDa.out.below al
    have HOW : Hid (Ow .i64 3 w.heap.size W o ys) := HOa.out.below al
    have HRW : Hid (Rd .i64 W (.slice (some ⟨wa.heap.size, 0, none⟩) 2 2) [32768, -32768]) := by
      have := Rd.lit wa [32768, -32768] (by simp)
      rw [← hW]; exact this
    have HAP : Hid ((Value.slice (some ⟨wa.heap.size, 0, none⟩) 2 2).ownBlock = none ∨ (Value.slice (some ⟨wa.heap.size, 0, none⟩) 2 2).ownBlock ≠ some g) := by
      right; have := HDa.out.dr.lt; simp [Value.ownBlock]; omega
    clear al HDa HOa
    go_wp2_with (fail)
    refine (pickInt_c _ _ _ _ [32768, -32768] _ HDW.out.dr HRW.out HAP.out (by simp) (by simp)).mono ?_
    rintro e wb ⟨x', rfl, -, d3, g3⟩
    have HDb : Hid (Dc w wb g cv zs) := HDW.out.draw d3 g3
    have HOb : Hid (Ow .i64 3 w.heap.size wb o ys) := HOW.out.drawn g3 HDW.out.lt
    have HSZ : Hid (w.heap.size ≤ wb.heap.size) := HDb.out.gr.size
    clear d3 g3 hW HDW HOW HRW HAP
    go_wp2_with (at_builtin; refine appI rfl (.tmp 14) (.tmp 18) rfl w.heap.size _ ys rfl (HOb.out.alloc _) wb.heap.size x' rfl (by simp) (by have := HL2.out; omega) (by have := HSZ.out; simp; omega) ?_)
    intro v6 wa ho hb
    have HOa : Hid (Ow .i64 3 w.heap.size wa v6 (ys ++ [x'])) := ho
    have HDa : Hid (Dc w wa g cv zs) := (HDb.out.below ((Below.refl _ _).alloc (Nat.le_refl _) _)).belowB hb
    have HLa : Hid ((ys ++ [x']).length ≤ 61) := by have := HL2.out; simp; show _ ≤ _; omega
    clear ho hb HOb HDb HSZ HL2
    generalize ys ++ [x'] = ys at HOa HLa
    go_wp2_with (fail)
    refine (once_c _ _ _ _ _ HDa.out.dr (by omega)).mono ?_
    rintro e wc ⟨q, rfl, d1, g1⟩
    have HDc : Hid (Dc w wc g cv zs) := HDa.out.draw d1 g1
    have HOc : Hid (Ow .i64 3 w.heap.size wc v6 ys) := HOa.out.drawn g1 HDa.out.lt
    clear d1 g1 HDa HOa
    cases q
    · go_wp2
      go_ret
      first
      | exact ⟨_, ys, rfl, HOc.out, by have := HLa.out; omega, HDc.out⟩
      | exact ⟨_, rfl, ys, HOc.out, by have := HLa.out; omega, HDc.out⟩
    · go_wp2_with (fail)
      refine (below_c _ _ _ _ _ HDc.out.dr (by omega)).mono ?_
      rintro e wd ⟨y, rfl, y0, y1, -, d1, g1⟩
      have y2 := y1 (by omega)
      have HDd : Hid (Dc w wd g cv zs) := HDc.out.draw d1 g1
      clear d1 g1 y1 HDc HOc HLa
      obtain ⟨k, rfl⟩ := Int.eq_ofNat_of_zero_le y0
      obtain ⟨i0, hi, hz0, hz1, hz2⟩ := info_parts toIInfo
      have e300 : Hid ((300 + (k : Int)) = ((300 + k : Nat) : Int)) := by show _ = _; simp
      go_wp2_with (at_make; refine wpList_make_full _ rfl _ _ 26 rfl wd.heap.size 3 i0 (.int .i64 0) 1 Tryd.underlying26 hi hz0 hz1 .i64 .i64 _ _ (300 + k) rfl rfl e300.out e300.out (by rw [hz2]; omega) (by unfold maxLen; omega) (Nat.le_refl _) ?_)
      intro we ho hg
      have HOe : Hid (Ow .i64 3 w.heap.size we (.slice (some ⟨wd.heap.size, 0, none⟩) (300 + k) (300 + k)) (List.replicate (300 + k) 0)) := by
        refine Ow.mono (base := wd.heap.size) ?_ HDd.out.gr.size
        have hx : (madeCells #[Value.int .i64 0] (300 + k)).toList = (List.replicate (300 + k) (0 : Int)).map (Value.int .i64) := by
          rw [toList_madeCells_one]; simp
        have ho' := ho
        rw [hx] at ho'
        unfold Ow
        rw [List.length_replicate]
        exact ho'
      have HDe : Hid (Dc w we g cv zs) := HDd.out.below (grown_below hg (Nat.le_refl _) (by simp))
      clear ho hg HDd
      go_wp2
      go_ret
      first
      | exact ⟨_, _, rfl, HOe.out, by simp; omega, HDe.out⟩
      | exact ⟨_, rfl, _, HOe.out, by simp; omega, HDe.out⟩

set_option maxHeartbeats 6400000 in
theorem dcoder_c (g : Nat) (cv : Value) (zs : List Int) (w : World) (h : Dr w g cv zs) :
   Calls Tryd.prog 54 #[.pointer (some ⟨g, 0, none⟩)] w fun e w' => ∃ c : Int × Int, e = .returned (.agg (cdA c)) ∧ Dc w w' g cv zs := by
  have HD0 : Hid (Dc w w g cv zs) := Dc.start h
  clear h
  go_enter Tryd.func54, Tryd.ntmps54
  obtain ⟨W0, hW0⟩ : ∃ W, w.alloc (Obj.cells #[.int .i64 0, .int .i64 0] 25) = W := ⟨_, rfl⟩
  obtain ⟨gc, hgc⟩ : ∃ k, w.heap.size = k := ⟨_, rfl⟩
  have HDA : Hid (Dc w W0 g cv zs) := by rw [← hW0]; exact HD0.out.below ((Below.refl _ _).alloc (Nat.le_refl _) _)
  have HKA : Hid (Blk W0 gc (cdA (0, 0)) 25) := by rw [← hW0, ← hgc]; exact Blk.new _ _ _
  have HLG : Hid (g < gc) := by rw [← hgc]; exact HD0.out.lt
  have HSG : Hid (w.heap.size = gc) := hgc
  have HW0 : Hid (w.alloc (Obj.cells #[.int .i64 0, .int .i64 0] 25) = W0) := hW0
  clear hW0 hgc HD0
  go_wp2_with (fail)
  rw [HW0.out, HSG.out]
  clear HW0
  refine (below_c g cv zs _ _ HDA.out.dr (by omega)).mono ?_
  rintro e w1 ⟨x, rfl, x0, x1, -, d1, g1⟩
  have x2 := x1 (by omega)
  have HD1 : Hid (Dc w w1 g cv zs) := HDA.out.draw d1 g1
  have HK1 : Hid (Blk w1 gc (cdA (0, 0)) 25) := HKA.out.grown g1 (fun e => by have := HLG.out; have := Option.some.inj e; omega)
  clear d1 g1 x1 HDA HKA
  go_wp2_with (fail)
  refine (below_c g cv zs _ _ HD1.out.dr (by omega)).mono ?_
  rintro e w2 ⟨y, rfl, y0, y1, -, d1, g1⟩
  have y2 := y1 (by omega)
  have HD2 : Hid (Dc w w2 g cv zs) := HD1.out.draw d1 g1
  have HK2 : Hid (Blk w2 gc (cdA (0, 0)) 25) := HK1.out.grown g1 (fun e => by have := HLG.out; have := Option.some.inj e; omega)
  clear d1 g1 y1 HD1 HK1
  obtain ⟨W3, hW3⟩ : ∃ W, w2.alloc (Obj.cells #[.int .i64 (x - 2000), .int .i64 y] 25) = W := ⟨_, rfl⟩
  obtain ⟨gk, hgk⟩ : ∃ k, w2.heap.size = k := ⟨_, rfl⟩
  have al : Below w2.heap.size w2 W3 := by rw [← hW3]; exact (Below.refl _ _).alloc (Nat.le_refl _) _
  have HD3 : Hid (Dc w W3 g cv zs) := HD2.out.below al
  have HK3 : Hid (Blk W3 gc (cdA (0, 0)) 25) := HK2.out.below al HK2.out.lt
  have HB3 : Hid (Blk W3 gk (cdA (x - 2000, y)) 25) := by rw [← hW3, ← hgk]; exact Blk.new _ _ _
  have HGK : Hid (gc < gk) := by rw [← hgk]; exact HK2.out.lt
  have HW3 : Hid (w2.alloc (Obj.cells #[.int .i64 (x - 2000), .int .i64 y] 25) = W3) := hW3
  have HS2 : Hid (w2.heap.size = gk) := hgk
  clear al hW3 hgk HD2 HK2
  go_wp2_with (fail)
  rw [HW3.out, HS2.out]
  clear HW3 HS2
  refine (below_c g cv zs _ _ HD3.out.dr (by omega)).mono ?_
  rintro e w4 ⟨z, rfl, z0, z1, -, d1, g1⟩
  have z2 := z1 (by omega)
  have HD4 : Hid (Dc w w4 g cv zs) := HD3.out.draw d1 g1
  have HK4 : Hid (Blk w4 gc (cdA (0, 0)) 25) := HK3.out.grown g1 (fun e => by have := HLG.out; have := Option.some.inj e; omega)
  have HB4 : Hid (Blk w4 gk (cdA (x - 2000, y)) 25) := HB3.out.grown g1 (fun e => by have := HLG.out; have := HGK.out; have := Option.some.inj e; omega)
  clear d1 g1 z1 HD3 HK3 HB3
  by_cases hz0 : z = 0
  · subst hz0
    obtain ⟨W, hW⟩ : ∃ W, w4.alloc (Obj.cells #[.int .i64 32767, .int .i64 32768, .int .i64 (-32768)] 3) = W := ⟨_, rfl⟩
    have al : Below w4.heap.size w4 W := by rw [← hW]; exact (Below.refl _ _).alloc (Nat.le_refl _) _
    have HDW : Hid (Dc w W g cv zs) := HD4.out.below al
    have HKW : Hid (Blk W gc (cdA (0, 0)) 25) := HK4.out.below al HK4.out.lt
    have HBW : Hid (Blk W gk (cdA (x - 2000, y)) 25) := HB4.out.below al HB4.out.lt
    have HRW : Hid (Rd .i64 W (.slice (some ⟨w4.heap.size, 0, none⟩) 3 3) [32767, 32768, -32768]) := by
      have := Rd.lit w4 [32767, 32768, -32768] (by simp)
      rw [← hW]; exact this
    have HAP : Hid ((Value.slice (some ⟨w4.heap.size, 0, none⟩) 3 3).ownBlock = none ∨ (Value.slice (some ⟨w4.heap.size, 0, none⟩) 3 3).ownBlock ≠ some g) := by
      right; have := HD4.out.dr.lt; simp [Value.ownBlock]; omega
    clear al HD4 HK4 HB4
    go_wp2_with (fail)
    refine (pickInt_c _ _ _ _ [32767, 32768, -32768] _ HDW.out.dr HRW.out HAP.out (by simp) (by simp)).mono ?_
    rintro e w5 ⟨x', rfl, -, d3, g3⟩
    have HD5 : Hid (Dc w w5 g cv zs) := HDW.out.draw d3 g3
    have HK5 : Hid (Blk w5 gc (cdA (0, 0)) 25) := HKW.out.grown g3 (fun e => by have := HLG.out; have := Option.some.inj e; omega)
    have HB5 : Hid (Blk w5 gk (cdA (x - 2000, y)) 25) := HBW.out.grown g3 (fun e => by have := HLG.out; have := HGK.out; have := Option.some.inj e; omega)
    have c0 := HB5.out.cell 0
    have c1 := HB5.out.cell 1
    simp at c0 c1
    have cf := HB5.out.frozen 0
    clear d3 g3 hW HDW HKW HBW HRW HAP
    have HX : Hid (Blk (w5.setCell ⟨gk, 0, none⟩ (.int .i64 x')) gc (cdA (0, 0)) 25) := HK5.out.other _ _ (by have := HGK.out; dsimp only; omega)
    have HDX : Hid (Dc w (w5.setCell ⟨gk, 0, none⟩ (.int .i64 x')) g cv zs) := HD5.out.belowB ((Below.refl _ _).setCell (by have := HGK.out; have := HSG.out; dsimp only; omega) _)
    clear HK5 HD5
    go_wp2_with (refine wpList_store_row rfl 25 _ _ rfl gc _ rfl rfl 25 (cdA (0, 0)) HX.out sizeCd rfl (by simp [Value.oneCell']) ?_)
    exact bodyPost_ret (v := .agg (cdA (x', y))) (results_cell_row rfl _ _ _ 25 _ (0, 0) _ rfl (HX.out.row _ : Blk _ _ _ _) Tryd.underlying25 rfl sizeCd) rfl ⟨(x', y), rfl, HDX.out.belowB (belowRow (Below.refl _ _) _ (by have := HSG.out; omega) _)⟩
  by_cases hz1 : z = 1
  · subst hz1
    obtain ⟨W, hW⟩ : ∃ W, w4.alloc (Obj.cells #[.int .i64 (-1), .int .i64 49] 3) = W := ⟨_, rfl⟩
    have al : Below w4.heap.size w4 W := by rw [← hW]; exact (Below.refl _ _).alloc (Nat.le_refl _) _
    have HDW : Hid (Dc w W g cv zs) := HD4.out.below al
    have HKW : Hid (Blk W gc (cdA (0, 0)) 25) := HK4.out.below al HK4.out.lt
    have HBW : Hid (Blk W gk (cdA (x - 2000, y)) 25) := HB4.out.below al HB4.out.lt
    have HRW : Hid (Rd .i64 W (.slice (some ⟨w4.heap.size, 0, none⟩) 2 2) [-1, 49]) := by
      have := Rd.lit w4 [-1, 49] (by simp)
      rw [← hW]; exact this
    have HAP : Hid ((Value.slice (some ⟨w4.heap.size, 0, none⟩) 2 2).ownBlock = none ∨ (Value.slice (some ⟨w4.heap.size, 0, none⟩) 2 2).ownBlock ≠ some g) := by
      right; have := HD4.out.dr.lt; simp [Value.ownBlock]; omega
    clear al HD4 HK4 HB4
    go_wp2_with (fail)
    refine (pickInt_c _ _ _ _ [-1, 49] _ HDW.out.dr HRW.out HAP.out (by simp) (by simp)).mono ?_
    rintro e w5 ⟨x', rfl, -, d3, g3⟩
    have HD5 : Hid (Dc w w5 g cv zs) := HDW.out.draw d3 g3
    have HK5 : Hid (Blk w5 gc (cdA (0, 0)) 25) := HKW.out.grown g3 (fun e => by have := HLG.out; have := Option.some.inj e; omega)
    have HB5 : Hid (Blk w5 gk (cdA (x - 2000, y)) 25) := HBW.out.grown g3 (fun e => by have := HLG.out; have := HGK.out; have := Option.some.inj e; omega)
    have c0 := HB5.out.cell 0
    have c1 := HB5.out.cell 1
    simp at c0 c1
    have cf := HB5.out.frozen 1
    clear d3 g3 hW HDW HKW HBW HRW HAP
    have HX : Hid (Blk (w5.setCell ⟨gk, 1, none⟩ (.int .i64 x')) gc (cdA (0, 0)) 25) := HK5.out.other _ _ (by have := HGK.out; dsimp only; omega)
    have HDX : Hid (Dc w (w5.setCell ⟨gk, 1, none⟩ (.int .i64 x')) g cv zs) := HD5.out.belowB ((Below.refl _ _).setCell (by have := HGK.out; have := HSG.out; dsimp only; omega) _)
    clear HK5 HD5
    go_wp2_with (refine wpList_store_row rfl 25 _ _ rfl gc _ rfl rfl 25 (cdA (0, 0)) HX.out sizeCd rfl (by simp [Value.oneCell']) ?_)
    exact bodyPost_ret (v := .agg (cdA (x - 2000, x'))) (results_cell_row rfl _ _ _ 25 _ (0, 0) _ rfl (HX.out.row _ : Blk _ _ _ _) Tryd.underlying25 rfl sizeCd) rfl ⟨(x - 2000, x'), rfl, HDX.out.belowB (belowRow (Below.refl _ _) _ (by have := HSG.out; omega) _)⟩
  · have c0 := HB4.out.cell 0
    have c1 := HB4.out.cell 1
    simp at c0 c1
    have HX : Hid (Blk w4 gc (cdA (0, 0)) 25) := HK4.out
    have HDX : Hid (Dc w w4 g cv zs) := HD4.out
    clear HK4 HD4
    go_wp2_with (refine wpList_store_row rfl 25 _ _ rfl gc _ rfl rfl 25 (cdA (0, 0)) HX.out sizeCd rfl (by simp [Value.oneCell']) ?_)
    exact bodyPost_ret (v := .agg (cdA (x - 2000, y))) (results_cell_row rfl _ _ _ 25 _ (0, 0) _ rfl (HX.out.row _ : Blk _ _ _ _) Tryd.underlying25 rfl sizeCd) rfl ⟨(x - 2000, y), rfl, HDX.out.belowB (belowRow (Below.refl _ _) _ (by have := HSG.out; omega) _)⟩

end Go.Proofs.YtkjfcebdjnclaaaDoor
namespace Go.Proofs.YtkjfcebdjnclaaaDoor
open Go.RowKit Go.ChangeShapes Go.WideShapes Go.ChangeAt
set_option linter.unusedVariables false
set_option linter.unusedSimpArgs false
set_option maxRecDepth 8000

/-- a coder and a list of levels, drawn -/
def DrV (w : World) (e : Ending) (w' : World) : Prop := ∃ (c : Int × Int) (v : Value) (ys : List Int), e = .returned (.tuple #[.agg (cdA c), v]) ∧ Rd .i64 w' v ys ∧ ys.length ≤ 400 ∧ Below w.heap.size w w'
theorem Dc.bel {w0 w W : World} {g : Nat} {cv : Value} {zs : List Int} (h : Dc w W g cv zs) (hb : Below w0.heap.size w0 w) (hg : w0.heap.size ≤ g) : Below w0.heap.size w0 W := hb.trans (grown_below h.gr hb.size (fun k e => by have := Option.some.inj e; omega))
theorem results_C2 {fn : Func} {u p : Tmp} (h : fn.results = #[.cell p 25, .tmp u]) (tmps : Array Value) (w : World) (g : Nat) (c : Int × Int) (a : Value)
    (hu : tmps.getD u undef = a) (hp : tmps.getD p undef = .pointer (some ⟨g, 0, none⟩)) (hg : Blk w g (cdA c) 25) :
    (results fn tmps).run Tryd.prog w = .ok (.tuple #[.agg (cdA c), a]) w := by
  have hp' : tmps[p]?.getD undef = .pointer (some ⟨g, 0, none⟩) := by simpa using hp
  have hu' : tmps[u]?.getD undef = a := by simpa using hu
  have hr := run_loadVar_row (P := Tryd.prog) w g 25 25 (cdA c) (0, 0) _ hg Tryd.underlying25 rfl sizeCd
  simp [results, h, hp', hu', asAddr, hr]
set_option maxHeartbeats 6400000 in
theorem drawSq_c (v : Value) (zs : List Int) (w : World) (h : Rd .u8 w v zs) (hok : ∀ z ∈ zs, 0 ≤ z ∧ z ≤ 255) (hlen : zs.length ≤ 1048576) : Calls Tryd.prog 15 #[v] w (DrV w) := by
  have HR : Hid (Rd .u8 w v zs) := h
  have HOK : Hid (∀ z ∈ zs, 0 ≤ z ∧ z ≤ 255) := hok
  have HLN : Hid (zs.length ≤ 1048576) := hlen
  clear h hok hlen
  go_enter Tryd.func15, Tryd.ntmps15
  obtain ⟨W0, hW0⟩ : ∃ W, w.alloc (Obj.cells #[.int .i64 0, .int .i64 0] 25) = W := ⟨_, rfl⟩
  obtain ⟨gc, hgc⟩ : ∃ k, w.heap.size = k := ⟨_, rfl⟩
  have HB0 : Hid (Below w.heap.size w W0) := by rw [← hW0]; exact (Below.refl _ _).alloc (Nat.le_refl _) _
  have HKA : Hid (Blk W0 gc (cdA (0, 0)) 25) := by rw [← hW0, ← hgc]; exact Blk.new _ _ _
  have HRA : Hid (Rd .u8 W0 v zs) := HR.out.below HB0.out
  have HSG : Hid (w.heap.size = gc) := hgc
  have HW0 : Hid (w.alloc (Obj.cells #[.int .i64 0, .int .i64 0] 25) = W0) := hW0
  clear hW0 hgc HR
  go_wp2_with (fail)
  rw [HW0.out, HSG.out]
  clear HW0
  refine (new_c _ zs _ HRA.out HOK.out (by have := HLN.out; omega)).mono ?_
  rintro e w1 ⟨g, rfl, d1, hg, b1⟩
  have HLG : Hid (gc < g) := Nat.lt_of_lt_of_le HKA.out.lt hg
  have HD1 : Hid (Dc w1 w1 g v zs) := Dc.start d1
  have HK1 : Hid (Blk w1 gc (cdA (0, 0)) 25) := HKA.out.below b1 HKA.out.lt
  have HB1 : Hid (Below w.heap.size w w1) := belowCall HB0.out b1 HB0.out.size
  have HG0 : Hid (w.heap.size ≤ g) := Nat.le_trans HB0.out.size hg
  clear d1 hg b1 HKA HRA HB0
  go_wp2_with (fail)
  refine (dcoder_c _ _ _ _ HD1.out.dr).mono ?_
  rintro e w2 ⟨c, rfl, d2⟩
  have HD2 : Hid (Dc w1 w2 g v zs) := d2
  have HK2 : Hid (Blk w2 gc (cdA (0, 0)) 25) := HK1.out.grown d2.gr (fun e => by have := HLG.out; have := Option.some.inj e; omega)
  clear d2 HD1 HK1
  go_wp2_with (fail)
  refine (size_c _ _ _ _ HD2.out.dr.rd HLN.out (by omega) (by omega)).mono ?_
  rintro e w3 ⟨n, rfl, n0, n1, hw3⟩
  subst hw3
  go_wp2_with (fail)
  refine (dany_c _ _ _ _ _ HD2.out.dr n0 (by omega)).mono ?_
  rintro e w4 ⟨u, ys, rfl, o4, l4, d4⟩
  have HD4 : Hid (Dc w1 w4 g v zs) := HD2.out.draw d4.dr d4.gr
  have HK4 : Hid (Blk w4 gc (cdA (0, 0)) 25) := HK2.out.grown d4.gr (fun e => by have := HLG.out; have := Option.some.inj e; omega)
  have HO4 : Hid (Ow .i64 3 w3.heap.size w4 u ys) := o4
  have HL4 : Hid (ys.length ≤ 400) := l4
  have HGE : Hid (gc < w3.heap.size) := HK2.out.lt
  clear o4 l4 d4 HD2 HK2
  go_wp2_with (refine wpList_store_row rfl 25 _ _ rfl gc _ rfl rfl 25 (cdA (0, 0)) HK4.out sizeCd rfl (by simp [Value.oneCell']) ?_)
  exact bodyPost_ret (results_C2 rfl _ _ gc c _ rfl rfl (HK4.out.row _)) rfl ⟨c, _, ys, rfl, (Ow.putRow HO4.out HGE.out).rd, HL4.out, belowRow (HD4.out.bel HB1.out HG0.out) _ (by have := HSG.out; omega) _⟩

end Go.Proofs.YtkjfcebdjnclaaaDoor

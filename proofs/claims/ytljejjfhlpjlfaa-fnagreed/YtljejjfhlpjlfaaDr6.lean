/- Events drawn: the contract; no condition; no condition. -/
import Derived.Test.YtljejjfhlpjlfaaDr5
import Derived.Test.YtljejjfhlpjlfaaRuB
namespace Go.Proofs.Ytljejjfhlpjlfaa
open Go.RowKit Go.ChangeShapes Go.WideShapes Go.ChangeAt
set_option linter.unusedVariables false
set_option linter.unusedSimpArgs false
set_option maxRecDepth 8000
theorem rdList (W : World) (b : Nat) (ys : List Int) (hb : Blk W b (ys.map (Value.int .i64)).toArray 3) (hl : ys.length ≤ 1048576) : Rd .i64 W (.slice (some ⟨b, 0, none⟩) ys.length ys.length) ys := by
  refine ⟨_, _, rfl, Nat.le_refl _, by unfold maxLen; omega, .inr ⟨b, 0, rfl, fun i hi => ?_⟩⟩
  have := hb.cell i
  rw [Nat.zero_add, this]
  simp [List.getD, List.getElem?_eq_getElem hi]
theorem De.set {w W : World} {g b : Nat} {cv : Value} {zs : List Int} {v : Value} {es : Mvs} (h : De w W g cv zs v es) (hb : w.heap.size ≤ b) (hv : ∀ k, v.ownBlock = some k → k < b) (o : Nat) (x : Value) : De w (W.setCell ⟨b, o, none⟩ x) g cv zs v es := by
  have hg : W.grownBy (W.setCell ⟨b, o, none⟩ x) (some b) := grown_set _ _ _ _
  have hd : Dr (W.setCell ⟨b, o, none⟩ x) g cv zs := by
    obtain ⟨i, hh, k, h1, h2⟩ := h.dr.cur
    refine ⟨⟨i, hh, k.grown hg (fun e => by have := Option.some.inj e; have := h.lt; omega), h1, h2⟩, h.dr.rd.grownE hg ?_, h.dr.ap, h.dr.ok, h.dr.len⟩
    rcases h.cl with h0 | h0
    · exact .inl h0
    · cases hv : cv.ownBlock with
      | none => exact .inr (.inl rfl)
      | some k => exact .inr (.inr (fun e => by have := h0 k hv; have := Option.some.inj e; omega))
  refine ⟨?_, hd, ⟨hg.os.trans h.gr.os, hg.tape.trans h.gr.tape, hg.output.trans h.gr.output, Nat.le_trans h.gr.size hg.size, fun j hj hn => (hg.block j (Nat.lt_of_lt_of_le hj h.gr.size) (fun e => by have := Option.some.inj e; omega)).trans (h.gr.block j hj hn)⟩, h.lt, h.cl⟩
  cases hv' : v.ownBlock with
  | none => exact World.ownsRow.kept h.own hg (.inl hv')
  | some k => exact World.ownsRow.kept h.own hg (.inr (by rw [hv']; intro e; have := hv k hv'; have := Option.some.inj e; omega))
set_option maxHeartbeats 6400000 in
theorem drawEv_c (g : Nat) (cv : Value) (zs : List Int) (n : Int) (w : World) (h : Dr w g cv zs) (hn0 : 0 ≤ n) (hn : n ≤ 1048576) :
   Calls Try.prog 34 #[.pointer (some ⟨g, 0, none⟩), .int .i64 n] w (DeR g cv zs n w) := by
  obtain ⟨N, rfl⟩ : ∃ N : Nat, n = (N : Int) := ⟨n.toNat, by omega⟩
  have HD : Hid (De w (w.alloc (Obj.cells #[] 35)) g cv zs (.slice (some ⟨w.heap.size, 0, none⟩) 0 0) []) := De.start h
  clear h
  go_enter Try.func34, Try.ntmps34
  go_wp2
  go_loopw [5, 6] (fun o i wr => ∃ j : Nat, j ≤ N ∧ i = .int .i64 j ∧ Hid (∃ es : Mvs, es.length = j ∧ De w wr g cv zs o es)) (fun _ i _ => N - (intOf i).toNat)
  case atStart => exact ⟨0, Nat.zero_le _, rfl, [], rfl, HD.out⟩
  case round =>
    obtain ⟨j, hj, rfl, hrest⟩ := hrel
    obtain ⟨es, hel, hde⟩ := hrest.out
    clear hrest HD
    by_cases hlt : j < N
    · have hjI : (j : Int) < (N : Int) := by omega
      obtain ⟨Y, hY⟩ : ∃ Y : Array Value, #[Value.int .i64 1, .int .i64 1, .int .i64 2, .int .i64 2, .int .i64 3, .int .i64 4, .int .i64 4, .int .i64 5, .int .i64 5, .int .i64 5, .int .i64 5, .int .i64 5, .int .i64 6, .int .i64 7] = Y := ⟨_, rfl⟩
      obtain ⟨W1, hW1⟩ : ∃ W, wr.alloc (Obj.cells #[Value.int .i64 1, .int .i64 1, .int .i64 2, .int .i64 2, .int .i64 3, .int .i64 4, .int .i64 4, .int .i64 5, .int .i64 5, .int .i64 5, .int .i64 5, .int .i64 5, .int .i64 6, .int .i64 7] 3) = W := ⟨_, rfl⟩
      have hD1 : De w W1 g cv zs u5 es := hW1 ▸ hde.below ((Below.refl _ _).alloc (Nat.le_refl _) _)
      have hB1 : Blk W1 wr.heap.size (([1, 1, 2, 2, 3, 4, 4, 5, 5, 5, 5, 5, 6, 7] : List Int).map (Value.int .i64)).toArray 3 := hW1 ▸ Blk.new _ _ _
      have hgl : g < wr.heap.size := hde.dr.lt
      have HC : Hid (Calls Try.prog 56 #[.pointer (some ⟨g, 0, none⟩), .slice (some ⟨wr.heap.size, 0, none⟩) 14 14] W1 fun e w' => ∃ x : Int, e = .returned (.int .i64 x) ∧ Dr w' g cv zs ∧ W1.grownBy w' (some g)) := pickInt_c g cv zs _ _ W1 hD1.dr (rdList W1 wr.heap.size [1, 1, 2, 2, 3, 4, 4, 5, 5, 5, 5, 5, 6, 7] hB1 (by decide)) (.inr (by simp [Value.ownBlock]; omega)) (by decide) (by decide)
      have HD1 : Hid (De w W1 g cv zs u5 es) := hD1
      have HEL : Hid (es.length = j) := hel
      clear hel hde hB1 hD1 hY
      go_wp2_with (fail)
      refine HC.out.mono ?_
      rintro e W2 ⟨x, rfl, d2, g2⟩
      have HD2 : Hid (De w W2 g cv zs u5 es) := HD1.out.draw d2 g2
      clear d2 g2 HC HD1 hW1
      have hge : g < W2.heap.size := HD2.out.dr.lt
      have HWS : Hid (w.heap.size ≤ W2.heap.size) := HD2.out.gr.size
      have HVE : Hid (∀ k, u5.ownBlock = some k → k < W2.heap.size) := fun k e => (World.ownsRow.lt HD2.out.own k e).2
      have hgn : W2.heap.size ≠ g := by omega
      have HD3 : Hid (De w (W2.alloc (Obj.cells (H2 x 0) 35)) g cv zs u5 es) := HD2.out.below ((Below.refl _ _).alloc (Nat.le_refl _) _)
      have HE3 : Hid (Blk (W2.alloc (Obj.cells (H2 x 0) 35)) W2.heap.size (H2 x 0) 35) := Blk.new _ _ _
      have HL : Hid (es.length + 1 ≤ 1099511627776) := by have := HEL.out; show _ ≤ _; omega
      have HJ : Hid (j < N ∧ es.length = j) := ⟨hlt, HEL.out⟩
      clear HD2 hgl
      by_cases h3 : x = 3
      · subst h3
        go_wp2_with (fail)
        refine (below_c g cv zs 2 _ HD3.out.dr (by decide)).mono ?_
        rintro e W4 ⟨y, rfl, y0, y1, -, d4, g4⟩
        have y2 : y < 2 := y1 (by decide)
        have HD4 : Hid (De w W4 g cv zs u5 es) := HD3.out.draw d4 g4
        have HE4 : Hid (Blk W4 W2.heap.size (H2 3 0) 35) := HE3.out.grown g4 (by intro e; exact hgn (Option.some.inj e).symm)
        clear d4 g4 y1 HD3 HE3
        have e0 := HE4.out.cell 0
        have e1 := HE4.out.cell 1
        have ef1 := HE4.out.frozen 1
        have el := HE4.out.lt
        simp at e0 e1
        have HDs : Hid (De w (W4.setCell ⟨W2.heap.size, 1, none⟩ (.int .i64 y)) g cv zs u5 es) := HD4.out.set HWS.out HVE.out 1 _
        obtain ⟨av, cpv, hv⟩ := own_form2 HDs.out.own
        subst hv
        have hDz : De w ((W4.setCell ⟨W2.heap.size, 1, none⟩ (.int .i64 y)).alloc (Obj.cells (H2 3 y) 35)) g cv zs (.slice av es.length cpv) es := HDs.out.below ((Below.refl _ _).alloc (Nat.le_refl _) _)
        have HDz : Hid (De w ((W4.setCell ⟨W2.heap.size, 1, none⟩ (.int .i64 y)).alloc (Obj.cells (H2 3 y) 35)) g cv zs (.slice av es.length cpv) es) := hDz
        have hBz : Blk ((W4.setCell ⟨W2.heap.size, 1, none⟩ (.int .i64 y)).alloc (Obj.cells (H2 3 y) 35)) (W4.setCell ⟨W2.heap.size, 1, none⟩ (.int .i64 y)).heap.size (H2 3 y) 35 := Blk.new _ _ _
        have hRz : Rp mf mg ((W4.setCell ⟨W2.heap.size, 1, none⟩ (.int .i64 y)).alloc (Obj.cells (H2 3 y) 35)) (.slice (some ⟨(W4.setCell ⟨W2.heap.size, 1, none⟩ (.int .i64 y)).heap.size, 0, none⟩) 1 1) [(3, y)] := ⟨_, _, rfl, by simp, by unfold maxLen; omega, .inr ⟨_, 0, rfl, fun i hi => by
          have hi0 : i = 0 := by simpa using hi
          subst hi0
          have b0 := hBz.cell 0
          have b1 := hBz.cell 1
          simp at b0 b1
          exact ⟨by simpa using b0, by simpa using b1⟩⟩⟩
        have HRz : Hid (Rp mf mg ((W4.setCell ⟨W2.heap.size, 1, none⟩ (.int .i64 y)).alloc (Obj.cells (H2 3 y) 35)) (.slice (some ⟨(W4.setCell ⟨W2.heap.size, 1, none⟩ (.int .i64 y)).heap.size, 0, none⟩) 1 1) [(3, y)]) := hRz
        clear hBz hDz hRz
        go_wp2_with (at_builtin; refine appEv rfl _ _ rfl w.heap.size (.slice av es.length cpv) es rfl HDz.out.own (.slice (some ⟨(W4.setCell ⟨W2.heap.size, 1, none⟩ (.int .i64 y)).heap.size, 0, none⟩) 1 1) [(3, y)] (by simp [Act.eval]) HRz.out (by have := HL.out; simp only [List.length_singleton]; omega) HDz.out.gr.size ?_)
        intro v9 w9 o9 g9 n9
        have HD9 : Hid (De w w9 g cv zs v9 (es ++ [(3, y)])) := HDz.out.app o9 g9
        clear o9 g9 n9 HDz HRz
        go_wp2
        go_roundw
        case rel => exact ⟨j + 1, by have := HJ.out; omega, by go_num, es ++ [(3, y)], by simp [HJ.out.2], HD9.out⟩
        case measure => have := HJ.out.1; simp [intOf]; omega
      have h3b : (x == 3) = false := by simpa using h3
      by_cases h4 : x = 4
      · subst h4
        go_wp2_with (fail)
        refine (below_c g cv zs 2 _ HD3.out.dr (by decide)).mono ?_
        rintro e W4 ⟨y, rfl, y0, y1, -, d4, g4⟩
        have y2 : y < 2 := y1 (by decide)
        have HD4 : Hid (De w W4 g cv zs u5 es) := HD3.out.draw d4 g4
        have HE4 : Hid (Blk W4 W2.heap.size (H2 4 0) 35) := HE3.out.grown g4 (by intro e; exact hgn (Option.some.inj e).symm)
        clear d4 g4 y1 HD3 HE3
        have e0 := HE4.out.cell 0
        have e1 := HE4.out.cell 1
        have ef1 := HE4.out.frozen 1
        have el := HE4.out.lt
        simp at e0 e1
        have HDs : Hid (De w (W4.setCell ⟨W2.heap.size, 1, none⟩ (.int .i64 y)) g cv zs u5 es) := HD4.out.set HWS.out HVE.out 1 _
        obtain ⟨av, cpv, hv⟩ := own_form2 HDs.out.own
        subst hv
        have hDz : De w ((W4.setCell ⟨W2.heap.size, 1, none⟩ (.int .i64 y)).alloc (Obj.cells (H2 4 y) 35)) g cv zs (.slice av es.length cpv) es := HDs.out.below ((Below.refl _ _).alloc (Nat.le_refl _) _)
        have HDz : Hid (De w ((W4.setCell ⟨W2.heap.size, 1, none⟩ (.int .i64 y)).alloc (Obj.cells (H2 4 y) 35)) g cv zs (.slice av es.length cpv) es) := hDz
        have hBz : Blk ((W4.setCell ⟨W2.heap.size, 1, none⟩ (.int .i64 y)).alloc (Obj.cells (H2 4 y) 35)) (W4.setCell ⟨W2.heap.size, 1, none⟩ (.int .i64 y)).heap.size (H2 4 y) 35 := Blk.new _ _ _
        have hRz : Rp mf mg ((W4.setCell ⟨W2.heap.size, 1, none⟩ (.int .i64 y)).alloc (Obj.cells (H2 4 y) 35)) (.slice (some ⟨(W4.setCell ⟨W2.heap.size, 1, none⟩ (.int .i64 y)).heap.size, 0, none⟩) 1 1) [(4, y)] := ⟨_, _, rfl, by simp, by unfold maxLen; omega, .inr ⟨_, 0, rfl, fun i hi => by
          have hi0 : i = 0 := by simpa using hi
          subst hi0
          have b0 := hBz.cell 0
          have b1 := hBz.cell 1
          simp at b0 b1
          exact ⟨by simpa using b0, by simpa using b1⟩⟩⟩
        have HRz : Hid (Rp mf mg ((W4.setCell ⟨W2.heap.size, 1, none⟩ (.int .i64 y)).alloc (Obj.cells (H2 4 y) 35)) (.slice (some ⟨(W4.setCell ⟨W2.heap.size, 1, none⟩ (.int .i64 y)).heap.size, 0, none⟩) 1 1) [(4, y)]) := hRz
        clear hBz hDz hRz
        go_wp2_with (at_builtin; refine appEv rfl _ _ rfl w.heap.size (.slice av es.length cpv) es rfl HDz.out.own (.slice (some ⟨(W4.setCell ⟨W2.heap.size, 1, none⟩ (.int .i64 y)).heap.size, 0, none⟩) 1 1) [(4, y)] (by simp [Act.eval]) HRz.out (by have := HL.out; simp only [List.length_singleton]; omega) HDz.out.gr.size ?_)
        intro v9 w9 o9 g9 n9
        have HD9 : Hid (De w w9 g cv zs v9 (es ++ [(4, y)])) := HDz.out.app o9 g9
        clear o9 g9 n9 HDz HRz
        go_wp2
        go_roundw
        case rel => exact ⟨j + 1, by have := HJ.out; omega, by go_num, es ++ [(4, y)], by simp [HJ.out.2], HD9.out⟩
        case measure => have := HJ.out.1; simp [intOf]; omega
      have h4b : (x == 4) = false := by simpa using h4
      by_cases h5 : x = 5
      · subst h5
        go_wp2_with (fail)
        refine (below_c g cv zs 4 _ HD3.out.dr (by decide)).mono ?_
        rintro e W4 ⟨a, rfl, a0, a1, -, d4, g4⟩
        have a2 : a < 4 := a1 (by decide)
        have HD4 : Hid (De w W4 g cv zs u5 es) := HD3.out.draw d4 g4
        have HE4 : Hid (Blk W4 W2.heap.size (H2 5 0) 35) := HE3.out.grown g4 (by intro e; exact hgn (Option.some.inj e).symm)
        clear d4 g4 a1 HD3 HE3
        go_wp2_with (fail)
        refine (below_c g cv zs 2 _ HD4.out.dr (by decide)).mono ?_
        rintro e W5 ⟨b, rfl, b0, b1, -, d5, g5⟩
        have b2 : b < 2 := b1 (by decide)
        have HD5 : Hid (De w W5 g cv zs u5 es) := HD4.out.draw d5 g5
        have HE5 : Hid (Blk W5 W2.heap.size (H2 5 0) 35) := HE4.out.grown g5 (by intro e; exact hgn (Option.some.inj e).symm)
        clear d5 g5 b1 HD4 HE4
        have e0 := HE5.out.cell 0
        have e1 := HE5.out.cell 1
        have ef1 := HE5.out.frozen 1
        have el := HE5.out.lt
        simp at e0 e1
        rcases (show b = 0 ∨ b = 1 by omega) with rfl | rfl
        · have HDs : Hid (De w (W5.setCell ⟨W2.heap.size, 1, none⟩ (.int .i64 0)) g cv zs u5 es) := HD5.out.set HWS.out HVE.out 1 _
          obtain ⟨av, cpv, hv⟩ := own_form2 HDs.out.own
          subst hv
          have hDz : De w ((W5.setCell ⟨W2.heap.size, 1, none⟩ (.int .i64 0)).alloc (Obj.cells (H2 5 0) 35)) g cv zs (.slice av es.length cpv) es := HDs.out.below ((Below.refl _ _).alloc (Nat.le_refl _) _)
          have HDz : Hid (De w ((W5.setCell ⟨W2.heap.size, 1, none⟩ (.int .i64 0)).alloc (Obj.cells (H2 5 0) 35)) g cv zs (.slice av es.length cpv) es) := hDz
          have hBz : Blk ((W5.setCell ⟨W2.heap.size, 1, none⟩ (.int .i64 0)).alloc (Obj.cells (H2 5 0) 35)) (W5.setCell ⟨W2.heap.size, 1, none⟩ (.int .i64 0)).heap.size (H2 5 0) 35 := Blk.new _ _ _
          have hRz : Rp mf mg ((W5.setCell ⟨W2.heap.size, 1, none⟩ (.int .i64 0)).alloc (Obj.cells (H2 5 0) 35)) (.slice (some ⟨(W5.setCell ⟨W2.heap.size, 1, none⟩ (.int .i64 0)).heap.size, 0, none⟩) 1 1) [(5, 0)] := ⟨_, _, rfl, by simp, by unfold maxLen; omega, .inr ⟨_, 0, rfl, fun i hi => by
            have hi0 : i = 0 := by simpa using hi
            subst hi0
            have b0 := hBz.cell 0
            have b1 := hBz.cell 1
            simp at b0 b1
            exact ⟨by simpa using b0, by simpa using b1⟩⟩⟩
          have HRz : Hid (Rp mf mg ((W5.setCell ⟨W2.heap.size, 1, none⟩ (.int .i64 0)).alloc (Obj.cells (H2 5 0) 35)) (.slice (some ⟨(W5.setCell ⟨W2.heap.size, 1, none⟩ (.int .i64 0)).heap.size, 0, none⟩) 1 1) [(5, 0)]) := hRz
          clear hBz hDz hRz
          go_wp2_with (at_builtin; refine appEv rfl _ _ rfl w.heap.size (.slice av es.length cpv) es rfl HDz.out.own (.slice (some ⟨(W5.setCell ⟨W2.heap.size, 1, none⟩ (.int .i64 0)).heap.size, 0, none⟩) 1 1) [(5, 0)] (by simp [Act.eval]) HRz.out (by have := HL.out; simp only [List.length_singleton]; omega) HDz.out.gr.size ?_)
          intro v9 w9 o9 g9 n9
          have HD9 : Hid (De w w9 g cv zs v9 (es ++ [(5, 0)])) := HDz.out.app o9 g9
          clear o9 g9 n9 HDz HRz
          go_wp2
          go_roundw
          case rel => exact ⟨j + 1, by have := HJ.out; omega, by go_num, es ++ [(5, 0)], by simp [HJ.out.2], HD9.out⟩
          case measure => have := HJ.out.1; simp [intOf]; omega
        · have HDs : Hid (De w (W5.setCell ⟨W2.heap.size, 1, none⟩ (.int .i64 a)) g cv zs u5 es) := HD5.out.set HWS.out HVE.out 1 _
          obtain ⟨av, cpv, hv⟩ := own_form2 HDs.out.own
          subst hv
          have hDz : De w ((W5.setCell ⟨W2.heap.size, 1, none⟩ (.int .i64 a)).alloc (Obj.cells (H2 5 a) 35)) g cv zs (.slice av es.length cpv) es := HDs.out.below ((Below.refl _ _).alloc (Nat.le_refl _) _)
          have HDz : Hid (De w ((W5.setCell ⟨W2.heap.size, 1, none⟩ (.int .i64 a)).alloc (Obj.cells (H2 5 a) 35)) g cv zs (.slice av es.length cpv) es) := hDz
          have hBz : Blk ((W5.setCell ⟨W2.heap.size, 1, none⟩ (.int .i64 a)).alloc (Obj.cells (H2 5 a) 35)) (W5.setCell ⟨W2.heap.size, 1, none⟩ (.int .i64 a)).heap.size (H2 5 a) 35 := Blk.new _ _ _
          have hRz : Rp mf mg ((W5.setCell ⟨W2.heap.size, 1, none⟩ (.int .i64 a)).alloc (Obj.cells (H2 5 a) 35)) (.slice (some ⟨(W5.setCell ⟨W2.heap.size, 1, none⟩ (.int .i64 a)).heap.size, 0, none⟩) 1 1) [(5, a)] := ⟨_, _, rfl, by simp, by unfold maxLen; omega, .inr ⟨_, 0, rfl, fun i hi => by
            have hi0 : i = 0 := by simpa using hi
            subst hi0
            have b0 := hBz.cell 0
            have b1 := hBz.cell 1
            simp at b0 b1
            exact ⟨by simpa using b0, by simpa using b1⟩⟩⟩
          have HRz : Hid (Rp mf mg ((W5.setCell ⟨W2.heap.size, 1, none⟩ (.int .i64 a)).alloc (Obj.cells (H2 5 a) 35)) (.slice (some ⟨(W5.setCell ⟨W2.heap.size, 1, none⟩ (.int .i64 a)).heap.size, 0, none⟩) 1 1) [(5, a)]) := hRz
          clear hBz hDz hRz
          go_wp2_with (at_builtin; refine appEv rfl _ _ rfl w.heap.size (.slice av es.length cpv) es rfl HDz.out.own (.slice (some ⟨(W5.setCell ⟨W2.heap.size, 1, none⟩ (.int .i64 a)).heap.size, 0, none⟩) 1 1) [(5, a)] (by simp [Act.eval]) HRz.out (by have := HL.out; simp only [List.length_singleton]; omega) HDz.out.gr.size ?_)
          intro v9 w9 o9 g9 n9
          have HD9 : Hid (De w w9 g cv zs v9 (es ++ [(5, a)])) := HDz.out.app o9 g9
          clear o9 g9 n9 HDz HRz
          go_wp2
          go_roundw
          case rel => exact ⟨j + 1, by have := HJ.out; omega, by go_num, es ++ [(5, a)], by simp [HJ.out.2], HD9.out⟩
          case measure => have := HJ.out.1; simp [intOf]; omega
      have h5b : (x == 5) = false := by simpa using h5
      by_cases h6 : x = 6
      · subst h6
        go_wp2_with (fail)
        refine (below_c g cv zs 4 _ HD3.out.dr (by decide)).mono ?_
        rintro e W4 ⟨a, rfl, a0, a1, -, d4, g4⟩
        have a2 : a < 4 := a1 (by decide)
        have HD4 : Hid (De w W4 g cv zs u5 es) := HD3.out.draw d4 g4
        have HE4 : Hid (Blk W4 W2.heap.size (H2 6 0) 35) := HE3.out.grown g4 (by intro e; exact hgn (Option.some.inj e).symm)
        clear d4 g4 a1 HD3 HE3
        go_wp2_with (fail)
        refine (below_c g cv zs 2 _ HD4.out.dr (by decide)).mono ?_
        rintro e W5 ⟨b, rfl, b0, b1, -, d5, g5⟩
        have b2 : b < 2 := b1 (by decide)
        have HD5 : Hid (De w W5 g cv zs u5 es) := HD4.out.draw d5 g5
        have HE5 : Hid (Blk W5 W2.heap.size (H2 6 0) 35) := HE4.out.grown g5 (by intro e; exact hgn (Option.some.inj e).symm)
        clear d5 g5 b1 HD4 HE4
        have e0 := HE5.out.cell 0
        have e1 := HE5.out.cell 1
        have ef1 := HE5.out.frozen 1
        have el := HE5.out.lt
        simp at e0 e1
        rcases (show b = 0 ∨ b = 1 by omega) with rfl | rfl
        · have HDs : Hid (De w (W5.setCell ⟨W2.heap.size, 1, none⟩ (.int .i64 0)) g cv zs u5 es) := HD5.out.set HWS.out HVE.out 1 _
          obtain ⟨av, cpv, hv⟩ := own_form2 HDs.out.own
          subst hv
          have hDz : De w ((W5.setCell ⟨W2.heap.size, 1, none⟩ (.int .i64 0)).alloc (Obj.cells (H2 6 0) 35)) g cv zs (.slice av es.length cpv) es := HDs.out.below ((Below.refl _ _).alloc (Nat.le_refl _) _)
          have HDz : Hid (De w ((W5.setCell ⟨W2.heap.size, 1, none⟩ (.int .i64 0)).alloc (Obj.cells (H2 6 0) 35)) g cv zs (.slice av es.length cpv) es) := hDz
          have hBz : Blk ((W5.setCell ⟨W2.heap.size, 1, none⟩ (.int .i64 0)).alloc (Obj.cells (H2 6 0) 35)) (W5.setCell ⟨W2.heap.size, 1, none⟩ (.int .i64 0)).heap.size (H2 6 0) 35 := Blk.new _ _ _
          have hRz : Rp mf mg ((W5.setCell ⟨W2.heap.size, 1, none⟩ (.int .i64 0)).alloc (Obj.cells (H2 6 0) 35)) (.slice (some ⟨(W5.setCell ⟨W2.heap.size, 1, none⟩ (.int .i64 0)).heap.size, 0, none⟩) 1 1) [(6, 0)] := ⟨_, _, rfl, by simp, by unfold maxLen; omega, .inr ⟨_, 0, rfl, fun i hi => by
            have hi0 : i = 0 := by simpa using hi
            subst hi0
            have b0 := hBz.cell 0
            have b1 := hBz.cell 1
            simp at b0 b1
            exact ⟨by simpa using b0, by simpa using b1⟩⟩⟩
          have HRz : Hid (Rp mf mg ((W5.setCell ⟨W2.heap.size, 1, none⟩ (.int .i64 0)).alloc (Obj.cells (H2 6 0) 35)) (.slice (some ⟨(W5.setCell ⟨W2.heap.size, 1, none⟩ (.int .i64 0)).heap.size, 0, none⟩) 1 1) [(6, 0)]) := hRz
          clear hBz hDz hRz
          go_wp2_with (at_builtin; refine appEv rfl _ _ rfl w.heap.size (.slice av es.length cpv) es rfl HDz.out.own (.slice (some ⟨(W5.setCell ⟨W2.heap.size, 1, none⟩ (.int .i64 0)).heap.size, 0, none⟩) 1 1) [(6, 0)] (by simp [Act.eval]) HRz.out (by have := HL.out; simp only [List.length_singleton]; omega) HDz.out.gr.size ?_)
          intro v9 w9 o9 g9 n9
          have HD9 : Hid (De w w9 g cv zs v9 (es ++ [(6, 0)])) := HDz.out.app o9 g9
          clear o9 g9 n9 HDz HRz
          go_wp2
          go_roundw
          case rel => exact ⟨j + 1, by have := HJ.out; omega, by go_num, es ++ [(6, 0)], by simp [HJ.out.2], HD9.out⟩
          case measure => have := HJ.out.1; simp [intOf]; omega
        · have HDs : Hid (De w (W5.setCell ⟨W2.heap.size, 1, none⟩ (.int .i64 a)) g cv zs u5 es) := HD5.out.set HWS.out HVE.out 1 _
          obtain ⟨av, cpv, hv⟩ := own_form2 HDs.out.own
          subst hv
          have hDz : De w ((W5.setCell ⟨W2.heap.size, 1, none⟩ (.int .i64 a)).alloc (Obj.cells (H2 6 a) 35)) g cv zs (.slice av es.length cpv) es := HDs.out.below ((Below.refl _ _).alloc (Nat.le_refl _) _)
          have HDz : Hid (De w ((W5.setCell ⟨W2.heap.size, 1, none⟩ (.int .i64 a)).alloc (Obj.cells (H2 6 a) 35)) g cv zs (.slice av es.length cpv) es) := hDz
          have hBz : Blk ((W5.setCell ⟨W2.heap.size, 1, none⟩ (.int .i64 a)).alloc (Obj.cells (H2 6 a) 35)) (W5.setCell ⟨W2.heap.size, 1, none⟩ (.int .i64 a)).heap.size (H2 6 a) 35 := Blk.new _ _ _
          have hRz : Rp mf mg ((W5.setCell ⟨W2.heap.size, 1, none⟩ (.int .i64 a)).alloc (Obj.cells (H2 6 a) 35)) (.slice (some ⟨(W5.setCell ⟨W2.heap.size, 1, none⟩ (.int .i64 a)).heap.size, 0, none⟩) 1 1) [(6, a)] := ⟨_, _, rfl, by simp, by unfold maxLen; omega, .inr ⟨_, 0, rfl, fun i hi => by
            have hi0 : i = 0 := by simpa using hi
            subst hi0
            have b0 := hBz.cell 0
            have b1 := hBz.cell 1
            simp at b0 b1
            exact ⟨by simpa using b0, by simpa using b1⟩⟩⟩
          have HRz : Hid (Rp mf mg ((W5.setCell ⟨W2.heap.size, 1, none⟩ (.int .i64 a)).alloc (Obj.cells (H2 6 a) 35)) (.slice (some ⟨(W5.setCell ⟨W2.heap.size, 1, none⟩ (.int .i64 a)).heap.size, 0, none⟩) 1 1) [(6, a)]) := hRz
          clear hBz hDz hRz
          go_wp2_with (at_builtin; refine appEv rfl _ _ rfl w.heap.size (.slice av es.length cpv) es rfl HDz.out.own (.slice (some ⟨(W5.setCell ⟨W2.heap.size, 1, none⟩ (.int .i64 a)).heap.size, 0, none⟩) 1 1) [(6, a)] (by simp [Act.eval]) HRz.out (by have := HL.out; simp only [List.length_singleton]; omega) HDz.out.gr.size ?_)
          intro v9 w9 o9 g9 n9
          have HD9 : Hid (De w w9 g cv zs v9 (es ++ [(6, a)])) := HDz.out.app o9 g9
          clear o9 g9 n9 HDz HRz
          go_wp2
          go_roundw
          case rel => exact ⟨j + 1, by have := HJ.out; omega, by go_num, es ++ [(6, a)], by simp [HJ.out.2], HD9.out⟩
          case measure => have := HJ.out.1; simp [intOf]; omega
      have h6b : (x == 6) = false := by simpa using h6
      by_cases h7 : x = 7
      · subst h7
        go_wp2_with (fail)
        refine (below_c g cv zs 4 _ HD3.out.dr (by decide)).mono ?_
        rintro e W4 ⟨a, rfl, a0, a1, -, d4, g4⟩
        have a2 : a < 4 := a1 (by decide)
        have HD4 : Hid (De w W4 g cv zs u5 es) := HD3.out.draw d4 g4
        have HE4 : Hid (Blk W4 W2.heap.size (H2 7 0) 35) := HE3.out.grown g4 (by intro e; exact hgn (Option.some.inj e).symm)
        clear d4 g4 a1 HD3 HE3
        go_wp2_with (fail)
        refine (below_c g cv zs 2 _ HD4.out.dr (by decide)).mono ?_
        rintro e W5 ⟨b, rfl, b0, b1, -, d5, g5⟩
        have b2 : b < 2 := b1 (by decide)
        have HD5 : Hid (De w W5 g cv zs u5 es) := HD4.out.draw d5 g5
        have HE5 : Hid (Blk W5 W2.heap.size (H2 7 0) 35) := HE4.out.grown g5 (by intro e; exact hgn (Option.some.inj e).symm)
        clear d5 g5 b1 HD4 HE4
        have e0 := HE5.out.cell 0
        have e1 := HE5.out.cell 1
        have ef1 := HE5.out.frozen 1
        have el := HE5.out.lt
        simp at e0 e1
        rcases (show b = 0 ∨ b = 1 by omega) with rfl | rfl
        · have HDs : Hid (De w (W5.setCell ⟨W2.heap.size, 1, none⟩ (.int .i64 0)) g cv zs u5 es) := HD5.out.set HWS.out HVE.out 1 _
          obtain ⟨av, cpv, hv⟩ := own_form2 HDs.out.own
          subst hv
          have hDz : De w ((W5.setCell ⟨W2.heap.size, 1, none⟩ (.int .i64 0)).alloc (Obj.cells (H2 7 0) 35)) g cv zs (.slice av es.length cpv) es := HDs.out.below ((Below.refl _ _).alloc (Nat.le_refl _) _)
          have HDz : Hid (De w ((W5.setCell ⟨W2.heap.size, 1, none⟩ (.int .i64 0)).alloc (Obj.cells (H2 7 0) 35)) g cv zs (.slice av es.length cpv) es) := hDz
          have hBz : Blk ((W5.setCell ⟨W2.heap.size, 1, none⟩ (.int .i64 0)).alloc (Obj.cells (H2 7 0) 35)) (W5.setCell ⟨W2.heap.size, 1, none⟩ (.int .i64 0)).heap.size (H2 7 0) 35 := Blk.new _ _ _
          have hRz : Rp mf mg ((W5.setCell ⟨W2.heap.size, 1, none⟩ (.int .i64 0)).alloc (Obj.cells (H2 7 0) 35)) (.slice (some ⟨(W5.setCell ⟨W2.heap.size, 1, none⟩ (.int .i64 0)).heap.size, 0, none⟩) 1 1) [(7, 0)] := ⟨_, _, rfl, by simp, by unfold maxLen; omega, .inr ⟨_, 0, rfl, fun i hi => by
            have hi0 : i = 0 := by simpa using hi
            subst hi0
            have b0 := hBz.cell 0
            have b1 := hBz.cell 1
            simp at b0 b1
            exact ⟨by simpa using b0, by simpa using b1⟩⟩⟩
          have HRz : Hid (Rp mf mg ((W5.setCell ⟨W2.heap.size, 1, none⟩ (.int .i64 0)).alloc (Obj.cells (H2 7 0) 35)) (.slice (some ⟨(W5.setCell ⟨W2.heap.size, 1, none⟩ (.int .i64 0)).heap.size, 0, none⟩) 1 1) [(7, 0)]) := hRz
          clear hBz hDz hRz
          go_wp2_with (at_builtin; refine appEv rfl _ _ rfl w.heap.size (.slice av es.length cpv) es rfl HDz.out.own (.slice (some ⟨(W5.setCell ⟨W2.heap.size, 1, none⟩ (.int .i64 0)).heap.size, 0, none⟩) 1 1) [(7, 0)] (by simp [Act.eval]) HRz.out (by have := HL.out; simp only [List.length_singleton]; omega) HDz.out.gr.size ?_)
          intro v9 w9 o9 g9 n9
          have HD9 : Hid (De w w9 g cv zs v9 (es ++ [(7, 0)])) := HDz.out.app o9 g9
          clear o9 g9 n9 HDz HRz
          go_wp2
          go_roundw
          case rel => exact ⟨j + 1, by have := HJ.out; omega, by go_num, es ++ [(7, 0)], by simp [HJ.out.2], HD9.out⟩
          case measure => have := HJ.out.1; simp [intOf]; omega
        · have HDs : Hid (De w (W5.setCell ⟨W2.heap.size, 1, none⟩ (.int .i64 a)) g cv zs u5 es) := HD5.out.set HWS.out HVE.out 1 _
          obtain ⟨av, cpv, hv⟩ := own_form2 HDs.out.own
          subst hv
          have hDz : De w ((W5.setCell ⟨W2.heap.size, 1, none⟩ (.int .i64 a)).alloc (Obj.cells (H2 7 a) 35)) g cv zs (.slice av es.length cpv) es := HDs.out.below ((Below.refl _ _).alloc (Nat.le_refl _) _)
          have HDz : Hid (De w ((W5.setCell ⟨W2.heap.size, 1, none⟩ (.int .i64 a)).alloc (Obj.cells (H2 7 a) 35)) g cv zs (.slice av es.length cpv) es) := hDz
          have hBz : Blk ((W5.setCell ⟨W2.heap.size, 1, none⟩ (.int .i64 a)).alloc (Obj.cells (H2 7 a) 35)) (W5.setCell ⟨W2.heap.size, 1, none⟩ (.int .i64 a)).heap.size (H2 7 a) 35 := Blk.new _ _ _
          have hRz : Rp mf mg ((W5.setCell ⟨W2.heap.size, 1, none⟩ (.int .i64 a)).alloc (Obj.cells (H2 7 a) 35)) (.slice (some ⟨(W5.setCell ⟨W2.heap.size, 1, none⟩ (.int .i64 a)).heap.size, 0, none⟩) 1 1) [(7, a)] := ⟨_, _, rfl, by simp, by unfold maxLen; omega, .inr ⟨_, 0, rfl, fun i hi => by
            have hi0 : i = 0 := by simpa using hi
            subst hi0
            have b0 := hBz.cell 0
            have b1 := hBz.cell 1
            simp at b0 b1
            exact ⟨by simpa using b0, by simpa using b1⟩⟩⟩
          have HRz : Hid (Rp mf mg ((W5.setCell ⟨W2.heap.size, 1, none⟩ (.int .i64 a)).alloc (Obj.cells (H2 7 a) 35)) (.slice (some ⟨(W5.setCell ⟨W2.heap.size, 1, none⟩ (.int .i64 a)).heap.size, 0, none⟩) 1 1) [(7, a)]) := hRz
          clear hBz hDz hRz
          go_wp2_with (at_builtin; refine appEv rfl _ _ rfl w.heap.size (.slice av es.length cpv) es rfl HDz.out.own (.slice (some ⟨(W5.setCell ⟨W2.heap.size, 1, none⟩ (.int .i64 a)).heap.size, 0, none⟩) 1 1) [(7, a)] (by simp [Act.eval]) HRz.out (by have := HL.out; simp only [List.length_singleton]; omega) HDz.out.gr.size ?_)
          intro v9 w9 o9 g9 n9
          have HD9 : Hid (De w w9 g cv zs v9 (es ++ [(7, a)])) := HDz.out.app o9 g9
          clear o9 g9 n9 HDz HRz
          go_wp2
          go_roundw
          case rel => exact ⟨j + 1, by have := HJ.out; omega, by go_num, es ++ [(7, a)], by simp [HJ.out.2], HD9.out⟩
          case measure => have := HJ.out.1; simp [intOf]; omega
      have h7b : (x == 7) = false := by simpa using h7
      obtain ⟨av, cpv, hv⟩ := own_form2 HD3.out.own
      subst hv
      have hDz : De w ((W2.alloc (Obj.cells (H2 x 0) 35)).alloc (Obj.cells (H2 x 0) 35)) g cv zs (.slice av es.length cpv) es := HD3.out.below ((Below.refl _ _).alloc (Nat.le_refl _) _)
      have HDz : Hid (De w ((W2.alloc (Obj.cells (H2 x 0) 35)).alloc (Obj.cells (H2 x 0) 35)) g cv zs (.slice av es.length cpv) es) := hDz
      have hBz : Blk ((W2.alloc (Obj.cells (H2 x 0) 35)).alloc (Obj.cells (H2 x 0) 35)) (W2.alloc (Obj.cells (H2 x 0) 35)).heap.size (H2 x 0) 35 := Blk.new _ _ _
      have hRz : Rp mf mg ((W2.alloc (Obj.cells (H2 x 0) 35)).alloc (Obj.cells (H2 x 0) 35)) (.slice (some ⟨(W2.alloc (Obj.cells (H2 x 0) 35)).heap.size, 0, none⟩) 1 1) [(x, 0)] := ⟨_, _, rfl, by simp, by unfold maxLen; omega, .inr ⟨_, 0, rfl, fun i hi => by
        have hi0 : i = 0 := by simpa using hi
        subst hi0
        have b0 := hBz.cell 0
        have b1 := hBz.cell 1
        simp at b0 b1
        exact ⟨by simp, by simp⟩⟩⟩
      have HRz : Hid (Rp mf mg ((W2.alloc (Obj.cells (H2 x 0) 35)).alloc (Obj.cells (H2 x 0) 35)) (.slice (some ⟨(W2.alloc (Obj.cells (H2 x 0) 35)).heap.size, 0, none⟩) 1 1) [(x, 0)]) := hRz
      clear hBz hDz hRz
      go_wp2_with (at_builtin; refine appEv rfl _ _ rfl w.heap.size (.slice av es.length cpv) es rfl HDz.out.own (.slice (some ⟨(W2.alloc (Obj.cells (H2 x 0) 35)).heap.size, 0, none⟩) 1 1) [(x, 0)] (by simp [Act.eval]) HRz.out (by have := HL.out; simp only [List.length_singleton]; omega) HDz.out.gr.size ?_)
      intro v9 w9 o9 g9 n9
      have HD9 : Hid (De w w9 g cv zs v9 (es ++ [(x, 0)])) := HDz.out.app o9 g9
      clear o9 g9 n9 HDz HRz
      go_wp2
      go_roundw
      case rel => exact ⟨j + 1, by have := HJ.out; omega, by go_num, es ++ [(x, 0)], by simp [HJ.out.2], HD9.out⟩
      case measure => have := HJ.out.1; simp [intOf]; omega
    · obtain rfl : j = N := by omega
      have hjI : ((j : Int) < (j : Int)) = False := eq_false (by omega)
      have HDE : Hid (De w wr g cv zs u5 es) := hde
      have HEL : Hid (es.length = j) := hel
      clear hde hel
      go_wp2
      go_ret
      exact ⟨_, es, rfl, by rw [HEL.out]; simp, HDE.out.own, HDE.out.dr, HDE.out.gr⟩
end Go.Proofs.Ytljejjfhlpjlfaa

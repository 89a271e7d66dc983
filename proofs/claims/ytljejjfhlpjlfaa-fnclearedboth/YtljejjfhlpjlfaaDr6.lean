/- Events drawn: the contract; no condition; no condition. -/
import Derived.Test.YtljejjfhlpjlfaaDr5
import Derived.Test.YtljejjfhlpjlfaaRuB
import Derived.Test.YtljejjfhlpjlfaaSl
namespace Go.Proofs.Ytljejjfhlpjlfaa
open Go.RowKit Go.ChangeShapes Go.WideShapes Go.ChangeAt
set_option linter.unusedVariables false
set_option linter.unusedSimpArgs false
set_option maxRecDepth 8000
theorem rdList (W : World) (b : Nat) (ys : List Int) (hb : Blk W b (ys.map (Value.int .i64)).toArray 3) (hl : ys.length ≤ 1048576) : Rd .i64 W (.slice (some ⟨b, 0, none⟩) ys.length ys.length) ys := by
  refine ⟨_, _, rfl, Nat.le_refl _, by unfold maxLen; omega, .inr ⟨b, 0, rfl, fun i hi => ?_⟩⟩
  have := hb.cell i
  rw [Nat.zero_add, this]
  simp [List.getD, List.getElem?_eq_getElem hi]
theorem De.set {w W : World} {g b : Nat} {cv : Value} {zs : List Int} {v : Value} {es : Mvs} (h : De w W g cv zs v es) (hb : w.heap.size ≤ b) (hv : ∀ k, v.ownBlock = some k → k < b) (o : Nat) (x : Value) : De w (W.setCell ⟨b, o, none⟩ x) g cv zs v es := by
  have hg : W.grownBy (W.setCell ⟨b, o, none⟩ x) (some b) := grown_set _ _ _ _
  have hd : Dr (W.setCell ⟨b, o, none⟩ x) g cv zs := by
    obtain ⟨i, hh, k, h1, h2⟩ := h.dr.cur
    refine ⟨⟨i, hh, k.grown hg (fun e => by have := Option.some.inj e; have := h.lt; omega), h1, h2⟩, h.dr.rd.grownE hg ?_, h.dr.ap, h.dr.ok, h.dr.len⟩
    rcases h.cl with h0 | h0
    · exact .inl h0
    · cases hv : cv.ownBlock with
      | none => exact .inr (.inl rfl)
      | some k => exact .inr (.inr (fun e => by have := h0 k hv; have := Option.some.inj e; omega))
  refine ⟨?_, hd, ⟨hg.os.trans h.gr.os, hg.tape.trans h.gr.tape, hg.output.trans h.gr.output, Nat.le_trans h.gr.size hg.size, fun j hj hn => (hg.block j (Nat.lt_of_lt_of_le hj h.gr.size) (fun e => by have := Option.some.inj e; omega)).trans (h.gr.block j hj hn)⟩, h.lt, h.cl⟩
  cases hv' : v.ownBlock with
  | none => exact World.ownsRow.kept h.own hg (.inl hv')
  | some k => exact World.ownsRow.kept h.own hg (.inr (by rw [hv']; intro e; have := hv k hv'; have := Option.some.inj e; omega))
set_option maxHeartbeats 6400000 in
theorem drawEv_c (g : Nat) (cv : Value) (zs : List Int) (n : Int) (w : World) (h : Dr w g cv zs) (hn0 : 0 ≤ n) (hn : n ≤ 1048576) :
   Calls Try.prog 34 #[.pointer (some ⟨g, 0, none⟩), .int .i64 n] w (DeR g cv zs n w) := by
  obtain ⟨N, rfl⟩ : ∃ N : Nat, n = (N : Int) := ⟨n.toNat, by omega⟩
  have HD : Hid (De w (w.alloc (Obj.cells #[] 35)) g cv zs (.slice (some ⟨w.heap.size, 0, none⟩) 0 0) []) := De.start h
  clear h
  go_enter Try.func34, Try.ntmps34
  go_wp2
  go_loopw [5, 6] (fun o i wr => ∃ j : Nat, j ≤ N ∧ i = .int .i64 j ∧ Hid (∃ es : Mvs, es.length = j ∧ De w wr g cv zs o es)) (fun _ i _ => N - (intOf i).toNat)
  case atStart => exact ⟨0, Nat.zero_le _, rfl, [], rfl, HD.out⟩
  case round =>
    obtain ⟨j, hj, rfl, hrest⟩ := hrel
    obtain ⟨es, hel, hde⟩ := hrest.out
    clear hrest HD
    by_cases hlt : j < N
    · have hjI : (j : Int) < (N : Int) := by omega
      obtain ⟨Y, hY⟩ : ∃ Y : Array Value, #[Value.int .i64 1, .int .i64 1, .int .i64 2, .int .i64 2, .int .i64 3, .int .i64 4, .int .i64 4, .int .i64 5, .int .i64 5, .int .i64 5, .int .i64 5, .int .i64 5, .int .i64 6, .int .i64 7] = Y := ⟨_, rfl⟩
      obtain ⟨W1, hW1⟩ : ∃ W, wr.alloc (Obj.cells #[Value.int .i64 1, .int .i64 1, .int .i64 2, .int .i64 2, .int .i64 3, .int .i64 4, .int .i64 4, .int .i64 5, .int .i64 5, .int .i64 5, .int .i64 5, .int .i64 5, .int .i64 6, .int .i64 7] 3) = W := ⟨_, rfl⟩
      have hD1 : De w W1 g cv zs u5 es := hW1 ▸ hde.below ((Below.refl _ _).alloc (Nat.le_refl _) _)
      have hB1 : Blk W1 wr.heap.size (([1, 1, 2, 2, 3, 4, 4, 5, 5, 5, 5, 5, 6, 7] : List Int).map (Value.int .i64)).toArray 3 := hW1 ▸ Blk.new _ _ _
      have hgl : g < wr.heap.size := hde.dr.lt
      have HC : Hid (Calls Try.prog 56 #[.pointer (some ⟨g, 0, none⟩), .slice (some ⟨wr.heap.size, 0, none⟩) 14 14] W1 fun e w' => ∃ x : Int, e = .returned (.int .i64 x) ∧ Dr w' g cv zs ∧ W1.grownBy w' (some g)) := pickInt_c g cv zs _ _ W1 hD1.dr (rdList W1 wr.heap.size [1, 1, 2, 2, 3, 4, 4, 5, 5, 5, 5, 5, 6, 7] hB1 (by decide)) (.inr (by simp [Value.ownBlock]; omega)) (by decide) (by decide)
      have HD1 : Hid (De w W1 g cv zs u5 es) := hD1
      have HEL : Hid (es.length = j) := hel
      clear hel hde hB1 hD1 hY
      go_wp2_with (fail)
      refine HC.out.mono ?_
      rintro e W2 ⟨x, rfl, d2, g2⟩
      have HD2 : Hid (De w W2 g cv zs u5 es) := HD1.out.draw d2 g2
      clear d2 g2 HC HD1 hW1
      have hge : g < W2.heap.size := HD2.out.dr.lt
      have HWS : Hid (w.heap.size ≤ W2.heap.size) := HD2.out.gr.size
      have HVE : Hid (∀ k, u5.ownBlock = some k → k < W2.heap.size) := fun k e => (World.ownsRow.lt HD2.out.own k e).2
      have hgn : W2.heap.size ≠ g := by omega
      have HD3 : Hid (De w (W2.alloc (Obj.cells (H2 x 0) 35)) g cv zs u5 es) := HD2.out.below ((Below.refl _ _).alloc (Nat.le_refl _) _)
      have HE3 : Hid (Blk (W2.alloc (Obj.cells (H2 x 0) 35)) W2.heap.size (H2 x 0) 35) := Blk.new _ _ _
      have HL : Hid (es.length + 1 ≤ 1099511627776) := by have := HEL.out; show _ ≤ _; omega
      have HJ : Hid (j < N ∧ es.length = j) := ⟨hlt, HEL.out⟩
      clear HD2 hgl
      by_cases h3 : x = 3
      · subst h3
        go_wp2_with (fail)
        refine (below_c g cv zs 2 _ HD3.out.dr (by decide)).mono ?_
        rintro e W4 ⟨y, rfl, y0, y1, -, d4, g4⟩
        have y2 : y < 2 := y1 (by decide)
        have HD4 : Hid (De w W4 g cv zs u5 es) := HD3.out.draw d4 g4
        have HE4 : Hid (Blk W4 W2.heap.size (H2 3 0) 35) := HE3.out.grown g4 (by intro e; exact hgn (Option.some.inj e).symm)
        clear d4 g4 y1 HD3 HE3
        have e0 := HE4.out.cell 0
        have e1 := HE4.out.cell 1
        have ef1 := HE4.out.frozen 1
        have el := HE4.out.lt
        simp at e0 e1
        have HDs : Hid (De w (W4.setCell ⟨W2.heap.size, 1, none⟩ (.int .i64 y)) g cv zs u5 es) := HD4.out.set HWS.out HVE.out 1 _
        obtain ⟨av, cpv, hv⟩ := own_form2 HDs.out.own
        subst hv
        have hDz : De w ((W4.setCell ⟨W2.heap.size, 1, none⟩ (.int .i64 y)).alloc (Obj.cells (H2 3 y) 35)) g cv zs (.slice av es.length cpv) es := HDs.out.below ((Below.refl _ _).alloc (Nat.le_refl _) _)
        have HDz : Hid (De w ((W4.setCell ⟨W2.heap.size, 1, none⟩ (.int .i64 y)).alloc (Obj.cells (H2 3 y) 35)) g cv zs (.slice av es.length cpv) es) := hDz
        have hBz : Blk ((W4.setCell ⟨W2.heap.size, 1, none⟩ (.int .i64 y)).alloc (Obj.cells (H2 3 y) 35)) (W4.setCell ⟨W2.heap.size, 1, none⟩ (.int .i64 y)).heap.size (H2 3 y) 35 := Blk.new _ _ _
        have hRz : Rp mf mg ((W4.setCell ⟨W2.heap.size, 1, none⟩ (.int .i64 y)).alloc (Obj.cells (H2 3 y) 35)) (.slice (some ⟨(W4.setCell ⟨W2.heap.size, 1, none⟩ (.int .i64 y)).heap.size, 0, none⟩) 1 1) [(3, y)] := ⟨_, _, rfl, by simp, by unfold maxLen; omega, .inr ⟨_, 0, rfl, fun i hi => by
          have hi0 : i = 0 := by simpa using hi
          subst hi0
          have b0 := hBz.cell 0
          have b1 := hBz.cell 1
          simp at b0 b1
          exact ⟨by simpa using b0, by simpa using b1⟩⟩⟩
        have HRz : Hid (Rp mf mg ((W4.setCell ⟨W2.heap.size, 1, none⟩ (.int .i64 y)).alloc (Obj.cells (H2 3 y) 35)) (.slice (some ⟨(W4.setCell ⟨W2.heap.size, 1, none⟩ (.int .i64 y)).heap.size, 0, none⟩) 1 1) [(3, y)]) := hRz
        clear hBz hDz hRz
        go_wp2_with (at_builtin; refine appEv rfl _ _ rfl w.heap.size (.slice av es.length cpv) es rfl HDz.out.own (.slice (some ⟨(W4.setCell ⟨W2.heap.size, 1, none⟩ (.int .i64 y)).heap.size, 0, none⟩) 1 1) [(3, y)] (by simp [Act.eval]) HRz.out (by have := HL.out; simp only [List.length_singleton]; omega) HDz.out.gr.size ?_)
        intro v9 w9 o9 g9 n9
        have HD9 : Hid (De w w9 g cv zs v9 (es ++ [(3, y)])) := HDz.out.app o9 g9
        clear o9 g9 n9 HDz HRz
        go_wp2
        go_roundw
        case rel => exact ⟨j + 1, by have := HJ.out; omega, by go_num, es ++ [(3, y)], by simp [HJ.out.2], HD9.out⟩
        case measure => have := HJ.out.1; simp [intOf]; omega
      have h3b : (x == 3) = false := by simpa using h3
      by_cases h4 : x = 4
      · subst h4
        go_wp2_with (fail)
        refine (below_c g cv zs 2 _ HD3.out.dr (by decide)).mono ?_
        rintro e W4 ⟨y, rfl, y0, y1, -, d4, g4⟩
        have y2 : y < 2 := y1 (by decide)
        have HD4 : Hid (De w W4 g cv zs u5 es) := HD3.out.draw d4 g4
        have HE4 : Hid (Blk W4 W2.heap.size (H2 4 0) 35) := HE3.out.grown g4 (by intro e; exact hgn (Option.some.inj e).symm)
        clear d4 g4 y1 HD3 HE3
        have e0 := HE4.out.cell 0
        have e1 := HE4.out.cell 1
        have ef1 := HE4.out.frozen 1
        have el := HE4.out.lt
        simp at e0 e1
        have HDs : Hid (De w (W4.setCell ⟨W2.heap.size, 1, none⟩ (.int .i64 y)) g cv zs u5 es) := HD4.out.set HWS.out HVE.out 1 _
        obtain ⟨av, cpv, hv⟩ := own_form2 HDs.out.own
        subst hv
        have hDz : De w ((W4.setCell ⟨W2.heap.size, 1, none⟩ (.int .i64 y)).alloc (Obj.cells (H2 4 y) 35)) g cv zs (.slice av es.length cpv) es := HDs.out.below ((Below.refl _ _).alloc (Nat.le_refl _) _)
        have HDz : Hid (De w ((W4.setCell ⟨W2.heap.size, 1, none⟩ (.int .i64 y)).alloc (Obj.cells (H2 4 y) 35)) g cv zs (.slice av es.length cpv) es) := hDz
        have hBz : Blk ((W4.setCell ⟨W2.heap.size, 1, none⟩ (.int .i64 y)).alloc (Obj.cells (H2 4 y) 35)) (W4.setCell ⟨W2.heap.size, 1, none⟩ (.int .i64 y)).heap.size (H2 4 y) 35 := Blk.new _ _ _
        have hRz : Rp mf mg ((W4.setCell ⟨W2.heap.size, 1, none⟩ (.int .i64 y)).alloc (Obj.cells (H2 4 y) 35)) (.slice (some ⟨(W4.setCell ⟨W2.heap.size, 1, none⟩ (.int .i64 y)).heap.size, 0, none⟩) 1 1) [(4, y)] := ⟨_, _, rfl, by simp, by unfold maxLen; omega, .inr ⟨_, 0, rfl, fun i hi => by
          have hi0 : i = 0 := by simpa using hi
          subst hi0
          have b0 := hBz.cell 0
          have b1 := hBz.cell 1
          simp at b0 b1
          exact ⟨by simpa using b0, by simpa using b1⟩⟩⟩
        have HRz : Hid (Rp mf mg ((W4.setCell ⟨W2.heap.size, 1, none⟩ (.int .i64 y)).alloc (Obj.cells (H2 4 y) 35)) (.slice (some ⟨(W4.setCell ⟨W2.heap.size, 1, none⟩ (.int .i64 y)).heap.size, 0, none⟩) 1 1) [(4, y)]) := hRz
        clear hBz hDz hRz
        go_wp2_with (at_builtin; refine appEv rfl _ _ rfl w.heap.size (.slice av es.length cpv) es rfl HDz.out.own (.slice (some ⟨(W4.setCell ⟨W2.heap.size, 1, none⟩ (.int .i64 y)).heap.size, 0, none⟩) 1 1) [(4, y)] (by simp [Act.eval]) HRz.out (by have := HL.out; simp only [List.length_singleton]; omega) HDz.out.gr.size ?_)
        intro v9 w9 o9 g9 n9
        have HD9 : Hid (De w w9 g cv zs v9 (es ++ [(4, y)])) := HDz.out.app o9 g9
        clear o9 g9 n9 HDz HRz
        go_wp2
        go_roundw
        case rel => exact ⟨j + 1, by have := HJ.out; omega, by go_num, es ++ [(4, y)], by simp [HJ.out.2], HD9.out⟩
        case measure => have := HJ.out.1; simp [intOf]; omega
      have h4b : (x == 4) = false := by simpa using h4
      by_cases h5 : x = 5
      · subst h5
        go_wp2_with (fail)
        refine (below_c g cv zs 4 _ HD3.out.dr (by decide)).mono ?_
        rintro e W4 ⟨a, rfl, a0, a1, -, d4, g4⟩
        have a2 : a < 4 := a1 (by decide)
        have HD4 : Hid (De w W4 g cv zs u5 es) := HD3.out.draw d4 g4
        have HE4 : Hid (Blk W4 W2.heap.size (H2 5 0) 35) := HE3.out.grown g4 (by intro e; exact hgn (Option.some.inj e).symm)
        clear d4 g4 a1 HD3 HE3
        go_wp2_with (fail)
        refine (below_c g cv zs 2 _ HD4.out.dr (by decide)).mono ?_
        rintro e W5 ⟨b, rfl, b0, b1, -, d5, g5⟩
        have b2 : b < 2 := b1 (by decide)
        have HD5 : Hid (De w W5 g cv zs u5 es) := HD4.out.draw d5 g5
        have HE5 : Hid (Blk W5 W2.heap.size (H2 5 0) 35) := HE4.out.grown g5 (by intro e; exact hgn (Option.some.inj e).symm)
        clear d5 g5 b1 HD4 HE4
        have e0 := HE5.out.cell 0
        have e1 := HE5.out.cell 1
        have ef1 := HE5.out.frozen 1
        have el := HE5.out.lt
        simp at e0 e1
        rcases (show b = 0 ∨ b = 1 by omega) with rfl | rfl
        · have HDs : Hid (De w (W5.setCell ⟨W2.heap.size, 1, none⟩ (.int .i64 0)) g cv zs u5 es) := HD5.out.set HWS.out HVE.out 1 _
          obtain ⟨av, cpv, hv⟩ := own_form2 HDs.out.own
          subst hv
          have hDz : De w ((W5.setCell ⟨W2.heap.size, 1, none⟩ (.int .i64 0)).alloc (Obj.cells (H2 5 0) 35)) g cv zs (.slice av es.length cpv) es := HDs.out.below ((Below.refl _ _).alloc (Nat.le_refl _) _)
          have HDz : Hid (De w ((W5.setCell ⟨W2.heap.size, 1, none⟩ (.int .i64 0)).alloc (Obj.cells (H2 5 0) 35)) g cv zs (.slice av es.length cpv) es) := hDz
          have hBz : Blk ((W5.setCell ⟨W2.heap.size, 1, none⟩ (.int .i64 0)).alloc (Obj.cells (H2 5 0) 35)) (W5.setCell ⟨W2.heap.size, 1, none⟩ (.int .i64 0)).heap.size (H2 5 0) 35 := Blk.new _ _ _
          have hRz : Rp mf mg ((W5.setCell ⟨W2.heap.size, 1, none⟩ (.int .i64 0)).alloc (Obj.cells (H2 5 0) 35)) (.slice (some ⟨(W5.setCell ⟨W2.heap.size, 1, none⟩ (.int .i64 0)).heap.size, 0, none⟩) 1 1) [(5, 0)] := ⟨_, _, rfl, by simp, by unfold maxLen; omega, .inr ⟨_, 0, rfl, fun i hi => by
            have hi0 : i = 0 := by simpa using hi
            subst hi0
            have b0 := hBz.cell 0
            have b1 := hBz.cell 1
            simp at b0 b1
            exact ⟨by simpa using b0, by simpa using b1⟩⟩⟩
          have HRz : Hid (Rp mf mg ((W5.setCell ⟨W2.heap.size, 1, none⟩ (.int .i64 0)).alloc (Obj.cells (H2 5 0) 35)) (.slice (some ⟨(W5.setCell ⟨W2.heap.size, 1, none⟩ (.int .i64 0)).heap.size, 0, none⟩) 1 1) [(5, 0)]) := hRz
          clear hBz hDz hRz
          go_wp2_with (at_builtin; refine appEv rfl _ _ rfl w.heap.size (.slice av es.length cpv) es rfl HDz.out.own (.slice (some ⟨(W5.setCell ⟨W2.heap.size, 1, none⟩ (.int .i64 0)).heap.size, 0, none⟩) 1 1) [(5, 0)] (by simp [Act.eval]) HRz.out (by have := HL.out; simp only [List.length_singleton]; omega) HDz.out.gr.size ?_)
          intro v9 w9 o9 g9 n9
          have HD9 : Hid (De w w9 g cv zs v9 (es ++ [(5, 0)])) := HDz.out.app o9 g9
          clear o9 g9 n9 HDz HRz
          go_wp2
          go_roundw
          case rel => exact ⟨j + 1, by have := HJ.out; omega, by go_num, es ++ [(5, 0)], by simp [HJ.out.2], HD9.out⟩
          case measure => have := HJ.out.1; simp [intOf]; omega
        · have HDs : Hid (De w (W5.setCell ⟨W2.heap.size, 1, none⟩ (.int .i64 a)) g cv zs u5 es) := HD5.out.set HWS.out HVE.out 1 _
          obtain ⟨av, cpv, hv⟩ := own_form2 HDs.out.own
          subst hv
          have hDz : De w ((W5.setCell ⟨W2.heap.size, 1, none⟩ (.int .i64 a)).alloc (Obj.cells (H2 5 a) 35)) g cv zs (.slice av es.length cpv) es := HDs.out.below ((Below.refl _ _).alloc (Nat.le_refl _) _)
          have HDz : Hid (De w ((W5.setCell ⟨W2.heap.size, 1, none⟩ (.int .i64 a)).alloc (Obj.cells (H2 5 a) 35)) g cv zs (.slice av es.length cpv) es) := hDz
          have hBz : Blk ((W5.setCell ⟨W2.heap.size, 1, none⟩ (.int .i64 a)).alloc (Obj.cells (H2 5 a) 35)) (W5.setCell ⟨W2.heap.size, 1, none⟩ (.int .i64 a)).heap.size (H2 5 a) 35 := Blk.new _ _ _
          have hRz : Rp mf mg ((W5.setCell ⟨W2.heap.size, 1, none⟩ (.int .i64 a)).alloc (Obj.cells (H2 5 a) 35)) (.slice (some ⟨(W5.setCell ⟨W2.heap.size, 1, none⟩ (.int .i64 a)).heap.size, 0, none⟩) 1 1) [(5, a)] := ⟨_, _, rfl, by simp, by unfold maxLen; omega, .inr ⟨_, 0, rfl, fun i hi => by
            have hi0 : i = 0 := by simpa using hi
            subst hi0
            have b0 := hBz.cell 0
            have b1 := hBz.cell 1
            simp at b0 b1
            exact ⟨by simpa using b0, by simpa using b1⟩⟩⟩
          have HRz : Hid (Rp mf mg ((W5.setCell ⟨W2.heap.size, 1, none⟩ (.int .i64 a)).alloc (Obj.cells (H2 5 a) 35)) (.slice (some ⟨(W5.setCell ⟨W2.heap.size, 1, none⟩ (.int .i64 a)).heap.size, 0, none⟩) 1 1) [(5, a)]) := hRz
          clear hBz hDz hRz
          go_wp2_with (at_builtin; refine appEv rfl _ _ rfl w.heap.size (.slice av es.length cpv) es rfl HDz.out.own (.slice (some ⟨(W5.setCell ⟨W2.heap.size, 1, none⟩ (.int .i64 a)).heap.size, 0, none⟩) 1 1) [(5, a)] (by simp [Act.eval]) HRz.out (by have := HL.out; simp only [List.length_singleton]; omega) HDz.out.gr.size ?_)
          intro v9 w9 o9 g9 n9
          have HD9 : Hid (De w w9 g cv zs v9 (es ++ [(5, a)])) := HDz.out.app o9 g9
          clear o9 g9 n9 HDz HRz
          go_wp2
          go_roundw
          case rel => exact ⟨j + 1, by have := HJ.out; omega, by go_num, es ++ [(5, a)], by simp [HJ.out.2], HD9.out⟩
          case measure => have := HJ.out.1; simp [intOf]; omega
      have h5b : (x == 5) = false := by simpa using h5
      by_cases h6 : x = 6
      · subst h6
        go_wp2_with (fail)
        refine (below_c g cv zs 4 _ HD3.out.dr (by decide)).mono ?_
        rintro e W4 ⟨a, rfl, a0, a1, -, d4, g4⟩
        have a2 : a < 4 := a1 (by decide)
        have HD4 : Hid (De w W4 g cv zs u5 es) := HD3.out.draw d4 g4
        have HE4 : Hid (Blk W4 W2.heap.size (H2 6 0) 35) := HE3.out.grown g4 (by intro e; exact hgn (Option.some.inj e).symm)
        clear d4 g4 a1 HD3 HE3
        go_wp2_with (fail)
        refine (below_c g cv zs 2 _ HD4.out.dr (by decide)).mono ?_
        rintro e W5 ⟨b, rfl, b0, b1, -, d5, g5⟩
        have b2 : b < 2 := b1 (by decide)
        have HD5 : Hid (De w W5 g cv zs u5 es) := HD4.out.draw d5 g5
        have HE5 : Hid (Blk W5 W2.heap.size (H2 6 0) 35) := HE4.out.grown g5 (by intro e; exact hgn (Option.some.inj e).symm)
        clear d5 g5 b1 HD4 HE4
        have e0 := HE5.out.cell 0
        have e1 := HE5.out.cell 1
        have ef1 := HE5.out.frozen 1
        have el := HE5.out.lt
        simp at e0 e1
        rcases (show b = 0 ∨ b = 1 by omega) with rfl | rfl
        · have HDs : Hid (De w (W5.setCell ⟨W2.heap.size, 1, none⟩ (.int .i64 0)) g cv zs u5 es) := HD5.out.set HWS.out HVE.out 1 _
          obtain ⟨av, cpv, hv⟩ := own_form2 HDs.out.own
          subst hv
          have hDz : De w ((W5.setCell ⟨W2.heap.size, 1, none⟩ (.int .i64 0)).alloc (Obj.cells (H2 6 0) 35)) g cv zs (.slice av es.length cpv) es := HDs.out.below ((Below.refl _ _).alloc (Nat.le_refl _) _)
          have HDz : Hid (De w ((W5.setCell ⟨W2.heap.size, 1, none⟩ (.int .i64 0)).alloc (Obj.cells (H2 6 0) 35)) g cv zs (.slice av es.length cpv) es) := hDz
          have hBz : Blk ((W5.setCell ⟨W2.heap.size, 1, none⟩ (.int .i64 0)).alloc (Obj.cells (H2 6 0) 35)) (W5.setCell ⟨W2.heap.size, 1, none⟩ (.int .i64 0)).heap.size (H2 6 0) 35 := Blk.new _ _ _
          have hRz : Rp mf mg ((W5.setCell ⟨W2.heap.size, 1, none⟩ (.int .i64 0)).alloc (Obj.cells (H2 6 0) 35)) (.slice (some ⟨(W5.setCell ⟨W2.heap.size, 1, none⟩ (.int .i64 0)).heap.size, 0, none⟩) 1 1) [(6, 0)] := ⟨_, _, rfl, by simp, by unfold maxLen; omega, .inr ⟨_, 0, rfl, fun i hi => by
            have hi0 : i = 0 := by simpa using hi
            subst hi0
            have b0 := hBz.cell 0
            have b1 := hBz.cell 1
            simp at b0 b1
            exact ⟨by simpa using b0, by simpa using b1⟩⟩⟩
          have HRz : Hid (Rp mf mg ((W5.setCell ⟨W2.heap.size, 1, none⟩ (.int .i64 0)).alloc (Obj.cells (H2 6 0) 35)) (.slice (some ⟨(W5.setCell ⟨W2.heap.size, 1, none⟩ (.int .i64 0)).heap.size, 0, none⟩) 1 1) [(6, 0)]) := hRz
          clear hBz hDz hRz
          go_wp2_with (at_builtin; refine appEv rfl _ _ rfl w.heap.size (.slice av es.length cpv) es rfl HDz.out.own (.slice (some ⟨(W5.setCell ⟨W2.heap.size, 1, none⟩ (.int .i64 0)).heap.size, 0, none⟩) 1 1) [(6, 0)] (by simp [Act.eval]) HRz.out (by have := HL.out; simp only [List.length_singleton]; omega) HDz.out.gr.size ?_)
          intro v9 w9 o9 g9 n9
          have HD9 : Hid (De w w9 g cv zs v9 (es ++ [(6, 0)])) := HDz.out.app o9 g9
          clear o9 g9 n9 HDz HRz
          go_wp2
          go_roundw
          case rel => exact ⟨j + 1, by have := HJ.out; omega, by go_num, es ++ [(6, 0)], by simp [HJ.out.2], HD9.out⟩
          case measure => have := HJ.out.1; simp [intOf]; omega
        · have HDs : Hid (De w (W5.setCell ⟨W2.heap.size, 1, none⟩ (.int .i64 a)) g cv zs u5 es) := HD5.out.set HWS.out HVE.out 1 _
          obtain ⟨av, cpv, hv⟩ := own_form2 HDs.out.own
          subst hv
          have hDz : De w ((W5.setCell ⟨W2.heap.size, 1, none⟩ (.int .i64 a)).alloc (Obj.cells (H2 6 a) 35)) g cv zs (.slice av es.length cpv) es := HDs.out.below ((Below.refl _ _).alloc (Nat.le_refl _) _)
          have HDz : Hid (De w ((W5.setCell ⟨W2.heap.size, 1, none⟩ (.int .i64 a)).alloc (Obj.cells (H2 6 a) 35)) g cv zs (.slice av es.length cpv) es) := hDz
          have hBz : Blk ((W5.setCell ⟨W2.heap.size, 1, none⟩ (.int .i64 a)).alloc (Obj.cells (H2 6 a) 35)) (W5.setCell ⟨W2.heap.size, 1, none⟩ (.int .i64 a)).heap.size (H2 6 a) 35 := Blk.new _ _ _
          have hRz : Rp mf mg ((W5.setCell ⟨W2.heap.size, 1, none⟩ (.int .i64 a)).alloc (Obj.cells (H2 6 a) 35)) (.slice (some ⟨(W5.setCell ⟨W2.heap.size, 1, none⟩ (.int .i64 a)).heap.size, 0, none⟩) 1 1) [(6, a)] := ⟨_, _, rfl, by simp, by unfold maxLen; omega, .inr ⟨_, 0, rfl, fun i hi => by
            have hi0 : i = 0 := by simpa using hi
            subst hi0
            have b0 := hBz.cell 0
            have b1 := hBz.cell 1
            simp at b0 b1
            exact ⟨by simpa using b0, by simpa using b1⟩⟩⟩
          have HRz : Hid (Rp mf mg ((W5.setCell ⟨W2.heap.size, 1, none⟩ (.int .i64 a)).alloc (Obj.cells (H2 6 a) 35)) (.slice (some ⟨(W5.setCell ⟨W2.heap.size, 1, none⟩ (.int .i64 a)).heap.size, 0, none⟩) 1 1) [(6, a)]) := hRz
          clear hBz hDz hRz
          go_wp2_with (at_builtin; refine appEv rfl _ _ rfl w.heap.size (.slice av es.length cpv) es rfl HDz.out.own (.slice (some ⟨(W5.setCell ⟨W2.heap.size, 1, none⟩ (.int .i64 a)).heap.size, 0, none⟩) 1 1) [(6, a)] (by simp [Act.eval]) HRz.out (by have := HL.out; simp only [List.length_singleton]; omega) HDz.out.gr.size ?_)
          intro v9 w9 o9 g9 n9
          have HD9 : Hid (De w w9 g cv zs v9 (es ++ [(6, a)])) := HDz.out.app o9 g9
          clear o9 g9 n9 HDz HRz
          go_wp2
          go_roundw
          case rel => exact ⟨j + 1, by have := HJ.out; omega, by go_num, es ++ [(6, a)], by simp [HJ.out.2], HD9.out⟩
          case measure => have := HJ.out.1; simp [intOf]; omega
      have h6b : (x == 6) = false := by simpa using h6
      by_cases h7 : x = 7
      · subst h7
        go_wp2_with (fail)
        refine (below_c g cv zs 4 _ HD3.out.dr (by decide)).mono ?_
        rintro e W4 ⟨a, rfl, a0, a1, -, d4, g4⟩
        have a2 : a < 4 := a1 (by decide)
        have HD4 : Hid (De w W4 g cv zs u5 es) := HD3.out.draw d4 g4
        have HE4 : Hid (Blk W4 W2.heap.size (H2 7 0) 35) := HE3.out.grown g4 (by intro e; exact hgn (Option.some.inj e).symm)
        clear d4 g4 a1 HD3 HE3
        go_wp2_with (fail)
        refine (below_c g cv zs 2 _ HD4.out.dr (by decide)).mono ?_
        rintro e W5 ⟨b, rfl, b0, b1, -, d5, g5⟩
        have b2 : b < 2 := b1 (by decide)
        have HD5 : Hid (De w W5 g cv zs u5 es) := HD4.out.draw d5 g5
        have HE5 : Hid (Blk W5 W2.heap.size (H2 7 0) 35) := HE4.out.grown g5 (by intro e; exact hgn (Option.some.inj e).symm)
        clear d5 g5 b1 HD4 HE4
        have e0 := HE5.out.cell 0
        have e1 := HE5.out.cell 1
        have ef1 := HE5.out.frozen 1
        have el := HE5.out.lt
        simp at e0 e1
        rcases (show b = 0 ∨ b = 1 by omega) with rfl | rfl
        · have HDs : Hid (De w (W5.setCell ⟨W2.heap.size, 1, none⟩ (.int .i64 0)) g cv zs u5 es) := HD5.out.set HWS.out HVE.out 1 _
          obtain ⟨av, cpv, hv⟩ := own_form2 HDs.out.own
          subst hv
          have hDz : De w ((W5.setCell ⟨W2.heap.size, 1, none⟩ (.int .i64 0)).alloc (Obj.cells (H2 7 0) 35)) g cv zs (.slice av es.length cpv) es := HDs.out.below ((Below.refl _ _).alloc (Nat.le_refl _) _)
          have HDz : Hid (De w ((W5.setCell ⟨W2.heap.size, 1, none⟩ (.int .i64 0)).alloc (Obj.cells (H2 7 0) 35)) g cv zs (.slice av es.length cpv) es) := hDz
          have hBz : Blk ((W5.setCell ⟨W2.heap.size, 1, none⟩ (.int .i64 0)).alloc (Obj.cells (H2 7 0) 35)) (W5.setCell ⟨W2.heap.size, 1, none⟩ (.int .i64 0)).heap.size (H2 7 0) 35 := Blk.new _ _ _
          have hRz : Rp mf mg ((W5.setCell ⟨W2.heap.size, 1, none⟩ (.int .i64 0)).alloc (Obj.cells (H2 7 0) 35)) (.slice (some ⟨(W5.setCell ⟨W2.heap.size, 1, none⟩ (.int .i64 0)).heap.size, 0, none⟩) 1 1) [(7, 0)] := ⟨_, _, rfl, by simp, by unfold maxLen; omega, .inr ⟨_, 0, rfl, fun i hi => by
            have hi0 : i = 0 := by simpa using hi
            subst hi0
            have b0 := hBz.cell 0
            have b1 := hBz.cell 1
            simp at b0 b1
            exact ⟨by simpa using b0, by simpa using b1⟩⟩⟩
          have HRz : Hid (Rp mf mg ((W5.setCell ⟨W2.heap.size, 1, none⟩ (.int .i64 0)).alloc (Obj.cells (H2 7 0) 35)) (.slice (some ⟨(W5.setCell ⟨W2.heap.size, 1, none⟩ (.int .i64 0)).heap.size, 0, none⟩) 1 1) [(7, 0)]) := hRz
          clear hBz hDz hRz
          go_wp2_with (at_builtin; refine appEv rfl _ _ rfl w.heap.size (.slice av es.length cpv) es rfl HDz.out.own (.slice (some ⟨(W5.setCell ⟨W2.heap.size, 1, none⟩ (.int .i64 0)).heap.size, 0, none⟩) 1 1) [(7, 0)] (by simp [Act.eval]) HRz.out (by have := HL.out; simp only [List.length_singleton]; omega) HDz.out.gr.size ?_)
          intro v9 w9 o9 g9 n9
          have HD9 : Hid (De w w9 g cv zs v9 (es ++ [(7, 0)])) := HDz.out.app o9 g9
          clear o9 g9 n9 HDz HRz
          go_wp2
          go_roundw
          case rel => exact ⟨j + 1, by have := HJ.out; omega, by go_num, es ++ [(7, 0)], by simp [HJ.out.2], HD9.out⟩
          case measure => have := HJ.out.1; simp [intOf]; omega
        · have HDs : Hid (De w (W5.setCell ⟨W2.heap.size, 1, none⟩ (.int .i64 a)) g cv zs u5 es) := HD5.out.set HWS.out HVE.out 1 _
          obtain ⟨av, cpv, hv⟩ := own_form2 HDs.out.own
          subst hv
          have hDz : De w ((W5.setCell ⟨W2.heap.size, 1, none⟩ (.int .i64 a)).alloc (Obj.cells (H2 7 a) 35)) g cv zs (.slice av es.length cpv) es := HDs.out.below ((Below.refl _ _).alloc (Nat.le_refl _) _)
          have HDz : Hid (De w ((W5.setCell ⟨W2.heap.size, 1, none⟩ (.int .i64 a)).alloc (Obj.cells (H2 7 a) 35)) g cv zs (.slice av es.length cpv) es) := hDz
          have hBz : Blk ((W5.setCell ⟨W2.heap.size, 1, none⟩ (.int .i64 a)).alloc (Obj.cells (H2 7 a) 35)) (W5.setCell ⟨W2.heap.size, 1, none⟩ (.int .i64 a)).heap.size (H2 7 a) 35 := Blk.new _ _ _
          have hRz : Rp mf mg ((W5.setCell ⟨W2.heap.size, 1, none⟩ (.int .i64 a)).alloc (Obj.cells (H2 7 a) 35)) (.slice (some ⟨(W5.setCell ⟨W2.heap.size, 1, none⟩ (.int .i64 a)).heap.size, 0, none⟩) 1 1) [(7, a)] := ⟨_, _, rfl, by simp, by unfold maxLen; omega, .inr ⟨_, 0, rfl, fun i hi => by
            have hi0 : i = 0 := by simpa using hi
            subst hi0
            have b0 := hBz.cell 0
            have b1 := hBz.cell 1
            simp at b0 b1
            exact ⟨by simpa using b0, by simpa using b1⟩⟩⟩
          have HRz : Hid (Rp mf mg ((W5.setCell ⟨W2.heap.size, 1, none⟩ (.int .i64 a)).alloc (Obj.cells (H2 7 a) 35)) (.slice (some ⟨(W5.setCell ⟨W2.heap.size, 1, none⟩ (.int .i64 a)).heap.size, 0, none⟩) 1 1) [(7, a)]) := hRz
          clear hBz hDz hRz
          go_wp2_with (at_builtin; refine appEv rfl _ _ rfl w.heap.size (.slice av es.length cpv) es rfl HDz.out.own (.slice (some ⟨(W5.setCell ⟨W2.heap.size, 1, none⟩ (.int .i64 a)).heap.size, 0, none⟩) 1 1) [(7, a)] (by simp [Act.eval]) HRz.out (by have := HL.out; simp only [List.length_singleton]; omega) HDz.out.gr.size ?_)
          intro v9 w9 o9 g9 n9
          have HD9 : Hid (De w w9 g cv zs v9 (es ++ [(7, a)])) := HDz.out.app o9 g9
          clear o9 g9 n9 HDz HRz
          go_wp2
          go_roundw
          case rel => exact ⟨j + 1, by have := HJ.out; omega, by go_num, es ++ [(7, a)], by simp [HJ.out.2], HD9.out⟩
          case measure => have := HJ.out.1; simp [intOf]; omega
      have h7b : (x == 7) = false := by simpa using h7
      obtain ⟨av, cpv, hv⟩ := own_form2 HD3.out.own
      subst hv
      have hDz : De w ((W2.alloc (Obj.cells (H2 x 0) 35)).alloc (Obj.cells (H2 x 0) 35)) g cv zs (.slice av es.length cpv) es := HD3.out.below ((Below.refl _ _).alloc (Nat.le_refl _) _)
      have HDz : Hid (De w ((W2.alloc (Obj.cells (H2 x 0) 35)).alloc (Obj.cells (H2 x 0) 35)) g cv zs (.slice av es.length cpv) es) := hDz
      have hBz : Blk ((W2.alloc (Obj.cells (H2 x 0) 35)).alloc (Obj.cells (H2 x 0) 35)) (W2.alloc (Obj.cells (H2 x 0) 35)).heap.size (H2 x 0) 35 := Blk.new _ _ _
      have hRz : Rp mf mg ((W2.alloc (Obj.cells (H2 x 0) 35)).alloc (Obj.cells (H2 x 0) 35)) (.slice (some ⟨(W2.alloc (Obj.cells (H2 x 0) 35)).heap.size, 0, none⟩) 1 1) [(x, 0)] := ⟨_, _, rfl, by simp, by unfold maxLen; omega, .inr ⟨_, 0, rfl, fun i hi => by
        have hi0 : i = 0 := by simpa using hi
        subst hi0
        have b0 := hBz.cell 0
        have b1 := hBz.cell 1
        simp at b0 b1
        exact ⟨by simp, by simp⟩⟩⟩
      have HRz : Hid (Rp mf mg ((W2.alloc (Obj.cells (H2 x 0) 35)).alloc (Obj.cells (H2 x 0) 35)) (.slice (some ⟨(W2.alloc (Obj.cells (H2 x 0) 35)).heap.size, 0, none⟩) 1 1) [(x, 0)]) := hRz
      clear hBz hDz hRz
      go_wp2_with (at_builtin; refine appEv rfl _ _ rfl w.heap.size (.slice av es.length cpv) es rfl HDz.out.own (.slice (some ⟨(W2.alloc (Obj.cells (H2 x 0) 35)).heap.size, 0, none⟩) 1 1) [(x, 0)] (by simp [Act.eval]) HRz.out (by have := HL.out; simp only [List.length_singleton]; omega) HDz.out.gr.size ?_)
      intro v9 w9 o9 g9 n9
      have HD9 : Hid (De w w9 g cv zs v9 (es ++ [(x, 0)])) := HDz.out.app o9 g9
      clear o9 g9 n9 HDz HRz
      go_wp2
      go_roundw
      case rel => exact ⟨j + 1, by have := HJ.out; omega, by go_num, es ++ [(x, 0)], by simp [HJ.out.2], HD9.out⟩
      case measure => have := HJ.out.1; simp [intOf]; omega
    · obtain rfl : j = N := by omega
      have hjI : ((j : Int) < (j : Int)) = False := eq_false (by omega)
      have HDE : Hid (De w wr g cv zs u5 es) := hde
      have HEL : Hid (es.length = j) := hel
      clear hde hel
      go_wp2
      go_ret
      exact ⟨_, es, rfl, by rw [HEL.out]; simp, HDE.out.own, HDE.out.dr, HDE.out.gr⟩
end Go.Proofs.Ytljejjfhlpjlfaa
namespace Go.Proofs.Ytljejjfhlpjlfaa
open Go.RowKit Go.ChangeShapes Go.WideShapes Go.ChangeAt
set_option linter.unusedVariables false
set_option linter.unusedSimpArgs false
set_option maxRecDepth 8000

theorem belowF_b {zs : List Int} {s s' : St} {n x : Int} (h : belowF zs s n = (x, s')) (hn : 0 < n) : 0 ≤ x ∧ x < n := by
  have : (belowF zs s n).1 = x := by rw [h]
  rw [← this]; exact ⟨Int.emod_nonneg _ (by omega), Int.emod_lt_of_pos _ hn⟩
/-- what is drawn of one event -/
def ysE : List Int := [1, 1, 2, 2, 3, 4, 4, 5, 5, 5, 5, 5, 6, 7]
def evF (zs : List Int) (s : St) : (Int × Int) × St :=
  if (pickF zs s ysE).1 = 3 ∨ (pickF zs s ysE).1 = 4 then (((pickF zs s ysE).1, (belowF zs (pickF zs s ysE).2 2).1), (belowF zs (pickF zs s ysE).2 2).2)
  else if (pickF zs s ysE).1 = 5 ∨ (pickF zs s ysE).1 = 6 ∨ (pickF zs s ysE).1 = 7 then (((pickF zs s ysE).1, (belowF zs (pickF zs s ysE).2 4).1 * (belowF zs (belowF zs (pickF zs s ysE).2 4).2 2).1), (belowF zs (belowF zs (pickF zs s ysE).2 4).2 2).2)
  else (((pickF zs s ysE).1, 0), (pickF zs s ysE).2)
theorem evF_a {zs : List Int} {s s1 s2 : St} {x y : Int} (h : pickF zs s ysE = (x, s1)) (hx : x = 3 ∨ x = 4) (h2 : belowF zs s1 2 = (y, s2)) : evF zs s = ((x, y), s2) := by
  unfold evF; simp only [h]; rw [if_pos hx, h2]
theorem evF_b {zs : List Int} {s s1 s2 s3 : St} {x a b : Int} (h : pickF zs s ysE = (x, s1)) (hx : x = 5 ∨ x = 6 ∨ x = 7) (h2 : belowF zs s1 4 = (a, s2)) (h3 : belowF zs s2 2 = (b, s3)) : evF zs s = ((x, a * b), s3) := by
  unfold evF; simp only [h]; rw [if_neg (by omega), if_pos hx]; simp only [h2, h3]
theorem evF_c {zs : List Int} {s s1 : St} {x : Int} (h : pickF zs s ysE = (x, s1)) (hx : ¬ (x = 3 ∨ x = 4) ∧ ¬ (x = 5 ∨ x = 6 ∨ x = 7)) : evF zs s = ((x, 0), s1) := by
  unfold evF; simp only [h]; rw [if_neg hx.1, if_neg hx.2]
def evsF (zs : List Int) : Nat → St → Mvs × St
  | 0, s => ([], s)
  | n + 1, s => ((evsF zs n s).1 ++ [(evF zs (evsF zs n s).2).1], (evF zs (evsF zs n s).2).2)
theorem evsF_len (zs : List Int) : ∀ (n : Nat) (s : St), (evsF zs n s).1.length = n
  | 0, s => rfl
  | n + 1, s => by simp [evsF, evsF_len zs n s]
theorem evsF_next {zs : List Int} {n : Nat} {s0 s s' : St} {es : Mvs} {x : Int × Int} (h : evsF zs n s0 = (es, s)) (h' : evF zs s = (x, s')) : evsF zs (n + 1) s0 = (es ++ [x], s') := by
  simp only [evsF, h, h']
structure Dy (w W : World) (g : Nat) (cv : Value) (zs : List Int) (v : Value) (es : Mvs) (s : St) : Prop where
  own : Op mf mg 35 w.heap.size W v es
  dr : Dx W g cv zs s
  gr : w.grownBy W (some g)
  lt : g < w.heap.size
  cl : zs = [] ∨ ∀ k, cv.ownBlock = some k → k < w.heap.size
section
variable {w W W' : World} {g b : Nat} {cv : Value} {zs : List Int} {v v' : Value} {es es' : Mvs} {s s' : St}
theorem Dy.below (h : Dy w W g cv zs v es s) (hb : Below W.heap.size W W') : Dy w W' g cv zs v es s :=
  ⟨h.own.below hb, h.dr.below hb, ⟨hb.os.trans h.gr.os, hb.tape.trans h.gr.tape, hb.output.trans h.gr.output, Nat.le_trans h.gr.size hb.size, fun j hj hne => (hb.block j (Nat.lt_of_lt_of_le hj h.gr.size)).trans (h.gr.block j hj hne)⟩, h.lt, h.cl⟩
theorem Dy.draw (h : Dy w W g cv zs v es s) (hd : Dx W' g cv zs s') (hg : W.grownBy W' (some g)) : Dy w W' g cv zs v es s' := by
  refine ⟨?_, hd, grown_trans h.gr hg, h.lt, h.cl⟩
  cases hv : v.ownBlock with
  | none => exact World.ownsRow.kept h.own hg (.inl hv)
  | some k => exact World.ownsRow.kept h.own hg (.inr (by rw [hv]; intro e; have := (World.ownsRow.lt h.own k hv).1; have := Option.some.inj e; have := h.lt; omega))
theorem Dy.app (h : Dy w W g cv zs v es s) (ho : Op mf mg 35 w.heap.size W' v' es') (hg : W.grownBy W' v.ownBlock) : Dy w W' g cv zs v' es' s := by
  have hne : ∀ k, v.ownBlock = some k → w.heap.size ≤ k := fun k e => (World.ownsRow.lt h.own k e).1
  have hd : Dx W' g cv zs s := by
    refine ⟨h.dr.cur.grown hg (fun e => by have := hne g e; have := h.lt; omega), h.dr.hi, h.dr.rd.grownE hg ?_, h.dr.ap, h.dr.ok, h.dr.len⟩
    rcases h.cl with h0 | h0
    · exact .inl h0
    · cases hv : cv.ownBlock with
      | none => exact .inr (.inl rfl)
      | some k => exact .inr (.inr (fun e => by have := h0 k hv; have := hne k e.symm; omega))
  exact ⟨ho, hd, ⟨hg.os.trans h.gr.os, hg.tape.trans h.gr.tape, hg.output.trans h.gr.output, Nat.le_trans h.gr.size hg.size, fun j hj hn => (hg.block j (Nat.lt_of_lt_of_le hj h.gr.size) (fun e => by have := hne j e.symm; omega)).trans (h.gr.block j hj hn)⟩, h.lt, h.cl⟩
theorem Dy.start (h : Dx w g cv zs s) : Dy w (w.alloc (Obj.cells #[] 35)) g cv zs (.slice (some ⟨w.heap.size, 0, none⟩) 0 0) [] s := by
  have hb : Below w.heap.size w (w.alloc (Obj.cells #[] 35)) := (Below.refl _ _).alloc (Nat.le_refl _) _
  refine ⟨World.ownsRow_lit w #[] 0 (Nat.le_refl _) (by simp) (by simp), h.below hb, ⟨hb.os, hb.tape, hb.output, hb.size, fun j hj _ => hb.block j hj⟩, h.lt, ?_⟩
  obtain ⟨a, cap, rfl, -, -, h3⟩ := h.rd
  rcases h3 with h3 | ⟨b, off, rfl, h4⟩
  · exact .inl h3
  · cases zs with
    | nil => exact .inl rfl
    | cons z r => exact .inr (fun k e => by simp [Value.ownBlock] at e; subst e; exact block_lt_of_cell (h4 0 (by simp)))
theorem Dy.set (h : Dy w W g cv zs v es s) (hb : w.heap.size ≤ b) (hv : ∀ k, v.ownBlock = some k → k < b) (o : Nat) (x : Value) : Dy w (W.setCell ⟨b, o, none⟩ x) g cv zs v es s := by
  have hg : W.grownBy (W.setCell ⟨b, o, none⟩ x) (some b) := grown_set _ _ _ _
  have hd : Dx (W.setCell ⟨b, o, none⟩ x) g cv zs s := by
    refine ⟨h.dr.cur.grown hg (fun e => by have := Option.some.inj e; have := h.lt; omega), h.dr.hi, h.dr.rd.grownE hg ?_, h.dr.ap, h.dr.ok, h.dr.len⟩
    rcases h.cl with h0 | h0
    · exact .inl h0
    · cases hv : cv.ownBlock with
      | none => exact .inr (.inl rfl)
      | some k => exact .inr (.inr (fun e => by have := h0 k hv; have := Option.some.inj e; omega))
  refine ⟨?_, hd, ⟨hg.os.trans h.gr.os, hg.tape.trans h.gr.tape, hg.output.trans h.gr.output, Nat.le_trans h.gr.size hg.size, fun j hj hn => (hg.block j (Nat.lt_of_lt_of_le hj h.gr.size) (fun e => by have := Option.some.inj e; omega)).trans (h.gr.block j hj hn)⟩, h.lt, h.cl⟩
  cases hv' : v.ownBlock with
  | none => exact World.ownsRow.kept h.own hg (.inl hv')
  | some k => exact World.ownsRow.kept h.own hg (.inr (by rw [hv']; intro e; have := hv k hv'; have := Option.some.inj e; omega))
end
def DyR (g : Nat) (cv : Value) (zs : List Int) (s : St) (N : Nat) (w : World) (e : Ending) (w' : World) : Prop := ∃ v', e = .returned v' ∧ Op mf mg 35 w.heap.size w' v' (evsF zs N s).1 ∧ w.grownBy w' (some g)

set_option maxHeartbeats 6400000 in
theorem drawEv_x (g : Nat) (cv : Value) (zs : List Int) (s0 : St) (N : Nat) (w : World) (h : Dx w g cv zs s0) (hn : N ≤ 1048576) :
   Calls Try.prog 34 #[.pointer (some ⟨g, 0, none⟩), .int .i64 (N : Int)] w (DyR g cv zs s0 N w) := by
  have HD : Hid (Dy w (w.alloc (Obj.cells #[] 35)) g cv zs (.slice (some ⟨w.heap.size, 0, none⟩) 0 0) [] s0) := Dy.start h
  clear h
  go_enter Try.func34, Try.ntmps34
  go_wp2
  go_loopw [5, 6] (fun o i wr => ∃ j : Nat, j ≤ N ∧ i = .int .i64 j ∧ Hid (∃ (es : Mvs) (s : St), evsF zs j s0 = (es, s) ∧ Dy w wr g cv zs o es s)) (fun _ i _ => N - (intOf i).toNat)
  case atStart => exact ⟨0, Nat.zero_le _, rfl, [], s0, rfl, HD.out⟩
  case round =>
    obtain ⟨j, hj, rfl, hrest⟩ := hrel
    obtain ⟨es, s, hev, hde⟩ := hrest.out
    clear hrest HD
    by_cases hlt : j < N
    · have hjI : (j : Int) < (N : Int) := by omega
      have hel : es.length = j := by have := evsF_len zs j s0; rw [hev] at this; exact this
      obtain ⟨W1, hW1⟩ : ∃ W, wr.alloc (Obj.cells #[Value.int .i64 1, .int .i64 1, .int .i64 2, .int .i64 2, .int .i64 3, .int .i64 4, .int .i64 4, .int .i64 5, .int .i64 5, .int .i64 5, .int .i64 5, .int .i64 5, .int .i64 6, .int .i64 7] 3) = W := ⟨_, rfl⟩
      have hD1 : Dy w W1 g cv zs u5 es s := hW1 ▸ hde.below ((Below.refl _ _).alloc (Nat.le_refl _) _)
      have hB1 : Blk W1 wr.heap.size ((ysE).map (Value.int .i64)).toArray 3 := hW1 ▸ Blk.new _ _ _
      have hgl : g < wr.heap.size := hde.dr.lt
      have HC : Hid (Calls Try.prog 56 #[.pointer (some ⟨g, 0, none⟩), .slice (some ⟨wr.heap.size, 0, none⟩) 14 14] W1 (BxR g cv zs (pickF zs s ysE) W1)) := pick_x g cv zs s _ ysE W1 hD1.dr (rdList W1 wr.heap.size ysE hB1 (by decide)) (.inr (by simp [Value.ownBlock]; omega)) (by decide) (by decide)
      have HD1 : Hid (Dy w W1 g cv zs u5 es s) := hD1
      have HEL : Hid (es.length = j) := hel
      have HEV : Hid (evsF zs j s0 = (es, s)) := hev
      obtain ⟨⟨x, s1⟩, hp⟩ : ∃ r, pickF zs s ysE = r := ⟨_, rfl⟩
      have HP : Hid (pickF zs s ysE = (x, s1)) := hp
      rw [hp] at HC
      clear hel hde hB1 hD1 hev hp
      go_wp2_with (fail)
      refine HC.out.mono ?_
      rintro e W2 ⟨he, d2, g2⟩
      simp only at he d2
      subst he
      have HD2 : Hid (Dy w W2 g cv zs u5 es s1) := HD1.out.draw d2 g2
      clear d2 g2 HC HD1 hW1
      have hge : g < W2.heap.size := HD2.out.dr.lt
      have HWS : Hid (w.heap.size ≤ W2.heap.size) := HD2.out.gr.size
      have HVE : Hid (∀ k, u5.ownBlock = some k → k < W2.heap.size) := fun k e => (World.ownsRow.lt HD2.out.own k e).2
      have hgn : W2.heap.size ≠ g := by omega
      have HD3 : Hid (Dy w (W2.alloc (Obj.cells (H2 x 0) 35)) g cv zs u5 es s1) := HD2.out.below ((Below.refl _ _).alloc (Nat.le_refl _) _)
      have HE3 : Hid (Blk (W2.alloc (Obj.cells (H2 x 0) 35)) W2.heap.size (H2 x 0) 35) := Blk.new _ _ _
      have HL : Hid (es.length + 1 ≤ 1099511627776) := by have := HEL.out; show _ ≤ _; omega
      have HJ : Hid (j < N) := hlt
      clear HD2 hgl
      by_cases h3 : x = 3
      · subst h3
        obtain ⟨⟨y, s2⟩, hp⟩ : ∃ r, belowF zs s1 2 = r := ⟨_, rfl⟩
        have HP4 : Hid (belowF zs s1 2 = (y, s2)) := hp
        have y0 : 0 ≤ y := (belowF_b hp (by decide)).1
        have y2 : y < 2 := (belowF_b hp (by decide)).2
        clear hp
        go_wp2_with (fail)
        refine (below_x g cv zs s1 2 _ HD3.out.dr (by decide) (by decide)).mono ?_
        rw [HP4.out]
        rintro e W4 ⟨he, d4, g4⟩
        simp only at he d4
        subst he
        have HD4 : Hid (Dy w W4 g cv zs u5 es s2) := HD3.out.draw d4 g4
        have HE4 : Hid (Blk W4 W2.heap.size (H2 3 0) 35) := HE3.out.grown g4 (by intro e; exact hgn (Option.some.inj e).symm)
        clear d4 g4 HD3 HE3
        have e0 := HE4.out.cell 0
        have e1 := HE4.out.cell 1
        have ef1 := HE4.out.frozen 1
        have el := HE4.out.lt
        simp at e0 e1
        have HDs : Hid (Dy w (W4.setCell ⟨W2.heap.size, 1, none⟩ (.int .i64 y)) g cv zs u5 es s2) := HD4.out.set HWS.out HVE.out 1 _
        obtain ⟨av, cpv, hv⟩ := own_form2 HDs.out.own
        subst hv
        have hDz : Dy w ((W4.setCell ⟨W2.heap.size, 1, none⟩ (.int .i64 y)).alloc (Obj.cells (H2 3 y) 35)) g cv zs (.slice av es.length cpv) es s2 := HDs.out.below ((Below.refl _ _).alloc (Nat.le_refl _) _)
        have HDz : Hid (Dy w ((W4.setCell ⟨W2.heap.size, 1, none⟩ (.int .i64 y)).alloc (Obj.cells (H2 3 y) 35)) g cv zs (.slice av es.length cpv) es s2) := hDz
        have hBz : Blk ((W4.setCell ⟨W2.heap.size, 1, none⟩ (.int .i64 y)).alloc (Obj.cells (H2 3 y) 35)) (W4.setCell ⟨W2.heap.size, 1, none⟩ (.int .i64 y)).heap.size (H2 3 y) 35 := Blk.new _ _ _
        have hRz : Rp mf mg ((W4.setCell ⟨W2.heap.size, 1, none⟩ (.int .i64 y)).alloc (Obj.cells (H2 3 y) 35)) (.slice (some ⟨(W4.setCell ⟨W2.heap.size, 1, none⟩ (.int .i64 y)).heap.size, 0, none⟩) 1 1) [(3, y)] := ⟨_, _, rfl, by simp, by unfold maxLen; omega, .inr ⟨_, 0, rfl, fun i hi => by
          have hi0 : i = 0 := by simpa using hi
          subst hi0
          have b0 := hBz.cell 0
          have b1 := hBz.cell 1
          simp at b0 b1
          exact ⟨by simpa using b0, by simpa using b1⟩⟩⟩
        have HRz : Hid (Rp mf mg ((W4.setCell ⟨W2.heap.size, 1, none⟩ (.int .i64 y)).alloc (Obj.cells (H2 3 y) 35)) (.slice (some ⟨(W4.setCell ⟨W2.heap.size, 1, none⟩ (.int .i64 y)).heap.size, 0, none⟩) 1 1) [(3, y)]) := hRz
        have HN : Hid (evsF zs (j + 1) s0 = (es ++ [(3, y)], s2)) := evsF_next HEV.out (evF_a HP.out (by decide) HP4.out)
        clear hBz hDz hRz
        go_wp2_with (at_builtin; refine appEv rfl _ _ rfl w.heap.size (.slice av es.length cpv) es rfl HDz.out.own (.slice (some ⟨(W4.setCell ⟨W2.heap.size, 1, none⟩ (.int .i64 y)).heap.size, 0, none⟩) 1 1) [(3, y)] (by simp [Act.eval]) HRz.out (by have := HL.out; simp only [List.length_singleton]; omega) HDz.out.gr.size ?_)
        intro v9 w9 o9 g9 n9
        have HD9 : Hid (Dy w w9 g cv zs v9 (es ++ [(3, y)]) s2) := HDz.out.app o9 g9
        clear o9 g9 n9 HDz HRz
        go_wp2
        go_roundw
        case rel => exact ⟨j + 1, by have := HJ.out; omega, by go_num, es ++ [(3, y)], s2, HN.out, HD9.out⟩
        case measure => have := HJ.out; simp [intOf]; omega
      have h3b : (x == 3) = false := by simpa using h3
      by_cases h4 : x = 4
      · subst h4
        obtain ⟨⟨y, s2⟩, hp⟩ : ∃ r, belowF zs s1 2 = r := ⟨_, rfl⟩
        have HP4 : Hid (belowF zs s1 2 = (y, s2)) := hp
        have y0 : 0 ≤ y := (belowF_b hp (by decide)).1
        have y2 : y < 2 := (belowF_b hp (by decide)).2
        clear hp
        go_wp2_with (fail)
        refine (below_x g cv zs s1 2 _ HD3.out.dr (by decide) (by decide)).mono ?_
        rw [HP4.out]
        rintro e W4 ⟨he, d4, g4⟩
        simp only at he d4
        subst he
        have HD4 : Hid (Dy w W4 g cv zs u5 es s2) := HD3.out.draw d4 g4
        have HE4 : Hid (Blk W4 W2.heap.size (H2 4 0) 35) := HE3.out.grown g4 (by intro e; exact hgn (Option.some.inj e).symm)
        clear d4 g4 HD3 HE3
        have e0 := HE4.out.cell 0
        have e1 := HE4.out.cell 1
        have ef1 := HE4.out.frozen 1
        have el := HE4.out.lt
        simp at e0 e1
        have HDs : Hid (Dy w (W4.setCell ⟨W2.heap.size, 1, none⟩ (.int .i64 y)) g cv zs u5 es s2) := HD4.out.set HWS.out HVE.out 1 _
        obtain ⟨av, cpv, hv⟩ := own_form2 HDs.out.own
        subst hv
        have hDz : Dy w ((W4.setCell ⟨W2.heap.size, 1, none⟩ (.int .i64 y)).alloc (Obj.cells (H2 4 y) 35)) g cv zs (.slice av es.length cpv) es s2 := HDs.out.below ((Below.refl _ _).alloc (Nat.le_refl _) _)
        have HDz : Hid (Dy w ((W4.setCell ⟨W2.heap.size, 1, none⟩ (.int .i64 y)).alloc (Obj.cells (H2 4 y) 35)) g cv zs (.slice av es.length cpv) es s2) := hDz
        have hBz : Blk ((W4.setCell ⟨W2.heap.size, 1, none⟩ (.int .i64 y)).alloc (Obj.cells (H2 4 y) 35)) (W4.setCell ⟨W2.heap.size, 1, none⟩ (.int .i64 y)).heap.size (H2 4 y) 35 := Blk.new _ _ _
        have hRz : Rp mf mg ((W4.setCell ⟨W2.heap.size, 1, none⟩ (.int .i64 y)).alloc (Obj.cells (H2 4 y) 35)) (.slice (some ⟨(W4.setCell ⟨W2.heap.size, 1, none⟩ (.int .i64 y)).heap.size, 0, none⟩) 1 1) [(4, y)] := ⟨_, _, rfl, by simp, by unfold maxLen; omega, .inr ⟨_, 0, rfl, fun i hi => by
          have hi0 : i = 0 := by simpa using hi
          subst hi0
          have b0 := hBz.cell 0
          have b1 := hBz.cell 1
          simp at b0 b1
          exact ⟨by simpa using b0, by simpa using b1⟩⟩⟩
        have HRz : Hid (Rp mf mg ((W4.setCell ⟨W2.heap.size, 1, none⟩ (.int .i64 y)).alloc (Obj.cells (H2 4 y) 35)) (.slice (some ⟨(W4.setCell ⟨W2.heap.size, 1, none⟩ (.int .i64 y)).heap.size, 0, none⟩) 1 1) [(4, y)]) := hRz
        have HN : Hid (evsF zs (j + 1) s0 = (es ++ [(4, y)], s2)) := evsF_next HEV.out (evF_a HP.out (by decide) HP4.out)
        clear hBz hDz hRz
        go_wp2_with (at_builtin; refine appEv rfl _ _ rfl w.heap.size (.slice av es.length cpv) es rfl HDz.out.own (.slice (some ⟨(W4.setCell ⟨W2.heap.size, 1, none⟩ (.int .i64 y)).heap.size, 0, none⟩) 1 1) [(4, y)] (by simp [Act.eval]) HRz.out (by have := HL.out; simp only [List.length_singleton]; omega) HDz.out.gr.size ?_)
        intro v9 w9 o9 g9 n9
        have HD9 : Hid (Dy w w9 g cv zs v9 (es ++ [(4, y)]) s2) := HDz.out.app o9 g9
        clear o9 g9 n9 HDz HRz
        go_wp2
        go_roundw
        case rel => exact ⟨j + 1, by have := HJ.out; omega, by go_num, es ++ [(4, y)], s2, HN.out, HD9.out⟩
        case measure => have := HJ.out; simp [intOf]; omega
      have h4b : (x == 4) = false := by simpa using h4
      by_cases h5 : x = 5
      · subst h5
        obtain ⟨⟨a, s2⟩, hp⟩ : ∃ r, belowF zs s1 4 = r := ⟨_, rfl⟩
        have HP4 : Hid (belowF zs s1 4 = (a, s2)) := hp
        have a0 : 0 ≤ a := (belowF_b hp (by decide)).1
        have a2 : a < 4 := (belowF_b hp (by decide)).2
        clear hp
        go_wp2_with (fail)
        refine (below_x g cv zs s1 4 _ HD3.out.dr (by decide) (by decide)).mono ?_
        rw [HP4.out]
        rintro e W4 ⟨he, d4, g4⟩
        simp only at he d4
        subst he
        have HD4 : Hid (Dy w W4 g cv zs u5 es s2) := HD3.out.draw d4 g4
        have HE4 : Hid (Blk W4 W2.heap.size (H2 5 0) 35) := HE3.out.grown g4 (by intro e; exact hgn (Option.some.inj e).symm)
        clear d4 g4 HD3 HE3
        obtain ⟨⟨b, s3⟩, hp⟩ : ∃ r, belowF zs s2 2 = r := ⟨_, rfl⟩
        have HP5 : Hid (belowF zs s2 2 = (b, s3)) := hp
        have b0 : 0 ≤ b := (belowF_b hp (by decide)).1
        have b2 : b < 2 := (belowF_b hp (by decide)).2
        clear hp
        go_wp2_with (fail)
        refine (below_x g cv zs s2 2 _ HD4.out.dr (by decide) (by decide)).mono ?_
        rw [HP5.out]
        rintro e W5 ⟨he, d5, g5⟩
        simp only at he d5
        subst he
        have HD5 : Hid (Dy w W5 g cv zs u5 es s3) := HD4.out.draw d5 g5
        have HE5 : Hid (Blk W5 W2.heap.size (H2 5 0) 35) := HE4.out.grown g5 (by intro e; exact hgn (Option.some.inj e).symm)
        clear d5 g5 HD4 HE4
        have e0 := HE5.out.cell 0
        have e1 := HE5.out.cell 1
        have ef1 := HE5.out.frozen 1
        have el := HE5.out.lt
        simp at e0 e1
        rcases (show b = 0 ∨ b = 1 by omega) with rfl | rfl
        · have HDs : Hid (Dy w (W5.setCell ⟨W2.heap.size, 1, none⟩ (.int .i64 0)) g cv zs u5 es s3) := HD5.out.set HWS.out HVE.out 1 _
          obtain ⟨av, cpv, hv⟩ := own_form2 HDs.out.own
          subst hv
          have hDz : Dy w ((W5.setCell ⟨W2.heap.size, 1, none⟩ (.int .i64 0)).alloc (Obj.cells (H2 5 0) 35)) g cv zs (.slice av es.length cpv) es s3 := HDs.out.below ((Below.refl _ _).alloc (Nat.le_refl _) _)
          have HDz : Hid (Dy w ((W5.setCell ⟨W2.heap.size, 1, none⟩ (.int .i64 0)).alloc (Obj.cells (H2 5 0) 35)) g cv zs (.slice av es.length cpv) es s3) := hDz
          have hBz : Blk ((W5.setCell ⟨W2.heap.size, 1, none⟩ (.int .i64 0)).alloc (Obj.cells (H2 5 0) 35)) (W5.setCell ⟨W2.heap.size, 1, none⟩ (.int .i64 0)).heap.size (H2 5 0) 35 := Blk.new _ _ _
          have hRz : Rp mf mg ((W5.setCell ⟨W2.heap.size, 1, none⟩ (.int .i64 0)).alloc (Obj.cells (H2 5 0) 35)) (.slice (some ⟨(W5.setCell ⟨W2.heap.size, 1, none⟩ (.int .i64 0)).heap.size, 0, none⟩) 1 1) [(5, 0)] := ⟨_, _, rfl, by simp, by unfold maxLen; omega, .inr ⟨_, 0, rfl, fun i hi => by
            have hi0 : i = 0 := by simpa using hi
            subst hi0
            have b0 := hBz.cell 0
            have b1 := hBz.cell 1
            simp at b0 b1
            exact ⟨by simpa using b0, by simpa using b1⟩⟩⟩
          have HRz : Hid (Rp mf mg ((W5.setCell ⟨W2.heap.size, 1, none⟩ (.int .i64 0)).alloc (Obj.cells (H2 5 0) 35)) (.slice (some ⟨(W5.setCell ⟨W2.heap.size, 1, none⟩ (.int .i64 0)).heap.size, 0, none⟩) 1 1) [(5, 0)]) := hRz
          have HN : Hid (evsF zs (j + 1) s0 = (es ++ [(5, 0)], s3)) := evsF_next HEV.out (by have := evF_b HP.out (by decide) HP4.out HP5.out; simpa using this)
          clear hBz hDz hRz
          go_wp2_with (at_builtin; refine appEv rfl _ _ rfl w.heap.size (.slice av es.length cpv) es rfl HDz.out.own (.slice (some ⟨(W5.setCell ⟨W2.heap.size, 1, none⟩ (.int .i64 0)).heap.size, 0, none⟩) 1 1) [(5, 0)] (by simp [Act.eval]) HRz.out (by have := HL.out; simp only [List.length_singleton]; omega) HDz.out.gr.size ?_)
          intro v9 w9 o9 g9 n9
          have HD9 : Hid (Dy w w9 g cv zs v9 (es ++ [(5, 0)]) s3) := HDz.out.app o9 g9
          clear o9 g9 n9 HDz HRz
          go_wp2
          go_roundw
          case rel => exact ⟨j + 1, by have := HJ.out; omega, by go_num, es ++ [(5, 0)], s3, HN.out, HD9.out⟩
          case measure => have := HJ.out; simp [intOf]; omega
        · have HDs : Hid (Dy w (W5.setCell ⟨W2.heap.size, 1, none⟩ (.int .i64 a)) g cv zs u5 es s3) := HD5.out.set HWS.out HVE.out 1 _
          obtain ⟨av, cpv, hv⟩ := own_form2 HDs.out.own
          subst hv
          have hDz : Dy w ((W5.setCell ⟨W2.heap.size, 1, none⟩ (.int .i64 a)).alloc (Obj.cells (H2 5 a) 35)) g cv zs (.slice av es.length cpv) es s3 := HDs.out.below ((Below.refl _ _).alloc (Nat.le_refl _) _)
          have HDz : Hid (Dy w ((W5.setCell ⟨W2.heap.size, 1, none⟩ (.int .i64 a)).alloc (Obj.cells (H2 5 a) 35)) g cv zs (.slice av es.length cpv) es s3) := hDz
          have hBz : Blk ((W5.setCell ⟨W2.heap.size, 1, none⟩ (.int .i64 a)).alloc (Obj.cells (H2 5 a) 35)) (W5.setCell ⟨W2.heap.size, 1, none⟩ (.int .i64 a)).heap.size (H2 5 a) 35 := Blk.new _ _ _
          have hRz : Rp mf mg ((W5.setCell ⟨W2.heap.size, 1, none⟩ (.int .i64 a)).alloc (Obj.cells (H2 5 a) 35)) (.slice (some ⟨(W5.setCell ⟨W2.heap.size, 1, none⟩ (.int .i64 a)).heap.size, 0, none⟩) 1 1) [(5, a)] := ⟨_, _, rfl, by simp, by unfold maxLen; omega, .inr ⟨_, 0, rfl, fun i hi => by
            have hi0 : i = 0 := by simpa using hi
            subst hi0
            have b0 := hBz.cell 0
            have b1 := hBz.cell 1
            simp at b0 b1
            exact ⟨by simpa using b0, by simpa using b1⟩⟩⟩
          have HRz : Hid (Rp mf mg ((W5.setCell ⟨W2.heap.size, 1, none⟩ (.int .i64 a)).alloc (Obj.cells (H2 5 a) 35)) (.slice (some ⟨(W5.setCell ⟨W2.heap.size, 1, none⟩ (.int .i64 a)).heap.size, 0, none⟩) 1 1) [(5, a)]) := hRz
          have HN : Hid (evsF zs (j + 1) s0 = (es ++ [(5, a)], s3)) := evsF_next HEV.out (by have := evF_b HP.out (by decide) HP4.out HP5.out; simpa using this)
          clear hBz hDz hRz
          go_wp2_with (at_builtin; refine appEv rfl _ _ rfl w.heap.size (.slice av es.length cpv) es rfl HDz.out.own (.slice (some ⟨(W5.setCell ⟨W2.heap.size, 1, none⟩ (.int .i64 a)).heap.size, 0, none⟩) 1 1) [(5, a)] (by simp [Act.eval]) HRz.out (by have := HL.out; simp only [List.length_singleton]; omega) HDz.out.gr.size ?_)
          intro v9 w9 o9 g9 n9
          have HD9 : Hid (Dy w w9 g cv zs v9 (es ++ [(5, a)]) s3) := HDz.out.app o9 g9
          clear o9 g9 n9 HDz HRz
          go_wp2
          go_roundw
          case rel => exact ⟨j + 1, by have := HJ.out; omega, by go_num, es ++ [(5, a)], s3, HN.out, HD9.out⟩
          case measure => have := HJ.out; simp [intOf]; omega
      have h5b : (x == 5) = false := by simpa using h5
      by_cases h6 : x = 6
      · subst h6
        obtain ⟨⟨a, s2⟩, hp⟩ : ∃ r, belowF zs s1 4 = r := ⟨_, rfl⟩
        have HP4 : Hid (belowF zs s1 4 = (a, s2)) := hp
        have a0 : 0 ≤ a := (belowF_b hp (by decide)).1
        have a2 : a < 4 := (belowF_b hp (by decide)).2
        clear hp
        go_wp2_with (fail)
        refine (below_x g cv zs s1 4 _ HD3.out.dr (by decide) (by decide)).mono ?_
        rw [HP4.out]
        rintro e W4 ⟨he, d4, g4⟩
        simp only at he d4
        subst he
        have HD4 : Hid (Dy w W4 g cv zs u5 es s2) := HD3.out.draw d4 g4
        have HE4 : Hid (Blk W4 W2.heap.size (H2 6 0) 35) := HE3.out.grown g4 (by intro e; exact hgn (Option.some.inj e).symm)
        clear d4 g4 HD3 HE3
        obtain ⟨⟨b, s3⟩, hp⟩ : ∃ r, belowF zs s2 2 = r := ⟨_, rfl⟩
        have HP5 : Hid (belowF zs s2 2 = (b, s3)) := hp
        have b0 : 0 ≤ b := (belowF_b hp (by decide)).1
        have b2 : b < 2 := (belowF_b hp (by decide)).2
        clear hp
        go_wp2_with (fail)
        refine (below_x g cv zs s2 2 _ HD4.out.dr (by decide) (by decide)).mono ?_
        rw [HP5.out]
        rintro e W5 ⟨he, d5, g5⟩
        simp only at he d5
        subst he
        have HD5 : Hid (Dy w W5 g cv zs u5 es s3) := HD4.out.draw d5 g5
        have HE5 : Hid (Blk W5 W2.heap.size (H2 6 0) 35) := HE4.out.grown g5 (by intro e; exact hgn (Option.some.inj e).symm)
        clear d5 g5 HD4 HE4
        have e0 := HE5.out.cell 0
        have e1 := HE5.out.cell 1
        have ef1 := HE5.out.frozen 1
        have el := HE5.out.lt
        simp at e0 e1
        rcases (show b = 0 ∨ b = 1 by omega) with rfl | rfl
        · have HDs : Hid (Dy w (W5.setCell ⟨W2.heap.size, 1, none⟩ (.int .i64 0)) g cv zs u5 es s3) := HD5.out.set HWS.out HVE.out 1 _
          obtain ⟨av, cpv, hv⟩ := own_form2 HDs.out.own
          subst hv
          have hDz : Dy w ((W5.setCell ⟨W2.heap.size, 1, none⟩ (.int .i64 0)).alloc (Obj.cells (H2 6 0) 35)) g cv zs (.slice av es.length cpv) es s3 := HDs.out.below ((Below.refl _ _).alloc (Nat.le_refl _) _)
          have HDz : Hid (Dy w ((W5.setCell ⟨W2.heap.size, 1, none⟩ (.int .i64 0)).alloc (Obj.cells (H2 6 0) 35)) g cv zs (.slice av es.length cpv) es s3) := hDz
          have hBz : Blk ((W5.setCell ⟨W2.heap.size, 1, none⟩ (.int .i64 0)).alloc (Obj.cells (H2 6 0) 35)) (W5.setCell ⟨W2.heap.size, 1, none⟩ (.int .i64 0)).heap.size (H2 6 0) 35 := Blk.new _ _ _
          have hRz : Rp mf mg ((W5.setCell ⟨W2.heap.size, 1, none⟩ (.int .i64 0)).alloc (Obj.cells (H2 6 0) 35)) (.slice (some ⟨(W5.setCell ⟨W2.heap.size, 1, none⟩ (.int .i64 0)).heap.size, 0, none⟩) 1 1) [(6, 0)] := ⟨_, _, rfl, by simp, by unfold maxLen; omega, .inr ⟨_, 0, rfl, fun i hi => by
            have hi0 : i = 0 := by simpa using hi
            subst hi0
            have b0 := hBz.cell 0
            have b1 := hBz.cell 1
            simp at b0 b1
            exact ⟨by simpa using b0, by simpa using b1⟩⟩⟩
          have HRz : Hid (Rp mf mg ((W5.setCell ⟨W2.heap.size, 1, none⟩ (.int .i64 0)).alloc (Obj.cells (H2 6 0) 35)) (.slice (some ⟨(W5.setCell ⟨W2.heap.size, 1, none⟩ (.int .i64 0)).heap.size, 0, none⟩) 1 1) [(6, 0)]) := hRz
          have HN : Hid (evsF zs (j + 1) s0 = (es ++ [(6, 0)], s3)) := evsF_next HEV.out (by have := evF_b HP.out (by decide) HP4.out HP5.out; simpa using this)
          clear hBz hDz hRz
          go_wp2_with (at_builtin; refine appEv rfl _ _ rfl w.heap.size (.slice av es.length cpv) es rfl HDz.out.own (.slice (some ⟨(W5.setCell ⟨W2.heap.size, 1, none⟩ (.int .i64 0)).heap.size, 0, none⟩) 1 1) [(6, 0)] (by simp [Act.eval]) HRz.out (by have := HL.out; simp only [List.length_singleton]; omega) HDz.out.gr.size ?_)
          intro v9 w9 o9 g9 n9
          have HD9 : Hid (Dy w w9 g cv zs v9 (es ++ [(6, 0)]) s3) := HDz.out.app o9 g9
          clear o9 g9 n9 HDz HRz
          go_wp2
          go_roundw
          case rel => exact ⟨j + 1, by have := HJ.out; omega, by go_num, es ++ [(6, 0)], s3, HN.out, HD9.out⟩
          case measure => have := HJ.out; simp [intOf]; omega
        · have HDs : Hid (Dy w (W5.setCell ⟨W2.heap.size, 1, none⟩ (.int .i64 a)) g cv zs u5 es s3) := HD5.out.set HWS.out HVE.out 1 _
          obtain ⟨av, cpv, hv⟩ := own_form2 HDs.out.own
          subst hv
          have hDz : Dy w ((W5.setCell ⟨W2.heap.size, 1, none⟩ (.int .i64 a)).alloc (Obj.cells (H2 6 a) 35)) g cv zs (.slice av es.length cpv) es s3 := HDs.out.below ((Below.refl _ _).alloc (Nat.le_refl _) _)
          have HDz : Hid (Dy w ((W5.setCell ⟨W2.heap.size, 1, none⟩ (.int .i64 a)).alloc (Obj.cells (H2 6 a) 35)) g cv zs (.slice av es.length cpv) es s3) := hDz
          have hBz : Blk ((W5.setCell ⟨W2.heap.size, 1, none⟩ (.int .i64 a)).alloc (Obj.cells (H2 6 a) 35)) (W5.setCell ⟨W2.heap.size, 1, none⟩ (.int .i64 a)).heap.size (H2 6 a) 35 := Blk.new _ _ _
          have hRz : Rp mf mg ((W5.setCell ⟨W2.heap.size, 1, none⟩ (.int .i64 a)).alloc (Obj.cells (H2 6 a) 35)) (.slice (some ⟨(W5.setCell ⟨W2.heap.size, 1, none⟩ (.int .i64 a)).heap.size, 0, none⟩) 1 1) [(6, a)] := ⟨_, _, rfl, by simp, by unfold maxLen; omega, .inr ⟨_, 0, rfl, fun i hi => by
            have hi0 : i = 0 := by simpa using hi
            subst hi0
            have b0 := hBz.cell 0
            have b1 := hBz.cell 1
            simp at b0 b1
            exact ⟨by simpa using b0, by simpa using b1⟩⟩⟩
          have HRz : Hid (Rp mf mg ((W5.setCell ⟨W2.heap.size, 1, none⟩ (.int .i64 a)).alloc (Obj.cells (H2 6 a) 35)) (.slice (some ⟨(W5.setCell ⟨W2.heap.size, 1, none⟩ (.int .i64 a)).heap.size, 0, none⟩) 1 1) [(6, a)]) := hRz
          have HN : Hid (evsF zs (j + 1) s0 = (es ++ [(6, a)], s3)) := evsF_next HEV.out (by have := evF_b HP.out (by decide) HP4.out HP5.out; simpa using this)
          clear hBz hDz hRz
          go_wp2_with (at_builtin; refine appEv rfl _ _ rfl w.heap.size (.slice av es.length cpv) es rfl HDz.out.own (.slice (some ⟨(W5.setCell ⟨W2.heap.size, 1, none⟩ (.int .i64 a)).heap.size, 0, none⟩) 1 1) [(6, a)] (by simp [Act.eval]) HRz.out (by have := HL.out; simp only [List.length_singleton]; omega) HDz.out.gr.size ?_)
          intro v9 w9 o9 g9 n9
          have HD9 : Hid (Dy w w9 g cv zs v9 (es ++ [(6, a)]) s3) := HDz.out.app o9 g9
          clear o9 g9 n9 HDz HRz
          go_wp2
          go_roundw
          case rel => exact ⟨j + 1, by have := HJ.out; omega, by go_num, es ++ [(6, a)], s3, HN.out, HD9.out⟩
          case measure => have := HJ.out; simp [intOf]; omega
      have h6b : (x == 6) = false := by simpa using h6
      by_cases h7 : x = 7
      · subst h7
        obtain ⟨⟨a, s2⟩, hp⟩ : ∃ r, belowF zs s1 4 = r := ⟨_, rfl⟩
        have HP4 : Hid (belowF zs s1 4 = (a, s2)) := hp
        have a0 : 0 ≤ a := (belowF_b hp (by decide)).1
        have a2 : a < 4 := (belowF_b hp (by decide)).2
        clear hp
        go_wp2_with (fail)
        refine (below_x g cv zs s1 4 _ HD3.out.dr (by decide) (by decide)).mono ?_
        rw [HP4.out]
        rintro e W4 ⟨he, d4, g4⟩
        simp only at he d4
        subst he
        have HD4 : Hid (Dy w W4 g cv zs u5 es s2) := HD3.out.draw d4 g4
        have HE4 : Hid (Blk W4 W2.heap.size (H2 7 0) 35) := HE3.out.grown g4 (by intro e; exact hgn (Option.some.inj e).symm)
        clear d4 g4 HD3 HE3
        obtain ⟨⟨b, s3⟩, hp⟩ : ∃ r, belowF zs s2 2 = r := ⟨_, rfl⟩
        have HP5 : Hid (belowF zs s2 2 = (b, s3)) := hp
        have b0 : 0 ≤ b := (belowF_b hp (by decide)).1
        have b2 : b < 2 := (belowF_b hp (by decide)).2
        clear hp
        go_wp2_with (fail)
        refine (below_x g cv zs s2 2 _ HD4.out.dr (by decide) (by decide)).mono ?_
        rw [HP5.out]
        rintro e W5 ⟨he, d5, g5⟩
        simp only at he d5
        subst he
        have HD5 : Hid (Dy w W5 g cv zs u5 es s3) := HD4.out.draw d5 g5
        have HE5 : Hid (Blk W5 W2.heap.size (H2 7 0) 35) := HE4.out.grown g5 (by intro e; exact hgn (Option.some.inj e).symm)
        clear d5 g5 HD4 HE4
        have e0 := HE5.out.cell 0
        have e1 := HE5.out.cell 1
        have ef1 := HE5.out.frozen 1
        have el := HE5.out.lt
        simp at e0 e1
        rcases (show b = 0 ∨ b = 1 by omega) with rfl | rfl
        · have HDs : Hid (Dy w (W5.setCell ⟨W2.heap.size, 1, none⟩ (.int .i64 0)) g cv zs u5 es s3) := HD5.out.set HWS.out HVE.out 1 _
          obtain ⟨av, cpv, hv⟩ := own_form2 HDs.out.own
          subst hv
          have hDz : Dy w ((W5.setCell ⟨W2.heap.size, 1, none⟩ (.int .i64 0)).alloc (Obj.cells (H2 7 0) 35)) g cv zs (.slice av es.length cpv) es s3 := HDs.out.below ((Below.refl _ _).alloc (Nat.le_refl _) _)
          have HDz : Hid (Dy w ((W5.setCell ⟨W2.heap.size, 1, none⟩ (.int .i64 0)).alloc (Obj.cells (H2 7 0) 35)) g cv zs (.slice av es.length cpv) es s3) := hDz
          have hBz : Blk ((W5.setCell ⟨W2.heap.size, 1, none⟩ (.int .i64 0)).alloc (Obj.cells (H2 7 0) 35)) (W5.setCell ⟨W2.heap.size, 1, none⟩ (.int .i64 0)).heap.size (H2 7 0) 35 := Blk.new _ _ _
          have hRz : Rp mf mg ((W5.setCell ⟨W2.heap.size, 1, none⟩ (.int .i64 0)).alloc (Obj.cells (H2 7 0) 35)) (.slice (some ⟨(W5.setCell ⟨W2.heap.size, 1, none⟩ (.int .i64 0)).heap.size, 0, none⟩) 1 1) [(7, 0)] := ⟨_, _, rfl, by simp, by unfold maxLen; omega, .inr ⟨_, 0, rfl, fun i hi => by
            have hi0 : i = 0 := by simpa using hi
            subst hi0
            have b0 := hBz.cell 0
            have b1 := hBz.cell 1
            simp at b0 b1
            exact ⟨by simpa using b0, by simpa using b1⟩⟩⟩
          have HRz : Hid (Rp mf mg ((W5.setCell ⟨W2.heap.size, 1, none⟩ (.int .i64 0)).alloc (Obj.cells (H2 7 0) 35)) (.slice (some ⟨(W5.setCell ⟨W2.heap.size, 1, none⟩ (.int .i64 0)).heap.size, 0, none⟩) 1 1) [(7, 0)]) := hRz
          have HN : Hid (evsF zs (j + 1) s0 = (es ++ [(7, 0)], s3)) := evsF_next HEV.out (by have := evF_b HP.out (by decide) HP4.out HP5.out; simpa using this)
          clear hBz hDz hRz
          go_wp2_with (at_builtin; refine appEv rfl _ _ rfl w.heap.size (.slice av es.length cpv) es rfl HDz.out.own (.slice (some ⟨(W5.setCell ⟨W2.heap.size, 1, none⟩ (.int .i64 0)).heap.size, 0, none⟩) 1 1) [(7, 0)] (by simp [Act.eval]) HRz.out (by have := HL.out; simp only [List.length_singleton]; omega) HDz.out.gr.size ?_)
          intro v9 w9 o9 g9 n9
          have HD9 : Hid (Dy w w9 g cv zs v9 (es ++ [(7, 0)]) s3) := HDz.out.app o9 g9
          clear o9 g9 n9 HDz HRz
          go_wp2
          go_roundw
          case rel => exact ⟨j + 1, by have := HJ.out; omega, by go_num, es ++ [(7, 0)], s3, HN.out, HD9.out⟩
          case measure => have := HJ.out; simp [intOf]; omega
        · have HDs : Hid (Dy w (W5.setCell ⟨W2.heap.size, 1, none⟩ (.int .i64 a)) g cv zs u5 es s3) := HD5.out.set HWS.out HVE.out 1 _
          obtain ⟨av, cpv, hv⟩ := own_form2 HDs.out.own
          subst hv
          have hDz : Dy w ((W5.setCell ⟨W2.heap.size, 1, none⟩ (.int .i64 a)).alloc (Obj.cells (H2 7 a) 35)) g cv zs (.slice av es.length cpv) es s3 := HDs.out.below ((Below.refl _ _).alloc (Nat.le_refl _) _)
          have HDz : Hid (Dy w ((W5.setCell ⟨W2.heap.size, 1, none⟩ (.int .i64 a)).alloc (Obj.cells (H2 7 a) 35)) g cv zs (.slice av es.length cpv) es s3) := hDz
          have hBz : Blk ((W5.setCell ⟨W2.heap.size, 1, none⟩ (.int .i64 a)).alloc (Obj.cells (H2 7 a) 35)) (W5.setCell ⟨W2.heap.size, 1, none⟩ (.int .i64 a)).heap.size (H2 7 a) 35 := Blk.new _ _ _
          have hRz : Rp mf mg ((W5.setCell ⟨W2.heap.size, 1, none⟩ (.int .i64 a)).alloc (Obj.cells (H2 7 a) 35)) (.slice (some ⟨(W5.setCell ⟨W2.heap.size, 1, none⟩ (.int .i64 a)).heap.size, 0, none⟩) 1 1) [(7, a)] := ⟨_, _, rfl, by simp, by unfold maxLen; omega, .inr ⟨_, 0, rfl, fun i hi => by
            have hi0 : i = 0 := by simpa using hi
            subst hi0
            have b0 := hBz.cell 0
            have b1 := hBz.cell 1
            simp at b0 b1
            exact ⟨by simpa using b0, by simpa using b1⟩⟩⟩
          have HRz : Hid (Rp mf mg ((W5.setCell ⟨W2.heap.size, 1, none⟩ (.int .i64 a)).alloc (Obj.cells (H2 7 a) 35)) (.slice (some ⟨(W5.setCell ⟨W2.heap.size, 1, none⟩ (.int .i64 a)).heap.size, 0, none⟩) 1 1) [(7, a)]) := hRz
          have HN : Hid (evsF zs (j + 1) s0 = (es ++ [(7, a)], s3)) := evsF_next HEV.out (by have := evF_b HP.out (by decide) HP4.out HP5.out; simpa using this)
          clear hBz hDz hRz
          go_wp2_with (at_builtin; refine appEv rfl _ _ rfl w.heap.size (.slice av es.length cpv) es rfl HDz.out.own (.slice (some ⟨(W5.setCell ⟨W2.heap.size, 1, none⟩ (.int .i64 a)).heap.size, 0, none⟩) 1 1) [(7, a)] (by simp [Act.eval]) HRz.out (by have := HL.out; simp only [List.length_singleton]; omega) HDz.out.gr.size ?_)
          intro v9 w9 o9 g9 n9
          have HD9 : Hid (Dy w w9 g cv zs v9 (es ++ [(7, a)]) s3) := HDz.out.app o9 g9
          clear o9 g9 n9 HDz HRz
          go_wp2
          go_roundw
          case rel => exact ⟨j + 1, by have := HJ.out; omega, by go_num, es ++ [(7, a)], s3, HN.out, HD9.out⟩
          case measure => have := HJ.out; simp [intOf]; omega
      have h7b : (x == 7) = false := by simpa using h7
      have HXX : Hid (¬ (x = 3 ∨ x = 4) ∧ ¬ (x = 5 ∨ x = 6 ∨ x = 7)) := ⟨by omega, by omega⟩
      obtain ⟨av, cpv, hv⟩ := own_form2 HD3.out.own
      subst hv
      have hDz : Dy w ((W2.alloc (Obj.cells (H2 x 0) 35)).alloc (Obj.cells (H2 x 0) 35)) g cv zs (.slice av es.length cpv) es s1 := HD3.out.below ((Below.refl _ _).alloc (Nat.le_refl _) _)
      have HDz : Hid (Dy w ((W2.alloc (Obj.cells (H2 x 0) 35)).alloc (Obj.cells (H2 x 0) 35)) g cv zs (.slice av es.length cpv) es s1) := hDz
      have hBz : Blk ((W2.alloc (Obj.cells (H2 x 0) 35)).alloc (Obj.cells (H2 x 0) 35)) (W2.alloc (Obj.cells (H2 x 0) 35)).heap.size (H2 x 0) 35 := Blk.new _ _ _
      have hRz : Rp mf mg ((W2.alloc (Obj.cells (H2 x 0) 35)).alloc (Obj.cells (H2 x 0) 35)) (.slice (some ⟨(W2.alloc (Obj.cells (H2 x 0) 35)).heap.size, 0, none⟩) 1 1) [(x, 0)] := ⟨_, _, rfl, by simp, by unfold maxLen; omega, .inr ⟨_, 0, rfl, fun i hi => by
        have hi0 : i = 0 := by simpa using hi
        subst hi0
        have b0 := hBz.cell 0
        have b1 := hBz.cell 1
        simp at b0 b1
        exact ⟨by simp, by simp⟩⟩⟩
      have HRz : Hid (Rp mf mg ((W2.alloc (Obj.cells (H2 x 0) 35)).alloc (Obj.cells (H2 x 0) 35)) (.slice (some ⟨(W2.alloc (Obj.cells (H2 x 0) 35)).heap.size, 0, none⟩) 1 1) [(x, 0)]) := hRz
      have HN : Hid (evsF zs (j + 1) s0 = (es ++ [(x, 0)], s1)) := evsF_next HEV.out (evF_c HP.out HXX.out)
      clear hBz hDz hRz
      go_wp2_with (at_builtin; refine appEv rfl _ _ rfl w.heap.size (.slice av es.length cpv) es rfl HDz.out.own (.slice (some ⟨(W2.alloc (Obj.cells (H2 x 0) 35)).heap.size, 0, none⟩) 1 1) [(x, 0)] (by simp [Act.eval]) HRz.out (by have := HL.out; simp only [List.length_singleton]; omega) HDz.out.gr.size ?_)
      intro v9 w9 o9 g9 n9
      have HD9 : Hid (Dy w w9 g cv zs v9 (es ++ [(x, 0)]) s1) := HDz.out.app o9 g9
      clear o9 g9 n9 HDz HRz
      go_wp2
      go_roundw
      case rel => exact ⟨j + 1, by have := HJ.out; omega, by go_num, es ++ [(x, 0)], s1, HN.out, HD9.out⟩
      case measure => have := HJ.out; simp [intOf]; omega
    · obtain rfl : N = j := by omega
      have HF : Hid (Op mf mg 35 w.heap.size wr u5 (evsF zs N s0).1 ∧ w.grownBy wr (some g)) := by rw [hev]; exact ⟨hde.own, hde.gr⟩
      have hjI : ((N : Int) < (N : Int)) = False := eq_false (by omega)
      clear hde hev
      go_wp2
      go_ret
      exact ⟨_, rfl, HF.out⟩
end Go.Proofs.Ytljejjfhlpjlfaa
namespace Go.Proofs.Ytljejjfhlpjlfaa
open Go.RowKit Go.ChangeShapes Go.WideShapes Go.ChangeAt
set_option linter.unusedVariables false
set_option linter.unusedSimpArgs false
set_option maxRecDepth 8000
def seedN (zs : List Int) : Nat → Int
  | 0 => 71933 + (zs.length : Int)
  | j + 1 => bits .and .i64 (wrap64 (wrap64 (wrap64 (seedN zs j * 131) + wrap64 (zs.getD j 0)) + 7)) 1073741823
def seedF (zs : List Int) : Int := seedN zs (min zs.length 4000)
def sizeF (zs : List Int) : Int := if (20 : Int) < 2 + (zs.length : Int) / 20 then 20 else 2 + (zs.length : Int) / 20
theorem sizeF_b (zs : List Int) : 2 ≤ sizeF zs ∧ sizeF zs ≤ 20 := by unfold sizeF; split <;> omega
theorem size_x (v : Value) (zs : List Int) (w : World) (h : Rd .u8 w v zs) :
   Calls Try.prog 36 #[v, .int .i64 20] w fun e w' => e = .returned (.int .i64 (sizeF zs)) ∧ w' = w := by
  obtain ⟨a, cap, rfl, h1, h2, h3⟩ := h
  unfold maxLen at h2
  clear h3
  have hq : (0 : Int) ≤ (zs.length : Int) := by omega
  by_cases hc : 20 < 2 + (zs.length : Int) / 20
  · have HS : Hid (sizeF zs = 20) := if_pos hc
    go_enter Try.func36, Try.ntmps36
    go_wp2
    go_ret
    rw [HS.out]
    exact ⟨rfl, rfl⟩
  · have HS : Hid (sizeF zs = 2 + (zs.length : Int) / 20) := if_neg hc
    go_enter Try.func36, Try.ntmps36
    go_wp2
    go_ret
    rw [HS.out]
    exact ⟨rfl, rfl⟩
def NxR (v : Value) (zs : List Int) (w : World) (e : Ending) (w' : World) : Prop := ∃ g, e = .returned (.pointer (some ⟨g, 0, none⟩)) ∧ Dx w' g v zs (0, seedF zs) ∧ w.heap.size ≤ g ∧ Below w.heap.size w w'
set_option maxHeartbeats 1600000 in
theorem new_x (v : Value) (zs : List Int) (w : World) (h : Rd .u8 w v zs) (hok : ∀ z ∈ zs, 0 ≤ z ∧ z ≤ 255) (hlen : zs.length ≤ 1048576) :
   Calls Try.prog 33 #[v] w (NxR v zs w) := by
  have hR := h
  obtain ⟨a, cap, rfl, h1, h2, h3⟩ := h
  unfold maxLen at h2
  have HR : Hid (Rd .u8 w (.slice a zs.length cap) zs) := hR
  have HOK : Hid (∀ z ∈ zs, 0 ≤ z ∧ z ≤ 255) := hok
  clear hR hok
  have HS0 : Hid (seedN zs 0 = 71933 + (zs.length : Int)) := rfl
  go_enter Try.func33, Try.ntmps33
  go_wp2
  go_loop [3, 4] (fun s i => ∃ (j : Nat), j ≤ zs.length ∧ j ≤ 4000 ∧ i = .int .i64 j ∧ s = .int .i64 (seedN zs j)) (fun _ i => zs.length - (intOf i).toNat)
  case atStart => exact ⟨0, Nat.zero_le _, Nat.zero_le _, rfl, by rw [HS0.out]⟩
  case round =>
    obtain ⟨j, hj, hj4, rfl, rfl⟩ := hrel
    obtain ⟨t, ht⟩ : ∃ t, seedN zs j = t := ⟨_, rfl⟩
    have HT : Hid (seedN zs j = t) := ht
    rw [ht]
    clear ht
    have fin : seedF zs = t → NxR (.slice a zs.length cap) zs w (.returned (.pointer (some ⟨w.heap.size, 0, none⟩))) (w.alloc (.cells #[.slice a zs.length cap, .int .i64 0, .int .i64 t] 79)) := by
      intro hst
      refine ⟨_, rfl, ⟨by rw [hst]; exact Blk.new _ _ _, Nat.zero_le _, HR.out.below ((Below.refl _ _).alloc (Nat.le_refl _) _), ?_, HOK.out, hlen⟩, Nat.le_refl _, (Below.refl _ _).alloc (Nat.le_refl _) _⟩
      rcases h3 with h3 | ⟨b, off, rfl, h4⟩
      · exact .inl h3
      · by_cases h0 : zs = []
        · exact .inl h0
        · have hp : 0 < zs.length := by cases zs with | nil => exact absurd rfl h0 | cons _ _ => simp
          have hb : b < w.heap.size := block_lt_of_cell (h4 0 hp)
          right; right; simp [Value.ownBlock]; omega
    have FIN : Hid (seedF zs = t → NxR (.slice a zs.length cap) zs w (.returned (.pointer (some ⟨w.heap.size, 0, none⟩))) (w.alloc (.cells #[.slice a zs.length cap, .int .i64 0, .int .i64 t] 79))) := fin
    clear fin
    by_cases hlt : j < zs.length
    · by_cases h4k : j < 4000
      · rcases h3 with h3 | ⟨b, off, rfl, h4⟩
        · subst h3; simp at hlt
        obtain ⟨z, hz⟩ : ∃ z, zs.getD j 0 = z := ⟨_, rfl⟩
        have hc := h4 j hlt
        rw [hz] at hc
        have HZ : Hid (zs.getD j 0 = z) := hz
        have hi : (0 : Int) ≤ (j : Int) := by omega
        have hi2 : (j : Int) < (zs.length : Int) := by omega
        have d1 : decide ((j : Int) < (zs.length : Int)) = true := by simp; omega
        have d2 : decide ((j : Int) < 4000) = true := by simp; omega
        clear h4 hz
        go_wp2
        go_round
        case rel => exact ⟨j + 1, by omega, by omega, by go_num, by rw [seedN, HT.out, HZ.out]⟩
        case measure => simp [intOf]; omega
      · have d1 : decide ((j : Int) < (zs.length : Int)) = true := by simp; omega
        have d2 : decide ((j : Int) < 4000) = false := by simp; omega
        have HE : Hid (seedF zs = t) := by rw [← HT.out]; unfold seedF; rw [show min zs.length 4000 = j by omega]; exact rfl
        clear h3
        go_wp2
        go_ret
        exact FIN.out HE.out
    · have d1 : decide ((j : Int) < (zs.length : Int)) = false := by simp; omega
      have HE : Hid (seedF zs = t) := by rw [← HT.out]; unfold seedF; rw [show min zs.length 4000 = j by omega]; exact rfl
      clear h3
      go_wp2
      go_ret
      exact FIN.out HE.out
/-- the events of a day -/
def dayF (zs : List Int) : Mvs := (evsF zs (belowF zs (0, seedF zs) (6 * sizeF zs)).1.toNat (belowF zs (0, seedF zs) (6 * sizeF zs)).2).1
theorem dayF_len (zs : List Int) : (dayF zs).length ≤ 120 := by
  unfold dayF
  rw [evsF_len]
  have := sizeF_b zs
  have h0 : 0 ≤ (belowF zs (0, seedF zs) (6 * sizeF zs)).1 := Int.emod_nonneg _ (by omega)
  have h1 : (belowF zs (0, seedF zs) (6 * sizeF zs)).1 < 6 * sizeF zs := Int.emod_lt_of_pos _ (by omega)
  omega
def DayR (zs : List Int) (w : World) (e : Ending) (w' : World) : Prop := ∃ v', e = .returned v' ∧ Op mf mg 35 w.heap.size w' v' (dayF zs) ∧ Below w.heap.size w w'
set_option maxHeartbeats 1600000 in
theorem day_x (v : Value) (zs : List Int) (w : World) (h : Rd .u8 w v zs) (hok : ∀ z ∈ zs, 0 ≤ z ∧ z ≤ 255) (hlen : zs.length ≤ 1048576) :
    Calls Try.prog 11 #[v] w (DayR zs w) := by
  have HR : Hid (Rd .u8 w v zs) := h
  have HK : Hid (∀ z ∈ zs, 0 ≤ z ∧ z ≤ 255) := hok
  obtain ⟨a, cap, rfl, h1, h2, h3⟩ := h
  clear h1 h2 h3 hok
  obtain ⟨x, hx'⟩ : ∃ x, sizeF zs = x := ⟨_, rfl⟩
  have HX : Hid (sizeF zs = x) := hx'
  obtain ⟨x2, x20⟩ := sizeF_b zs
  rw [hx'] at x2 x20
  obtain ⟨⟨y, s1⟩, hy⟩ : ∃ r, belowF zs (0, seedF zs) (6 * x) = r := ⟨_, rfl⟩
  obtain ⟨y0, y2⟩ := belowF_b hy (by omega)
  obtain ⟨N, rfl⟩ : ∃ N : Nat, y = (N : Int) := ⟨y.toNat, by omega⟩
  have HY : Hid (belowF zs (0, seedF zs) (6 * x) = ((N : Int), s1)) := hy
  have HDY : Hid (dayF zs = (evsF zs N s1).1) := by show dayF zs = _; unfold dayF; rw [hx', hy]; simp
  clear hx' hy
  go_enter Try.func11, Try.ntmps11
  go_wp2_with (fail)
  refine (new_x _ zs _ HR.out HK.out hlen).mono ?_
  rintro e w1 ⟨g, rfl, d1, hg1, b1⟩
  have HD1 : Hid (Dx w1 g (.slice a zs.length cap) zs (0, seedF zs)) := d1
  have HB1 : Hid (Below w.heap.size w w1) := b1
  clear d1 b1
  go_wp2_with (fail)
  refine (size_x _ zs w1 HD1.out.rd).mono ?_
  rintro e w2 ⟨rfl, hw2⟩
  subst hw2
  rw [HX.out]
  go_wp2_with (fail)
  refine (below_x g _ zs (0, seedF zs) (6 * x) w2 HD1.out (by omega) (by omega)).mono ?_
  rw [HY.out]
  rintro e w3 ⟨he, d3, g3⟩
  simp only at he d3
  subst he
  have HD3 : Hid (Dx w3 g (.slice a zs.length cap) zs s1) := d3
  have HB3 : Hid (Below w.heap.size w w3) := HB1.out.grown g3 HB1.out.size (fun k e => by cases e; exact hg1)
  clear d3 g3
  go_wp2_with (fail)
  refine (drawEv_x g _ zs s1 N w3 HD3.out (by omega)).mono ?_
  rintro e w4 ⟨v4, rfl, ho, hg⟩
  have HF : Hid (Op mf mg 35 w.heap.size w4 v4 (dayF zs) ∧ Below w.heap.size w w4) := ⟨by rw [HDY.out]; exact ho.mono HB3.out.size, HB3.out.grown hg HB3.out.size (fun k e => by cases e; exact hg1)⟩
  clear ho hg
  go_wp2
  go_ret
  exact ⟨_, rfl, HF.out⟩
end Go.Proofs.Ytljejjfhlpjlfaa

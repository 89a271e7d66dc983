/- The contract of the model's function that draws levels: some numbers, in new memory, the cursor moved; no condition but that there are not too many. -/
import Derived.Test.YtcbeaimpmjljjaaDrawP
namespace Go.Proofs.Ytcbeaimpmjljjaa
open Go.RowKit Go.ChangeShapes Go.WideShapes Go.ChangeAt
set_option linter.unusedVariables false
set_option linter.unusedSimpArgs false
set_option maxRecDepth 8000
theorem Ow.setE {base g cap : Nat} {w : World} {zs : List Int} (h : Ow .i64 3 base w (.slice (some ⟨g, 0, none⟩) zs.length cap) zs) (i : Nat) (x : Int) : Ow .i64 3 base (w.setCell ⟨g, i, none⟩ (.int .i64 x)) (.slice (some ⟨g, 0, none⟩) zs.length cap) (zs.set i x) := by
  have := (World.ownsRow.stored h i (.int .i64 x)).1
  rw [Ow, List.map_set, List.length_set]; exact this
set_option maxHeartbeats 3200000 in
theorem drawLevels_c (g : Nat) (cv : Value) (zs : List Int) (m : Int) (w : World) (h : Dr w g cv zs) (hm : m ≤ 1000000) :
   Calls Try.prog 67 #[.pointer (some ⟨g, 0, none⟩), .int .i64 m] w fun e w' => ∃ v l, e = .returned v ∧ Ow .i64 3 w.heap.size w' v l ∧ (l.length = 0 ∨ (l.length : Int) ≤ m) ∧ Dr w' g cv zs ∧ w.grownBy w' (some g) := by
  have hgl := h.lt
  have H0 : Hid (Dr w g cv zs) := h
  have kb : Below w.heap.size w (w.alloc (Obj.cells #[] 3)) := (Below.refl _ _).alloc (Nat.le_refl _) _
  have HD : Hid (Dr (w.alloc (Obj.cells #[] 3)) g cv zs) := h.below kb
  have HG : Hid (w.grownBy (w.alloc (Obj.cells #[] 3)) (some g)) := ⟨kb.os, kb.tape, kb.output, kb.size, fun j hj _ => kb.block j hj⟩
  have HO : Hid (Ow .i64 3 w.heap.size (w.alloc (Obj.cells #[] 3)) (.slice (some ⟨w.heap.size, 0, none⟩) 0 0) []) := Ow.empty _ _ _ _ (Nat.le_refl _)
  clear h kb
  go_enter Try.func67, Try.ntmps67
  go_wp2
  go_loopw [5, 6] (fun v i wr => ∃ l : List Int, (l.length = 0 ∨ (l.length : Int) ≤ m) ∧ i = .int .i64 (l.length : Nat) ∧ Hid (Ow .i64 3 w.heap.size wr v l) ∧ Hid (Dr wr g cv zs) ∧ Hid (w.grownBy wr (some g))) (fun _ i _ => (m - intOf i).toNat)
  case atStart => exact ⟨[], .inl rfl, rfl, HO.out, HD.out, HG.out⟩
  case round =>
    obtain ⟨l, hl, rfl, ho, hd, hg⟩ := hrel
    clear HD HG HO
    obtain ⟨av, cav, e, hv1, hv2, hv3⟩ := own_form ho.out
    subst e
    by_cases hlt : (l.length : Int) < m
    · have hs : w.heap.size ≤ wr.heap.size := hg.out.size
      go_wp2_with (fail)
      refine (below_c g cv zs 65535 _ hd.out (by decide)).mono ?_
      rintro e w2 ⟨x, rfl, x0, x1, -, d2, g2⟩
      have x2 := x1 (by decide)
      have hs2 := g2.size
      have HO2 : Hid (Ow .i64 3 w.heap.size (w2.alloc (Obj.cells #[.int .i64 (x - 32767)] 3)) (.slice av l.length cav) l) := World.ownsRow.alloc (World.ownsRow.kept ho.out g2 (by
        by_cases e : (Value.slice av l.length cav).ownBlock = some g
        · have := (World.ownsRow.lt ho.out g e).1; omega
        · exact .inr e)) _
      have HG2 : Hid (w.grownBy w2 (some g)) := grown_trans hg.out g2
      have HD2 : Hid (Dr w2 g cv zs) := d2
      have HC2 : Hid ((w2.alloc (Obj.cells #[.int .i64 (x - 32767)] 3)).cell? ⟨w2.heap.size, 0, none⟩ = some (.int .i64 (x - 32767))) := by
        show World.cell? _ _ = _
        rw [(Blk.new w2 #[.int .i64 (x - 32767)] 3).cell 0]; rfl
      clear ho hd hg d2 g2 x1
      go_wp2_with (at_builtin; refine appI rfl _ _ rfl w.heap.size _ l rfl HO2.out w2.heap.size (x - 32767) rfl HC2.out (by omega) (by simp; omega) ?_)
      intro v' w3 ho3 hb3
      have h3 := H0.out.onto HD2.out HG2.out (((Below.refl _ _).alloc (by omega) _).trans hb3 : Below w.heap.size w2 w3)
      obtain ⟨a3, c3, e3, y1, y2, y3⟩ := own_form ho3
      rw [show (l ++ [x - 32767]).length = l.length + 1 by simp] at e3 y1 y3
      subst e3
      obtain ⟨b3, rfl⟩ : ∃ b, a3 = some ⟨b, 0, none⟩ := by
        rcases y3 with h | h
        · omega
        · exact h
      have HO3 : Hid (Ow .i64 3 w.heap.size w3 (.slice (some ⟨b3, 0, none⟩) (l.length + 1) c3) (l ++ [x - 32767])) := ho3
      have HD3 : Hid (Dr w3 g cv zs) := h3.1
      have HG3 : Hid (w.grownBy w3 (some g)) := h3.2
      clear ho3 hb3 h3 HO2 HG2 HD2 HC2
      go_wp2_with (fail)
      refine (once_c g cv zs 3 _ HD3.out (by decide)).mono ?_
      rintro e w4 ⟨bb, rfl, d4, g4⟩
      have hs4 := g4.size
      have hs3 : w.heap.size ≤ w3.heap.size := HG3.out.size
      have hb3 := World.ownsRow.lt HO3.out b3 rfl
      have HO4 : Hid (Ow .i64 3 w.heap.size w4 (.slice (some ⟨b3, 0, none⟩) (l.length + 1) c3) (l ++ [x - 32767])) := World.ownsRow.kept HO3.out g4 (.inr (by simp [Value.ownBlock]; omega))
      have HD4 : Hid (Dr w4 g cv zs) := d4
      have HG4 : Hid (w.grownBy w4 (some g)) := grown_trans HG3.out g4
      clear d4 g4 HO3 HD3 HG3
      cases bb
      · go_wp2
        go_roundw
        case rel => exact ⟨l ++ [x - 32767], .inr (by simp; omega), by simp, HO4.out, HD4.out, HG4.out⟩
        case measure => simp [intOf]; omega
      · obtain ⟨W1, hW1⟩ : ∃ W1, w4.alloc (Obj.cells #[.int .i64 32767, .int .i64 (-32767), .int .i64 0, .int .i64 5] 3) = W1 := ⟨_, rfl⟩
        have kb : Below w4.heap.size w4 W1 := hW1 ▸ (Below.refl _ _).alloc (Nat.le_refl _) _
        have kl : Blk W1 w4.heap.size #[.int .i64 32767, .int .i64 (-32767), .int .i64 0, .int .i64 5] 3 := hW1 ▸ Blk.new _ _ _
        have hR : Rd .i64 W1 (.slice (some ⟨w4.heap.size, 0, none⟩) 4 4) [32767, -32767, 0, 5] := by
          refine ⟨_, 4, rfl, by simp, by simp [maxLen], .inr ⟨w4.heap.size, 0, rfl, fun i hi => ?_⟩⟩
          have hi4 : i < 4 := by simpa using hi
          rw [Nat.zero_add, kl.cell i]
          match i, hi4 with
          | 0, _ => rfl
          | 1, _ => rfl
          | 2, _ => rfl
          | 3, _ => rfl
        have hg4 := HD4.out.lt
        have HC : Hid (Calls Try.prog 68 #[.pointer (some ⟨g, 0, none⟩), .slice (some ⟨w4.heap.size, 0, none⟩) 4 4] W1 fun e w' => ∃ x : Int, e = .returned (.int .i64 x) ∧ Dr w' g cv zs ∧ W1.grownBy w' (some g)) := pickInt_c g cv zs _ _ W1 (HD4.out.below kb) hR (.inr (by simp [Value.ownBlock]; omega)) (by simp) (by simp)
        have HW : Hid (w4.alloc (Obj.cells #[.int .i64 32767, .int .i64 (-32767), .int .i64 0, .int .i64 5] 3) = W1) := hW1
        have HO5 : Hid (Ow .i64 3 w.heap.size W1 (.slice (some ⟨b3, 0, none⟩) (l.length + 1) c3) (l ++ [x - 32767])) := World.ownsRow.kept (row := none) HO4.out ⟨kb.os, kb.tape, kb.output, kb.size, fun j hj _ => kb.block j hj⟩ (.inr (by simp [Value.ownBlock]))
        have HG5 : Hid (w.grownBy W1 (some g)) := grown_then_below HG4.out (kb.mono (by omega))
        clear hW1 kb kl hR HO4 HG4
        go_wp2_with (fail)
        rw [HW.out]
        refine HC.out.mono ?_
        rintro e w6 ⟨y, rfl, d6, g6⟩
        have HO6 : Hid (Ow .i64 3 w.heap.size w6 (.slice (some ⟨b3, 0, none⟩) (l.length + 1) c3) (l ++ [x - 32767])) := World.ownsRow.kept HO5.out g6 (.inr (by simp [Value.ownBlock]; omega))
        have HG6 : Hid (w.grownBy w6 (some g)) := grown_trans HG5.out g6
        have HD6 : Hid (Dr w6 g cv zs) := d6
        have hlen : (l ++ [x - 32767]).length = l.length + 1 := by simp
        have hrow : w6.ownsRow w.heap.size 3 1 (.slice (some ⟨b3, 0, none⟩) (l.length + 1) c3) (l.length + 1) ((l ++ [x - 32767]).map (Value.int .i64)) := by have := HO6.out; rw [Ow, hlen] at this; exact this
        obtain ⟨u, hu⟩ : ∃ u, w6.cell? ⟨b3, l.length, none⟩ = some u := ⟨_, (World.ownsRow.cellAt hrow l.length (by omega)).trans (List.getElem?_eq_getElem (by simp))⟩
        have hfz : w6.frozen? ⟨b3, l.length, none⟩ = false := World.ownsRow.frozenAt hrow l.length
        have HF : Hid (Ow .i64 3 w.heap.size (w6.setCell ⟨b3, l.length, none⟩ (.int .i64 y)) (.slice (some ⟨b3, 0, none⟩) (l.length + 1) c3) ((l ++ [x - 32767]).set l.length y) ∧ Dr (w6.setCell ⟨b3, l.length, none⟩ (.int .i64 y)) g cv zs ∧ w.grownBy (w6.setCell ⟨b3, l.length, none⟩ (.int .i64 y)) (some g)) := by
          refine ⟨?_, H0.out.onto HD6.out HG6.out ((Below.refl _ _).setCell (by exact hb3.1) _)⟩
          have := Ow.setE (base := w.heap.size) (g := b3) (cap := c3) (w := w6) (zs := l ++ [x - 32767]) (by rw [hlen]; exact HO6.out) l.length y
          rw [hlen] at this; exact this
        clear hrow d6 g6 HC HW HO5 HG5 HO6 HG6 HD6 hlen HD4
        go_wp2
        go_roundw
        case rel => exact ⟨(l ++ [x - 32767]).set l.length y, .inr (by simp; omega), by simp, HF.out.1, HF.out.2.1, HF.out.2.2⟩
        case measure => simp [intOf]; omega
    · go_wp2
      go_ret
      exact ⟨_, rfl, l, ho.out, by simpa using hl, hd.out, hg.out⟩
end Go.Proofs.Ytcbeaimpmjljjaa

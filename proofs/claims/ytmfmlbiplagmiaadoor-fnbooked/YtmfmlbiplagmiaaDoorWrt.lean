/- What is written of talks; no condition. -/
import Derived.Test.YtmfmlbiplagmiaaDoorApn
import Derived.Test.YtmfmlbiplagmiaaDoorFsq
import Derived.Test.YtmfmlbiplagmiaaDoorMixT
import Derived.Test.YtmfmlbiplagmiaaDoorOver
namespace Go.Proofs.YtmfmlbiplagmiaaDoor
open Go.RowKit Go.ChangeShapes Go.WideShapes Go.ChangeAt
set_option linter.unusedVariables false
set_option linter.unusedSimpArgs false
set_option maxRecDepth 8000

/-- what l18Write answers -/
def WrR (va : Value) (ts : List Tk) (n m : Nat) (w : World) (e : Ending) (w' : World) : Prop := ∃ vl vc, e = .returned (.agg (B3 va vl vc)) ∧ Ow .i64 3 w.heap.size w' vl (wr18 hasL n ts) ∧ Ow .i64 3 w.heap.size w' vc (wr18 hasC m ts) ∧ Apart vl vc ∧ Below w.heap.size w w'
set_option maxHeartbeats 12800000 in
theorem write_c (va : Value) (ts : List Tk) (n m : Nat) (w : World) (h : Rg 3 tkC w va ts) (hn : ts.length ≤ 1000) (hn1 : n ≤ 1000) (hn2 : m ≤ 1000) :
   Calls Tryd.prog 35 #[va, .int .i64 n, .int .i64 m] w (WrR va ts n m w) := by
  obtain ⟨a, L, cap, rfl⟩ : ∃ a L cap, va = .slice a L cap := by obtain ⟨a, cap, e, -⟩ := h; exact ⟨a, _, cap, e⟩
  obtain ⟨P0, hP0⟩ : ∃ P, w.heap.size = P := ⟨_, rfl⟩
  obtain ⟨W0, hW0⟩ : ∃ W, w.alloc (Obj.cells (B3 (.slice none 0 0) (.slice none 0 0) (.slice none 0 0)) 27) = W := ⟨_, rfl⟩
  obtain ⟨X, hX⟩ : ∃ X, P0 + 1 = X := ⟨_, rfl⟩
  obtain ⟨W1, hW1⟩ : ∃ W, W0.alloc (Obj.cells (B3 (.slice a L cap) (.slice none 0 0) (.slice none 0 0)) 27) = W := ⟨_, rfl⟩
  have HW0 : Hid (w.alloc (Obj.cells (B3 (.slice none 0 0) (.slice none 0 0) (.slice none 0 0)) 27) = W0) := hW0
  have HW1 : Hid (W0.alloc (Obj.cells (B3 (.slice a L cap) (.slice none 0 0) (.slice none 0 0)) 27) = W1) := hW1
  have HX : Hid (P0 + 1 = X) := hX
  have HP0 : Hid (w.heap.size = P0) := hP0
  have hs0 : X = P0 + 1 := hX.symm
  have hz0 : W0.heap.size = X := by rw [← hX, ← hP0, ← hW0]; simp
  have HS0 : Hid (X = P0 + 1) := hs0
  have HS1 : Hid (W1.heap.size = P0 + 2) := by show _ = _; rw [← hW1]; simp [hz0, hs0]
  have HB : Hid (Below w.heap.size w W1) := by rw [← hW1, ← hW0]; exact ((Below.refl _ _).alloc (Nat.le_refl _) _).alloc (by simp) _
  have HK : Hid (Blk W1 X (B3 (.slice a L cap) (.slice none 0 0) (.slice none 0 0)) 27 ∧ Blk W1 P0 (B3 (.slice none 0 0) (.slice none 0 0) (.slice none 0 0)) 27) := ⟨by rw [← hW1, ← hz0]; exact Blk.new _ _ _, by rw [← hW1, ← hW0, ← hP0]; exact (Blk.new _ _ _).alloc _⟩
  have HR : Hid (Rg 3 tkC w (.slice a L cap) ts) := h
  have HN : Hid (ts.length ≤ 1000 ∧ n ≤ 1000 ∧ m ≤ 1000) := ⟨hn, hn1, hn2⟩
  have HF : Hid (∀ (W : World) (b : Value) (c : Value) (i : Nat) (q : Bool), Below w.heap.size w W → Calls Tryd.prog 65 #[.agg (B3 (.slice a L cap) b c), .int .i64 (i : Int), .bool q] W fun e w' => e = .returned (.int .i64 (fst18 (hasB q i) ts)) ∧ Below W.heap.size W w') := fun W b c i q hb => first_c (.slice a L cap) b c ts i q W (HR.out.below hb) HN.out.1
  clear h hn hn1 hn2 hP0 hW0 hX hW1 hs0 hz0
  go_enter Tryd.func35, Tryd.ntmps35
  go_wp2
  rw [HW0.out, HW1.out, HP0.out, HX.out]
  go_loopw [8] (fun i wr => ∃ (j : Nat) (v : Value), i = .int .i64 j ∧ j ≤ n ∧ Hid (Blk wr X (B3 (.slice a L cap) v (.slice none 0 0)) 27 ∧ Blk wr P0 (B3 (.slice none 0 0) (.slice none 0 0) (.slice none 0 0)) 27) ∧ Hid (Ow .i64 3 w.heap.size wr v (wr18 hasL j ts)) ∧ Hid (Below w.heap.size w wr)) (fun i _ => n - (intOf i).toNat)
  case atStart => exact ⟨0, _, rfl, Nat.zero_le _, HK.out, Ow.nil _ _ _ _, HB.out⟩
  case round =>
    obtain ⟨j, v, rfl, hj, hK, hO, hB⟩ := hrel
    clear HK HB
    by_cases hlt : j < n
    case neg =>
      obtain rfl : n = j := by omega
      clear hlt hj
      obtain ⟨u, hu⟩ : ∃ u, v = u := ⟨_, rfl⟩
      rw [hu] at hK hO
      clear hu
      obtain ⟨P1, hP1⟩ : ∃ P, wr.heap.size = P := ⟨_, rfl⟩
      have HKN : Hid (Blk wr X (B3 (.slice a L cap) u (.slice none 0 0)) 27 ∧ Blk wr P0 (B3 (.slice none 0 0) (.slice none 0 0) (.slice none 0 0)) 27) := hK.out
      have HBN : Hid (Below w.heap.size w wr) := hB.out
      have HUN : Hid (Ow .i64 3 w.heap.size wr u (wr18 hasL n ts)) := hO.out
      have HUS : Hid (P1 ≤ wr.heap.size) := Nat.le_of_eq hP1.symm
      have HPW : Hid (w.heap.size ≤ P1) := by show _ ≤ _; rw [← hP1]; exact hB.out.size
      have HUL : Hid (∀ k, u.ownBlock = some k → k < P1) := fun k e => by rw [← hP1]; exact (World.ownsRow.lt hO.out k e).2
      have hnl : ¬ ((n : Int) < (n : Int)) := by omega
      clear hK hO hB hP1
      go_wp2
      go_loopw [9] (fun i wr => ∃ (j : Nat) (v : Value), i = .int .i64 j ∧ j ≤ m ∧ Hid (Blk wr X (B3 (.slice a L cap) u v) 27 ∧ Blk wr P0 (B3 (.slice none 0 0) (.slice none 0 0) (.slice none 0 0)) 27) ∧ Hid (Ow .i64 3 P1 wr v (wr18 hasC j ts)) ∧ Hid (Below w.heap.size w wr) ∧ Hid (Ow .i64 3 w.heap.size wr u (wr18 hasL n ts) ∧ P1 ≤ wr.heap.size)) (fun i _ => m - (intOf i).toNat)
      case atStart => exact ⟨0, _, rfl, Nat.zero_le _, HKN.out, Ow.nil _ _ _ _, HBN.out, HUN.out, HUS.out⟩
      case round =>
        obtain ⟨j, v, rfl, hj, hK, hO, hB, hU⟩ := hrel
        clear HKN HBN HUN
        by_cases hlt : j < m
        case neg =>
          obtain rfl : m = j := by omega
          clear hlt hj
          obtain ⟨ua, uL, uc, rfl⟩ : ∃ a L c, u = .slice a L c := by obtain ⟨a, c, e⟩ := hU.out.1.form; exact ⟨a, _, c, e⟩
          obtain ⟨ya, yL, yc, rfl⟩ : ∃ a L c, v = .slice a L c := by obtain ⟨a, c, e⟩ := hO.out.form; exact ⟨a, _, c, e⟩
          have hp := hK.out.1
          have y0 := hp.cell 0
          have y1 := hp.cell 1
          have y2 := hp.cell 2
          simp at y0 y1 y2
          have hq := hK.out.2
          have z0 := hq.cell 0
          have z1 := hq.cell 1
          have z2 := hq.cell 2
          simp at z0 z1 z2
          have f0 := hq.frozen 0
          have f1 := hq.frozen 1
          have f2 := hq.frozen 2
          have HFIN : Hid (WrR (.slice a L cap) ts n m w (.returned (.agg (B3 (.slice a L cap) (.slice ua uL uc) (.slice ya yL yc)))) (((wr.setCell ⟨P0, 0, none⟩ (.slice a L cap)).setCell ⟨P0, 1, none⟩ (.slice ua uL uc)).setCell ⟨P0, 2, none⟩ (.slice ya yL yc))) := by
            have gg : wr.grownBy (((wr.setCell ⟨P0, 0, none⟩ (.slice a L cap)).setCell ⟨P0, 1, none⟩ (.slice ua uL uc)).setCell ⟨P0, 2, none⟩ (.slice ya yL yc)) (some P0) := grown_trans (grown_trans (grown_set' _ _ _ _) (grown_set' _ _ _ _)) (grown_set' _ _ _ _)
            have e1 : (Value.slice ua uL uc).ownBlock ≠ some P0 := row_blk hU.out.1 hq (by decide)
            have e2 : (Value.slice ya yL yc).ownBlock ≠ some P0 := row_blk hO.out hq (by decide)
            refine ⟨(.slice ua uL uc), (.slice ya yL yc), rfl, World.ownsRow.kept hU.out.1 gg (.inr e1), (show Ow _ _ _ _ _ _ from World.ownsRow.kept (hO.out.mono HPW.out) gg (.inr e2)), ?_, ?_⟩
            · exact Apart.at (P := P1) (fun k e => HUL.out k e) (fun k e => (World.ownsRow.lt hO.out k e).1)
            · exact ((hB.out.setCell (by have := HP0.out; dsimp only; omega) _).setCell (by have := HP0.out; dsimp only; omega) _).setCell (by have := HP0.out; dsimp only; omega) _
          have HBF : Hid (Blk (((wr.setCell ⟨P0, 0, none⟩ (.slice a L cap)).setCell ⟨P0, 1, none⟩ (.slice ua uL uc)).setCell ⟨P0, 2, none⟩ (.slice ya yL yc)) P0 (B3 (.slice a L cap) (.slice ua uL uc) (.slice ya yL yc)) 27) := by
            show Blk _ _ _ _
            have := ((hq.set 0 (.slice a L cap)).set 1 (.slice ua uL uc)).set 2 (.slice ya yL yc)
            simpa using this
          have hnl : ¬ ((m : Int) < (m : Int)) := by omega
          clear hK hO hB hU hp hq HF
          go_wp2
          exact bodyPost_ret (v := .agg (B3 (.slice a L cap) (.slice ua uL uc) (.slice ya yL yc))) (results_cell_row rfl _ _ _ 27 _ (0, 0) _ rfl HBF.out Tryd.underlying27 rfl sizeBk) rfl HFIN.out
        case pos =>
        obtain ⟨a1, c1, hv⟩ := hO.out.form
        have HOP : Hid (v.ownBlock ≠ some X ∧ v.ownBlock ≠ some P0) := ⟨row_blk hO.out hK.out.1 (by decide), row_blk hO.out hK.out.2 (by decide)⟩
        have hjn : (j : Int) < (m : Int) := by omega
        have hwj : wrap64 ((j : Int) + 1) = (j : Int) + 1 := wrap64_in (by have := HN.out; omega)
        have HLE : Hid ((wr18 hasC j ts).length ≤ 1000000) := by show _ ≤ _; rw [wr18_len]; have := HN.out; omega
        have HSZ : Hid (w.heap.size ≤ wr.heap.size) := hB.out.size
        obtain ⟨S, hS⟩ : ∃ S : World → Prop, ∀ W, S W ↔ Blk W X (B3 (.slice a L cap) u v) 27 := ⟨_, fun _ => Iff.rfl⟩
        have x0 : ∀ W : At S, W.wd.cell? ⟨X, 0, none⟩ = some (.slice a L cap) := fun W => by have := ((hS _).1 W.ok).cell 0; simpa using this
        have x1 : ∀ W : At S, W.wd.cell? ⟨X, 1, none⟩ = some (u) := fun W => by have := ((hS _).1 W.ok).cell 1; simpa using this
        have x2 : ∀ W : At S, W.wd.cell? ⟨X, 2, none⟩ = some (v) := fun W => by have := ((hS _).1 W.ok).cell 2; simpa using this
        have HSS : Hid (∀ W, S W ↔ Blk W X (B3 (.slice a L cap) u v) 27) := hS
        have ne : Nonempty (At S) := ⟨⟨wr, (hS _).2 hK.out.1⟩⟩
        have HBD : Hid (Below w.heap.size w wr.drew) := hB.out.drew
        have HKD : Hid (Blk wr.drew X (B3 (.slice a L cap) u v) 27 ∧ Blk wr.drew P0 (B3 (.slice none 0 0) (.slice none 0 0) (.slice none 0 0)) 27) := hK.out
        have HOD : Hid (Ow .i64 3 P1 wr.drew v (wr18 hasC j ts)) := hO.out.below (Below.refl _ _).drew
        have HSZD : Hid (wr.drew.heap.size = wr.heap.size) := rfl
        have HUD : Hid (Ow .i64 3 w.heap.size wr.drew u (wr18 hasL n ts)) := hU.out.1.below (Below.refl _ _).drew
        have HUz : Hid (P1 ≤ wr.drew.heap.size) := hU.out.2
        clear hS hK hO hB hv a1 c1 hU
        go_wp2
        refine region_mixT [true, true, true, true, false, false, false, false, false] 8 4 S (by kernel_rfl) rfl (by kernel_rfl) (fun _ _ _ _ _ h => h) ((HSS.out _).2 HKD.out.1) ?_
        simp only [selT, selF]
        try simp only [Act.put]
        repeat (go_big_quiet_step (fail))
        refine wpQuiet_nil ?_
        clear x0 x1 x2 ne
        refine tail_step ?_
        go_wp2_with (fail)
        refine (HF.out _ _ _ j true HBD.out).mono ?_
        rintro e w4 ⟨rfl, b4⟩
        have HB4 : Hid (Below w.heap.size w w4) := belowCall HBD.out b4 HBD.out.size
        have HK4 : Hid (Blk w4 X (B3 (.slice a L cap) u v) 27 ∧ Blk w4 P0 (B3 (.slice none 0 0) (.slice none 0 0) (.slice none 0 0)) 27) := ⟨HKD.out.1.below b4 HKD.out.1.lt, HKD.out.2.below b4 HKD.out.2.lt⟩
        have HO4 : Hid (Ow .i64 3 P1 w4 v (wr18 hasC j ts)) := HOD.out.below b4
        have HU4 : Hid (Ow .i64 3 w.heap.size w4 u (wr18 hasL n ts)) := HUD.out.below b4
        have HU4s : Hid (P1 ≤ w4.heap.size) := Nat.le_trans HUz.out b4.size
        obtain ⟨z, hz⟩ : ∃ z, fst18 (hasB true (j : Int)) ts = z := ⟨_, rfl⟩
        have HZ : Hid (wr18 hasC (j + 1) ts = wr18 hasC j ts ++ [z]) := by show _ = _; rw [wr18_succ, ← hz]; rfl
        rw [hz]
        clear hz b4 HKD HOD HBD HUD
        obtain ⟨W5, hW5⟩ : ∃ V, w4.alloc (Obj.cells #[.int .i64 z] 3) = V := ⟨_, rfl⟩
        have HW5 : Hid (w4.alloc (Obj.cells #[.int .i64 z] 3) = W5) := hW5
        have ba : Below w4.heap.size w4 W5 := by rw [← hW5]; exact (Below.refl _ _).alloc (Nat.le_refl _) _
        have HO5 : Hid (Ow .i64 3 P1 W5 v (wr18 hasC j ts)) := HO4.out.below ba
        have HB5z : Hid (w4.heap.size ≤ W5.heap.size) := ba.size
        have HB5 : Hid (Below w.heap.size w W5) := belowCall HB4.out ba HB4.out.size
        have HK5 : Hid (Blk W5 X (B3 (.slice a L cap) u v) 27 ∧ Blk W5 P0 (B3 (.slice none 0 0) (.slice none 0 0) (.slice none 0 0)) 27) := ⟨HK4.out.1.below ba HK4.out.1.lt, HK4.out.2.below ba HK4.out.2.lt⟩
        have HC5 : Hid (W5.cell? ⟨w4.heap.size, 0, none⟩ = some (.int .i64 z)) := by show _ = _; rw [← hW5, cell_box]; rfl
        have HZ5 : Hid (P1 ≤ W5.heap.size) := (by have := HU4s.out; have := HB5z.out; show P1 ≤ _; omega)
        have HU5 : Hid (Ow .i64 3 w.heap.size W5 u (wr18 hasL n ts)) := HU4.out.below ba
        have HS4 : Hid (S w4) := (HSS.out _).2 HK4.out.1
        have HS5 : Hid (S W5) := (HSS.out _).2 HK5.out.1
        clear ba hW5 HO4 HB4 HK4 HU4
        go_wp2
        refine ⟨HS4.out, tail_step ?_⟩
        go_wp2
        rw [HW5.out]
        refine ⟨HS5.out, tail_step ?_⟩
        go_wp2_with (at_builtin; refine appN rfl _ _ rfl (P1) _ (wr18 hasC j ts) rfl HO5.out w4.heap.size z rfl HC5.out HLE.out HZ5.out ?_)
        intro v6 w6 o6 g6 p6
        obtain ⟨a6, L6, c6, rfl⟩ : ∃ a L c, v6 = .slice a L c := by obtain ⟨a, c, e⟩ := o6.form; exact ⟨a, _, c, e⟩
        have HO6 : Hid (Ow .i64 3 P1 w6 (.slice a6 L6 c6) (wr18 hasC (j + 1) ts)) := by show Ow _ _ _ _ _ _; rw [HZ.out]; exact o6
        have hK6 : Blk w6 X (B3 (.slice a L cap) u v) 27 := HK5.out.1.grown g6 HOP.out.1
        have hKP : Blk w6 P0 (B3 (.slice none 0 0) (.slice none 0 0) (.slice none 0 0)) 27 := HK5.out.2.grown g6 HOP.out.2
        have HB6 : Hid (Below w.heap.size w w6) := HB5.out.trans (grown_below g6 HB5.out.size (fun k e => by have := (World.ownsRow.lt HO5.out k e).1; have := HPW.out; omega))
        have HU6 : Hid (Ow .i64 3 w.heap.size w6 u (wr18 hasL n ts)) := World.ownsRow.kept HU5.out g6 (by
          cases hu : u.ownBlock with
          | none => exact .inl rfl
          | some k => exact .inr fun e => by have h1 := HUL.out k hu; have h2 := (World.ownsRow.lt HO5.out k e.symm).1; omega)
        have HU6s : Hid (P1 ≤ w6.heap.size) := Nat.le_trans HZ5.out g6.size
        have HS6 : Hid (S w6) := (HSS.out _).2 hK6
        have f1 := hK6.frozen 2
        have yc1 := hK6.cell 2
        simp at yc1
        have HK7 : Hid (Blk (w6.setCell ⟨X, 2, none⟩ (.slice a6 L6 c6)) X (B3 (.slice a L cap) u (.slice a6 L6 c6)) 27 ∧ Blk (w6.setCell ⟨X, 2, none⟩ (.slice a6 L6 c6)) P0 (B3 (.slice none 0 0) (.slice none 0 0) (.slice none 0 0)) 27) := ⟨by have := hK6.set 2 (.slice a6 L6 c6); simpa using this, hKP.other _ _ (by have := HS0.out; dsimp only; omega)⟩
        have HO7 : Hid (Ow .i64 3 P1 (w6.setCell ⟨X, 2, none⟩ (.slice a6 L6 c6)) (.slice a6 L6 c6) (wr18 hasC (j + 1) ts)) := World.ownsRow.kept HO6.out (grown_set' _ _ _ _) (.inr (row_blk HO6.out hK6 (by decide)))
        have HB7 : Hid (Below w.heap.size w (w6.setCell ⟨X, 2, none⟩ (.slice a6 L6 c6))) := HB6.out.setCell (by have := HS0.out; have := HP0.out; dsimp only; omega) _
        have HU7 : Hid (Ow .i64 3 w.heap.size (w6.setCell ⟨X, 2, none⟩ (.slice a6 L6 c6)) u (wr18 hasL n ts) ∧ P1 ≤ (w6.setCell ⟨X, 2, none⟩ (.slice a6 L6 c6)).heap.size) := ⟨World.ownsRow.kept HU6.out (grown_set' _ _ _ _) (.inr (row_blk HU6.out hK6 (by decide))), by simp; exact HU6s.out⟩
        clear g6 p6 o6 hK6 hKP HO6 HB6 HO5 HB5 HK5 HC5 HU6 HU5
        go_wp2
        refine ⟨HS6.out, tail_step ?_⟩
        go_wp2
        refine ⟨HS6.out, tail_end ?_⟩
        go_wp2
        go_roundw
        case rel => exact ⟨j + 1, (.slice a6 L6 c6), by go_num, by omega, HK7.out, HO7.out, HB7.out, HU7.out⟩
        case measure => (rw [hwj]; exact meas18 hlt)
    case pos =>
    obtain ⟨a1, c1, hv⟩ := hO.out.form
    have HOP : Hid (v.ownBlock ≠ some X ∧ v.ownBlock ≠ some P0) := ⟨row_blk hO.out hK.out.1 (by decide), row_blk hO.out hK.out.2 (by decide)⟩
    have hjn : (j : Int) < (n : Int) := by omega
    have hwj : wrap64 ((j : Int) + 1) = (j : Int) + 1 := wrap64_in (by have := HN.out; omega)
    have HLE : Hid ((wr18 hasL j ts).length ≤ 1000000) := by show _ ≤ _; rw [wr18_len]; have := HN.out; omega
    have HSZ : Hid (w.heap.size ≤ wr.heap.size) := hB.out.size
    obtain ⟨S, hS⟩ : ∃ S : World → Prop, ∀ W, S W ↔ Blk W X (B3 (.slice a L cap) v (.slice none 0 0)) 27 := ⟨_, fun _ => Iff.rfl⟩
    have x0 : ∀ W : At S, W.wd.cell? ⟨X, 0, none⟩ = some (.slice a L cap) := fun W => by have := ((hS _).1 W.ok).cell 0; simpa using this
    have x1 : ∀ W : At S, W.wd.cell? ⟨X, 1, none⟩ = some (v) := fun W => by have := ((hS _).1 W.ok).cell 1; simpa using this
    have x2 : ∀ W : At S, W.wd.cell? ⟨X, 2, none⟩ = some (.slice none 0 0) := fun W => by have := ((hS _).1 W.ok).cell 2; simpa using this
    have HSS : Hid (∀ W, S W ↔ Blk W X (B3 (.slice a L cap) v (.slice none 0 0)) 27) := hS
    have ne : Nonempty (At S) := ⟨⟨wr, (hS _).2 hK.out.1⟩⟩
    have HBD : Hid (Below w.heap.size w wr.drew) := hB.out.drew
    have HKD : Hid (Blk wr.drew X (B3 (.slice a L cap) v (.slice none 0 0)) 27 ∧ Blk wr.drew P0 (B3 (.slice none 0 0) (.slice none 0 0) (.slice none 0 0)) 27) := hK.out
    have HOD : Hid (Ow .i64 3 w.heap.size wr.drew v (wr18 hasL j ts)) := hO.out.below (Below.refl _ _).drew
    have HSZD : Hid (wr.drew.heap.size = wr.heap.size) := rfl
    clear hS hK hO hB hv a1 c1
    go_wp2
    refine region_mixT [true, true, true, true, false, false, false, false, false] 8 4 S (by kernel_rfl) rfl (by kernel_rfl) (fun _ _ _ _ _ h => h) ((HSS.out _).2 HKD.out.1) ?_
    simp only [selT, selF]
    try simp only [Act.put]
    repeat (go_big_quiet_step (fail))
    refine wpQuiet_nil ?_
    clear x0 x1 x2 ne
    refine tail_step ?_
    go_wp2_with (fail)
    refine (HF.out _ _ _ j false HBD.out).mono ?_
    rintro e w4 ⟨rfl, b4⟩
    have HB4 : Hid (Below w.heap.size w w4) := belowCall HBD.out b4 HBD.out.size
    have HK4 : Hid (Blk w4 X (B3 (.slice a L cap) v (.slice none 0 0)) 27 ∧ Blk w4 P0 (B3 (.slice none 0 0) (.slice none 0 0) (.slice none 0 0)) 27) := ⟨HKD.out.1.below b4 HKD.out.1.lt, HKD.out.2.below b4 HKD.out.2.lt⟩
    have HO4 : Hid (Ow .i64 3 w.heap.size w4 v (wr18 hasL j ts)) := HOD.out.below b4
    obtain ⟨z, hz⟩ : ∃ z, fst18 (hasB false (j : Int)) ts = z := ⟨_, rfl⟩
    have HZ : Hid (wr18 hasL (j + 1) ts = wr18 hasL j ts ++ [z]) := by show _ = _; rw [wr18_succ, ← hz]; rfl
    rw [hz]
    clear hz b4 HKD HOD HBD
    obtain ⟨W5, hW5⟩ : ∃ V, w4.alloc (Obj.cells #[.int .i64 z] 3) = V := ⟨_, rfl⟩
    have HW5 : Hid (w4.alloc (Obj.cells #[.int .i64 z] 3) = W5) := hW5
    have ba : Below w4.heap.size w4 W5 := by rw [← hW5]; exact (Below.refl _ _).alloc (Nat.le_refl _) _
    have HO5 : Hid (Ow .i64 3 w.heap.size W5 v (wr18 hasL j ts)) := HO4.out.below ba
    have HB5 : Hid (Below w.heap.size w W5) := belowCall HB4.out ba HB4.out.size
    have HK5 : Hid (Blk W5 X (B3 (.slice a L cap) v (.slice none 0 0)) 27 ∧ Blk W5 P0 (B3 (.slice none 0 0) (.slice none 0 0) (.slice none 0 0)) 27) := ⟨HK4.out.1.below ba HK4.out.1.lt, HK4.out.2.below ba HK4.out.2.lt⟩
    have HC5 : Hid (W5.cell? ⟨w4.heap.size, 0, none⟩ = some (.int .i64 z)) := by show _ = _; rw [← hW5, cell_box]; rfl
    have HZ5 : Hid (w.heap.size ≤ W5.heap.size) := HB5.out.size
    have HS4 : Hid (S w4) := (HSS.out _).2 HK4.out.1
    have HS5 : Hid (S W5) := (HSS.out _).2 HK5.out.1
    clear ba hW5 HO4 HB4 HK4
    go_wp2
    refine ⟨HS4.out, tail_step ?_⟩
    go_wp2
    rw [HW5.out]
    refine ⟨HS5.out, tail_step ?_⟩
    go_wp2_with (at_builtin; refine appN rfl _ _ rfl (w.heap.size) _ (wr18 hasL j ts) rfl HO5.out w4.heap.size z rfl HC5.out HLE.out HZ5.out ?_)
    intro v6 w6 o6 g6 p6
    obtain ⟨a6, L6, c6, rfl⟩ : ∃ a L c, v6 = .slice a L c := by obtain ⟨a, c, e⟩ := o6.form; exact ⟨a, _, c, e⟩
    have HO6 : Hid (Ow .i64 3 w.heap.size w6 (.slice a6 L6 c6) (wr18 hasL (j + 1) ts)) := by show Ow _ _ _ _ _ _; rw [HZ.out]; exact o6
    have hK6 : Blk w6 X (B3 (.slice a L cap) v (.slice none 0 0)) 27 := HK5.out.1.grown g6 HOP.out.1
    have hKP : Blk w6 P0 (B3 (.slice none 0 0) (.slice none 0 0) (.slice none 0 0)) 27 := HK5.out.2.grown g6 HOP.out.2
    have HB6 : Hid (Below w.heap.size w w6) := HB5.out.trans (grown_below g6 HB5.out.size (fun k e => (World.ownsRow.lt HO5.out k e).1))
    have HS6 : Hid (S w6) := (HSS.out _).2 hK6
    have f1 := hK6.frozen 1
    have yc1 := hK6.cell 1
    simp at yc1
    have HK7 : Hid (Blk (w6.setCell ⟨X, 1, none⟩ (.slice a6 L6 c6)) X (B3 (.slice a L cap) (.slice a6 L6 c6) (.slice none 0 0)) 27 ∧ Blk (w6.setCell ⟨X, 1, none⟩ (.slice a6 L6 c6)) P0 (B3 (.slice none 0 0) (.slice none 0 0) (.slice none 0 0)) 27) := ⟨by have := hK6.set 1 (.slice a6 L6 c6); simpa using this, hKP.other _ _ (by have := HS0.out; dsimp only; omega)⟩
    have HO7 : Hid (Ow .i64 3 w.heap.size (w6.setCell ⟨X, 1, none⟩ (.slice a6 L6 c6)) (.slice a6 L6 c6) (wr18 hasL (j + 1) ts)) := World.ownsRow.kept HO6.out (grown_set' _ _ _ _) (.inr (row_blk HO6.out hK6 (by decide)))
    have HB7 : Hid (Below w.heap.size w (w6.setCell ⟨X, 1, none⟩ (.slice a6 L6 c6))) := HB6.out.setCell (by have := HS0.out; have := HP0.out; dsimp only; omega) _
    clear g6 p6 o6 hK6 hKP HO6 HB6 HO5 HB5 HK5 HC5
    go_wp2
    refine ⟨HS6.out, tail_step ?_⟩
    go_wp2
    refine ⟨HS6.out, tail_end ?_⟩
    go_wp2
    go_roundw
    case rel => exact ⟨j + 1, (.slice a6 L6 c6), by go_num, by omega, HK7.out, HO7.out, HB7.out⟩
    case measure => (rw [hwj]; exact meas18 hlt)

end Go.Proofs.YtmfmlbiplagmiaaDoor

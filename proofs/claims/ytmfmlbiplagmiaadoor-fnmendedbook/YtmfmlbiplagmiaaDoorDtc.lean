/- Any book is drawn; no condition. -/
import Derived.Test.YtmfmlbiplagmiaaDoorDtb
import Derived.Test.YtmfmlbiplagmiaaDoorAzr
import Derived.Test.YtmfmlbiplagmiaaDoorMixC
namespace Go.Proofs.YtmfmlbiplagmiaaDoor
open Go.RowKit Go.ChangeShapes Go.WideShapes Go.ChangeAt
set_option linter.unusedVariables false
set_option linter.unusedSimpArgs false
set_option maxRecDepth 8000

/-- a book that is being drawn, and the box P of what is answered -/
structure BdK (w W : World) (g : Nat) (cv : Value) (zs : List Int) (X P : Nat) (va vl vc : Value) (ts : List Tk) (ls cs : List Int) : Prop where
  b : Bd w W g cv zs X va vl vc ts ls cs
  k : Blk W P (B3 (.slice none 0 0) (.slice none 0 0) (.slice none 0 0)) 27
  p : w.heap.size = P
  x : P < X
section
variable {w W W' : World} {g : Nat} {cv : Value} {zs : List Int} {X P : Nat} {va vl vc : Value} {ts : List Tk} {ls cs : List Int}
theorem BdK.below (h : BdK w W g cv zs X P va vl vc ts ls cs) (hb : Below W.heap.size W W') : BdK w W' g cv zs X P va vl vc ts ls cs := ⟨h.b.below hb, h.k.below hb h.k.lt, h.p, h.x⟩
theorem BdK.draw (h : BdK w W g cv zs X P va vl vc ts ls cs) (hd : Dr W' g cv zs) (hg : W.grownBy W' (some g)) : BdK w W' g cv zs X P va vl vc ts ls cs :=
  ⟨h.b.draw hd hg, h.k.grown hg (fun e => by have := Option.some.inj e; have := h.b.dc.lt; have := h.p; omega), h.p, h.x⟩
theorem BdK.push {w7 : World} {V7 : Value} {t : Tk} (h : BdK w W g cv zs X P va vl vc ts ls cs) (o7 : Og 3 tkC 38 w.heap.size w7 V7 (ts ++ [t])) (g7 : W.grownBy w7 va.ownBlock) (hn : ts.length ≤ 39) : BdK w (w7.setCell ⟨X, 0, none⟩ V7) g cv zs X P V7 vl vc (ts ++ [t]) ls cs :=
  ⟨h.b.push o7 g7 hn, (h.k.grown g7 (row_blk h.b.o.1 h.k (by decide))).other _ _ (by have := h.x; dsimp only; omega), h.p, h.x⟩
theorem BdK.line {gl cap x : Nat} {z : Int} (h : BdK w W g cv zs X P va (.slice (some ⟨gl, 0, none⟩) ls.length cap) vc ts ls cs) : BdK w (W.setCell ⟨gl, x, none⟩ (.int .i64 z)) g cv zs X P va (.slice (some ⟨gl, 0, none⟩) ls.length cap) vc ts (ls.set x z) cs :=
  ⟨h.b.line, h.k.other _ _ (fun e => row_blk h.b.o.2.1 h.k (by decide) (by rw [e]; rfl)), h.p, h.x⟩
theorem fin_of (dc : Dc w W g cv zs) (o : Obk w.heap.size W va vl vc ts ls cs) (k : Blk W P (B3 (.slice none 0 0) (.slice none 0 0) (.slice none 0 0)) 27) (p : w.heap.size = P) (n : ts.length ≤ 40 ∧ (1 ≤ ls.length ∧ ls.length ≤ 40) ∧ cs.length ≤ 40) :
    Blk (W.setRow P (B3 va vl vc)) P (B3 va vl vc) 27 ∧ LdR 40 40 g cv zs w (.returned (.agg (B3 va vl vc))) (W.setRow P (B3 va vl vc)) := by
  refine ⟨k.row _, _, _, _, ts, ls, cs, rfl, ?_, dc.app (row := some P) (fun k e => by have := Option.some.inj e; omega) (grown_row _ _ _), n⟩
  exact o.fr (X := fun k => k = P) (Fr.ofGrown (grown_row _ _ _) (fun k e => (Option.some.inj e).symm)) (fun j hk e => by
    subst e
    rcases hk with hk | hk | hk
    · exact row_blk o.1 k (by decide) hk
    · exact row_blk o.2.1 k (by decide) hk
    · exact row_blk o.2.2.1 k (by decide) hk)
theorem BdK.fin (h : BdK w W g cv zs X P va vl vc ts ls cs) : Blk (W.setRow P (B3 va vl vc)) P (B3 va vl vc) 27 ∧ LdR 40 40 g cv zs w (.returned (.agg (B3 va vl vc))) (W.setRow P (B3 va vl vc)) :=
  fin_of h.b.dc h.b.o h.k h.p (by have := h.b.n; omega)
/-- circuits more -/
theorem BdK.circs {w7 : World} {V7 : Value} {cs' : List Int} (h : BdK w W g cv zs X P va vl vc ts ls cs) (o7 : Ow .i64 3 w.heap.size w7 V7 cs') (g7 : W.grownBy w7 vc.ownBlock) (hV : ∀ k, V7.ownBlock = some k → vc.ownBlock = some k ∨ W.heap.size ≤ k) (hn : cs'.length ≤ 40) :
    Blk (w7.setCell ⟨X, 2, none⟩ V7) X (B3 va vl V7) 27 ∧ Dc w (w7.setCell ⟨X, 2, none⟩ V7) g cv zs ∧ Obk w.heap.size (w7.setCell ⟨X, 2, none⟩ V7) va vl V7 ts ls cs' ∧ Blk (w7.setCell ⟨X, 2, none⟩ V7) P (B3 (.slice none 0 0) (.slice none 0 0) (.slice none 0 0)) 27 := by
  have k7 := h.b.k.grown g7 (row_blk h.b.o.2.2.1 h.b.k (by decide))
  have gs : w7.grownBy (w7.setCell ⟨X, 2, none⟩ V7) (some X) := dgrown_set _ _ _ _
  have ot : Og 3 tkC 38 w.heap.size w7 va ts := World.ownsRow.kept h.b.o.1 g7 (own_tag h.b.o.1 h.b.o.2.2.1 (by decide))
  have ol : Ow .i64 3 w.heap.size w7 vl ls := World.ownsRow.kept h.b.o.2.1 g7 (by
    cases hv : vl.ownBlock with
    | none => exact .inl rfl
    | some k => exact .inr fun e => h.b.o.2.2.2.2.2 k hv e.symm)
  refine ⟨?_, (h.b.dc.app (fun k e => (World.ownsRow.lt h.b.o.2.2.1 k e).1) g7).app (row := some X) (fun k e => by have := Option.some.inj e; have := h.b.x; omega) gs, ⟨World.ownsRow.kept ot gs (.inr (row_blk ot k7 (by decide))), World.ownsRow.kept ol gs (.inr (row_blk ol k7 (by decide))), World.ownsRow.kept o7 gs (.inr (row_blk o7 k7 (by decide))), h.b.o.2.2.2.1, apart_tag ot o7 (by decide), fun k e e' => ?_⟩, (h.k.grown g7 (row_blk h.b.o.2.2.1 h.k (by decide))).other _ _ (by have := h.x; dsimp only; omega)⟩
  · have := k7.set 2 V7
    simpa using this
  · rcases hV k e' with h1 | h1
    · exact h.b.o.2.2.2.2.2 k e h1
    · have := (World.ownsRow.lt h.b.o.2.1 k e).2; omega
end
def boxLen (w : World) (X : Nat) : Nat := match w.cell? ⟨X, 0, none⟩ with | some (.slice _ n _) => n | _ => 0
theorem boxLen_of {w : World} {X : Nat} {a : Option Addr} {n c : Nat} (h : w.cell? ⟨X, 0, none⟩ = some (.slice a n c)) : boxLen w X = n := by unfold boxLen; rw [h]

set_option maxHeartbeats 25600000 in
theorem drawAny18_c (g : Nat) (cv : Value) (zs : List Int) (w : World) (h : Dr w g cv zs) : Calls Tryd.prog 28 #[.pointer (some ⟨g, 0, none⟩), cv] w (LdR 40 40 g cv zs w) := by
  obtain ⟨P0, hP0⟩ : ∃ P, w.heap.size = P := ⟨_, rfl⟩
  obtain ⟨W0, hW0⟩ : ∃ W, w.alloc (Obj.cells (B3 (.slice none 0 0) (.slice none 0 0) (.slice none 0 0)) 27) = W := ⟨_, rfl⟩
  have hb0 : Below w.heap.size w W0 := by rw [← hW0]; exact (Below.refl _ _).alloc (Nat.le_refl _) _
  have HD0 : Hid (Dc w W0 g cv zs) := (Dc.start h).below hb0
  have HK0 : Hid (Blk W0 P0 (B3 (.slice none 0 0) (.slice none 0 0) (.slice none 0 0)) 27) := by show Blk _ _ _ _; rw [← hW0, ← hP0]; exact Blk.new _ _ _
  have HP : Hid (w.heap.size = P0 ∧ w.heap.size ≤ W0.heap.size ∧ g < P0) := ⟨hP0, hb0.size, by have := h.lt; omega⟩
  have HW0 : Hid (w.alloc (Obj.cells (B3 (.slice none 0 0) (.slice none 0 0) (.slice none 0 0)) 27) = W0 ∧ w.heap.size = P0) := ⟨hW0, hP0⟩
  clear hb0 hW0 hP0 h
  go_enter Tryd.func28, Tryd.ntmps28
  go_upto_region 1 with fail
  rw [HW0.out.1, HW0.out.2]
  clear HW0
  go_wp2_with (fail)
  refine (draw18_c g cv zs W0 HD0.out.dr).mono ?_
  rintro e w2 ⟨va, vl, vc, ts, ls, cs, rfl, o2, d2, n2⟩
  obtain ⟨a0, c0, rfl⟩ := o2.1.form
  obtain ⟨a1, c1, rfl⟩ := o2.2.1.form
  obtain ⟨a2, c2, rfl⟩ := o2.2.2.1.form
  obtain ⟨X, hX⟩ : ∃ X, w2.heap.size = X := ⟨_, rfl⟩
  obtain ⟨W3, hW3⟩ : ∃ W, w2.alloc (Obj.cells (B3 (.slice a0 ts.length c0) (.slice a1 ls.length c1) (.slice a2 cs.length c2)) 27) = W := ⟨_, rfl⟩
  have ba : Below w2.heap.size w2 W3 := by rw [← hW3]; exact (Below.refl _ _).alloc (Nat.le_refl _) _
  have hk2 : Blk w2 P0 (B3 (.slice none 0 0) (.slice none 0 0) (.slice none 0 0)) 27 := HK0.out.grown d2.gr (fun e => by have := Option.some.inj e; have := HP.out; omega)
  have HB3a : Hid (BdK w W3 g cv zs X P0 (.slice a0 ts.length c0) (.slice a1 ls.length c1) (.slice a2 cs.length c2) ts ls cs) := by
    have h1 := d2.gr.size
    have h2 := HP.out
    refine ⟨⟨(HD0.out.draw d2.dr d2.gr).below ba, by rw [← hW3, ← hX]; exact Blk.new _ _ _, (o2.mono h2.2.1).below ba, by omega, by have := n2; omega⟩, hk2.below ba hk2.lt, h2.1, by have := hk2.lt; omega⟩
  have HW3 : Hid (w2.alloc (Obj.cells (B3 (.slice a0 ts.length c0) (.slice a1 ls.length c1) (.slice a2 cs.length c2)) 27) = W3 ∧ w2.heap.size = X) := ⟨hW3, hX⟩
  have HT30 : Hid (ts.length ≤ 30) := n2.1
  clear ba hk2 hX hW3 o2 d2 n2 HD0 HK0
  go_upto_region 2 with fail
  rw [HW3.out.1, HW3.out.2]
  clear HW3
  go_wp2_with (fail)
  refine (below_c g cv zs _ _ HB3a.out.b.dc.dr (by omega)).mono ?_
  rintro e w3 ⟨x, rfl, xa, -, -, d2, g2⟩
  have HB3 : Hid (BdK w w3 g cv zs X P0 (.slice a0 ts.length c0) (.slice a1 ls.length c1) (.slice a2 cs.length c2) ts ls cs) := HB3a.out.draw d2 g2
  obtain ⟨xn, rfl⟩ := Int.eq_ofNat_of_zero_le xa
  clear d2 g2 HB3a xa
  rcases (show xn = 0 ∨ xn = 1 ∨ xn = 2 ∨ xn = 3 ∨ 4 ≤ xn by omega) with rfl | rfl | rfl | rfl | h4
  · obtain ⟨gl, cap, hfm, hge, hgl⟩ := World.ownsRow.form HB3.out.b.o.2.1 (by have := HB3.out.b.n; omega)
    simp only [Value.slice.injEq] at hfm
    obtain ⟨rfl, -, rfl⟩ := hfm
    obtain ⟨S, hS⟩ : ∃ S : World → Prop, ∀ W, S W ↔ Blk W X (B3 (.slice a0 ts.length c0) (.slice (some ⟨gl, 0, none⟩) ls.length c1) (.slice a2 cs.length c2)) 27 := ⟨_, fun _ => Iff.rfl⟩
    have x0 : ∀ W : At S, W.wd.cell? ⟨X, 0, none⟩ = some (.slice a0 ts.length c0) := fun W => by have := ((hS _).1 W.ok).cell 0; simpa using this
    have x1 : ∀ W : At S, W.wd.cell? ⟨X, 1, none⟩ = some (.slice (some ⟨gl, 0, none⟩) ls.length c1) := fun W => by have := ((hS _).1 W.ok).cell 1; simpa using this
    have x2 : ∀ W : At S, W.wd.cell? ⟨X, 2, none⟩ = some (.slice a2 cs.length c2) := fun W => by have := ((hS _).1 W.ok).cell 2; simpa using this
    have HSS : Hid (∀ W, S W ↔ Blk W X (B3 (.slice a0 ts.length c0) (.slice (some ⟨gl, 0, none⟩) ls.length c1) (.slice a2 cs.length c2)) 27) := hS
    have ne : Nonempty (At S) := ⟨⟨w3, (hS _).2 HB3.out.b.k⟩⟩
    have HB3d : Hid (BdK w w3.drew g cv zs X P0 (.slice a0 ts.length c0) (.slice (some ⟨gl, 0, none⟩) ls.length c1) (.slice a2 cs.length c2) ts ls cs) := HB3.out.below (Below.refl _ _).drew
    clear hS
    go_upto_region 4 with fail
    refine region_mixT [true, true, true, false, false, false, false] 5 2 S (by kernel_rfl) rfl (by kernel_rfl) (fun _ _ _ _ _ h => h) ((HSS.out _).2 HB3d.out.b.k) ?_
    simp only [selT, selF]
    try simp only [Act.put]
    repeat (go_big_quiet_step (fail))
    refine wpQuiet_nil ?_
    clear x0 x1 x2 ne
    refine tail_step ?_
    obtain ⟨wd, hwd⟩ : ∃ W, w3.drew = W := ⟨_, rfl⟩
    rw [hwd] at HB3d ⊢
    obtain ⟨U, hU⟩ : ∃ U, wd.heap.size = U := ⟨_, rfl⟩
    obtain ⟨W4, hW4⟩ : ∃ W, wd.alloc (Obj.cells #[.int .i64 (-2), .int .i64 30, .int .i64 31] 3) = W := ⟨_, rfl⟩
    have ba : Below wd.heap.size wd W4 := by rw [← hW4]; exact (Below.refl _ _).alloc (Nat.le_refl _) _
    have HB4 : Hid (BdK w W4 g cv zs X P0 (.slice a0 ts.length c0) (.slice (some ⟨gl, 0, none⟩) ls.length c1) (.slice a2 cs.length c2) ts ls cs) := HB3d.out.below ba
    have HR4 : Hid (Rd .i64 W4 (.slice (some ⟨U, 0, none⟩) 3 3) [-2, 30, 31]) := by show Rd _ _ _ _; rw [← hW4, ← hU]; exact Rd.lit wd [-2, 30, 31] (by decide)
    have HU : Hid (g < U) := by show g < U; rw [← hU]; exact HB3d.out.b.dc.dr.lt
    have HW4 : Hid (wd.alloc (Obj.cells #[.int .i64 (-2), .int .i64 30, .int .i64 31] 3) = W4 ∧ wd.heap.size = U) := ⟨hW4, hU⟩
    clear ba hW4 hU hwd HB3 HB3d
    go_wp2
    rw [HW4.out.1, HW4.out.2]
    refine ⟨(HSS.out _).2 HB4.out.b.k, tail_step ?_⟩
    go_wp2_with (fail)
    refine (pickInt_c g cv zs _ [-2, 30, 31] W4 HB4.out.b.dc.dr HR4.out (.inr (by have := HU.out; simp [Value.ownBlock]; omega)) (by decide) (by decide)).mono ?_
    rintro e w5 ⟨z, rfl, -, d2, g2⟩
    have HB5 : Hid (BdK w w5 g cv zs X P0 (.slice a0 ts.length c0) (.slice (some ⟨gl, 0, none⟩) ls.length c1) (.slice a2 cs.length c2) ts ls cs) := HB4.out.draw d2 g2
    have HS5 : Hid (S w5) := (HSS.out _).2 HB5.out.b.k
    clear d2 g2 HB4 HR4 HU HW4
    go_wp2
    refine ⟨HS5.out, tail_end ?_⟩
    have hpos : 0 < ls.length := by have := HB5.out.b.n; omega
    have hposI : (0 : Int) < (ls.length : Int) := by omega
    obtain ⟨old, hold⟩ : ∃ u, w5.cell? ⟨gl, 0, none⟩ = some u := by
      rw [World.ownsRow.cellAt HB5.out.b.o.2.1 0 (by omega), List.getElem?_map, List.getElem?_eq_getElem hpos]
      exact ⟨_, rfl⟩
    have hfz := World.ownsRow.frozenAt HB5.out.b.o.2.1 0
    obtain ⟨W6, hW6⟩ : ∃ W, w5.setCell ⟨gl, 0, none⟩ (.int .i64 z) = W := ⟨_, rfl⟩
    have HB6 : Hid (BdK w W6 g cv zs X P0 (.slice a0 ts.length c0) (.slice (some ⟨gl, 0, none⟩) ls.length c1) (.slice a2 cs.length c2) ts (ls.set 0 z) cs) := by show BdK _ _ _ _ _ _ _ _ _ _ _ _ _; rw [← hW6]; exact HB5.out.line
    have HW6 : Hid (w5.setCell ⟨gl, 0, none⟩ (.int .i64 z) = W6) := hW6
    clear HB5 HS5 HSS hW6
    go_upto_region 12 with fail
    rw [HW6.out]
    clear HW6
    have y0 := HB6.out.b.k.cell 0
    have y1 := HB6.out.b.k.cell 1
    have y2 := HB6.out.b.k.cell 2
    simp at y0 y1 y2
    have hfin := HB6.out.fin
    go_wp2_with (refine wpList_store_row rfl 27 _ _ rfl P0 (B3 (.slice a0 ts.length c0) (.slice (some ⟨gl, 0, none⟩) ls.length c1) (.slice a2 cs.length c2)) rfl rfl 27 (B3 (.slice none 0 0) (.slice none 0 0) (.slice none 0 0)) HB6.out.k (by kernel_rfl) rfl (by simp [Value.oneCell']) ?_)
    exact bodyPost_ret (v := .agg (B3 (.slice a0 ts.length c0) (.slice (some ⟨gl, 0, none⟩) ls.length c1) (.slice a2 cs.length c2))) (results_cell_row rfl _ _ _ 27 _ (0, 0) _ rfl hfin.1 Tryd.underlying27 rfl sizeBk) rfl hfin.2
  · obtain ⟨S, hS⟩ : ∃ S : World → Prop, ∀ W, S W ↔ Blk W X (B3 (.slice a0 ts.length c0) (.slice a1 ls.length c1) (.slice a2 cs.length c2)) 27 := ⟨_, fun _ => Iff.rfl⟩
    have x0 : ∀ W : At S, W.wd.cell? ⟨X, 0, none⟩ = some (.slice a0 ts.length c0) := fun W => by have := ((hS _).1 W.ok).cell 0; simpa using this
    have x1 : ∀ W : At S, W.wd.cell? ⟨X, 1, none⟩ = some (.slice a1 ls.length c1) := fun W => by have := ((hS _).1 W.ok).cell 1; simpa using this
    have x2 : ∀ W : At S, W.wd.cell? ⟨X, 2, none⟩ = some (.slice a2 cs.length c2) := fun W => by have := ((hS _).1 W.ok).cell 2; simpa using this
    have HSS : Hid (∀ W, S W ↔ Blk W X (B3 (.slice a0 ts.length c0) (.slice a1 ls.length c1) (.slice a2 cs.length c2)) 27) := hS
    have ne : Nonempty (At S) := ⟨⟨w3, (hS _).2 HB3.out.b.k⟩⟩
    have HB3d : Hid (BdK w w3.drew g cv zs X P0 (.slice a0 ts.length c0) (.slice a1 ls.length c1) (.slice a2 cs.length c2) ts ls cs) := HB3.out.below (Below.refl _ _).drew
    clear hS
    go_upto_region 6 with fail
    refine region_anyZ S 13 (by kernel_rfl) ?_
    refine anyZ_quiet [true, true, true, false, false, true, false, true, false, false, false, false, false, false, false] 10 rfl (by kernel_rfl) (fun _ _ _ _ _ h => h) ((HSS.out _).2 HB3d.out.b.k) ?_
    simp only [selT]
    repeat (go_big_quiet_step (fail))
    refine wpQuiet_nil ?_
    clear x0 x1 x2 ne
    obtain ⟨wd, hwd⟩ : ∃ W, w3.drew = W := ⟨_, rfl⟩
    rw [hwd] at HB3d ⊢
    clear hwd HB3
    refine anyZ_one 3 (by kernel_rfl) rfl ?_
    go_wp2_with (fail)
    refine (below_c g cv zs _ _ HB3d.out.b.dc.dr (by omega)).mono ?_
    rintro e w4 ⟨z3, rfl, -, -, -, d2, g2⟩
    have HB4 : Hid (BdK w w4 g cv zs X P0 (.slice a0 ts.length c0) (.slice a1 ls.length c1) (.slice a2 cs.length c2) ts ls cs) := HB3d.out.draw d2 g2
    clear d2 g2 HB3d
    go_wp2
    refine ⟨by first | exact (HSS.out _).2 HB4.out.b.k | exact fun _ => (HSS.out _).2 HB4.out.b.k, ?_⟩
    refine anyZ_two 4 6 (by kernel_rfl) rfl rfl ?_ ?_
    · go_wp2
      refine ⟨by first | exact (HSS.out _).2 HB4.out.b.k | exact fun _ => (HSS.out _).2 HB4.out.b.k, ?_⟩
      refine anyZ_one 6 (by kernel_rfl) rfl ?_
      go_wp2_with (fail)
      refine (below_c g cv zs _ _ HB4.out.b.dc.dr (by omega)).mono ?_
      rintro e w5 ⟨z6, rfl, -, -, -, d2, g2⟩
      have HB5 : Hid (BdK w w5 g cv zs X P0 (.slice a0 ts.length c0) (.slice a1 ls.length c1) (.slice a2 cs.length c2) ts ls cs) := HB4.out.draw d2 g2
      clear d2 g2 HB4
      go_wp2
      refine ⟨by first | exact (HSS.out _).2 HB5.out.b.k | exact fun _ => (HSS.out _).2 HB5.out.b.k, ?_⟩
      refine anyZ_one 8 (by kernel_rfl) rfl ?_
      go_wp2_with (fail)
      refine (below_c g cv zs _ _ HB5.out.b.dc.dr (by omega)).mono ?_
      rintro e w6 ⟨z8, rfl, -, -, -, d2, g2⟩
      have HB6 : Hid (BdK w w6 g cv zs X P0 (.slice a0 ts.length c0) (.slice a1 ls.length c1) (.slice a2 cs.length c2) ts ls cs) := HB5.out.draw d2 g2
      clear d2 g2 HB5
      go_wp2
      refine ⟨by first | exact (HSS.out _).2 HB6.out.b.k | exact fun _ => (HSS.out _).2 HB6.out.b.k, ?_⟩
      refine anyZ_one 9 (by kernel_rfl) rfl ?_
      go_wp2
      refine ⟨by first | exact (HSS.out _).2 HB6.out.b.k | exact fun _ => (HSS.out _).2 HB6.out.b.k, ?_⟩
      refine anyZ_one 10 (by kernel_rfl) rfl ?_
      go_wp2
      refine ⟨by first | exact (HSS.out _).2 HB6.out.b.k | exact fun _ => (HSS.out _).2 HB6.out.b.k, ?_⟩
      refine anyZ_one 11 (by kernel_rfl) rfl ?_
      obtain ⟨t0, ht0⟩ : ∃ t, wrap64 (z3 - 1) = t := ⟨_, rfl⟩
      obtain ⟨t2, ht2⟩ : ∃ t, wrap64 (z8 - 2) = t := ⟨_, rfl⟩
      rw [ht0, ht2]
      clear ht0 ht2
      obtain ⟨U, hU⟩ : ∃ U, w6.heap.size = U := ⟨_, rfl⟩
      obtain ⟨W7, hW7⟩ : ∃ W, w6.alloc (Obj.cells #[.int .i64 t0, .int .i64 z6, .int .i64 t2] 38) = W := ⟨_, rfl⟩
      have ba : Below w6.heap.size w6 W7 := by rw [← hW7]; exact (Below.refl _ _).alloc (Nat.le_refl _) _
      have HB7 : Hid (BdK w W7 g cv zs X P0 (.slice a0 ts.length c0) (.slice a1 ls.length c1) (.slice a2 cs.length c2) ts ls cs) := HB6.out.below ba
      have HC7 : Hid (Blk W7 U #[.int .i64 t0, .int .i64 z6, .int .i64 t2] 38) := by show Blk _ _ _ _; rw [← hW7, ← hU]; exact Blk.new _ _ _
      have HW7 : Hid (w6.alloc (Obj.cells #[.int .i64 t0, .int .i64 z6, .int .i64 t2] 38) = W7 ∧ w6.heap.size = U) := ⟨hW7, hU⟩
      clear ba hW7 hU HB6
      go_wp2
      rw [HW7.out.1, HW7.out.2]
      refine ⟨by first | exact (HSS.out _).2 HB7.out.b.k | exact fun _ => (HSS.out _).2 HB7.out.b.k, ?_⟩
      refine anyZ_one 12 (by kernel_rfl) rfl ?_
      have hts := HB7.out.b.n.1
      refine appT rfl _ _ rfl w.heap.size _ ts rfl HB7.out.b.o.1 U (t0, z6, t2) rfl HC7.out (by omega) HB7.out.b.dc.gr.size ?_
      intro V8 w8 o8 g8 p8
      obtain ⟨a8, L8, c8, rfl⟩ : ∃ a L c, V8 = .slice a L c := by obtain ⟨a, c, e⟩ := o8.form; exact ⟨a, _, c, e⟩
      have hk8 := HB7.out.b.k.grown g8 (row_blk HB7.out.b.o.1 HB7.out.b.k (by decide))
      have HS8 : Hid (S w8) := (HSS.out _).2 hk8
      have HN : Hid (BdK w (w8.setCell ⟨X, 0, none⟩ (.slice a8 L8 c8)) g cv zs X P0 (.slice a8 L8 c8) (.slice a1 ls.length c1) (.slice a2 cs.length c2) (ts ++ [(t0, z6, t2)]) ls cs) := HB7.out.push o8 g8 (by have := HT30.out; omega)
      have y0 := hk8.cell 0
      have f0 := hk8.frozen 0
      simp at y0
      obtain ⟨W9, hW9⟩ : ∃ W, w8.setCell ⟨X, 0, none⟩ (.slice a8 L8 c8) = W := ⟨_, rfl⟩
      rw [hW9] at HN
      have HW9 : Hid (w8.setCell ⟨X, 0, none⟩ (.slice a8 L8 c8) = W9) := hW9
      clear o8 g8 p8 hk8 HB7 HC7 HW7 hW9
      go_wp2
      refine ⟨by first | exact HS8.out | exact fun _ => HS8.out, ?_⟩
      refine anyZ_one 13 (by kernel_rfl) rfl ?_
      go_wp2
      refine anyZ_one 14 (by kernel_rfl) rfl ?_
      go_wp2
      rw [HW9.out]
      refine anyZ_end (by kernel_rfl) ?_
      clear y0 f0 HS8 HSS HW9
      have y0 := HN.out.b.k.cell 0
      have y1 := HN.out.b.k.cell 1
      have y2 := HN.out.b.k.cell 2
      simp at y0 y1 y2
      have hfin := HN.out.fin
      go_wp2_with (refine wpList_store_row rfl 27 _ _ rfl P0 (B3 (.slice a8 L8 c8) (.slice a1 ls.length c1) (.slice a2 cs.length c2)) rfl rfl 27 (B3 (.slice none 0 0) (.slice none 0 0) (.slice none 0 0)) HN.out.k (by kernel_rfl) rfl (by simp [Value.oneCell']) ?_)
      exact bodyPost_ret (v := .agg (B3 (.slice a8 L8 c8) (.slice a1 ls.length c1) (.slice a2 cs.length c2))) (results_cell_row rfl _ _ _ 27 _ (0, 0) _ rfl hfin.1 Tryd.underlying27 rfl sizeBk) rfl hfin.2
    · go_wp2_with (fail)
      refine (below_c g cv zs _ _ HB4.out.b.dc.dr (by omega)).mono ?_
      rintro e w5 ⟨z6, rfl, -, -, -, d2, g2⟩
      have HB5 : Hid (BdK w w5 g cv zs X P0 (.slice a0 ts.length c0) (.slice a1 ls.length c1) (.slice a2 cs.length c2) ts ls cs) := HB4.out.draw d2 g2
      clear d2 g2 HB4
      go_wp2
      refine ⟨by first | exact (HSS.out _).2 HB5.out.b.k | exact fun _ => (HSS.out _).2 HB5.out.b.k, ?_⟩
      refine anyZ_two 4 8 (by kernel_rfl) rfl rfl ?_ ?_
      · go_wp2
        refine ⟨by first | exact (HSS.out _).2 HB5.out.b.k | exact fun _ => (HSS.out _).2 HB5.out.b.k, ?_⟩
        refine anyZ_one 8 (by kernel_rfl) rfl ?_
        go_wp2_with (fail)
        refine (below_c g cv zs _ _ HB5.out.b.dc.dr (by omega)).mono ?_
        rintro e w6 ⟨z8, rfl, -, -, -, d2, g2⟩
        have HB6 : Hid (BdK w w6 g cv zs X P0 (.slice a0 ts.length c0) (.slice a1 ls.length c1) (.slice a2 cs.length c2) ts ls cs) := HB5.out.draw d2 g2
        clear d2 g2 HB5
        go_wp2
        refine ⟨by first | exact (HSS.out _).2 HB6.out.b.k | exact fun _ => (HSS.out _).2 HB6.out.b.k, ?_⟩
        refine anyZ_one 9 (by kernel_rfl) rfl ?_
        go_wp2
        refine ⟨by first | exact (HSS.out _).2 HB6.out.b.k | exact fun _ => (HSS.out _).2 HB6.out.b.k, ?_⟩
        refine anyZ_one 10 (by kernel_rfl) rfl ?_
        go_wp2
        refine ⟨by first | exact (HSS.out _).2 HB6.out.b.k | exact fun _ => (HSS.out _).2 HB6.out.b.k, ?_⟩
        refine anyZ_one 11 (by kernel_rfl) rfl ?_
        obtain ⟨t0, ht0⟩ : ∃ t, wrap64 (z3 - 1) = t := ⟨_, rfl⟩
        obtain ⟨t2, ht2⟩ : ∃ t, wrap64 (z8 - 2) = t := ⟨_, rfl⟩
        rw [ht0, ht2]
        clear ht0 ht2
        obtain ⟨U, hU⟩ : ∃ U, w6.heap.size = U := ⟨_, rfl⟩
        obtain ⟨W7, hW7⟩ : ∃ W, w6.alloc (Obj.cells #[.int .i64 t0, .int .i64 z6, .int .i64 t2] 38) = W := ⟨_, rfl⟩
        have ba : Below w6.heap.size w6 W7 := by rw [← hW7]; exact (Below.refl _ _).alloc (Nat.le_refl _) _
        have HB7 : Hid (BdK w W7 g cv zs X P0 (.slice a0 ts.length c0) (.slice a1 ls.length c1) (.slice a2 cs.length c2) ts ls cs) := HB6.out.below ba
        have HC7 : Hid (Blk W7 U #[.int .i64 t0, .int .i64 z6, .int .i64 t2] 38) := by show Blk _ _ _ _; rw [← hW7, ← hU]; exact Blk.new _ _ _
        have HW7 : Hid (w6.alloc (Obj.cells #[.int .i64 t0, .int .i64 z6, .int .i64 t2] 38) = W7 ∧ w6.heap.size = U) := ⟨hW7, hU⟩
        clear ba hW7 hU HB6
        go_wp2
        rw [HW7.out.1, HW7.out.2]
        refine ⟨by first | exact (HSS.out _).2 HB7.out.b.k | exact fun _ => (HSS.out _).2 HB7.out.b.k, ?_⟩
        refine anyZ_one 12 (by kernel_rfl) rfl ?_
        have hts := HB7.out.b.n.1
        refine appT rfl _ _ rfl w.heap.size _ ts rfl HB7.out.b.o.1 U (t0, z6, t2) rfl HC7.out (by omega) HB7.out.b.dc.gr.size ?_
        intro V8 w8 o8 g8 p8
        obtain ⟨a8, L8, c8, rfl⟩ : ∃ a L c, V8 = .slice a L c := by obtain ⟨a, c, e⟩ := o8.form; exact ⟨a, _, c, e⟩
        have hk8 := HB7.out.b.k.grown g8 (row_blk HB7.out.b.o.1 HB7.out.b.k (by decide))
        have HS8 : Hid (S w8) := (HSS.out _).2 hk8
        have HN : Hid (BdK w (w8.setCell ⟨X, 0, none⟩ (.slice a8 L8 c8)) g cv zs X P0 (.slice a8 L8 c8) (.slice a1 ls.length c1) (.slice a2 cs.length c2) (ts ++ [(t0, z6, t2)]) ls cs) := HB7.out.push o8 g8 (by have := HT30.out; omega)
        have y0 := hk8.cell 0
        have f0 := hk8.frozen 0
        simp at y0
        obtain ⟨W9, hW9⟩ : ∃ W, w8.setCell ⟨X, 0, none⟩ (.slice a8 L8 c8) = W := ⟨_, rfl⟩
        rw [hW9] at HN
        have HW9 : Hid (w8.setCell ⟨X, 0, none⟩ (.slice a8 L8 c8) = W9) := hW9
        clear o8 g8 p8 hk8 HB7 HC7 HW7 hW9
        go_wp2
        refine ⟨by first | exact HS8.out | exact fun _ => HS8.out, ?_⟩
        refine anyZ_one 13 (by kernel_rfl) rfl ?_
        go_wp2
        refine anyZ_one 14 (by kernel_rfl) rfl ?_
        go_wp2
        rw [HW9.out]
        refine anyZ_end (by kernel_rfl) ?_
        clear y0 f0 HS8 HSS HW9
        have y0 := HN.out.b.k.cell 0
        have y1 := HN.out.b.k.cell 1
        have y2 := HN.out.b.k.cell 2
        simp at y0 y1 y2
        have hfin := HN.out.fin
        go_wp2_with (refine wpList_store_row rfl 27 _ _ rfl P0 (B3 (.slice a8 L8 c8) (.slice a1 ls.length c1) (.slice a2 cs.length c2)) rfl rfl 27 (B3 (.slice none 0 0) (.slice none 0 0) (.slice none 0 0)) HN.out.k (by kernel_rfl) rfl (by simp [Value.oneCell']) ?_)
        exact bodyPost_ret (v := .agg (B3 (.slice a8 L8 c8) (.slice a1 ls.length c1) (.slice a2 cs.length c2))) (results_cell_row rfl _ _ _ 27 _ (0, 0) _ rfl hfin.1 Tryd.underlying27 rfl sizeBk) rfl hfin.2
      · go_wp2_with (fail)
        refine (below_c g cv zs _ _ HB5.out.b.dc.dr (by omega)).mono ?_
        rintro e w6 ⟨z8, rfl, -, -, -, d2, g2⟩
        have HB6 : Hid (BdK w w6 g cv zs X P0 (.slice a0 ts.length c0) (.slice a1 ls.length c1) (.slice a2 cs.length c2) ts ls cs) := HB5.out.draw d2 g2
        clear d2 g2 HB5
        go_wp2
        refine ⟨by first | exact (HSS.out _).2 HB6.out.b.k | exact fun _ => (HSS.out _).2 HB6.out.b.k, ?_⟩
        refine anyZ_two 4 9 (by kernel_rfl) rfl rfl ?_ ?_
        · go_wp2
          refine ⟨by first | exact (HSS.out _).2 HB6.out.b.k | exact fun _ => (HSS.out _).2 HB6.out.b.k, ?_⟩
          refine anyZ_one 9 (by kernel_rfl) rfl ?_
          go_wp2
          refine ⟨by first | exact (HSS.out _).2 HB6.out.b.k | exact fun _ => (HSS.out _).2 HB6.out.b.k, ?_⟩
          refine anyZ_one 10 (by kernel_rfl) rfl ?_
          go_wp2
          refine ⟨by first | exact (HSS.out _).2 HB6.out.b.k | exact fun _ => (HSS.out _).2 HB6.out.b.k, ?_⟩
          refine anyZ_one 11 (by kernel_rfl) rfl ?_
          obtain ⟨t0, ht0⟩ : ∃ t, wrap64 (z3 - 1) = t := ⟨_, rfl⟩
          obtain ⟨t2, ht2⟩ : ∃ t, wrap64 (z8 - 2) = t := ⟨_, rfl⟩
          rw [ht0, ht2]
          clear ht0 ht2
          obtain ⟨U, hU⟩ : ∃ U, w6.heap.size = U := ⟨_, rfl⟩
          obtain ⟨W7, hW7⟩ : ∃ W, w6.alloc (Obj.cells #[.int .i64 t0, .int .i64 z6, .int .i64 t2] 38) = W := ⟨_, rfl⟩
          have ba : Below w6.heap.size w6 W7 := by rw [← hW7]; exact (Below.refl _ _).alloc (Nat.le_refl _) _
          have HB7 : Hid (BdK w W7 g cv zs X P0 (.slice a0 ts.length c0) (.slice a1 ls.length c1) (.slice a2 cs.length c2) ts ls cs) := HB6.out.below ba
          have HC7 : Hid (Blk W7 U #[.int .i64 t0, .int .i64 z6, .int .i64 t2] 38) := by show Blk _ _ _ _; rw [← hW7, ← hU]; exact Blk.new _ _ _
          have HW7 : Hid (w6.alloc (Obj.cells #[.int .i64 t0, .int .i64 z6, .int .i64 t2] 38) = W7 ∧ w6.heap.size = U) := ⟨hW7, hU⟩
          clear ba hW7 hU HB6
          go_wp2
          rw [HW7.out.1, HW7.out.2]
          refine ⟨by first | exact (HSS.out _).2 HB7.out.b.k | exact fun _ => (HSS.out _).2 HB7.out.b.k, ?_⟩
          refine anyZ_one 12 (by kernel_rfl) rfl ?_
          have hts := HB7.out.b.n.1
          refine appT rfl _ _ rfl w.heap.size _ ts rfl HB7.out.b.o.1 U (t0, z6, t2) rfl HC7.out (by omega) HB7.out.b.dc.gr.size ?_
          intro V8 w8 o8 g8 p8
          obtain ⟨a8, L8, c8, rfl⟩ : ∃ a L c, V8 = .slice a L c := by obtain ⟨a, c, e⟩ := o8.form; exact ⟨a, _, c, e⟩
          have hk8 := HB7.out.b.k.grown g8 (row_blk HB7.out.b.o.1 HB7.out.b.k (by decide))
          have HS8 : Hid (S w8) := (HSS.out _).2 hk8
          have HN : Hid (BdK w (w8.setCell ⟨X, 0, none⟩ (.slice a8 L8 c8)) g cv zs X P0 (.slice a8 L8 c8) (.slice a1 ls.length c1) (.slice a2 cs.length c2) (ts ++ [(t0, z6, t2)]) ls cs) := HB7.out.push o8 g8 (by have := HT30.out; omega)
          have y0 := hk8.cell 0
          have f0 := hk8.frozen 0
          simp at y0
          obtain ⟨W9, hW9⟩ : ∃ W, w8.setCell ⟨X, 0, none⟩ (.slice a8 L8 c8) = W := ⟨_, rfl⟩
          rw [hW9] at HN
          have HW9 : Hid (w8.setCell ⟨X, 0, none⟩ (.slice a8 L8 c8) = W9) := hW9
          clear o8 g8 p8 hk8 HB7 HC7 HW7 hW9
          go_wp2
          refine ⟨by first | exact HS8.out | exact fun _ => HS8.out, ?_⟩
          refine anyZ_one 13 (by kernel_rfl) rfl ?_
          go_wp2
          refine anyZ_one 14 (by kernel_rfl) rfl ?_
          go_wp2
          rw [HW9.out]
          refine anyZ_end (by kernel_rfl) ?_
          clear y0 f0 HS8 HSS HW9
          have y0 := HN.out.b.k.cell 0
          have y1 := HN.out.b.k.cell 1
          have y2 := HN.out.b.k.cell 2
          simp at y0 y1 y2
          have hfin := HN.out.fin
          go_wp2_with (refine wpList_store_row rfl 27 _ _ rfl P0 (B3 (.slice a8 L8 c8) (.slice a1 ls.length c1) (.slice a2 cs.length c2)) rfl rfl 27 (B3 (.slice none 0 0) (.slice none 0 0) (.slice none 0 0)) HN.out.k (by kernel_rfl) rfl (by simp [Value.oneCell']) ?_)
          exact bodyPost_ret (v := .agg (B3 (.slice a8 L8 c8) (.slice a1 ls.length c1) (.slice a2 cs.length c2))) (results_cell_row rfl _ _ _ 27 _ (0, 0) _ rfl hfin.1 Tryd.underlying27 rfl sizeBk) rfl hfin.2
        · go_wp2
          refine ⟨by first | exact (HSS.out _).2 HB6.out.b.k | exact fun _ => (HSS.out _).2 HB6.out.b.k, ?_⟩
          refine anyZ_one 4 (by kernel_rfl) rfl ?_
          go_wp2
          refine ⟨by first | exact (HSS.out _).2 HB6.out.b.k | exact fun _ => (HSS.out _).2 HB6.out.b.k, ?_⟩
          refine anyZ_one 10 (by kernel_rfl) rfl ?_
          go_wp2
          refine ⟨by first | exact (HSS.out _).2 HB6.out.b.k | exact fun _ => (HSS.out _).2 HB6.out.b.k, ?_⟩
          refine anyZ_one 11 (by kernel_rfl) rfl ?_
          obtain ⟨t0, ht0⟩ : ∃ t, wrap64 (z3 - 1) = t := ⟨_, rfl⟩
          obtain ⟨t2, ht2⟩ : ∃ t, wrap64 (z8 - 2) = t := ⟨_, rfl⟩
          rw [ht0, ht2]
          clear ht0 ht2
          obtain ⟨U, hU⟩ : ∃ U, w6.heap.size = U := ⟨_, rfl⟩
          obtain ⟨W7, hW7⟩ : ∃ W, w6.alloc (Obj.cells #[.int .i64 t0, .int .i64 z6, .int .i64 t2] 38) = W := ⟨_, rfl⟩
          have ba : Below w6.heap.size w6 W7 := by rw [← hW7]; exact (Below.refl _ _).alloc (Nat.le_refl _) _
          have HB7 : Hid (BdK w W7 g cv zs X P0 (.slice a0 ts.length c0) (.slice a1 ls.length c1) (.slice a2 cs.length c2) ts ls cs) := HB6.out.below ba
          have HC7 : Hid (Blk W7 U #[.int .i64 t0, .int .i64 z6, .int .i64 t2] 38) := by show Blk _ _ _ _; rw [← hW7, ← hU]; exact Blk.new _ _ _
          have HW7 : Hid (w6.alloc (Obj.cells #[.int .i64 t0, .int .i64 z6, .int .i64 t2] 38) = W7 ∧ w6.heap.size = U) := ⟨hW7, hU⟩
          clear ba hW7 hU HB6
          go_wp2
          rw [HW7.out.1, HW7.out.2]
          refine ⟨by first | exact (HSS.out _).2 HB7.out.b.k | exact fun _ => (HSS.out _).2 HB7.out.b.k, ?_⟩
          refine anyZ_one 12 (by kernel_rfl) rfl ?_
          have hts := HB7.out.b.n.1
          refine appT rfl _ _ rfl w.heap.size _ ts rfl HB7.out.b.o.1 U (t0, z6, t2) rfl HC7.out (by omega) HB7.out.b.dc.gr.size ?_
          intro V8 w8 o8 g8 p8
          obtain ⟨a8, L8, c8, rfl⟩ : ∃ a L c, V8 = .slice a L c := by obtain ⟨a, c, e⟩ := o8.form; exact ⟨a, _, c, e⟩
          have hk8 := HB7.out.b.k.grown g8 (row_blk HB7.out.b.o.1 HB7.out.b.k (by decide))
          have HS8 : Hid (S w8) := (HSS.out _).2 hk8
          have HN : Hid (BdK w (w8.setCell ⟨X, 0, none⟩ (.slice a8 L8 c8)) g cv zs X P0 (.slice a8 L8 c8) (.slice a1 ls.length c1) (.slice a2 cs.length c2) (ts ++ [(t0, z6, t2)]) ls cs) := HB7.out.push o8 g8 (by have := HT30.out; omega)
          have y0 := hk8.cell 0
          have f0 := hk8.frozen 0
          simp at y0
          obtain ⟨W9, hW9⟩ : ∃ W, w8.setCell ⟨X, 0, none⟩ (.slice a8 L8 c8) = W := ⟨_, rfl⟩
          rw [hW9] at HN
          have HW9 : Hid (w8.setCell ⟨X, 0, none⟩ (.slice a8 L8 c8) = W9) := hW9
          clear o8 g8 p8 hk8 HB7 HC7 HW7 hW9
          go_wp2
          refine ⟨by first | exact HS8.out | exact fun _ => HS8.out, ?_⟩
          refine anyZ_one 13 (by kernel_rfl) rfl ?_
          go_wp2
          refine anyZ_one 14 (by kernel_rfl) rfl ?_
          go_wp2
          rw [HW9.out]
          refine anyZ_end (by kernel_rfl) ?_
          clear y0 f0 HS8 HSS HW9
          have y0 := HN.out.b.k.cell 0
          have y1 := HN.out.b.k.cell 1
          have y2 := HN.out.b.k.cell 2
          simp at y0 y1 y2
          have hfin := HN.out.fin
          go_wp2_with (refine wpList_store_row rfl 27 _ _ rfl P0 (B3 (.slice a8 L8 c8) (.slice a1 ls.length c1) (.slice a2 cs.length c2)) rfl rfl 27 (B3 (.slice none 0 0) (.slice none 0 0) (.slice none 0 0)) HN.out.k (by kernel_rfl) rfl (by simp [Value.oneCell']) ?_)
          exact bodyPost_ret (v := .agg (B3 (.slice a8 L8 c8) (.slice a1 ls.length c1) (.slice a2 cs.length c2))) (results_cell_row rfl _ _ _ 27 _ (0, 0) _ rfl hfin.1 Tryd.underlying27 rfl sizeBk) rfl hfin.2
  · obtain ⟨S, hS⟩ : ∃ S : World → Prop, ∀ W, S W ↔ Blk W X (B3 (.slice a0 ts.length c0) (.slice a1 ls.length c1) (.slice a2 cs.length c2)) 27 := ⟨_, fun _ => Iff.rfl⟩
    have x0 : ∀ W : At S, W.wd.cell? ⟨X, 0, none⟩ = some (.slice a0 ts.length c0) := fun W => by have := ((hS _).1 W.ok).cell 0; simpa using this
    have x1 : ∀ W : At S, W.wd.cell? ⟨X, 1, none⟩ = some (.slice a1 ls.length c1) := fun W => by have := ((hS _).1 W.ok).cell 1; simpa using this
    have x2 : ∀ W : At S, W.wd.cell? ⟨X, 2, none⟩ = some (.slice a2 cs.length c2) := fun W => by have := ((hS _).1 W.ok).cell 2; simpa using this
    have HSS : Hid (∀ W, S W ↔ Blk W X (B3 (.slice a0 ts.length c0) (.slice a1 ls.length c1) (.slice a2 cs.length c2)) 27) := hS
    have ne : Nonempty (At S) := ⟨⟨w3, (hS _).2 HB3.out.b.k⟩⟩
    have HB3d : Hid (BdK w w3.drew g cv zs X P0 (.slice a0 ts.length c0) (.slice a1 ls.length c1) (.slice a2 cs.length c2) ts ls cs) := HB3.out.below (Below.refl _ _).drew
    clear hS
    go_upto_region 8 with fail
    refine region_mixT [true, true, true, true, true, true, true, false, false, false, false, false] 10 3 S (by kernel_rfl) rfl (by kernel_rfl) (fun _ _ _ _ _ h => h) ((HSS.out _).2 HB3d.out.b.k) ?_
    simp only [selT, selF]
    try simp only [Act.put]
    repeat (go_big_quiet_step (fail))
    refine wpQuiet_nil ?_
    clear x0 x1 x2 ne
    refine tail_step ?_
    obtain ⟨wd, hwd⟩ : ∃ W, w3.drew = W := ⟨_, rfl⟩
    rw [hwd] at HB3d ⊢
    clear hwd HB3
    go_wp2_with (fail)
    refine (below_c g cv zs _ _ HB3d.out.b.dc.dr (by omega)).mono ?_
    rintro e w5 ⟨z, rfl, za, zb, -, d2, g2⟩
    obtain ⟨zn, rfl⟩ := Int.eq_ofNat_of_zero_le za
    have hz : zn ≤ 1 := by have := zb (by omega); omega
    have HB5 : Hid (BdK w w5 g cv zs X P0 (.slice a0 ts.length c0) (.slice a1 ls.length c1) (.slice a2 cs.length c2) ts ls cs) := HB3d.out.draw d2 g2
    have HS5 : Hid (S w5) := (HSS.out _).2 HB5.out.b.k
    have hc20 : cs.length ≤ 20 := HB5.out.b.n.2.2
    clear d2 g2 za zb HB3d
    go_wp2
    refine ⟨HS5.out, tail_step ?_⟩
    go_wp2
    refine ⟨HS5.out, tail_step ?_⟩
    obtain ⟨K, hK, hK1, hK2⟩ : ∃ K : Nat, wrap64 (wrap64 (30 - (cs.length : Int)) + (zn : Int)) = (K : Int) ∧ 0 < K ∧ cs.length + K ≤ 40 := ⟨30 - cs.length + zn, by unfold wrap64; omega, by omega, by omega⟩
    rw [hK]
    obtain ⟨V8, w8, hr8, o8, g8, p8⟩ := zeros_run w.heap.size 25 (.slice a2 cs.length c2) cs K w5 HB5.out.b.o.2.2.1 hK1 (by omega) (by omega) HB5.out.b.dc.gr.size
    obtain ⟨a8, L8, c8, rfl⟩ : ∃ a L c, V8 = .slice a L c := by obtain ⟨a, c, e⟩ := o8.form; exact ⟨a, _, c, e⟩
    have hk8 := HB5.out.b.k.grown g8 (row_blk HB5.out.b.o.2.2.1 HB5.out.b.k (by decide))
    have HS8 : Hid (S w8) := (HSS.out _).2 hk8
    obtain ⟨q1, q2, q3, q4⟩ := HB5.out.circs o8 g8 (fun k e => by rcases p8 with h | h <;> rw [h] at e; exact .inl e; exact .inr (by have := Option.some.inj e; omega)) (by simp; omega)
    have hnn := HB5.out.b.n
    have HQ : Hid (Blk (w8.setCell ⟨X, 2, none⟩ (.slice a8 L8 c8)) X (B3 (.slice a0 ts.length c0) (.slice a1 ls.length c1) (.slice a8 L8 c8)) 27 ∧ Dc w (w8.setCell ⟨X, 2, none⟩ (.slice a8 L8 c8)) g cv zs ∧ Obk w.heap.size (w8.setCell ⟨X, 2, none⟩ (.slice a8 L8 c8)) (.slice a0 ts.length c0) (.slice a1 ls.length c1) (.slice a8 L8 c8) ts ls (cs ++ List.replicate K 0) ∧ Blk (w8.setCell ⟨X, 2, none⟩ (.slice a8 L8 c8)) P0 (B3 (.slice none 0 0) (.slice none 0 0) (.slice none 0 0)) 27 ∧ w.heap.size = P0 ∧ (ts.length ≤ 40 ∧ (1 ≤ ls.length ∧ ls.length ≤ 40) ∧ (cs ++ List.replicate K 0).length ≤ 40)) := ⟨q1, q2, q3, q4, HB5.out.p, hnn.1, hnn.2.1, by simp; omega⟩
    have y2 := hk8.cell 2
    have f2 := hk8.frozen 2
    simp at y2
    obtain ⟨W9, hW9⟩ : ∃ W, w8.setCell ⟨X, 2, none⟩ (.slice a8 L8 c8) = W := ⟨_, rfl⟩
    rw [hW9] at HQ
    have HW9 : Hid (w8.setCell ⟨X, 2, none⟩ (.slice a8 L8 c8) = W9) := hW9
    clear q1 q2 q3 q4 o8 g8 p8 hk8 HB5 hW9 hnn hK
    refine Lib.wpList_append_run w5 rfl _ _ 25 3 rfl _ _ rfl rfl (.slice a8 L8 c8) w8 hr8 ?_
    clear hr8
    go_wp2
    refine ⟨HS8.out, tail_end ?_⟩
    clear HS5 HS8 HSS
    go_upto_region 12 with fail
    rw [HW9.out]
    clear HW9 y2 f2
    have y0 := HQ.out.1.cell 0
    have y1 := HQ.out.1.cell 1
    have y2 := HQ.out.1.cell 2
    simp at y0 y1 y2
    have hfin := fin_of HQ.out.2.1 HQ.out.2.2.1 HQ.out.2.2.2.1 HQ.out.2.2.2.2.1 HQ.out.2.2.2.2.2
    go_wp2_with (refine wpList_store_row rfl 27 _ _ rfl P0 (B3 (.slice a0 ts.length c0) (.slice a1 ls.length c1) (.slice a8 L8 c8)) rfl rfl 27 (B3 (.slice none 0 0) (.slice none 0 0) (.slice none 0 0)) HQ.out.2.2.2.1 (by kernel_rfl) rfl (by simp [Value.oneCell']) ?_)
    exact bodyPost_ret (v := .agg (B3 (.slice a0 ts.length c0) (.slice a1 ls.length c1) (.slice a8 L8 c8))) (results_cell_row rfl _ _ _ 27 _ (0, 0) _ rfl hfin.1 Tryd.underlying27 rfl sizeBk) rfl hfin.2
  · go_wp2_with (fail)
    go_loopw [] (fun wr => ∃ (va : Value) (ts : List Tk), Hid (BdK w wr g cv zs X P0 (va) (.slice a1 ls.length c1) (.slice a2 cs.length c2) ts ls cs)) (fun wr => 40 - boxLen wr X)
    case atStart => exact ⟨_, ts, HB3⟩
    case round =>
      clear HB3 HT30
      obtain ⟨va, ts, HB3⟩ := hrel
      obtain ⟨a0, c0, rfl⟩ := HB3.out.b.o.1.form
      obtain ⟨S, hS⟩ : ∃ S : World → Prop, ∀ W, S W ↔ Blk W X (B3 (.slice a0 ts.length c0) (.slice a1 ls.length c1) (.slice a2 cs.length c2)) 27 := ⟨_, fun _ => Iff.rfl⟩
      have x0 : ∀ W : At S, W.wd.cell? ⟨X, 0, none⟩ = some (.slice a0 ts.length c0) := fun W => by have := ((hS _).1 W.ok).cell 0; simpa using this
      have x1 : ∀ W : At S, W.wd.cell? ⟨X, 1, none⟩ = some (.slice a1 ls.length c1) := fun W => by have := ((hS _).1 W.ok).cell 1; simpa using this
      have x2 : ∀ W : At S, W.wd.cell? ⟨X, 2, none⟩ = some (.slice a2 cs.length c2) := fun W => by have := ((hS _).1 W.ok).cell 2; simpa using this
      have HSS : Hid (∀ W, S W ↔ Blk W X (B3 (.slice a0 ts.length c0) (.slice a1 ls.length c1) (.slice a2 cs.length c2)) 27) := hS
      have ne : Nonempty (At S) := ⟨⟨wr, (hS _).2 HB3.out.b.k⟩⟩
      have HB3d : Hid (BdK w wr.drew g cv zs X P0 (.slice a0 ts.length c0) (.slice a1 ls.length c1) (.slice a2 cs.length c2) ts ls cs) := HB3.out.below (Below.refl _ _).drew
      clear hS
      go_upto_region 10 with fail
      refine region_mixT [true, true, true, true, false, false, false] 7 3 S (by kernel_rfl) rfl (by kernel_rfl) (fun _ _ _ _ _ h => h) ((HSS.out _).2 HB3d.out.b.k) ?_
      simp only [selT, selF]
      try simp only [Act.put]
      repeat (go_big_quiet_step (fail))
      refine wpQuiet_nil ?_
      clear x0 x1 x2 ne
      refine tail_step ?_
      have hm0 : boxLen wr X = ts.length := boxLen_of (by have := HB3.out.b.k.cell 0; simpa using this)
      obtain ⟨wd, hwd⟩ : ∃ W, wr.drew = W := ⟨_, rfl⟩
      rw [hwd] at HB3d ⊢
      clear hwd HB3
      go_wp2_with (fail)
      refine (below_c g cv zs _ _ HB3d.out.b.dc.dr (by omega)).mono ?_
      rintro e w5 ⟨z, rfl, za, zb, -, d2, g2⟩
      obtain ⟨zn, rfl⟩ := Int.eq_ofNat_of_zero_le za
      have hz : zn ≤ 1 := by have := zb (by omega); omega
      have HB5 : Hid (BdK w w5 g cv zs X P0 (.slice a0 ts.length c0) (.slice a1 ls.length c1) (.slice a2 cs.length c2) ts ls cs) := HB3d.out.draw d2 g2
      have HS5 : Hid (S w5) := (HSS.out _).2 HB5.out.b.k
      have hw : wrap64 (30 + (zn : Int)) = 30 + (zn : Int) := by unfold wrap64; omega
      clear d2 g2 za zb HB3d
      go_wp2
      refine ⟨HS5.out, tail_step ?_⟩
      go_wp2
      refine ⟨HS5.out, tail_step ?_⟩
      go_wp2
      refine ⟨HS5.out, tail_end ?_⟩
      try rw [hw]
      clear HS5 HSS hw
      have y0 := HB5.out.b.k.cell 0
      have y1 := HB5.out.b.k.cell 1
      have y2 := HB5.out.b.k.cell 2
      simp at y0 y1 y2
      have hts := HB5.out.b.n.1
      by_cases hlt : (ts.length : Int) < 30 + (zn : Int)
      case pos =>
        have hd : decide ((ts.length : Int) < 30 + (zn : Int)) = true := by simpa using hlt
        obtain ⟨U, hU⟩ : ∃ U, w5.heap.size = U := ⟨_, rfl⟩
        obtain ⟨W7, hW7⟩ : ∃ W, w5.alloc (Obj.cells #[.int .i64 0, .int .i64 0, .int .i64 0] 38) = W := ⟨_, rfl⟩
        have ba : Below w5.heap.size w5 W7 := by rw [← hW7]; exact (Below.refl _ _).alloc (Nat.le_refl _) _
        have HB7 : Hid (BdK w W7 g cv zs X P0 (.slice a0 ts.length c0) (.slice a1 ls.length c1) (.slice a2 cs.length c2) ts ls cs) := HB5.out.below ba
        have HC7 : Hid (Blk W7 U #[.int .i64 0, .int .i64 0, .int .i64 0] 38) := by show Blk _ _ _ _; rw [← hW7, ← hU]; exact Blk.new _ _ _
        have HW7 : Hid (w5.alloc (Obj.cells #[.int .i64 0, .int .i64 0, .int .i64 0] 38) = W7 ∧ w5.heap.size = U) := ⟨hW7, hU⟩
        clear ba hW7 hU HB5
        go_wp2_with (at_builtin; (try rw [HW7.out.1]); (try rw [HW7.out.2]); refine appT rfl _ _ rfl w.heap.size _ ts rfl HB7.out.b.o.1 U (0, 0, 0) rfl HC7.out (by omega) HB7.out.b.dc.gr.size ?_)
        intro V8 w8 o8 g8 p8
        obtain ⟨a8, L8, c8, rfl⟩ : ∃ a L c, V8 = .slice a L c := by obtain ⟨a, c, e⟩ := o8.form; exact ⟨a, _, c, e⟩
        have hk8 := HB7.out.b.k.grown g8 (row_blk HB7.out.b.o.1 HB7.out.b.k (by decide))
        have HN : Hid (BdK w (w8.setCell ⟨X, 0, none⟩ (.slice a8 L8 c8)) g cv zs X P0 (.slice a8 L8 c8) (.slice a1 ls.length c1) (.slice a2 cs.length c2) (ts ++ [(0, 0, 0)]) ls cs) := HB7.out.push o8 g8 (by omega)
        have hm1 : boxLen (w8.setCell ⟨X, 0, none⟩ (.slice a8 L8 c8)) X = ts.length + 1 := by
          obtain ⟨a, c, e⟩ := o8.form
          have hL : L8 = ts.length + 1 := by simpa using (Value.slice.inj e).2.1
          rw [← hL]
          exact boxLen_of (by have := HN.out.b.k.cell 0; simpa using this)
        clear y0 y1 y2
        have y0 := hk8.cell 0
        have f0 := hk8.frozen 0
        simp at y0
        clear o8 g8 p8 hk8 HB7 HC7 HW7
        go_wp2
        go_roundw
        case rel => exact ⟨_, _, HN⟩
        case measure => omega
      case neg =>
        have hd : decide ((ts.length : Int) < 30 + (zn : Int)) = false := by simpa using hlt
        have hfin := HB5.out.fin
        go_wp2_with (refine wpList_store_row rfl 27 _ _ rfl P0 (B3 (.slice a0 ts.length c0) (.slice a1 ls.length c1) (.slice a2 cs.length c2)) rfl rfl 27 (B3 (.slice none 0 0) (.slice none 0 0) (.slice none 0 0)) HB5.out.k (by kernel_rfl) rfl (by simp [Value.oneCell']) ?_)
        exact bodyPost_ret (v := .agg (B3 (.slice a0 ts.length c0) (.slice a1 ls.length c1) (.slice a2 cs.length c2))) (results_cell_row rfl _ _ _ 27 _ (0, 0) _ rfl hfin.1 Tryd.underlying27 rfl sizeBk) rfl hfin.2
  · have q0 : ((xn : Int) == 0) = false := by simp; omega
    have q1 : ((xn : Int) == 1) = false := by simp; omega
    have q2 : ((xn : Int) == 2) = false := by simp; omega
    have q3 : ((xn : Int) == 3) = false := by simp; omega
    have y0 := HB3.out.b.k.cell 0
    have y1 := HB3.out.b.k.cell 1
    have y2 := HB3.out.b.k.cell 2
    simp at y0 y1 y2
    have hfin := HB3.out.fin
    go_wp2_with (refine wpList_store_row rfl 27 _ _ rfl P0 (B3 (.slice a0 ts.length c0) (.slice a1 ls.length c1) (.slice a2 cs.length c2)) rfl rfl 27 (B3 (.slice none 0 0) (.slice none 0 0) (.slice none 0 0)) HB3.out.k (by kernel_rfl) rfl (by simp [Value.oneCell']) ?_)
    exact bodyPost_ret (v := .agg (B3 (.slice a0 ts.length c0) (.slice a1 ls.length c1) (.slice a2 cs.length c2))) (results_cell_row rfl _ _ _ 27 _ (0, 0) _ rfl hfin.1 Tryd.underlying27 rfl sizeBk) rfl hfin.2

end Go.Proofs.YtmfmlbiplagmiaaDoor

/- A book is drawn; no condition. -/
import Derived.Test.YtmfmlbiplagmiaaDoorDta
import Derived.Test.YtmfmlbiplagmiaaDoorAdm
import Derived.Test.YtmfmlbiplagmiaaDoorMdx
namespace Go.Proofs.YtmfmlbiplagmiaaDoor
open Go.RowKit Go.ChangeShapes Go.WideShapes Go.ChangeAt
set_option linter.unusedVariables false
set_option linter.unusedSimpArgs false
set_option maxRecDepth 8000

/-- a book that is being drawn: in the box X, its rows new -/
structure Bd (w W : World) (g : Nat) (cv : Value) (zs : List Int) (X : Nat) (va vl vc : Value) (ts : List Tk) (ls cs : List Int) : Prop where
  dc : Dc w W g cv zs
  k : Blk W X (B3 va vl vc) 27
  o : Obk w.heap.size W va vl vc ts ls cs
  x : w.heap.size ≤ X
  n : ts.length ≤ 40 ∧ (1 ≤ ls.length ∧ ls.length ≤ 40) ∧ cs.length ≤ 20
theorem obk_grown {base g : Nat} {W W' : World} {va vl vc : Value} {T : List Tk} {L C : List Int} (h : Obk base W va vl vc T L C) (hg : W.grownBy W' (some g)) (hl : g < base) : Obk base W' va vl vc T L C :=
  h.fr (X := fun k => k = g) (Fr.ofGrown hg (fun k e => (Option.some.inj e).symm)) (fun k hk e => by have := (h.lt k hk).1; omega)
section
variable {w W W' : World} {g : Nat} {cv : Value} {zs : List Int} {X : Nat} {va vl vc : Value} {ts : List Tk} {ls cs : List Int}
theorem Bd.below (h : Bd w W g cv zs X va vl vc ts ls cs) (hb : Below W.heap.size W W') : Bd w W' g cv zs X va vl vc ts ls cs := ⟨h.dc.below hb, h.k.below hb h.k.lt, h.o.below hb, h.x, h.n⟩
theorem Bd.draw (h : Bd w W g cv zs X va vl vc ts ls cs) (hd : Dr W' g cv zs) (hg : W.grownBy W' (some g)) : Bd w W' g cv zs X va vl vc ts ls cs :=
  ⟨h.dc.draw hd hg, h.k.grown hg (fun e => by have := Option.some.inj e; have := h.dc.lt; have := h.x; omega), obk_grown h.o hg h.dc.lt, h.x, h.n⟩
theorem Bd.form (h : Bd w W g cv zs X va vl vc ts ls cs) : ∃ a0 l0 c0 a1 c1 a2 c2, va = .slice a0 l0 c0 ∧ vl = .slice a1 ls.length c1 ∧ vc = .slice a2 cs.length c2 := by
  obtain ⟨a0, c0, e0⟩ := h.o.1.form
  obtain ⟨a1, c1, e1⟩ := h.o.2.1.form
  obtain ⟨a2, c2, e2⟩ := h.o.2.2.1.form
  exact ⟨a0, _, c0, a1, c1, a2, c2, e0, e1, e2⟩
theorem grown_row (W : World) (X : Nat) (cs : Array Value) : W.grownBy (W.setRow X cs) (some X) := ⟨rfl, rfl, rfl, by simp, fun i _ hi => setRow_other W _ i _ (fun e => hi (by simp [e]))⟩
theorem Bd.row {base : Nat} {ua ul uc : Value} {T : List Tk} {L C : List Int} (h : Bd w W g cv zs X va vl vc ts ls cs) (o : Obk base W ua ul uc T L C) (hb : w.heap.size ≤ base) (n : T.length ≤ 40 ∧ (1 ≤ L.length ∧ L.length ≤ 40) ∧ C.length ≤ 20) : Bd w (W.setRow X (B3 ua ul uc)) g cv zs X ua ul uc T L C := by
  refine ⟨h.dc.app (row := some X) (fun k e => by have := Option.some.inj e; have := h.x; omega) (grown_row _ _ _), h.k.row _, ?_, h.x, n⟩
  exact (o.fr (X := fun k => k = X) (Fr.ofGrown (grown_row _ _ _) (fun k e => (Option.some.inj e).symm)) (fun k hk e => by
    subst e
    rcases hk with hk | hk | hk
    · exact row_blk o.1 h.k (by decide) hk
    · exact row_blk o.2.1 h.k (by decide) hk
    · exact row_blk o.2.2.1 h.k (by decide) hk)).mono hb
theorem Bd.push {w7 : World} {V7 : Value} {t : Tk} (h : Bd w W g cv zs X va vl vc ts ls cs) (o7 : Og 3 tkC 38 w.heap.size w7 V7 (ts ++ [t])) (g7 : W.grownBy w7 va.ownBlock) (hn : ts.length ≤ 39) : Bd w (w7.setCell ⟨X, 0, none⟩ V7) g cv zs X V7 vl vc (ts ++ [t]) ls cs := by
  have k7 := h.k.grown g7 (row_blk h.o.1 h.k (by decide))
  have gs : w7.grownBy (w7.setCell ⟨X, 0, none⟩ V7) (some X) := dgrown_set _ _ _ _
  have ol : Ow .i64 3 w.heap.size w7 vl ls := World.ownsRow.kept h.o.2.1 g7 (by
    cases hv : vl.ownBlock with
    | none => exact .inl rfl
    | some k => exact .inr fun e => h.o.2.2.2.1 k e.symm hv)
  have oc : Ow .i64 3 w.heap.size w7 vc cs := World.ownsRow.kept h.o.2.2.1 g7 (by
    cases hv : vc.ownBlock with
    | none => exact .inl rfl
    | some k => exact .inr fun e => h.o.2.2.2.2.1 k e.symm hv)
  refine ⟨(h.dc.app (fun k e => (World.ownsRow.lt h.o.1 k e).1) g7).app (row := some X) (fun k e => by have := Option.some.inj e; have := h.x; omega) gs, ?_, ⟨World.ownsRow.kept o7 gs (.inr (row_blk o7 k7 (by decide))), World.ownsRow.kept ol gs (.inr (row_blk ol k7 (by decide))), World.ownsRow.kept oc gs (.inr (row_blk oc k7 (by decide))), apart_tag o7 ol (by decide), apart_tag o7 oc (by decide), h.o.2.2.2.2.2⟩, h.x, by have := h.n; simp; omega⟩
  have := k7.set 0 V7
  simpa using this
/-- a number of the lines is turned -/
theorem Bd.line {gl cap x : Nat} {z : Int} (h : Bd w W g cv zs X va (.slice (some ⟨gl, 0, none⟩) ls.length cap) vc ts ls cs) : Bd w (W.setCell ⟨gl, x, none⟩ (.int .i64 z)) g cv zs X va (.slice (some ⟨gl, 0, none⟩) ls.length cap) vc ts (ls.set x z) cs := by
  have hl := World.ownsRow.stored h.o.2.1 x (.int .i64 z)
  have ge := (World.ownsRow.lt h.o.2.1 gl rfl).1
  refine ⟨h.dc.app (fun k e => by have := Option.some.inj e; omega) hl.2, h.k.grown hl.2 (row_blk h.o.2.1 h.k (by decide)), ⟨World.ownsRow.kept h.o.1 hl.2 ?_, ?_, World.ownsRow.kept h.o.2.2.1 hl.2 ?_, h.o.2.2.2⟩, h.x, by have := h.n; simp; omega⟩
  · cases hv : va.ownBlock with
    | none => exact .inl rfl
    | some k => exact .inr fun e => h.o.2.2.2.1 k hv e.symm
  · have := hl.1
    rw [Ow, List.length_set]
    rw [← List.map_set] at this
    exact this
  · cases hv : vc.ownBlock with
    | none => exact .inl rfl
    | some k => exact .inr fun e => h.o.2.2.2.2.2 k e.symm hv
/-- a number of the circuits is turned -/
theorem Bd.circ {gl cap x : Nat} {z : Int} (h : Bd w W g cv zs X va vl (.slice (some ⟨gl, 0, none⟩) cs.length cap) ts ls cs) : Bd w (W.setCell ⟨gl, x, none⟩ (.int .i64 z)) g cv zs X va vl (.slice (some ⟨gl, 0, none⟩) cs.length cap) ts ls (cs.set x z) := by
  have hl := World.ownsRow.stored h.o.2.2.1 x (.int .i64 z)
  have ge := (World.ownsRow.lt h.o.2.2.1 gl rfl).1
  refine ⟨h.dc.app (fun k e => by have := Option.some.inj e; omega) hl.2, h.k.grown hl.2 (row_blk h.o.2.2.1 h.k (by decide)), ⟨World.ownsRow.kept h.o.1 hl.2 ?_, World.ownsRow.kept h.o.2.1 hl.2 ?_, ?_, h.o.2.2.2⟩, h.x, by have := h.n; simp; omega⟩
  · cases hv : va.ownBlock with
    | none => exact .inl rfl
    | some k => exact .inr fun e => h.o.2.2.2.2.1 k hv e.symm
  · cases hv : vl.ownBlock with
    | none => exact .inl rfl
    | some k => exact .inr fun e => h.o.2.2.2.2.2 k hv e.symm
  · have := hl.1
    rw [Ow, List.length_set]
    rw [← List.map_set] at this
    exact this
end
/-- what l18Draw answers -/
def LdR (tb cb : Nat) (g : Nat) (cv : Value) (zs : List Int) (w : World) (e : Ending) (w' : World) : Prop := ∃ va vl vc ts ls cs, e = .returned (.agg (B3 va vl vc)) ∧ Obk w.heap.size w' va vl vc ts ls cs ∧ Dc w w' g cv zs ∧ (ts.length ≤ tb ∧ (1 ≤ ls.length ∧ ls.length ≤ 40) ∧ cs.length ≤ cb)

set_option maxHeartbeats 12800000 in
theorem draw18_c (g : Nat) (cv : Value) (zs : List Int) (w : World) (h : Dr w g cv zs) : Calls Tryd.prog 59 #[.pointer (some ⟨g, 0, none⟩), cv] w (LdR 30 20 g cv zs w) := by
  obtain ⟨P0, hP0⟩ : ∃ P, w.heap.size = P := ⟨_, rfl⟩
  obtain ⟨W0, hW0⟩ : ∃ W, w.alloc (Obj.cells (B3 (.slice none 0 0) (.slice none 0 0) (.slice none 0 0)) 27) = W := ⟨_, rfl⟩
  obtain ⟨E, hE⟩ : ∃ P, W0.heap.size = P := ⟨_, rfl⟩
  obtain ⟨W1, hW1⟩ : ∃ W, W0.alloc (Obj.cells #[] 38) = W := ⟨_, rfl⟩
  have hb0 : Below w.heap.size w W0 := by rw [← hW0]; exact (Below.refl _ _).alloc (Nat.le_refl _) _
  have hb1 : Below W0.heap.size W0 W1 := by rw [← hW1]; exact (Below.refl _ _).alloc (Nat.le_refl _) _
  have HD1 : Hid (Dc w W1 g cv zs) := ((Dc.start h).below hb0).below hb1
  have hk0 : Blk W0 P0 (B3 (.slice none 0 0) (.slice none 0 0) (.slice none 0 0)) 27 := by rw [← hW0, ← hP0]; exact Blk.new _ _ _
  have HK1 : Hid (Blk W1 P0 (B3 (.slice none 0 0) (.slice none 0 0) (.slice none 0 0)) 27) := hk0.below hb1 hk0.lt
  have HT1 : Hid (Og 3 tkC 38 w.heap.size W1 (.slice (some ⟨E, 0, none⟩) 0 0) []) := ⟨rfl, .inr ⟨E, 0, #[], rfl, by rw [← hE]; exact hb0.size, by rw [← hW1, ← hE]; exact heap_alloc_new _ _, Nat.le_refl _, by unfold maxLen; omega, rfl, rfl⟩⟩
  have HG : Hid (g < P0 ∧ w.heap.size = P0) := ⟨by have := h.lt; omega, hP0⟩
  have HW : Hid (w.alloc (Obj.cells (B3 (.slice none 0 0) (.slice none 0 0) (.slice none 0 0)) 27) = W0 ∧ w.heap.size = P0 ∧ W0.heap.size = E ∧ W0.alloc (Obj.cells #[] 38) = W1) := ⟨hW0, hP0, hE, hW1⟩
  clear hb0 hb1 hk0 hW0 hW1 hP0 hE h
  go_enter Tryd.func59, Tryd.ntmps59
  go_upto_region 1 with fail
  rw [HW.out.1, HW.out.2.1]
  go_wp2_with (fail)
  rw [HW.out.2.2.2, HW.out.2.2.1]
  refine (below_c g cv zs _ _ HD1.out.dr (by omega)).mono ?_
  rintro e w2 ⟨x, rfl, xa, xb, -, d2, g2⟩
  have HD2 : Hid (Dc w w2 g cv zs) := HD1.out.draw d2 g2
  have HK2 : Hid (Blk w2 P0 (B3 (.slice none 0 0) (.slice none 0 0) (.slice none 0 0)) 27) := HK1.out.grown g2 (fun e => by have := Option.some.inj e; have := HG.out.1; omega)
  have HT2 : Hid (Og 3 tkC 38 w.heap.size w2 (.slice (some ⟨E, 0, none⟩) 0 0) []) := World.ownsRow.kept HT1.out g2 (.inr fun e => by have h1 := (World.ownsRow.lt HT1.out _ e).1; have h2 := HG.out; omega)
  obtain ⟨xn, rfl⟩ := Int.eq_ofNat_of_zero_le xa
  have hx : xn ≤ 11 := by have := xb (by omega); omega
  clear d2 g2 HD1 HK1 HT1 xa xb HW
  go_wp2_with (fail)
  refine (below_c g cv zs _ _ HD2.out.dr (by omega)).mono ?_
  rintro e w3 ⟨y, rfl, ya, yb, -, d2, g2⟩
  have HD3 : Hid (Dc w w3 g cv zs) := HD2.out.draw d2 g2
  have HK3 : Hid (Blk w3 P0 (B3 (.slice none 0 0) (.slice none 0 0) (.slice none 0 0)) 27) := HK2.out.grown g2 (fun e => by have := Option.some.inj e; have := HG.out.1; omega)
  have HT3 : Hid (Og 3 tkC 38 w.heap.size w3 (.slice (some ⟨E, 0, none⟩) 0 0) []) := World.ownsRow.kept HT2.out g2 (.inr fun e => by have h1 := (World.ownsRow.lt HT2.out _ e).1; have h2 := HG.out; omega)
  obtain ⟨yn, rfl⟩ := Int.eq_ofNat_of_zero_le ya
  have hy : yn ≤ 5 := by have := yb (by omega); omega
  clear d2 g2 HD2 HK2 HT2 ya yb
  go_wp2_with (fail)
  rw [show (1 : Int) + (xn : Int) = ((xn + 1 : Nat) : Int) by omega]
  refine (write_c _ [] (xn + 1) yn w3 (HT3.out.rd tkC_len) (by simp) (by omega) (by omega)).mono ?_
  rintro e w4 ⟨v1, v2, rfl, ol, oc, hap, b⟩
  obtain ⟨a1, n1, c1, rfl⟩ : ∃ a L c, v1 = .slice a L c := by obtain ⟨a, c, e⟩ := ol.form; exact ⟨a, _, c, e⟩
  obtain ⟨a2, n2, c2, rfl⟩ : ∃ a L c, v2 = .slice a L c := by obtain ⟨a, c, e⟩ := oc.form; exact ⟨a, _, c, e⟩
  obtain ⟨X, hX⟩ : ∃ X, w4.heap.size = X := ⟨_, rfl⟩
  obtain ⟨W5, hW5⟩ : ∃ W, w4.alloc (Obj.cells (B3 (.slice (some ⟨E, 0, none⟩) 0 0) (.slice a1 n1 c1) (.slice a2 n2 c2)) 27) = W := ⟨_, rfl⟩
  have ba : Below w4.heap.size w4 W5 := by rw [← hW5]; exact (Below.refl _ _).alloc (Nat.le_refl _) _
  have hdc : Dc w W5 g cv zs := (HD3.out.below b).below ba
  have hsz : w.heap.size ≤ w3.heap.size := HD3.out.gr.size
  have ot4 := HT3.out.below b
  have ot := ot4.below ba
  have HB5 : Hid (∃ va vl vc ts ls cs, (va = .slice (some ⟨E, 0, none⟩) 0 0 ∧ vl = .slice a1 n1 c1 ∧ vc = .slice a2 n2 c2) ∧ Bd w W5 g cv zs X va vl vc ts ls cs ∧ ts.length ≤ 30) := ⟨_, _, _, [], wr18 hasL (xn + 1) [], wr18 hasC yn [], ⟨rfl, rfl, rfl⟩, ⟨hdc, by rw [← hW5, ← hX]; exact Blk.new _ _ _, ⟨ot, (ol.mono hsz).below ba, (oc.mono hsz).below ba, apart_tag ot4 ol (by decide), apart_tag ot4 oc (by decide), hap⟩, by rw [← hX]; exact Nat.le_trans hsz b.size, by rw [wr18_len, wr18_len]; simp; omega⟩, by simp⟩
  have HK5 : Hid (Blk W5 P0 (B3 (.slice none 0 0) (.slice none 0 0) (.slice none 0 0)) 27) := (HK3.out.below b HK3.out.lt).below ba (HK3.out.below b HK3.out.lt).lt
  have HX : Hid (P0 < X) := by
    have h1 := (HK3.out.below b HK3.out.lt).lt
    show P0 < X
    omega
  have HW5 : Hid (w4.alloc (Obj.cells (B3 (.slice (some ⟨E, 0, none⟩) 0 0) (.slice a1 n1 c1) (.slice a2 n2 c2)) 27) = W5 ∧ w4.heap.size = X) := ⟨hW5, hX⟩
  clear ba hdc hsz ot4 ot ol oc hap b hX hW5 HD3 HK3 HT3
  go_upto_region 2 with fail
  rw [HW5.out.1, HW5.out.2]
  clear HW5
  obtain ⟨va, vl, vc, ts, ls, cs, -, hB5, ht5⟩ := HB5.out
  have hB : Hid (Bd w W5 g cv zs X va vl vc ts ls cs) := hB5
  go_wp2_with (fail)
  refine (size_c cv zs 14 W5 hB.out.dc.dr.rd (by have := hB.out.dc.dr.len; omega) (by omega)).mono ?_
  rintro e w6 ⟨q, rfl, hq, hw6⟩
  rw [hw6]
  clear hw6 w6
  go_wp2_with (fail)
  refine (below_c g cv zs _ _ hB.out.dc.dr (by omega)).mono ?_
  rintro e w6 ⟨j0, rfl, ja, jb, jc, d2, g2⟩
  have HB6 : Hid (Bd w w6 g cv zs X va vl vc ts ls cs) := hB.out.draw d2 g2
  have HK6 : Hid (Blk w6 P0 (B3 (.slice none 0 0) (.slice none 0 0) (.slice none 0 0)) 27) := HK5.out.grown g2 (fun e => by have := Option.some.inj e; have := HG.out.1; omega)
  have HT6 : Hid (ts.length ≤ 30) := ht5
  obtain ⟨j1, rfl⟩ := Int.eq_ofNat_of_zero_le ja
  have hj1 : j1 ≤ 20 := by
    by_cases h0 : 0 < q
    · have := jb h0; omega
    · have := jc (by omega); omega
  clear d2 g2 hB HB5 hB5 ht5 HK5 ja jb jc hq
  go_wp2
  go_loopw [6] (fun i wr => ∃ (j : Nat) (va vl vc : Value) (ts : List Tk) (ls cs : List Int), i = .int .i64 j ∧ j ≤ 20 ∧ Hid (Bd w wr g cv zs X va vl vc ts ls cs ∧ ts.length ≤ 30) ∧ Hid (Blk wr P0 (B3 (.slice none 0 0) (.slice none 0 0) (.slice none 0 0)) 27)) (fun i _ => (intOf i).toNat)
  case atStart => exact ⟨j1, va, vl, vc, ts, ls, cs, rfl, hj1, ⟨HB6.out, HT6.out⟩, HK6⟩
  case round =>
    clear HB6 HK6 HT6 va vl vc ts ls cs
    obtain ⟨j, va, vl, vc, ts, ls, cs, rfl, hj20, hB, hK⟩ := hrel
    by_cases hj : j = 0
    case pos =>
      subst hj
      have HT3 : Hid (ts.length ≤ 30) := hB.out.2
      go_wp2_with (fail)
      refine (below_c g cv zs _ _ hB.out.1.dc.dr (by omega)).mono ?_
      rintro e w2 ⟨p, rfl, pa, pb, -, d2, g2⟩
      have HB2 : Hid (Bd w w2 g cv zs X va vl vc ts ls cs) := hB.out.1.draw d2 g2
      have HK2 : Hid (Blk w2 P0 (B3 (.slice none 0 0) (.slice none 0 0) (.slice none 0 0)) 27) := hK.out.grown g2 (fun e => by have := Option.some.inj e; have := HG.out.1; omega)
      obtain ⟨pn, rfl⟩ := Int.eq_ofNat_of_zero_le pa
      have hp : pn ≤ 3 := by have := pb (by omega); omega
      clear d2 g2 hB hK pa pb
      go_wp2_with (fail)
      refine (below_c g cv zs _ _ HB2.out.dc.dr (by omega)).mono ?_
      rintro e w3 ⟨p, rfl, pa, pb, -, d2, g2⟩
      have HB3 : Hid (Bd w w3 g cv zs X va vl vc ts ls cs) := HB2.out.draw d2 g2
      have HK3 : Hid (Blk w3 P0 (B3 (.slice none 0 0) (.slice none 0 0) (.slice none 0 0)) 27) := HK2.out.grown g2 (fun e => by have := Option.some.inj e; have := HG.out.1; omega)
      obtain ⟨qn, rfl⟩ := Int.eq_ofNat_of_zero_le pa
      have hqn : qn ≤ 1 := by have := pb (by omega); omega
      obtain ⟨kn, hkn⟩ : ∃ kn, pn * qn = kn := ⟨_, rfl⟩
      have hk3 : kn ≤ 3 := by rw [← hkn]; exact Nat.le_trans (Nat.mul_le_mul hp hqn) (by decide)
      have hmul : (pn : Int) * (qn : Int) = (kn : Int) := by rw [← hkn]; simp
      clear d2 g2 HB2 HK2 pa pb hkn hp hqn
      go_wp2
      go_loopw [10] (fun i wr => ∃ (j : Nat) (va vl vc : Value) (ts : List Tk) (ls cs : List Int), i = .int .i64 j ∧ j ≤ 20 ∧ Hid (Bd w wr g cv zs X va vl vc ts ls cs) ∧ ts.length ≤ 30 ∧ Hid (Blk wr P0 (B3 (.slice none 0 0) (.slice none 0 0) (.slice none 0 0)) 27)) (fun i _ => (intOf i).toNat)
      case atStart => exact ⟨kn, va, vl, vc, ts, ls, cs, rfl, by omega, HB3, HT3.out, HK3⟩
      case round =>
        clear HB3 HK3 HT3 va vl vc ts ls cs
        obtain ⟨j, va, vl, vc, ts, ls, cs, rfl, hj20, hB, ht30, hK⟩ := hrel
        obtain ⟨a0, l0, c0, a1, c1, a2, c2, rfl, rfl, rfl⟩ := hB.out.form
        by_cases hj : j = 0
        case pos =>
          subst hj
          have y0 := hB.out.k.cell 0
          have y1 := hB.out.k.cell 1
          have y2 := hB.out.k.cell 2
          simp at y0 y1 y2
          have HEND : Hid (Blk (wr.setRow P0 (B3 (.slice a0 l0 c0) (.slice a1 ls.length c1) (.slice a2 cs.length c2))) P0 (B3 (.slice a0 l0 c0) (.slice a1 ls.length c1) (.slice a2 cs.length c2)) 27) := hK.out.row _
          have HANS : Hid (LdR 30 20 g cv zs w (.returned (.agg (B3 (.slice a0 l0 c0) (.slice a1 ls.length c1) (.slice a2 cs.length c2)))) (wr.setRow P0 (B3 (.slice a0 l0 c0) (.slice a1 ls.length c1) (.slice a2 cs.length c2)))) := by
            refine ⟨_, _, _, ts, ls, cs, rfl, ?_, hB.out.dc.app (row := some P0) (fun k e => by have := Option.some.inj e; have := HG.out.2; omega) (grown_row _ _ _), ht30, hB.out.n.2.1, hB.out.n.2.2⟩
            exact hB.out.o.fr (X := fun k => k = P0) (Fr.ofGrown (grown_row _ _ _) (fun k e => (Option.some.inj e).symm)) (fun k hk e => by
              subst e
              rcases hk with hk | hk | hk
              · exact row_blk hB.out.o.1 hK.out (by decide) hk
              · exact row_blk hB.out.o.2.1 hK.out (by decide) hk
              · exact row_blk hB.out.o.2.2.1 hK.out (by decide) hk)
          go_wp2_with (refine wpList_store_row rfl 27 _ _ rfl P0 (B3 (.slice a0 l0 c0) (.slice a1 ls.length c1) (.slice a2 cs.length c2)) rfl rfl 27 (B3 (.slice none 0 0) (.slice none 0 0) (.slice none 0 0)) hK.out (by kernel_rfl) rfl (by simp [Value.oneCell']) ?_)
          exact bodyPost_ret (v := .agg (B3 (.slice a0 l0 c0) (.slice a1 ls.length c1) (.slice a2 cs.length c2))) (results_cell_row rfl _ _ _ 27 _ (0, 0) _ rfl HEND.out Tryd.underlying27 rfl sizeBk) rfl HANS.out
        case neg =>
        obtain ⟨j', rfl⟩ : ∃ j', j = j' + 1 := ⟨j - 1, by omega⟩
        have hjI : (0 : Int) < (((j' + 1 : Nat)) : Int) := by omega
        go_wp2_with (fail)
        refine (once_c g cv zs 2 wr hB.out.dc.dr (by omega)).mono ?_
        rintro e w4 ⟨q, rfl, d2, g2⟩
        have HB4 : Hid (Bd w w4 g cv zs X (.slice a0 l0 c0) (.slice a1 ls.length c1) (.slice a2 cs.length c2) ts ls cs) := hB.out.draw d2 g2
        have HK4 : Hid (Blk w4 P0 (B3 (.slice none 0 0) (.slice none 0 0) (.slice none 0 0)) 27) := hK.out.grown g2 (fun e => by have := Option.some.inj e; have := HG.out.1; omega)
        clear d2 g2 hB hK
        cases q with
        | true =>
          obtain ⟨gl, cap, hfm, hge, hgl⟩ := World.ownsRow.form HB4.out.o.2.1 (by have := HB4.out.n; omega)
          simp only [Value.slice.injEq] at hfm
          obtain ⟨rfl, -, rfl⟩ := hfm
          obtain ⟨S, hS⟩ : ∃ S : World → Prop, ∀ W, S W ↔ Blk W X (B3 (.slice a0 l0 c0) (.slice (some ⟨gl, 0, none⟩) ls.length c1) (.slice a2 cs.length c2)) 27 := ⟨_, fun _ => Iff.rfl⟩
          have x1 : ∀ W : At S, W.wd.cell? ⟨X, 1, none⟩ = some (.slice (some ⟨gl, 0, none⟩) ls.length c1) := fun W => by have := ((hS _).1 W.ok).cell 1; simpa using this
          have HSS : Hid (∀ W, S W ↔ Blk W X (B3 (.slice a0 l0 c0) (.slice (some ⟨gl, 0, none⟩) ls.length c1) (.slice a2 cs.length c2)) 27) := hS
          have ne : Nonempty (At S) := ⟨⟨w4, (hS _).2 HB4.out.k⟩⟩
          clear hS
          go_upto_region 15 with fail
          refine region_mixT [true, true, true, true, true, true, false, true, false, false, false, false] 10 3 S (by kernel_rfl) rfl (by kernel_rfl) (fun _ _ _ _ _ h => h) ((HSS.out _).2 HB4.out.k) ?_
          simp only [selT, selF]
          try simp only [Act.put]
          repeat (go_big_quiet_step (fail))
          refine wpQuiet_nil ?_
          clear x1 ne
          refine tail_step ?_
          go_wp2_with (fail)
          have hln := HB4.out.n
          refine (below_c g cv zs _ _ (HB4.out.below (Below.refl _ _).drew).dc.dr (by omega)).mono ?_
          rintro e w5 ⟨p, rfl, pa, pb, -, d2, g2⟩
          have HB5 : Hid (Bd w w5 g cv zs X (.slice a0 l0 c0) (.slice (some ⟨gl, 0, none⟩) ls.length c1) (.slice a2 cs.length c2) ts ls cs) := (HB4.out.below (Below.refl _ _).drew).draw d2 g2
          have HK5 : Hid (Blk w5 P0 (B3 (.slice none 0 0) (.slice none 0 0) (.slice none 0 0)) 27) := Blk.grown (w := w4.drew) HK4.out g2 (fun e => by have := Option.some.inj e; have := HG.out.1; omega)
          have HS5 : Hid (S w5) := (HSS.out _).2 HB5.out.k
          obtain ⟨pn, rfl⟩ := Int.eq_ofNat_of_zero_le pa
          have hp : pn < ls.length := by have := pb (by omega); omega
          clear d2 g2 HB4 HK4 pa pb
          go_wp2
          refine ⟨HS5.out, tail_step ?_⟩
          go_wp2_with (fail)
          refine (below_c g cv zs _ _ HB5.out.dc.dr (by omega)).mono ?_
          rintro e w6 ⟨p, rfl, pa, pb, -, d2, g2⟩
          have HB6 : Hid (Bd w w6 g cv zs X (.slice a0 l0 c0) (.slice (some ⟨gl, 0, none⟩) ls.length c1) (.slice a2 cs.length c2) ts ls cs) := HB5.out.draw d2 g2
          have HK6 : Hid (Blk w6 P0 (B3 (.slice none 0 0) (.slice none 0 0) (.slice none 0 0)) 27) := HK5.out.grown g2 (fun e => by have := Option.some.inj e; have := HG.out.1; omega)
          have HS6 : Hid (S w6) := (HSS.out _).2 HB6.out.k
          have pb' := pb (by omega)
          clear d2 g2 HB5 HK5 HS5 pb
          go_wp2
          refine ⟨HS6.out, tail_step ?_⟩
          go_wp2
          refine ⟨HS6.out, tail_end ?_⟩
          have hpI : (pn : Int) < (ls.length : Int) := by omega
          obtain ⟨old, hold⟩ : ∃ u, w6.cell? ⟨gl, pn, none⟩ = some u := by
            rw [World.ownsRow.cellAt HB6.out.o.2.1 pn (by omega), List.getElem?_map, List.getElem?_eq_getElem hp]
            exact ⟨_, rfl⟩
          have hfz := World.ownsRow.frozenAt HB6.out.o.2.1 pn
          have HN : Hid (Bd w (w6.setCell ⟨gl, pn, none⟩ (.int .i64 (p - 1))) g cv zs X (.slice a0 l0 c0) (.slice (some ⟨gl, 0, none⟩) ls.length c1) (.slice a2 cs.length c2) ts (ls.set pn (p - 1)) cs) := HB6.out.line
          have HKN : Hid (Blk (w6.setCell ⟨gl, pn, none⟩ (.int .i64 (p - 1))) P0 (B3 (.slice none 0 0) (.slice none 0 0) (.slice none 0 0)) 27) := HK6.out.other _ _ (fun e => row_blk HB6.out.o.2.1 HK6.out (by decide) (by rw [e]; rfl))
          clear HB6 HK6 HS6 HSS
          go_wp2
          go_roundw
          case rel => exact ⟨j', _, _, _, _, _, _, by go_num, by omega, HN, ht30, HKN⟩
          case measure => first | (simp [intOf]; done) | (simp [intOf]; omega)
        | false =>
          have y0 := HB4.out.k.cell 0
          have y1 := HB4.out.k.cell 1
          have y2 := HB4.out.k.cell 2
          simp at y0 y1 y2
          by_cases hcs : cs.length = 0
          case pos =>
            have hcI : ¬ ((0 : Int) < (cs.length : Int)) := by omega
            go_wp2
            go_roundw
            case rel => exact ⟨j', _, _, _, _, _, _, by go_num, by omega, HB4, ht30, HK4⟩
            case measure => first | (simp [intOf]; done) | (simp [intOf]; omega)
          case neg =>
          have hcI : (0 : Int) < (cs.length : Int) := by omega
          obtain ⟨gl, cap, hfm, hge, hgl⟩ := World.ownsRow.form HB4.out.o.2.2.1 (by omega)
          simp only [Value.slice.injEq] at hfm
          obtain ⟨rfl, -, rfl⟩ := hfm
          obtain ⟨S, hS⟩ : ∃ S : World → Prop, ∀ W, S W ↔ Blk W X (B3 (.slice a0 l0 c0) (.slice a1 ls.length c1) (.slice (some ⟨gl, 0, none⟩) cs.length c2)) 27 := ⟨_, fun _ => Iff.rfl⟩
          have x1 : ∀ W : At S, W.wd.cell? ⟨X, 2, none⟩ = some (.slice (some ⟨gl, 0, none⟩) cs.length c2) := fun W => by have := ((hS _).1 W.ok).cell 2; simpa using this
          have HSS : Hid (∀ W, S W ↔ Blk W X (B3 (.slice a0 l0 c0) (.slice a1 ls.length c1) (.slice (some ⟨gl, 0, none⟩) cs.length c2)) 27) := hS
          have ne : Nonempty (At S) := ⟨⟨w4, (hS _).2 HB4.out.k⟩⟩
          clear hS
          go_upto_region 17 with fail
          refine region_mixT [true, true, true, true, true, true, false, true, false, false, false, false] 10 3 S (by kernel_rfl) rfl (by kernel_rfl) (fun _ _ _ _ _ h => h) ((HSS.out _).2 HB4.out.k) ?_
          simp only [selT, selF]
          try simp only [Act.put]
          repeat (go_big_quiet_step (fail))
          refine wpQuiet_nil ?_
          clear x1 ne
          refine tail_step ?_
          go_wp2_with (fail)
          have hln := HB4.out.n
          refine (below_c g cv zs _ _ (HB4.out.below (Below.refl _ _).drew).dc.dr (by omega)).mono ?_
          rintro e w5 ⟨p, rfl, pa, pb, -, d2, g2⟩
          have HB5 : Hid (Bd w w5 g cv zs X (.slice a0 l0 c0) (.slice a1 ls.length c1) (.slice (some ⟨gl, 0, none⟩) cs.length c2) ts ls cs) := (HB4.out.below (Below.refl _ _).drew).draw d2 g2
          have HK5 : Hid (Blk w5 P0 (B3 (.slice none 0 0) (.slice none 0 0) (.slice none 0 0)) 27) := Blk.grown (w := w4.drew) HK4.out g2 (fun e => by have := Option.some.inj e; have := HG.out.1; omega)
          have HS5 : Hid (S w5) := (HSS.out _).2 HB5.out.k
          obtain ⟨pn, rfl⟩ := Int.eq_ofNat_of_zero_le pa
          have hp : pn < cs.length := by have := pb (by omega); omega
          clear d2 g2 HB4 HK4 pa pb
          go_wp2
          refine ⟨HS5.out, tail_step ?_⟩
          go_wp2_with (fail)
          refine (below_c g cv zs _ _ HB5.out.dc.dr (by omega)).mono ?_
          rintro e w6 ⟨p, rfl, pa, pb, -, d2, g2⟩
          have HB6 : Hid (Bd w w6 g cv zs X (.slice a0 l0 c0) (.slice a1 ls.length c1) (.slice (some ⟨gl, 0, none⟩) cs.length c2) ts ls cs) := HB5.out.draw d2 g2
          have HK6 : Hid (Blk w6 P0 (B3 (.slice none 0 0) (.slice none 0 0) (.slice none 0 0)) 27) := HK5.out.grown g2 (fun e => by have := Option.some.inj e; have := HG.out.1; omega)
          have HS6 : Hid (S w6) := (HSS.out _).2 HB6.out.k
          have pb' := pb (by omega)
          clear d2 g2 HB5 HK5 HS5 pb
          go_wp2
          refine ⟨HS6.out, tail_step ?_⟩
          go_wp2
          refine ⟨HS6.out, tail_end ?_⟩
          have hpI : (pn : Int) < (cs.length : Int) := by omega
          obtain ⟨old, hold⟩ : ∃ u, w6.cell? ⟨gl, pn, none⟩ = some u := by
            rw [World.ownsRow.cellAt HB6.out.o.2.2.1 pn (by omega), List.getElem?_map, List.getElem?_eq_getElem hp]
            exact ⟨_, rfl⟩
          have hfz := World.ownsRow.frozenAt HB6.out.o.2.2.1 pn
          have HN : Hid (Bd w (w6.setCell ⟨gl, pn, none⟩ (.int .i64 (p - 1))) g cv zs X (.slice a0 l0 c0) (.slice a1 ls.length c1) (.slice (some ⟨gl, 0, none⟩) cs.length c2) ts ls (cs.set pn (p - 1))) := HB6.out.circ
          have HKN : Hid (Blk (w6.setCell ⟨gl, pn, none⟩ (.int .i64 (p - 1))) P0 (B3 (.slice none 0 0) (.slice none 0 0) (.slice none 0 0)) 27) := HK6.out.other _ _ (fun e => row_blk HB6.out.o.2.2.1 HK6.out (by decide) (by rw [e]; rfl))
          clear HB6 HK6 HS6 HSS
          go_wp2
          go_roundw
          case rel => exact ⟨j', _, _, _, _, _, _, by go_num, by omega, HN, ht30, HKN⟩
          case measure => first | (simp [intOf]; done) | (simp [intOf]; omega)
    case neg =>
    have hjI : (0 : Int) < (j : Int) := by omega
    obtain ⟨a0, l0, c0, a1, c1, a2, c2, rfl, rfl, rfl⟩ := hB.out.1.form
    have y0 := hB.out.1.k.cell 0
    have y1 := hB.out.1.k.cell 1
    have y2 := hB.out.1.k.cell 2
    simp at y0 y1 y2
    go_wp2_with (fail)
    refine (drawTalk_c g cv zs a0 a1 a2 l0 c0 ls.length c1 cs.length c2 wr hB.out.1.dc.dr (by have := hB.out.1.n; omega) (by have := hB.out.1.n; omega)).mono ?_
    rintro e w2 ⟨x0, x1, x2, rfl, d2, g2⟩
    have HB2 : Hid (Bd w w2 g cv zs X (.slice a0 l0 c0) (.slice a1 ls.length c1) (.slice a2 cs.length c2) ts ls cs ∧ ts.length ≤ 30) := ⟨hB.out.1.draw d2 g2, hB.out.2⟩
    have HK2 : Hid (Blk w2 P0 (B3 (.slice none 0 0) (.slice none 0 0) (.slice none 0 0)) 27) := hK.out.grown g2 (fun e => by have := Option.some.inj e; have := HG.out.1; omega)
    clear d2 g2 hB hK y0 y1 y2
    obtain ⟨Y, hY⟩ : ∃ X, w2.heap.size = X := ⟨_, rfl⟩
    obtain ⟨W3, hW3⟩ : ∃ W, w2.alloc (Obj.cells #[.int .i64 x0, .int .i64 x1, .int .i64 x2] 38) = W := ⟨_, rfl⟩
    have ba : Below w2.heap.size w2 W3 := by rw [← hW3]; exact (Below.refl _ _).alloc (Nat.le_refl _) _
    have HB3 : Hid (Bd w W3 g cv zs X (.slice a0 l0 c0) (.slice a1 ls.length c1) (.slice a2 cs.length c2) ts ls cs ∧ ts.length ≤ 30) := ⟨HB2.out.1.below ba, HB2.out.2⟩
    have HK3 : Hid (Blk W3 P0 (B3 (.slice none 0 0) (.slice none 0 0) (.slice none 0 0)) 27) := HK2.out.below ba HK2.out.lt
    have HY3 : Hid (Blk W3 Y #[.int .i64 x0, .int .i64 x1, .int .i64 x2] 38) := by show Blk _ _ _ _; rw [← hW3, ← hY]; exact Blk.new _ _ _
    have HYX : Hid (X < Y ∧ w.heap.size ≤ Y) := by have h1 := HB2.out.1.k.lt; have h2 := HB2.out.1.x; exact ⟨by omega, by omega⟩
    have HW3 : Hid (w2.alloc (Obj.cells #[.int .i64 x0, .int .i64 x1, .int .i64 x2] 38) = W3 ∧ w2.heap.size = Y) := ⟨hW3, hY⟩
    clear ba hY hW3 HB2 HK2
    go_upto_region 6 with fail
    rw [HW3.out.1, HW3.out.2]
    clear HW3
    have y0 := HB3.out.1.k.cell 0
    have y1 := HB3.out.1.k.cell 1
    have y2 := HB3.out.1.k.cell 2
    have t0 := HY3.out.cell 0
    have t1 := HY3.out.cell 1
    have t2 := HY3.out.cell 2
    simp at y0 y1 y2 t0 t1 t2
    go_wp2_with (fail)
    refine (addM_c _ _ _ ts ls cs x0 x1 x2 W3 HB3.out.1.o.rd (by have := HB3.out.1.n; omega) (by have := HB3.out.1.n; omega) (by have := HB3.out.1.n; omega)).mono ?_
    rintro e w4 ⟨ua, ul, uc, rfl, ou, b⟩
    obtain ⟨p0, m0, k0, rfl⟩ : ∃ a L c, ua = .slice a L c := by obtain ⟨a, c, e⟩ := ou.1.form; exact ⟨a, _, c, e⟩
    obtain ⟨p1, m1, k1, rfl⟩ : ∃ a L c, ul = .slice a L c := by obtain ⟨a, c, e⟩ := ou.2.1.form; exact ⟨a, _, c, e⟩
    obtain ⟨p2, m2, k2, rfl⟩ : ∃ a L c, uc = .slice a L c := by obtain ⟨a, c, e⟩ := ou.2.2.1.form; exact ⟨a, _, c, e⟩
    obtain ⟨V, hV⟩ : ∃ X, w4.heap.size = X := ⟨_, rfl⟩
    obtain ⟨W5, hW5⟩ : ∃ W, w4.alloc (Obj.cells (B3 (.slice p0 m0 k0) (.slice p1 m1 k1) (.slice p2 m2 k2)) 27) = W := ⟨_, rfl⟩
    have ba : Below w4.heap.size w4 W5 := by rw [← hW5]; exact (Below.refl _ _).alloc (Nat.le_refl _) _
    have HB5 : Hid (Bd w W5 g cv zs X (.slice a0 l0 c0) (.slice a1 ls.length c1) (.slice a2 cs.length c2) ts ls cs ∧ ts.length ≤ 30) := ⟨(HB3.out.1.below b).below ba, HB3.out.2⟩
    have HK5 : Hid (Blk W5 P0 (B3 (.slice none 0 0) (.slice none 0 0) (.slice none 0 0)) 27) := (HK3.out.below b HK3.out.lt).below ba (HK3.out.below b HK3.out.lt).lt
    have HY5 : Hid (Blk W5 Y #[.int .i64 x0, .int .i64 x1, .int .i64 x2] 38) := (HY3.out.below b HY3.out.lt).below ba (HY3.out.below b HY3.out.lt).lt
    have HV5 : Hid (Blk W5 V (B3 (.slice p0 m0 k0) (.slice p1 m1 k1) (.slice p2 m2 k2)) 27) := by show Blk _ _ _ _; rw [← hW5, ← hV]; exact Blk.new _ _ _
    have HO5 : Hid (Obk w.heap.size W5 (.slice p0 m0 k0) (.slice p1 m1 k1) (.slice p2 m2 k2) (adT ts ls cs (x0, x1, x2)) (adL ts ls cs (x0, x1, x2)) (adC ts ls cs (x0, x1, x2))) := (ou.below ba).mono HB3.out.1.dc.gr.size
    have HW5 : Hid (w4.alloc (Obj.cells (B3 (.slice p0 m0 k0) (.slice p1 m1 k1) (.slice p2 m2 k2)) 27) = W5 ∧ w4.heap.size = V) := ⟨hW5, hV⟩
    clear ba hV hW5 HB3 HK3 HY3 ou b y0 y1 y2 t0 t1 t2
    obtain ⟨j', rfl⟩ : ∃ j', j = j' + 1 := ⟨j - 1, by omega⟩
    go_upto_region 7 with fail
    rw [HW5.out.1, HW5.out.2]
    clear HW5
    cases hq : adB ts ls cs (x0, x1, x2) with
    | true =>
      have had := added hq
      have hlt : ts.length < 30 := by
        unfold adB at hq
        simp only [Bool.and_eq_true, decide_eq_true_eq] at hq
        exact hq.2.1
      have hc3 : (adC ts ls cs (x0, x1, x2)).length = cs.length := by rw [(ad_yes hq).2.2, wr18_len]
      have HN : Hid (Bd w (W5.setRow X (B3 (.slice p0 m0 k0) (.slice p1 m1 k1) (.slice p2 m2 k2))) g cv zs X (.slice p0 m0 k0) (.slice p1 m1 k1) (.slice p2 m2 k2) (adT ts ls cs (x0, x1, x2)) (adL ts ls cs (x0, x1, x2)) (adC ts ls cs (x0, x1, x2)) ∧ (adT ts ls cs (x0, x1, x2)).length ≤ 30) := by
        have hn := HB5.out.1.n
        have h1 : (adT ts ls cs (x0, x1, x2)).length = ts.length + 1 := by rw [had.1]; simp
        refine ⟨HB5.out.1.row HO5.out (Nat.le_refl _) ⟨by omega, ?_, by omega⟩, by omega⟩
        rw [had.2.2.2.1]; omega
      have HKN : Hid (Blk (W5.setRow X (B3 (.slice p0 m0 k0) (.slice p1 m1 k1) (.slice p2 m2 k2))) P0 (B3 (.slice none 0 0) (.slice none 0 0) (.slice none 0 0)) 27) := HK5.out.rowOther _ _ (by have := HX.out; omega)
      have z0 := HV5.out.cell 0
      have z1 := HV5.out.cell 1
      have z2 := HV5.out.cell 2
      simp at z0 z1 z2
      clear had hlt hc3 hq
      go_wp2_with (refine wpList_store_row rfl 27 _ _ rfl X (B3 (.slice p0 m0 k0) (.slice p1 m1 k1) (.slice p2 m2 k2)) rfl rfl 27 (B3 (.slice a0 l0 c0) (.slice a1 ls.length c1) (.slice a2 cs.length c2)) HB5.out.1.k (by kernel_rfl) rfl (by simp [Value.oneCell']) ?_)
      go_roundw
      case rel => exact ⟨j', _, _, _, _, _, _, by go_num, by omega, HN, HKN⟩
      case measure => first | (simp [intOf]; done) | (simp [intOf]; omega)
    | false =>
      clear hq HO5 HV5
      have y0 := HB5.out.1.k.cell 0
      have y1 := HB5.out.1.k.cell 1
      have y2 := HB5.out.1.k.cell 2
      simp at y0 y1 y2
      go_wp2_with (fail)
      refine (once_c g cv zs 6 W5 HB5.out.1.dc.dr (by omega)).mono ?_
      rintro e w6 ⟨q, rfl, d2, g2⟩
      have HB6 : Hid (Bd w w6 g cv zs X (.slice a0 l0 c0) (.slice a1 ls.length c1) (.slice a2 cs.length c2) ts ls cs ∧ ts.length ≤ 30) := ⟨HB5.out.1.draw d2 g2, HB5.out.2⟩
      have HK6 : Hid (Blk w6 P0 (B3 (.slice none 0 0) (.slice none 0 0) (.slice none 0 0)) 27) := HK5.out.grown g2 (fun e => by have := Option.some.inj e; have := HG.out.1; omega)
      have HY6 : Hid (Blk w6 Y #[.int .i64 x0, .int .i64 x1, .int .i64 x2] 38) := HY5.out.grown g2 (fun e => by have := Option.some.inj e; have := HYX.out.2; have := HG.out; omega)
      clear d2 g2 HB5 HK5 HY5 y0 y1 y2
      have y0 := HB6.out.1.k.cell 0
      have y1 := HB6.out.1.k.cell 1
      have y2 := HB6.out.1.k.cell 2
      simp at y0 y1 y2
      obtain ⟨f0, hf0⟩ : ∃ f, HB6.out.1.o.1.form = f := ⟨_, rfl⟩
      have hl0 : l0 = ts.length := by obtain ⟨a, c, e⟩ := HB6.out.1.o.1.form; cases e; rfl
      clear hf0 f0
      subst hl0
      cases q with
      | false =>
        go_wp2
        go_roundw
        case rel => exact ⟨j', _, _, _, _, _, _, by go_num, by omega, HB6, HK6⟩
        case measure => first | (simp [intOf]; done) | (simp [intOf]; omega)
      | true =>
      by_cases h30 : (ts.length : Int) < 30
      case neg =>
        go_wp2
        go_roundw
        case rel => exact ⟨j', _, _, _, _, _, _, by go_num, by omega, HB6, HK6⟩
        case measure => first | (simp [intOf]; done) | (simp [intOf]; omega)
      case pos =>
      have t0 := HY6.out.cell 0
      have t1 := HY6.out.cell 1
      have t2 := HY6.out.cell 2
      simp at t0 t1 t2
      obtain ⟨U, hU⟩ : ∃ X, w6.heap.size = X := ⟨_, rfl⟩
      obtain ⟨W7, hW7⟩ : ∃ W, w6.alloc (Obj.cells #[.int .i64 x0, .int .i64 x1, .int .i64 x2] 38) = W := ⟨_, rfl⟩
      have ba : Below w6.heap.size w6 W7 := by rw [← hW7]; exact (Below.refl _ _).alloc (Nat.le_refl _) _
      have HB7 : Hid (Bd w W7 g cv zs X (.slice a0 ts.length c0) (.slice a1 ls.length c1) (.slice a2 cs.length c2) ts ls cs ∧ ts.length ≤ 29) := ⟨HB6.out.1.below ba, by omega⟩
      have HK7 : Hid (Blk W7 P0 (B3 (.slice none 0 0) (.slice none 0 0) (.slice none 0 0)) 27) := HK6.out.below ba HK6.out.lt
      have HC7 : Hid (Blk W7 U #[.int .i64 x0, .int .i64 x1, .int .i64 x2] 38) := by show Blk _ _ _ _; rw [← hW7, ← hU]; exact Blk.new _ _ _
      have HW7 : Hid (w6.alloc (Obj.cells #[.int .i64 x0, .int .i64 x1, .int .i64 x2] 38) = W7 ∧ w6.heap.size = U) := ⟨hW7, hU⟩
      clear ba hU hW7 HB6 HK6 HY6
      have hts := HB7.out.2
      go_wp2_with (at_builtin; (try rw [HW7.out.1]); (try rw [HW7.out.2]); refine appT rfl _ _ rfl w.heap.size _ ts rfl HB7.out.1.o.1 U (x0, x1, x2) rfl HC7.out (by omega) HB7.out.1.dc.gr.size ?_)
      intro V7 w7 o7 g7 p7
      obtain ⟨a7, L7, c7, rfl⟩ : ∃ a L c, V7 = .slice a L c := by obtain ⟨a, c, e⟩ := o7.form; exact ⟨a, _, c, e⟩
      have HP7 : Hid (Bd w (w7.setCell ⟨X, 0, none⟩ (.slice a7 L7 c7)) g cv zs X (.slice a7 L7 c7) (.slice a1 ls.length c1) (.slice a2 cs.length c2) (ts ++ [(x0, x1, x2)]) ls cs ∧ (ts ++ [(x0, x1, x2)]).length ≤ 30) := ⟨HB7.out.1.push o7 g7 (by omega), by simp; omega⟩
      have hk7 := HB7.out.1.k.grown g7 (row_blk HB7.out.1.o.1 HB7.out.1.k (by decide))
      have HKP : Hid (Blk (w7.setCell ⟨X, 0, none⟩ (.slice a7 L7 c7)) P0 (B3 (.slice none 0 0) (.slice none 0 0) (.slice none 0 0)) 27) := (HK7.out.grown g7 (row_blk HB7.out.1.o.1 HK7.out (by decide))).other _ _ (by have := HX.out; dsimp only; omega)
      have y0 := hk7.cell 0
      have f0 := hk7.frozen 0
      simp at y0
      clear o7 g7 p7 hk7 HB7 HK7 HC7
      go_wp2
      go_roundw
      case rel => exact ⟨j', _, _, _, _, _, _, by go_num, by omega, HP7, HKP⟩
      case measure => first | (simp [intOf]; done) | (simp [intOf]; omega)

end Go.Proofs.YtmfmlbiplagmiaaDoor

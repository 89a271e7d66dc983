/- Books: read, owned, measured, copied, compared, marked, held; no condition. -/
import Derived.Test.YtmfmlbiplagmiaaDoorTks
import Derived.Test.YtmfmlbiplagmiaaDoorIvm
import Derived.Test.YtmfmlbiplagmiaaDoorLwb
namespace Go.Proofs.YtmfmlbiplagmiaaDoor
open Go.RowKit Go.ChangeShapes Go.WideShapes Go.ChangeAt
set_option linter.unusedVariables false
set_option linter.unusedSimpArgs false
set_option maxRecDepth 8000

abbrev B3 (va vl vc : Value) : Array Value := #[va, vl, vc]
theorem sizeBk : (Tryd.prog.info? 27).map (·.size) = some 3 := by kernel_rfl
theorem below_grown {w w' : World} (hb : Below w.heap.size w w') : w.grownBy w' none := ⟨hb.os, hb.tape, hb.output, hb.size, fun j hj _ => hb.block j hj⟩
theorem Ow.lt {k : IntKind} {e : TypeId} {base : Nat} {w : World} {v : Value} {zs : List Int} (h : Ow k e base w v zs) (j : Nat) (hj : v.ownBlock = some j) : base ≤ j ∧ j < w.heap.size := World.ownsRow.lt h j hj
theorem Ow.form {k : IntKind} {e : TypeId} {base : Nat} {w : World} {v : Value} {zs : List Int} (h : Ow k e base w v zs) : ∃ a cap, v = .slice a zs.length cap := by
  obtain ⟨a, cap, e, -⟩ := h.rd
  exact ⟨a, cap, e⟩
theorem Apart.symm {u v : Value} (h : Apart u v) : Apart v u := fun k e e' => h k e' e
theorem Apart.or {u v : Value} (h : Apart u v) : u.ownBlock = none ∨ u.ownBlock ≠ v.ownBlock := by
  cases hx : u.ownBlock with
  | none => exact .inl rfl
  | some k => exact .inr fun e => h k hx e.symm
theorem Apart.at {u v : Value} {P : Nat} (hu : ∀ k, u.ownBlock = some k → k < P) (hv : ∀ k, v.ownBlock = some k → P ≤ k) : Apart u v := fun k e e' => by
  have := hu k e; have := hv k e'; omega
/-- a book that can be read -/
def Rbk (w : World) (va vl vc : Value) (ts : List Tk) (ls cs : List Int) : Prop := Rg 3 tkC w va ts ∧ Rd .i64 w vl ls ∧ Rd .i64 w vc cs
theorem Rbk.below {w w' : World} {va vl vc : Value} {ts : List Tk} {ls cs : List Int} (h : Rbk w va vl vc ts ls cs) (hb : Below w.heap.size w w') : Rbk w' va vl vc ts ls cs := ⟨h.1.below hb, h.2.1.below hb, h.2.2.below hb⟩
/-- a book whose rows are owned from base on, each in a block of its own -/
def Obk (base : Nat) (w : World) (va vl vc : Value) (ts : List Tk) (ls cs : List Int) : Prop :=
  Og 3 tkC 38 base w va ts ∧ Ow .i64 3 base w vl ls ∧ Ow .i64 3 base w vc cs ∧ Apart va vl ∧ Apart va vc ∧ Apart vl vc
theorem Obk.below {base : Nat} {w w' : World} {va vl vc : Value} {ts : List Tk} {ls cs : List Int} (h : Obk base w va vl vc ts ls cs) (hb : Below w.heap.size w w') : Obk base w' va vl vc ts ls cs := ⟨h.1.below hb, h.2.1.below hb, h.2.2.1.below hb, h.2.2.2⟩
theorem Obk.mono {base base' : Nat} {w : World} {va vl vc : Value} {ts : List Tk} {ls cs : List Int} (h : Obk base w va vl vc ts ls cs) (hb : base' ≤ base) : Obk base' w va vl vc ts ls cs := ⟨h.1.mono hb, h.2.1.mono hb, h.2.2.1.mono hb, h.2.2.2⟩
theorem Obk.rd {base : Nat} {w : World} {va vl vc : Value} {ts : List Tk} {ls cs : List Int} (h : Obk base w va vl vc ts ls cs) : Rbk w va vl vc ts ls cs := ⟨h.1.rd tkC_len, h.2.1.rd, h.2.2.1.rd⟩
/-- the blocks of a book's rows -/
def InB (va vl vc : Value) (k : Nat) : Prop := va.ownBlock = some k ∨ vl.ownBlock = some k ∨ vc.ownBlock = some k
theorem Obk.fr {X : Nat → Prop} {base : Nat} {w w' : World} {va vl vc : Value} {ts : List Tk} {ls cs : List Int} (h : Obk base w va vl vc ts ls cs) (hf : Fr X w w') (hx : ∀ k, InB va vl vc k → ¬ X k) : Obk base w' va vl vc ts ls cs :=
  ⟨ownsRow_fr h.1 hf (fun k e => hx k (.inl e)), ownsRow_fr h.2.1 hf (fun k e => hx k (.inr (.inl e))), ownsRow_fr h.2.2.1 hf (fun k e => hx k (.inr (.inr e))), h.2.2.2⟩
theorem Obk.lt {base : Nat} {w : World} {va vl vc : Value} {ts : List Tk} {ls cs : List Int} (h : Obk base w va vl vc ts ls cs) (k : Nat) (hk : InB va vl vc k) : base ≤ k ∧ k < w.heap.size := by
  rcases hk with e | e | e
  · exact h.1.lt k e
  · exact h.2.1.lt k e
  · exact h.2.2.1.lt k e
set_option maxHeartbeats 800000 in
theorem szI_c (v : Value) (zs : List Int) (left : Int) (w : World) (h : Rd .i64 w v zs) (h0 : 0 ≤ left) (hl : left ≤ 1048576) :
    Calls Tryd.prog 49 #[v, .int .i64 left] w fun e w' => e = .returned (.int .i64 (if left < zs.length then -1 else left - zs.length)) ∧ w' = w := by
  obtain ⟨a, cap, rfl, h1, h2, -⟩ := h
  unfold maxLen at h2
  have hw : wrap64 (left - (zs.length : Int)) = left - zs.length := wrap64_in (by omega)
  go_enter Tryd.func49, Tryd.ntmps49
  by_cases hc : left - (zs.length : Int) < 0
  · go_wp2
    go_ret
    exact ⟨rfl, rfl⟩
  · go_wp2
    go_ret
    exact ⟨rfl, rfl⟩
set_option maxHeartbeats 1600000 in
theorem szBook_c (va vl vc : Value) (ts : List Tk) (ls cs : List Int) (w : World) (h : Rbk w va vl vc ts ls cs) :
   Calls Tryd.prog 19 #[.agg (B3 va vl vc), .int .i64 1048576] w fun e w' => ∃ z, e = .returned (.int .i64 z) ∧ (z < 0 ∨ 0 ≤ z ∧ z = 1048576 - (ts.length : Int) - ls.length - cs.length) ∧ Below w.heap.size w w' := by
  have hb : Below w.heap.size w (w.alloc (Obj.cells (B3 va vl vc) 44)) := (Below.refl _ _).alloc (Nat.le_refl _) _
  have HB : Hid (Below w.heap.size w (w.alloc (Obj.cells (B3 va vl vc) 44))) := hb
  have HR : Hid (Rbk (w.alloc (Obj.cells (B3 va vl vc) 44)) va vl vc ts ls cs) := h.below hb
  obtain ⟨⟨a, cap, rfl, -⟩, ⟨a', cap', rfl, -⟩, ⟨a'', cap'', rfl, -⟩⟩ := h
  clear hb
  go_enter Tryd.func19, Tryd.ntmps19
  go_wp2_with (fail)
  refine (szTkS_c _ _ _ _ HR.out.1 (by decide) (by decide)).mono ?_
  rintro e w2 ⟨rfl, rfl⟩
  by_cases h1 : (1048576 : Int) < ts.length
  · rw [if_pos h1]
    go_wp2
    go_ret
    exact ⟨_, rfl, .inl (by decide), HB.out⟩
  rw [if_neg h1]
  obtain ⟨l, hl⟩ : ∃ l, (1048576 : Int) - ts.length = l := ⟨_, rfl⟩
  have HL : Hid ((1048576 : Int) - ts.length = l) := hl
  have l0 : 0 ≤ l := by omega
  have l1 : l ≤ 1048576 := by omega
  rw [hl]
  clear hl h1
  go_wp2_with (fail)
  refine (szI_c _ _ _ _ HR.out.2.1 l0 l1).mono ?_
  rintro e w2 ⟨rfl, rfl⟩
  by_cases h2 : l < (ls.length : Int)
  · rw [if_pos h2]
    go_wp2
    go_ret
    exact ⟨_, rfl, .inl (by decide), HB.out⟩
  rw [if_neg h2]
  obtain ⟨m, hm⟩ : ∃ m, l - (ls.length : Int) = m := ⟨_, rfl⟩
  have HM : Hid (l - (ls.length : Int) = m) := hm
  have m0 : 0 ≤ m := by omega
  have m1 : m ≤ 1048576 := by omega
  rw [hm]
  clear hm h2 l0 l1
  go_wp2_with (fail)
  refine (szI_c _ _ _ _ HR.out.2.2 m0 m1).mono ?_
  rintro e w2 ⟨rfl, rfl⟩
  by_cases h3 : m < (cs.length : Int)
  · rw [if_pos h3]
    go_wp2
    go_ret
    exact ⟨_, rfl, .inl (by decide), HB.out⟩
  rw [if_neg h3]
  have h4 : ¬ m - (cs.length : Int) < 0 := by omega
  go_wp2
  go_ret
  exact ⟨_, rfl, .inr ⟨by omega, by have := HL.out; have := HM.out; omega⟩, HB.out⟩
set_option maxHeartbeats 3200000 in
theorem toBook_c (va vl vc : Value) (ts : List Tk) (ls cs : List Int) (w : World) (h : Rbk w va vl vc ts ls cs) (la : ts.length ≤ 1048576) (lb : ls.length ≤ 1048576) (lc : cs.length ≤ 1048576) :
   Calls Tryd.prog 20 #[.agg (B3 va vl vc)] w fun e w' => ∃ va' vl' vc', e = .returned (.agg (B3 va' vl' vc')) ∧ Obk w.heap.size w' va' vl' vc' ts ls cs ∧ Below w.heap.size w w' := by
  obtain ⟨W1, hW1⟩ : ∃ W1, ((w.alloc (Obj.cells (B3 va vl vc) 44)).alloc (Obj.cells (B3 (.slice none 0 0) (.slice none 0 0) (.slice none 0 0)) 27)).alloc (Obj.cells (B3 (.slice none 0 0) (.slice none 0 0) (.slice none 0 0)) 27) = W1 := ⟨_, rfl⟩
  have hb : Below w.heap.size w W1 := hW1 ▸ (((Below.refl _ _).alloc (Nat.le_refl _) _).alloc (by simp) _).alloc (by simp; omega) _
  have hs1 : W1.heap.size = w.heap.size + 3 := by rw [← hW1]; simp
  have HS1 : Hid (W1.heap.size = w.heap.size + 3) := hs1
  have HB : Hid (Below w.heap.size w W1) := hb
  have HR : Hid (Rbk w va vl vc ts ls cs) := h
  have k0 : Blk W1 w.heap.size (B3 va vl vc) 44 := hW1 ▸ ((Blk.new _ _ _).alloc _).alloc _
  have k1 : Blk W1 (w.heap.size + 1) (B3 (.slice none 0 0) (.slice none 0 0) (.slice none 0 0)) 27 := hW1 ▸ (Blk.newAt _ (w.heap.size + 1) _ 27 (by simp)).alloc _
  have k2 : Blk W1 (w.heap.size + 1 + 1) (B3 (.slice none 0 0) (.slice none 0 0) (.slice none 0 0)) 27 := hW1 ▸ Blk.newAt _ (w.heap.size + 1 + 1) _ 27 (by simp)
  have K : Hid (Blk W1 w.heap.size (B3 va vl vc) 44 ∧ Blk W1 (w.heap.size + 1) (B3 (.slice none 0 0) (.slice none 0 0) (.slice none 0 0)) 27 ∧ Blk W1 (w.heap.size + 1 + 1) (B3 (.slice none 0 0) (.slice none 0 0) (.slice none 0 0)) 27) := ⟨k0, k1, k2⟩
  have HW1 : Hid (((w.alloc (Obj.cells (B3 va vl vc) 44)).alloc (Obj.cells (B3 (.slice none 0 0) (.slice none 0 0) (.slice none 0 0)) 27)).alloc (Obj.cells (B3 (.slice none 0 0) (.slice none 0 0) (.slice none 0 0)) 27) = W1) := hW1
  obtain ⟨⟨a, cap, rfl, -⟩, ⟨a', cap', rfl, -⟩, ⟨a'', cap'', rfl, -⟩⟩ := h
  clear hb k0 k1 k2 hs1 hW1
  go_enter Tryd.func20, Tryd.ntmps20
  go_wp2_with (fail)
  rw [HW1.out]
  refine (toTkS_c _ _ _ (HR.out.below HB.out).1 la).mono ?_
  rintro e w2 ⟨v1, rfl, o1, b2⟩
  have q0 := K.out.1.below b2 (by have := HS1.out; omega)
  have q1 := K.out.2.1.below b2 (by have := HS1.out; omega)
  have q2 := K.out.2.2.below b2 (by have := HS1.out; omega)
  obtain ⟨a1, c1, rfl⟩ := o1.form
  have z1 := q0.cell 1
  have y0 := q2.cell 0
  have f0 := q2.frozen 0
  simp at z1 y0
  obtain ⟨W3, hW3⟩ : ∃ W3, w2.setCell ⟨w.heap.size + 1 + 1, 0, none⟩ (.slice a1 ts.length c1) = W3 := ⟨_, rfl⟩
  have HW3 : Hid (w2.setCell ⟨w.heap.size + 1 + 1, 0, none⟩ (.slice a1 ts.length c1) = W3) := hW3
  have g3 : w2.grownBy W3 (some (w.heap.size + 1 + 1)) := hW3 ▸ grown_set' _ _ _ _
  have hOff1 : Hid (∀ k, k < w.heap.size + 3 → (Value.slice a1 ts.length c1).ownBlock ≠ some k) := fun k hk e => by
    have := (o1.lt _ e).1; have := HS1.out; omega
  have hs2 : w.heap.size + 3 ≤ w2.heap.size := by have := b2.size; have := HS1.out; omega
  have B3' : Hid (Below w.heap.size w W3) := by
    show Below w.heap.size w W3
    rw [← hW3]; exact (belowCall HB.out b2 HB.out.size).setCell (by dsimp only; omega) _
  have O3 : Hid (Og 3 tkC 38 w.heap.size W3 (.slice a1 ts.length c1) ts) := World.ownsRow.kept (o1.mono (by have := HS1.out; omega)) g3 (.inr (hOff1.out _ (by omega)))
  have K3 : Hid (Blk W3 w.heap.size (B3 (.slice a ts.length cap) (.slice a' ls.length cap') (.slice a'' cs.length cap'')) 44 ∧ Blk W3 (w.heap.size + 1) (B3 (.slice none 0 0) (.slice none 0 0) (.slice none 0 0)) 27 ∧ Blk W3 (w.heap.size + 1 + 1) (B3 (.slice a1 ts.length c1) (.slice none 0 0) (.slice none 0 0)) 27) := by
    refine ⟨?_, ?_, ?_⟩
    · rw [← hW3]; exact q0.other _ _ (by simp; omega)
    · rw [← hW3]; exact q1.other _ _ (by simp)
    · rw [← hW3]; exact q2.set 0 _
  have hs3 : W3.heap.size = w2.heap.size := by rw [← hW3]; simp
  have HS3 : Hid (w.heap.size + 3 ≤ W3.heap.size) := by show w.heap.size + 3 ≤ W3.heap.size; omega
  clear hW3 g3 hs2 hs3 q0 q1 q2 o1 b2 K HB HW1 HS1
  go_wp2_with (fail)
  rw [HW3.out]
  refine (toI _ _ _ (HR.out.below B3'.out).2.1 lb).mono ?_
  rintro e w4 ⟨v2, rfl, o2, b4⟩
  have q0 := K3.out.1.below b4 (by have := HS3.out; omega)
  have q1 := K3.out.2.1.below b4 (by have := HS3.out; omega)
  have q2 := K3.out.2.2.below b4 (by have := HS3.out; omega)
  obtain ⟨a2, c2, rfl⟩ := o2.form
  have ap1 : Apart (.slice a1 ts.length c1) (.slice a2 ls.length c2) := Apart.at (P := W3.heap.size) (fun k e => (O3.out.lt k e).2) (fun k e => (o2.lt k e).1)
  have AP1 : Hid (Apart (.slice a1 ts.length c1) (.slice a2 ls.length c2)) := ap1
  have z2 := q0.cell 2
  have y1 := q2.cell 1
  have f1 := q2.frozen 1
  simp at z2 y1
  obtain ⟨W5, hW5⟩ : ∃ W5, w4.setCell ⟨w.heap.size + 1 + 1, 1, none⟩ (.slice a2 ls.length c2) = W5 := ⟨_, rfl⟩
  have HW5 : Hid (w4.setCell ⟨w.heap.size + 1 + 1, 1, none⟩ (.slice a2 ls.length c2) = W5) := hW5
  have g5 : w4.grownBy W5 (some (w.heap.size + 1 + 1)) := hW5 ▸ grown_set' _ _ _ _
  have hOff2 : Hid (∀ k, k < w.heap.size + 3 → (Value.slice a2 ls.length c2).ownBlock ≠ some k) := fun k hk e => by
    have := (o2.lt _ e).1; have := HS3.out; omega
  have hs4 : w.heap.size + 3 ≤ w4.heap.size := by have := b4.size; have := HS3.out; omega
  have B5 : Hid (Below w.heap.size w W5) := by
    show Below w.heap.size w W5
    rw [← hW5]; exact (belowCall B3'.out b4 B3'.out.size).setCell (by dsimp only; omega) _
  have O5 : Hid (Og 3 tkC 38 w.heap.size W5 (.slice a1 ts.length c1) ts) := World.ownsRow.kept (O3.out.below b4) g5 (.inr (hOff1.out _ (by omega)))
  have P5 : Hid (Ow .i64 3 w.heap.size W5 (.slice a2 ls.length c2) ls) := World.ownsRow.kept (o2.mono (by have := HS3.out; omega)) g5 (.inr (hOff2.out _ (by omega)))
  have K5 : Hid (Blk W5 w.heap.size (B3 (.slice a ts.length cap) (.slice a' ls.length cap') (.slice a'' cs.length cap'')) 44 ∧ Blk W5 (w.heap.size + 1) (B3 (.slice none 0 0) (.slice none 0 0) (.slice none 0 0)) 27 ∧ Blk W5 (w.heap.size + 1 + 1) (B3 (.slice a1 ts.length c1) (.slice a2 ls.length c2) (.slice none 0 0)) 27) := by
    refine ⟨?_, ?_, ?_⟩
    · rw [← hW5]; exact q0.other _ _ (by simp; omega)
    · rw [← hW5]; exact q1.other _ _ (by simp)
    · rw [← hW5]; exact q2.set 1 _
  have hs5 : W5.heap.size = w4.heap.size := by rw [← hW5]; simp
  have HS5 : Hid (w.heap.size + 3 ≤ W5.heap.size) := by show w.heap.size + 3 ≤ W5.heap.size; omega
  clear hW5 g5 hs4 hs5 q0 q1 q2 o2 b4 K3 HW3 HS3 z1 y0 f0 B3' O3 ap1
  go_wp2_with (fail)
  rw [HW5.out]
  refine (toI _ _ _ (HR.out.below B5.out).2.2 lc).mono ?_
  rintro e w6 ⟨v3, rfl, o3, b6⟩
  have q1 := K5.out.2.1.below b6 (by have := HS5.out; omega)
  have q2 := K5.out.2.2.below b6 (by have := HS5.out; omega)
  obtain ⟨a3, c3, rfl⟩ := o3.form
  have AP2 : Hid (Apart (.slice a1 ts.length c1) (.slice a3 cs.length c3)) := Apart.at (P := W5.heap.size) (fun k e => (O5.out.lt k e).2) (fun k e => (o3.lt k e).1)
  have AP3 : Hid (Apart (.slice a2 ls.length c2) (.slice a3 cs.length c3)) := Apart.at (P := W5.heap.size) (fun k e => (P5.out.lt k e).2) (fun k e => (o3.lt k e).1)
  have n2 : ∀ k, k < w.heap.size + 3 → (Value.slice a3 cs.length c3).ownBlock ≠ some k := fun k hk e => by
    have := (o3.lt _ e).1; have := HS5.out; omega
  have x0 := q2.cell 0
  have x1 := q2.cell 1
  have x2 := q2.cell 2
  have fx2 := q2.frozen 2
  have e0 := q1.cell 0
  have e1 := q1.cell 1
  have e2 := q1.cell 2
  have fe0 := q1.frozen 0
  have fe1 := q1.frozen 1
  have fe2 := q1.frozen 2
  simp at x0 x1 x2 e0 e1 e2
  have Q1 := (((q1.other ⟨w.heap.size + 1 + 1, 2, none⟩ (.slice a3 cs.length c3) (by simp)).set 0 (.slice a1 ts.length c1)).set 1 (.slice a2 ls.length c2)).set 2 (.slice a3 cs.length c3)
  have H1 : Hid _ := Q1
  have gg : w6.grownBy (w6.setCell ⟨w.heap.size + 1 + 1, 2, none⟩ (.slice a3 cs.length c3)) (some (w.heap.size + 1 + 1)) := grown_set' _ _ _ _
  obtain ⟨W7, hW7⟩ : ∃ W7, w6.setCell ⟨w.heap.size + 1 + 1, 2, none⟩ (.slice a3 cs.length c3) = W7 := ⟨_, rfl⟩
  rw [hW7] at gg
  have gf : W7.grownBy (((W7.setCell ⟨w.heap.size + 1, 0, none⟩ (.slice a1 ts.length c1)).setCell ⟨w.heap.size + 1, 1, none⟩ (.slice a2 ls.length c2)).setCell ⟨w.heap.size + 1, 2, none⟩ (.slice a3 cs.length c3)) (some (w.heap.size + 1)) := grown_trans (grown_trans (grown_set' _ _ _ _) (grown_set' _ _ _ _)) (grown_set' _ _ _ _)
  have p1 := World.ownsRow.kept (World.ownsRow.kept (O5.out.below b6) gg (.inr (hOff1.out _ (by omega)))) gf (.inr (hOff1.out _ (by omega)))
  have p2 := World.ownsRow.kept (World.ownsRow.kept (P5.out.below b6) gg (.inr (hOff2.out _ (by omega)))) gf (.inr (hOff2.out _ (by omega)))
  have p3 := World.ownsRow.kept (World.ownsRow.kept (o3.mono (show w.heap.size ≤ W5.heap.size by have := HS5.out; omega)) gg (.inr (n2 _ (by omega)))) gf (.inr (n2 _ (by omega)))
  have bb := belowCall B5.out b6 B5.out.size
  have bf := (((bb.setCell (show w.heap.size ≤ (⟨w.heap.size + 1 + 1, 2, none⟩ : Addr).block by dsimp only; omega) (.slice a3 cs.length c3)).setCell (show w.heap.size ≤ (⟨w.heap.size + 1, 0, none⟩ : Addr).block by dsimp only; omega) (.slice a1 ts.length c1)).setCell (show w.heap.size ≤ (⟨w.heap.size + 1, 1, none⟩ : Addr).block by dsimp only; omega) (.slice a2 ls.length c2)).setCell (show w.heap.size ≤ (⟨w.heap.size + 1, 2, none⟩ : Addr).block by dsimp only; omega) (.slice a3 cs.length c3)
  rw [← hW7] at p1 p2 p3
  have P1 : Hid _ := p1
  have P2 : Hid _ := p2
  have P3 : Hid _ := p3
  have BF : Hid _ := bf
  clear hW7 gg gf p1 p2 p3 bb bf n2 q1 q2 o3 b6 K5 O5 P5 B5 HW5 HS5 Q1 hOff1 hOff2 z2 y1 f1 HR
  go_wp2
  exact bodyPost_ret (v := .agg (B3 (.slice a1 ts.length c1) (.slice a2 ls.length c2) (.slice a3 cs.length c3))) (results_cell_row rfl _ _ _ 27 _ (0, 0) _ rfl H1.out Tryd.underlying27 rfl sizeBk) rfl ⟨_, _, _, rfl, ⟨P1.out, P2.out, P3.out, AP1.out, AP2.out, AP3.out⟩, BF.out⟩
set_option maxHeartbeats 1600000 in
theorem eqBook_c (va vl vc va' vl' vc' : Value) (ts ts' : List Tk) (ls cs ls' cs' : List Int) (w : World) (h : Rbk w va vl vc ts ls cs) (h' : Rbk w va' vl' vc' ts' ls' cs') :
   Calls Tryd.prog 22 #[.agg (B3 va vl vc), .agg (B3 va' vl' vc')] w fun e w' => e = .returned (.bool (decide (ts = ts' ∧ ls = ls' ∧ cs = cs'))) ∧ Below w.heap.size w w' := by
  obtain ⟨W1, hW1⟩ : ∃ W1, (w.alloc (Obj.cells (B3 va vl vc) 27)).alloc (Obj.cells (B3 va' vl' vc') 27) = W1 := ⟨_, rfl⟩
  have hb : Below w.heap.size w W1 := hW1 ▸ ((Below.refl _ _).alloc (Nat.le_refl _) _).alloc (by simp) _
  have HB : Hid (Below w.heap.size w W1) := hb
  have K0 : Hid (Blk W1 w.heap.size (B3 va vl vc) 27 ∧ Blk W1 (w.heap.size + 1) (B3 va' vl' vc') 27) := ⟨hW1 ▸ (Blk.new _ _ _).alloc _, hW1 ▸ Blk.newAt _ (w.heap.size + 1) _ 27 (by simp)⟩
  have HR : Hid (Rbk w va vl vc ts ls cs ∧ Rbk w va' vl' vc' ts' ls' cs') := ⟨h, h'⟩
  obtain ⟨qq, hqq⟩ : ∃ q, decide (ts = ts' ∧ ls = ls' ∧ cs = cs') = q := ⟨_, rfl⟩
  have HQ : Hid (decide (ts = ts' ∧ ls = ls' ∧ cs = cs') = qq) := hqq
  rw [hqq]
  clear hqq
  obtain ⟨⟨a, cap, rfl, -⟩, ⟨a', cap', rfl, -⟩, ⟨a'', cap'', rfl, -⟩⟩ := h
  obtain ⟨⟨b, cbp, rfl, -⟩, ⟨b', cbp', rfl, -⟩, ⟨b'', cbp'', rfl, -⟩⟩ := h'
  have x0 := K0.out.1.cell 0
  have y0 := K0.out.2.cell 0
  simp at x0 y0
  have HW1 : Hid (_ = W1) := hW1
  clear hb hW1
  go_enter Tryd.func22, Tryd.ntmps22
  go_wp2_with (fail)
  rw [HW1.out]
  refine (eqTkS_c _ _ ts ts' W1 (HR.out.1.below HB.out).1 (HR.out.2.below HB.out).1).mono ?_
  rintro e w2 ⟨rfl, b2⟩
  have HB2 : Hid (Below w.heap.size w w2) := belowCall HB.out b2 HB.out.size
  by_cases e1 : ¬ ts = ts'
  · rw [decide_eq_false e1]
    obtain rfl : qq = false := HQ.out.symm.trans (decide_eq_false (fun q => e1 q.1))
    clear b2 x0 y0
    go_wp2
    go_ret
    exact ⟨rfl, HB2.out⟩
  have e1 := Classical.not_not.1 e1
  rw [decide_eq_true e1]
  have k0 := K0.out.1.below b2 K0.out.1.lt
  have k1 := K0.out.2.below b2 K0.out.2.lt
  have x1 := k0.cell 1
  have y1 := k1.cell 1
  simp at x1 y1
  have K2 : Hid (Blk w2 w.heap.size (B3 (.slice a ts.length cap) (.slice a' ls.length cap') (.slice a'' cs.length cap'')) 27 ∧ Blk w2 (w.heap.size + 1) (B3 (.slice b ts'.length cbp) (.slice b' ls'.length cbp') (.slice b'' cs'.length cbp'')) 27) := ⟨k0, k1⟩
  have E1 : Hid (ts = ts') := e1
  clear b2 k0 k1 x0 y0 K0 HB HW1 e1
  go_wp2_with (fail)
  refine (eqI _ _ ls ls' w2 (HR.out.1.below HB2.out).2.1 (HR.out.2.below HB2.out).2.1).mono ?_
  rintro e w3 ⟨rfl, b3⟩
  have HB3 : Hid (Below w.heap.size w w3) := belowCall HB2.out b3 HB2.out.size
  by_cases e2 : ¬ ls = ls'
  · rw [decide_eq_false e2]
    obtain rfl : qq = false := HQ.out.symm.trans (decide_eq_false (fun q => e2 q.2.1))
    clear b3 x1 y1
    go_wp2
    go_ret
    exact ⟨rfl, HB3.out⟩
  have e2 := Classical.not_not.1 e2
  rw [decide_eq_true e2]
  have k0 := K2.out.1.below b3 K2.out.1.lt
  have k1 := K2.out.2.below b3 K2.out.2.lt
  have x2 := k0.cell 2
  have y2 := k1.cell 2
  simp at x2 y2
  have E2 : Hid (ls = ls') := e2
  clear b3 k0 k1 x1 y1 K2 HB2 e2
  go_wp2_with (fail)
  refine (eqI _ _ cs cs' w3 (HR.out.1.below HB3.out).2.2 (HR.out.2.below HB3.out).2.2).mono ?_
  rintro e w4 ⟨rfl, b4⟩
  have HB4 : Hid (Below w.heap.size w w4) := belowCall HB3.out b4 HB3.out.size
  by_cases e3 : cs = cs'
  · rw [decide_eq_true e3]
    obtain rfl : qq = true := HQ.out.symm.trans (decide_eq_true ⟨E1.out, E2.out, e3⟩)
    clear b4 x2 y2 e3
    go_wp2
    go_ret
    exact ⟨rfl, HB4.out⟩
  · rw [decide_eq_false e3]
    obtain rfl : qq = false := HQ.out.symm.trans (decide_eq_false (fun q => e3 q.2.2))
    clear b4 x2 y2 e3
    go_wp2
    go_ret
    exact ⟨rfl, HB4.out⟩
abbrev mkT (q : Int) (n : Nat) : List Tk := mkg (mkTk q) n
set_option maxHeartbeats 1600000 in
theorem markBook_c (base : Nat) (q : Int) (va vl vc : Value) (ts : List Tk) (ls cs : List Int) (w : World) (h : Obk base w va vl vc ts ls cs) (hq0 : 0 ≤ q) (hq : q + 3 * ts.length + ls.length + cs.length ≤ 1048576000) :
   Calls Tryd.prog 23 #[.agg (B3 va vl vc), .int .i64 q] w fun e w' => e = .returned (.int .i64 (q + 3 * ts.length + ls.length + cs.length)) ∧ Obk base w' va vl vc (mkT q ts.length) (marks .i64 (q + 3 * ts.length) ls.length) (marks .i64 (q + 3 * ts.length + ls.length) cs.length) ∧ Fr (InB va vl vc) w w' := by
  obtain ⟨W1, hW1⟩ : ∃ W1, w.alloc (Obj.cells (B3 va vl vc) 27) = W1 := ⟨_, rfl⟩
  have hb : Below w.heap.size w W1 := hW1 ▸ (Below.refl _ _).alloc (Nat.le_refl _) _
  have HB : Hid (Below w.heap.size w W1) := hb
  have K0 : Hid (Blk W1 w.heap.size (B3 va vl vc) 27) := by show Blk _ _ _ _; rw [← hW1]; exact Blk.new _ _ _
  have HO : Hid (Obk base W1 va vl vc ts ls cs) := h.below hb
  have HS : Hid (∀ k, InB va vl vc k → k < w.heap.size) := fun k hk => (h.lt k hk).2
  obtain ⟨a0, c0, rfl⟩ := h.1.form
  obtain ⟨a1, c1, rfl⟩ := h.2.1.form
  obtain ⟨a2, c2, rfl⟩ := h.2.2.1.form
  have x0 := K0.out.cell 0
  simp at x0
  have HW1 : Hid (_ = W1) := hW1
  clear hb hW1 h
  go_enter Tryd.func23, Tryd.ntmps23
  go_wp2_with (fail)
  rw [HW1.out]
  refine (markTkS_c _ ts q base W1 HO.out.1 hq0 (by omega)).mono ?_
  rintro e w2 ⟨rfl, o1, g1⟩
  have f1 : Fr (InB (.slice a0 ts.length c0) (.slice a1 ls.length c1) (.slice a2 cs.length c2)) W1 w2 := Fr.ofGrown g1 (fun k e => .inl e)
  have F1 : Hid (Fr (InB (.slice a0 ts.length c0) (.slice a1 ls.length c1) (.slice a2 cs.length c2)) w w2) := (Fr.ofBelow HB.out).trans f1
  have O1 : Hid (Og 3 tkC 38 base w2 (.slice a0 ts.length c0) (mkT q ts.length)) := o1
  have O2 : Hid (Ow .i64 3 base w2 (.slice a1 ls.length c1) ls) := World.ownsRow.kept HO.out.2.1 g1 HO.out.2.2.2.1.symm.or
  have O3 : Hid (Ow .i64 3 base w2 (.slice a2 cs.length c2) cs) := World.ownsRow.kept HO.out.2.2.1 g1 HO.out.2.2.2.2.1.symm.or
  have k0 := K0.out.fr f1 (fun e => by have := HS.out _ e; omega)
  have K2 : Hid (Blk w2 w.heap.size (B3 (.slice a0 ts.length c0) (.slice a1 ls.length c1) (.slice a2 cs.length c2)) 27) := k0
  have x1 := k0.cell 1
  simp at x1
  clear k0 f1 g1 o1 x0 K0 HB HW1
  go_wp2_with (fail)
  refine (markI _ ls (q + 3 * ts.length) base w2 O2.out (by omega) (by omega)).mono ?_
  rintro e w3 ⟨rfl, o2, g2⟩
  have f2 : Fr (InB (.slice a0 ts.length c0) (.slice a1 ls.length c1) (.slice a2 cs.length c2)) w2 w3 := Fr.ofGrown g2 (fun k e => .inr (.inl e))
  have F2 : Hid (Fr (InB (.slice a0 ts.length c0) (.slice a1 ls.length c1) (.slice a2 cs.length c2)) w w3) := F1.out.trans f2
  have O1' : Hid (Og 3 tkC 38 base w3 (.slice a0 ts.length c0) (mkT q ts.length)) := World.ownsRow.kept O1.out g2 HO.out.2.2.2.1.or
  have O2' : Hid (Ow .i64 3 base w3 (.slice a1 ls.length c1) (marks .i64 (q + 3 * ts.length) ls.length)) := o2
  have O3' : Hid (Ow .i64 3 base w3 (.slice a2 cs.length c2) cs) := World.ownsRow.kept O3.out g2 HO.out.2.2.2.2.2.symm.or
  have k0 := K2.out.fr f2 (fun e => by have := HS.out _ e; omega)
  have x2 := k0.cell 2
  simp at x2
  clear k0 f2 g2 o2 x1 K2 F1 O1 O2 O3
  go_wp2_with (fail)
  refine (markI _ cs (q + 3 * ts.length + ls.length) base w3 O3'.out (by omega) (by omega)).mono ?_
  rintro e w4 ⟨rfl, o3, g3⟩
  have HF : Hid (Obk base w4 (.slice a0 ts.length c0) (.slice a1 ls.length c1) (.slice a2 cs.length c2) (mkT q ts.length) (marks .i64 (q + 3 * ts.length) ls.length) (marks .i64 (q + 3 * ts.length + ls.length) cs.length) ∧ Fr (InB (.slice a0 ts.length c0) (.slice a1 ls.length c1) (.slice a2 cs.length c2)) w w4) :=
    ⟨⟨World.ownsRow.kept O1'.out g3 HO.out.2.2.2.2.1.or, World.ownsRow.kept O2'.out g3 HO.out.2.2.2.2.2.or, o3, HO.out.2.2.2⟩, F2.out.trans (Fr.ofGrown g3 (fun k e => .inr (.inr e)))⟩
  clear o3 g3 O1' O2' O3' F2 x2 HO HS
  go_wp2
  go_ret
  exact ⟨rfl, HF.out⟩
set_option maxHeartbeats 1600000 in
theorem heldBook_c (q : Int) (va vl vc : Value) (na nl nc : Nat) (w : World) (h : Rbk w va vl vc (mkT q na) (marks .i64 (q + 3 * na) nl) (marks .i64 (q + 3 * na + nl) nc)) (hq0 : 0 ≤ q) (hq : q + 3 * na + nl + nc ≤ 1048576000) :
   Calls Tryd.prog 27 #[.agg (B3 va vl vc), .int .i64 q] w fun e w' => e = .returned (.int .i64 (q + 3 * na + nl + nc)) ∧ Below w.heap.size w w' := by
  obtain ⟨W1, hW1⟩ : ∃ W1, w.alloc (Obj.cells (B3 va vl vc) 27) = W1 := ⟨_, rfl⟩
  have hb : Below w.heap.size w W1 := hW1 ▸ (Below.refl _ _).alloc (Nat.le_refl _) _
  have HB : Hid (Below w.heap.size w W1) := hb
  have K0 : Hid (Blk W1 w.heap.size (B3 va vl vc) 27) := by show Blk _ _ _ _; rw [← hW1]; exact Blk.new _ _ _
  have HR : Hid (Rbk w va vl vc (mkT q na) (marks .i64 (q + 3 * na) nl) (marks .i64 (q + 3 * na + nl) nc)) := h
  have x0 := K0.out.cell 0
  simp at x0
  have HW1 : Hid (_ = W1) := hW1
  clear hb hW1 h
  have HF : Hid (∃ a c, va = .slice a na c) := by obtain ⟨⟨a, c, e, -⟩, -⟩ := HR.out; exact ⟨a, c, by rw [e, mkg_len]⟩
  have HG : Hid (∃ a c, vl = .slice a nl c) := by obtain ⟨-, ⟨a, c, e, -⟩, -⟩ := HR.out; exact ⟨a, c, by rw [e, marks_len]⟩
  have HH : Hid (∃ a c, vc = .slice a nc c) := by obtain ⟨-, -, ⟨a, c, e, -⟩⟩ := HR.out; exact ⟨a, c, by rw [e, marks_len]⟩
  obtain ⟨a0, c0, rfl⟩ := HF.out
  obtain ⟨a1, c1, rfl⟩ := HG.out
  obtain ⟨a2, c2, rfl⟩ := HH.out
  go_enter Tryd.func27, Tryd.ntmps27
  go_wp2_with (fail)
  rw [HW1.out]
  refine (heldTkS_c _ q na W1 (HR.out.below HB.out).1 hq0 (by omega)).mono ?_
  rintro e w2 ⟨rfl, b2⟩
  have HB2 : Hid (Below w.heap.size w w2) := belowCall HB.out b2 HB.out.size
  have k0 := K0.out.below b2 K0.out.lt
  have K2 : Hid (Blk w2 w.heap.size (B3 (.slice a0 na c0) (.slice a1 nl c1) (.slice a2 nc c2)) 27) := k0
  have x1 := k0.cell 1
  simp at x1
  have hn1 : ¬ q + 3 * (na : Int) < 0 := by omega
  clear k0 b2 x0 K0 HB HW1
  go_wp2_with (fail)
  refine (heldI _ (q + 3 * na) nl w2 (HR.out.below HB2.out).2.1 (by omega) (by omega)).mono ?_
  rintro e w3 ⟨rfl, b3⟩
  have HB3 : Hid (Below w.heap.size w w3) := belowCall HB2.out b3 HB2.out.size
  have k0 := K2.out.below b3 K2.out.lt
  have x2 := k0.cell 2
  simp at x2
  have hn2 : ¬ q + 3 * (na : Int) + (nl : Int) < 0 := by omega
  clear k0 b3 x1 K2 HB2 hn1
  go_wp2_with (fail)
  refine (heldI _ (q + 3 * na + nl) nc w3 (HR.out.below HB3.out).2.2 (by omega) (by omega)).mono ?_
  rintro e w4 ⟨rfl, b4⟩
  have HB4 : Hid (Below w.heap.size w w4) := belowCall HB3.out b4 HB3.out.size
  have hn3 : ¬ q + 3 * (na : Int) + (nl : Int) + (nc : Int) < 0 := by omega
  clear b4 x2 HB3 hn2
  go_wp2
  go_ret
  exact ⟨rfl, HB4.out⟩

end Go.Proofs.YtmfmlbiplagmiaaDoor

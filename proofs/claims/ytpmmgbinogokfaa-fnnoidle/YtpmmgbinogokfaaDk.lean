/- Desks read, owned, copied, compared; no condition. -/
import Derived.Test.YtpmmgbinogokfaaAg
import Derived.Test.YtpmmgbinogokfaaWt
import Derived.Test.YtpmmgbinogokfaaDop
namespace Go.Proofs.Ytpmmgbinogokfaa
open Go.RowKit Go.ChangeShapes Go.WideShapes Go.ChangeAt
set_option linter.unusedVariables false
set_option linter.unusedSimpArgs false
set_option maxRecDepth 8000
abbrev Dk := Int × List Ag × List Wt × Int
abbrev D4 (n : Int) (va vq : Value) (g : Int) : Array Value := #[.int .i64 n, va, vq, .int .i64 g]
theorem sizeDk : (Try.prog.info? 27).map (·.size) = some 4 := by kernel_rfl
theorem below_grown {w w' : World} (hb : Below w.heap.size w w') : w.grownBy w' none := ⟨hb.os, hb.tape, hb.output, hb.size, fun j hj _ => hb.block j hj⟩
set_option maxHeartbeats 1600000 in
theorem szDesk_c (n g : Int) (va vq : Value) (gs : List Ag) (qs : List Wt) (w : World) (ha : Rg 3 agC w va gs) (hq : Rg 4 wtC w vq qs) :
   Calls Try.prog 19 #[.agg (D4 n va vq g), .int .i64 1048576] w fun e w' => ∃ z, e = .returned (.int .i64 z) ∧ (z < 0 ∨ 0 ≤ z ∧ z = 1048576 - (gs.length : Int) - qs.length) ∧ Below w.heap.size w w' := by
  have hb : Below w.heap.size w (w.alloc (Obj.cells (D4 n va vq g) 48)) := (Below.refl _ _).alloc (Nat.le_refl _) _
  have HB : Hid (Below w.heap.size w (w.alloc (Obj.cells (D4 n va vq g) 48))) := hb
  have HA : Hid (Rg 3 agC (w.alloc (Obj.cells (D4 n va vq g) 48)) va gs) := ha.below hb
  have HQ : Hid (Rg 4 wtC (w.alloc (Obj.cells (D4 n va vq g) 48)) vq qs) := hq.below hb
  obtain ⟨a, cap, rfl, -⟩ := ha
  obtain ⟨a', cap', rfl, -⟩ := hq
  clear hb
  go_enter Try.func19, Try.ntmps19
  go_wp2_with (fail)
  refine (szAgS_c _ _ _ _ HA.out (by decide) (by decide)).mono ?_
  rintro e w2 ⟨rfl, rfl⟩
  by_cases h1 : (1048576 : Int) < gs.length
  · rw [if_pos h1]
    go_wp2
    go_ret
    exact ⟨_, rfl, .inl (by decide), HB.out⟩
  · rw [if_neg h1]
    obtain ⟨l, hl⟩ : ∃ l, (1048576 : Int) - gs.length = l := ⟨_, rfl⟩
    have HL : Hid ((1048576 : Int) - gs.length = l) := hl
    have l0 : 0 ≤ l := by omega
    have l1 : l ≤ 1048576 := by omega
    rw [hl]
    clear hl h1
    go_wp2_with (fail)
    refine (szWtS_c _ _ _ _ HQ.out l0 l1).mono ?_
    rintro e w2 ⟨rfl, rfl⟩
    by_cases h2 : l < (qs.length : Int)
    · rw [if_pos h2]
      go_wp2
      go_ret
      exact ⟨_, rfl, .inl (by decide), HB.out⟩
    · rw [if_neg h2]
      have h3 : ¬ l - (qs.length : Int) < 0 := by omega
      go_wp2
      go_ret
      exact ⟨_, rfl, .inr ⟨by omega, by have := HL.out; omega⟩, HB.out⟩
/-- a desk whose rows are owned from base on, each in a block of its own -/
def OwD (base : Nat) (w : World) (va vq : Value) (gs : List Ag) (qs : List Wt) : Prop :=
  Og 3 agC 36 base w va gs ∧ Og 4 wtC 74 base w vq qs ∧ (va.ownBlock = none ∨ va.ownBlock ≠ vq.ownBlock) ∧ (vq.ownBlock = none ∨ vq.ownBlock ≠ va.ownBlock)
theorem OwD.below {base : Nat} {w w' : World} {va vq : Value} {gs : List Ag} {qs : List Wt} (h : OwD base w va vq gs qs) (hb : Below w.heap.size w w') : OwD base w' va vq gs qs := ⟨h.1.below hb, h.2.1.below hb, h.2.2⟩
theorem OwD.mono {base base' : Nat} {w : World} {va vq : Value} {gs : List Ag} {qs : List Wt} (h : OwD base w va vq gs qs) (hb : base' ≤ base) : OwD base' w va vq gs qs := ⟨h.1.mono hb, h.2.1.mono hb, h.2.2⟩
theorem apart_new {b : Nat} {u v : Value} {w : World} (hu : ∀ k, u.ownBlock = some k → k < w.heap.size) (hb : w.heap.size ≤ b) (hv : ∀ k, v.ownBlock = some k → b ≤ k) : (u.ownBlock = none ∨ u.ownBlock ≠ v.ownBlock) ∧ (v.ownBlock = none ∨ v.ownBlock ≠ u.ownBlock) := by
  cases hx : u.ownBlock with
  | none =>
    refine ⟨.inl rfl, ?_⟩
    cases hy : v.ownBlock with
    | none => exact .inl rfl
    | some k => exact .inr (by simp)
  | some k =>
    have h1 := hu k hx
    refine ⟨.inr fun e => ?_, ?_⟩
    · have := hv k e.symm; omega
    · cases hy : v.ownBlock with
      | none => exact .inl rfl
      | some j => exact .inr fun e => by have := hv j hy; simp at e; omega
set_option maxHeartbeats 3200000 in
theorem toDesk_c (n g : Int) (va vq : Value) (gs : List Ag) (qs : List Wt) (w : World) (ha : Rg 3 agC w va gs) (hq : Rg 4 wtC w vq qs) (la : gs.length ≤ 1048576) (lq : qs.length ≤ 1048576) :
   Calls Try.prog 20 #[.agg (D4 n va vq g)] w fun e w' => ∃ va' vq', e = .returned (.agg (D4 n va' vq' g)) ∧ OwD w.heap.size w' va' vq' gs qs ∧ Below w.heap.size w w' := by
  obtain ⟨W1, hW1⟩ : ∃ W1, ((w.alloc (Obj.cells (D4 n va vq g) 48)).alloc (Obj.cells (D4 0 (.slice none 0 0) (.slice none 0 0) 0) 27)).alloc (Obj.cells (D4 n (.slice none 0 0) (.slice none 0 0) 0) 27) = W1 := ⟨_, rfl⟩
  have hb : Below w.heap.size w W1 := hW1 ▸ (((Below.refl _ _).alloc (Nat.le_refl _) _).alloc (by simp) _).alloc (by simp; omega) _
  have hs1 : W1.heap.size = w.heap.size + 3 := by rw [← hW1]; simp
  have HS1 : Hid (W1.heap.size = w.heap.size + 3) := hs1
  have HB : Hid (Below w.heap.size w W1) := hb
  have HA : Hid (Rg 3 agC W1 va gs) := ha.below hb
  have HQ0 : Hid (Rg 4 wtC w vq qs) := hq
  have k0 : Blk W1 w.heap.size (D4 n va vq g) 48 := hW1 ▸ ((Blk.new _ _ _).alloc _).alloc _
  have k1 : Blk W1 (w.heap.size + 1) (D4 0 (.slice none 0 0) (.slice none 0 0) 0) 27 := hW1 ▸ (Blk.newAt _ (w.heap.size + 1) _ 27 (by simp)).alloc _
  have k2 : Blk W1 (w.heap.size + 1 + 1) (D4 n (.slice none 0 0) (.slice none 0 0) 0) 27 := hW1 ▸ Blk.newAt _ (w.heap.size + 1 + 1) _ 27 (by simp)
  have K : Hid (Blk W1 w.heap.size (D4 n va vq g) 48 ∧ Blk W1 (w.heap.size + 1) (D4 0 (.slice none 0 0) (.slice none 0 0) 0) 27 ∧ Blk W1 (w.heap.size + 1 + 1) (D4 n (.slice none 0 0) (.slice none 0 0) 0) 27) := ⟨k0, k1, k2⟩
  have HW1 : Hid (((w.alloc (Obj.cells (D4 n va vq g) 48)).alloc (Obj.cells (D4 0 (.slice none 0 0) (.slice none 0 0) 0) 27)).alloc (Obj.cells (D4 n (.slice none 0 0) (.slice none 0 0) 0) 27) = W1) := hW1
  obtain ⟨a, cap, rfl, -⟩ := ha
  obtain ⟨a', cap', rfl, -⟩ := hq
  clear hb k0 k1 k2 hs1 hW1
  go_enter Try.func20, Try.ntmps20
  go_wp2_with (fail)
  rw [HW1.out]
  refine (toAgS_c _ _ _ HA.out la).mono ?_
  rintro e w2 ⟨v1, rfl, o1, b2⟩
  have q0 := K.out.1.below b2 (by have := HS1.out; omega)
  have q1 := K.out.2.1.below b2 (by have := HS1.out; omega)
  have q2 := K.out.2.2.below b2 (by have := HS1.out; omega)
  obtain ⟨a1, c1, rfl⟩ := o1.form
  have z2 := q0.cell 2
  have z3 := q0.cell 3
  have y1 := q2.cell 1
  have f1 := q2.frozen 1
  simp at z2 z3 y1
  obtain ⟨W3, hW3⟩ : ∃ W3, w2.setCell ⟨w.heap.size + 1 + 1, 1, none⟩ (.slice a1 gs.length c1) = W3 := ⟨_, rfl⟩
  have HW3 : Hid (w2.setCell ⟨w.heap.size + 1 + 1, 1, none⟩ (.slice a1 gs.length c1) = W3) := hW3
  have g3 : w2.grownBy W3 (some (w.heap.size + 1 + 1)) := hW3 ▸ grown_set' _ _ _ _
  have hn1 : (Value.slice a1 gs.length c1).ownBlock ≠ some (w.heap.size + 1 + 1) := fun e => by
    have := (o1.lt _ e).1; have := HS1.out; omega
  have hOff1 : Hid (∀ k, k < w.heap.size + 3 → (Value.slice a1 gs.length c1).ownBlock ≠ some k) := fun k hk e => by
    have := (o1.lt _ e).1; have := HS1.out; omega
  have hs2 : w.heap.size + 3 ≤ w2.heap.size := by have := b2.size; have := HS1.out; omega
  have B3 : Hid (Below w.heap.size w W3) := by
    show Below w.heap.size w W3
    rw [← hW3]; exact (belowCall HB.out b2 HB.out.size).setCell (by dsimp only; omega) _
  have O3 : Hid (Og 3 agC 36 w.heap.size W3 (.slice a1 gs.length c1) gs) := World.ownsRow.kept (o1.mono (by have := HS1.out; omega)) g3 (.inr hn1)
  have K3 : Hid (Blk W3 w.heap.size (D4 n (.slice a gs.length cap) (.slice a' qs.length cap') g) 48 ∧ Blk W3 (w.heap.size + 1) (D4 0 (.slice none 0 0) (.slice none 0 0) 0) 27 ∧ Blk W3 (w.heap.size + 1 + 1) (D4 n (.slice a1 gs.length c1) (.slice none 0 0) 0) 27) := by
    refine ⟨?_, ?_, ?_⟩
    · rw [← hW3]; exact q0.other _ _ (by simp; omega)
    · rw [← hW3]; exact q1.other _ _ (by simp)
    · rw [← hW3]; exact q2.set 1 _
  have HQ3 : Hid (Rg 4 wtC W3 (.slice a' qs.length cap') qs) := HQ0.out.below B3.out
  have hs3 : W3.heap.size = w2.heap.size := by rw [← hW3]; simp
  have HS3 : Hid (w.heap.size + 3 ≤ W3.heap.size) := by show w.heap.size + 3 ≤ W3.heap.size; omega
  clear hW3 g3 hn1 hs2 hs3 q0 q1 q2 o1 b2 K HA HB HQ0 HW1 HS1
  go_wp2_with (fail)
  rw [HW3.out]
  refine (toWtS_c _ _ _ HQ3.out lq).mono ?_
  rintro e w4 ⟨v2, rfl, o2, b4⟩
  have q0 := K3.out.1.below b4 (by have := HS3.out; omega)
  have q1 := K3.out.2.1.below b4 (by have := HS3.out; omega)
  have q2 := K3.out.2.2.below b4 (by have := HS3.out; omega)
  have o3 := O3.out.below b4
  obtain ⟨a2, c2, rfl⟩ := o2.form
  have hap := apart_new (w := W3) (b := W3.heap.size) (fun k e => (O3.out.lt k e).2) (Nat.le_refl _) (fun k e => (o2.lt k e).1)
  have n1 : (Value.slice a1 gs.length c1).ownBlock ≠ some (w.heap.size + 1 + 1) := hOff1.out _ (by omega)
  have n1' : (Value.slice a1 gs.length c1).ownBlock ≠ some (w.heap.size + 1) := hOff1.out _ (by omega)
  have n2 : ∀ k, k < w.heap.size + 3 → (Value.slice a2 qs.length c2).ownBlock ≠ some k := fun k hk e => by
    have := (o2.lt _ e).1; have := HS3.out; omega
  have m2 := n2 (w.heap.size + 1 + 1) (by omega)
  have m2' := n2 (w.heap.size + 1) (by omega)
  have z3' := q0.cell 3
  have x0 := q2.cell 0
  have x1 := q2.cell 1
  have x2 := q2.cell 2
  have x3 := q2.cell 3
  have fx2 := q2.frozen 2
  have fx3 := q2.frozen 3
  have e0 := q1.cell 0
  have e1 := q1.cell 1
  have e2 := q1.cell 2
  have e3 := q1.cell 3
  have fe0 := q1.frozen 0
  have fe1 := q1.frozen 1
  have fe2 := q1.frozen 2
  have fe3 := q1.frozen 3
  simp at z3' x0 x1 x2 x3 e0 e1 e2 e3
  have Q1 := (((((q1.other ⟨w.heap.size + 1 + 1, 2, none⟩ (.slice a2 qs.length c2) (by simp)).other ⟨w.heap.size + 1 + 1, 3, none⟩ (.int .i64 g) (by simp)).set 0 (.int .i64 n)).set 1 (.slice a1 gs.length c1)).set 2 (.slice a2 qs.length c2)).set 3 (.int .i64 g)
  have H1 : Hid _ := Q1
  have gg : w4.grownBy ((w4.setCell ⟨w.heap.size + 1 + 1, 2, none⟩ (.slice a2 qs.length c2)).setCell ⟨w.heap.size + 1 + 1, 3, none⟩ (.int .i64 g)) (some (w.heap.size + 1 + 1)) := grown_trans (grown_set' _ _ _ _) (grown_set' _ _ _ _)
  obtain ⟨W5, hW5⟩ : ∃ W5, (w4.setCell ⟨w.heap.size + 1 + 1, 2, none⟩ (.slice a2 qs.length c2)).setCell ⟨w.heap.size + 1 + 1, 3, none⟩ (.int .i64 g) = W5 := ⟨_, rfl⟩
  rw [hW5] at gg
  have gf : W5.grownBy ((((W5.setCell ⟨w.heap.size + 1, 0, none⟩ (.int .i64 n)).setCell ⟨w.heap.size + 1, 1, none⟩ (.slice a1 gs.length c1)).setCell ⟨w.heap.size + 1, 2, none⟩ (.slice a2 qs.length c2)).setCell ⟨w.heap.size + 1, 3, none⟩ (.int .i64 g)) (some (w.heap.size + 1)) := grown_trans (grown_trans (grown_trans (grown_set' _ _ _ _) (grown_set' _ _ _ _)) (grown_set' _ _ _ _)) (grown_set' _ _ _ _)
  have p1 := World.ownsRow.kept (World.ownsRow.kept o3 gg (.inr n1)) gf (.inr n1')
  have p2 := World.ownsRow.kept (World.ownsRow.kept (o2.mono (show w.heap.size ≤ W3.heap.size by have := HS3.out; omega)) gg (.inr m2)) gf (.inr m2')
  have bb := belowCall B3.out b4 B3.out.size
  have bf := (((((bb.setCell (show w.heap.size ≤ (⟨w.heap.size + 1 + 1, 2, none⟩ : Addr).block by dsimp only; omega) (.slice a2 qs.length c2)).setCell (show w.heap.size ≤ (⟨w.heap.size + 1 + 1, 3, none⟩ : Addr).block by dsimp only; omega) (.int .i64 g)).setCell (show w.heap.size ≤ (⟨w.heap.size + 1, 0, none⟩ : Addr).block by dsimp only; omega) (.int .i64 n)).setCell (show w.heap.size ≤ (⟨w.heap.size + 1, 1, none⟩ : Addr).block by dsimp only; omega) (.slice a1 gs.length c1)).setCell (show w.heap.size ≤ (⟨w.heap.size + 1, 2, none⟩ : Addr).block by dsimp only; omega) (.slice a2 qs.length c2)).setCell (show w.heap.size ≤ (⟨w.heap.size + 1, 3, none⟩ : Addr).block by dsimp only; omega) (.int .i64 g)
  rw [← hW5] at p1 p2
  have P1 : Hid _ := p1
  have P2 : Hid _ := p2
  have BF : Hid _ := bf
  clear hW5 gg gf p1 p2 bb bf n1 n1' n2 m2 m2' q0 q1 q2 o2 o3 b4 K3 O3 B3 HQ3 HW3 HS3 Q1 hOff1 z2 z3 y1 f1
  go_wp2
  exact bodyPost_ret (v := .agg (D4 n (.slice a1 gs.length c1) (.slice a2 qs.length c2) g)) (results_cell_row rfl _ _ _ 27 _ (0, 0) _ rfl H1.out Try.underlying27 rfl sizeDk) rfl ⟨_, _, rfl, ⟨P1.out, P2.out, hap.1, hap.2⟩, BF.out⟩
end Go.Proofs.Ytpmmgbinogokfaa
namespace Go.Proofs.Ytpmmgbinogokfaa
open Go.RowKit Go.ChangeShapes Go.WideShapes Go.ChangeAt
set_option linter.unusedVariables false
set_option linter.unusedSimpArgs false
set_option maxRecDepth 8000
set_option maxHeartbeats 1600000 in
theorem eqDesk_t (n g : Int) (va vq va' vq' : Value) (gs : List Ag) (qs : List Wt) (w : World) (ha : Rg 3 agC w va gs) (hq : Rg 4 wtC w vq qs) (ha' : Rg 3 agC w va' gs) (hq' : Rg 4 wtC w vq' qs) :
   Calls Try.prog 21 #[.agg (D4 n va vq g), .agg (D4 n va' vq' g)] w fun e w' => e = .returned (.bool true) ∧ Below w.heap.size w w' := by
  obtain ⟨W1, hW1⟩ : ∃ W1, (w.alloc (Obj.cells (D4 n va vq g) 27)).alloc (Obj.cells (D4 n va' vq' g) 27) = W1 := ⟨_, rfl⟩
  have hb : Below w.heap.size w W1 := hW1 ▸ ((Below.refl _ _).alloc (Nat.le_refl _) _).alloc (by simp) _
  have HB : Hid (Below w.heap.size w W1) := hb
  have K0 : Hid (Blk W1 w.heap.size (D4 n va vq g) 27) := by show Blk _ _ _ _; rw [← hW1]; exact (Blk.new _ _ _).alloc _
  have K1 : Hid (Blk W1 (w.heap.size + 1) (D4 n va' vq' g) 27) := by show Blk _ _ _ _; rw [← hW1]; exact Blk.newAt _ (w.heap.size + 1) _ 27 (by simp)
  have HA : Hid (Rg 3 agC w va gs ∧ Rg 3 agC w va' gs) := ⟨ha, ha'⟩
  have HQ : Hid (Rg 4 wtC w vq qs ∧ Rg 4 wtC w vq' qs) := ⟨hq, hq'⟩
  obtain ⟨a0, c0, rfl, -⟩ := ha
  obtain ⟨a1, c1, rfl, -⟩ := hq
  obtain ⟨a2, c2, rfl, -⟩ := ha'
  obtain ⟨a3, c3, rfl, -⟩ := hq'
  have x0 := K0.out.cell 0
  have x1 := K0.out.cell 1
  have y0 := K1.out.cell 0
  have y1 := K1.out.cell 1
  have hnn : (n != n) = false := by simp
  have hgg : (g != g) = false := by simp
  simp at x0 x1 y0 y1
  have HW1 : Hid (_ = W1) := hW1
  clear hb hW1
  go_enter Try.func21, Try.ntmps21
  go_wp2_with (fail)
  rw [HW1.out]
  refine (eqAgS_c _ _ gs gs W1 (HA.out.1.below HB.out) (HA.out.2.below HB.out)).mono ?_
  rintro e w2 ⟨rfl, b2⟩
  rw [decide_eq_true rfl]
  have HB2 : Hid (Below w.heap.size w w2) := belowCall HB.out b2 HB.out.size
  have k0 := K0.out.below b2 K0.out.lt
  have k1 := K1.out.below b2 K1.out.lt
  have K0' : Hid (Blk w2 w.heap.size (D4 n (.slice a0 gs.length c0) (.slice a1 qs.length c1) g) 27) := k0
  have K1' : Hid (Blk w2 (w.heap.size + 1) (D4 n (.slice a2 gs.length c2) (.slice a3 qs.length c3) g) 27) := k1
  have x2 := k0.cell 2
  have y2 := k1.cell 2
  simp at x2 y2
  clear k0 k1 b2 x0 x1 y0 y1 K0 K1 HB HW1
  go_wp2_with (fail)
  refine (eqWtS_c _ _ qs qs w2 (HQ.out.1.below HB2.out) (HQ.out.2.below HB2.out)).mono ?_
  rintro e w3 ⟨rfl, b3⟩
  rw [decide_eq_true rfl]
  have HB3 : Hid (Below w.heap.size w w3) := belowCall HB2.out b3 HB2.out.size
  have k0 := K0'.out.below b3 K0'.out.lt
  have k1 := K1'.out.below b3 K1'.out.lt
  have x3 := k0.cell 3
  have y3 := k1.cell 3
  simp at x3 y3
  clear k0 k1 b3 x2 y2 K0' K1' HB2
  go_wp2
  go_ret
  exact ⟨rfl, HB3.out⟩
/-- the blocks of a desk's rows -/
def InD (va vq : Value) (k : Nat) : Prop := va.ownBlock = some k ∨ vq.ownBlock = some k
theorem OwD.fr {X : Nat → Prop} {base : Nat} {w w' : World} {va vq : Value} {gs : List Ag} {qs : List Wt} (h : OwD base w va vq gs qs) (hf : Fr X w w') (hx : ∀ k, InD va vq k → ¬ X k) : OwD base w' va vq gs qs :=
  ⟨ownsRow_fr h.1 hf (fun k e => hx k (.inl e)), ownsRow_fr h.2.1 hf (fun k e => hx k (.inr e)), h.2.2⟩
theorem OwD.lt {base : Nat} {w : World} {va vq : Value} {gs : List Ag} {qs : List Wt} (h : OwD base w va vq gs qs) (k : Nat) (hk : InD va vq k) : base ≤ k ∧ k < w.heap.size := by
  rcases hk with e | e
  · exact h.1.lt k e
  · exact h.2.1.lt k e
abbrev mkA (q : Int) (n : Nat) : List Ag := mkg (mkAg q) n
abbrev mkQ (q : Int) (n : Nat) : List Wt := mkg (mkWt q) n
set_option maxHeartbeats 1600000 in
theorem markDesk_c (base : Nat) (n g q : Int) (va vq : Value) (gs : List Ag) (qs : List Wt) (w : World) (h : OwD base w va vq gs qs) (hq0 : 0 ≤ q) (hq : q + 3 * gs.length + 4 * qs.length ≤ 1048576000) :
   Calls Try.prog 24 #[.agg (D4 n va vq g), .int .i64 q] w fun e w' => e = .returned (.int .i64 (q + 3 * gs.length + 4 * qs.length)) ∧ OwD base w' va vq (mkA q gs.length) (mkQ (q + 3 * gs.length) qs.length) ∧ Fr (InD va vq) w w' := by
  obtain ⟨W1, hW1⟩ : ∃ W1, w.alloc (Obj.cells (D4 n va vq g) 27) = W1 := ⟨_, rfl⟩
  have hb : Below w.heap.size w W1 := hW1 ▸ (Below.refl _ _).alloc (Nat.le_refl _) _
  have HB : Hid (Below w.heap.size w W1) := hb
  have K0 : Hid (Blk W1 w.heap.size (D4 n va vq g) 27) := by show Blk _ _ _ _; rw [← hW1]; exact Blk.new _ _ _
  have HO : Hid (OwD base W1 va vq gs qs) := h.below hb
  have HS : Hid (∀ k, InD va vq k → k < w.heap.size) := fun k hk => (h.lt k hk).2
  obtain ⟨a0, c0, rfl⟩ := h.1.form
  obtain ⟨a1, c1, rfl⟩ := h.2.1.form
  have x1 := K0.out.cell 1
  simp at x1
  have HW1 : Hid (_ = W1) := hW1
  clear hb hW1 h
  go_enter Try.func24, Try.ntmps24
  go_wp2_with (fail)
  rw [HW1.out]
  refine (markAgS_c _ gs q base W1 HO.out.1 hq0 (by omega)).mono ?_
  rintro e w2 ⟨rfl, o1, g1⟩
  have f1 : Fr (InD (.slice a0 gs.length c0) (.slice a1 qs.length c1)) W1 w2 := Fr.ofGrown g1 (fun k e => .inl e)
  have F1 : Hid (Fr (InD (.slice a0 gs.length c0) (.slice a1 qs.length c1)) w w2) := (Fr.ofBelow HB.out).trans f1
  have O2 : Hid (Og 4 wtC 74 base w2 (.slice a1 qs.length c1) qs) := World.ownsRow.kept HO.out.2.1 g1 HO.out.2.2.2
  have O1 : Hid (Og 3 agC 36 base w2 (.slice a0 gs.length c0) (mkA q gs.length)) := o1
  have k0 := K0.out.fr f1 (fun e => by have := HS.out _ e; omega)
  have x2 := k0.cell 2
  simp at x2
  clear k0 f1 g1 o1 x1 K0 HB HW1
  go_wp2_with (fail)
  refine (markWtS_c _ qs (q + 3 * gs.length) base w2 O2.out (by omega) (by omega)).mono ?_
  rintro e w3 ⟨rfl, o2, g2⟩
  have HF : Hid (OwD base w3 (.slice a0 gs.length c0) (.slice a1 qs.length c1) (mkA q gs.length) (mkQ (q + 3 * gs.length) qs.length) ∧ Fr (InD (.slice a0 gs.length c0) (.slice a1 qs.length c1)) w w3) :=
    ⟨⟨World.ownsRow.kept O1.out g2 HO.out.2.2.1, o2, HO.out.2.2⟩, F1.out.trans (Fr.ofGrown g2 (fun k e => .inr e))⟩
  clear o2 g2 O1 O2 F1 x2 HO HS
  go_wp2
  go_ret
  exact ⟨rfl, HF.out⟩
set_option maxHeartbeats 1600000 in
theorem heldDesk_c (n g q : Int) (va vq : Value) (na nq : Nat) (w : World) (ha : Rg 3 agC w va (mkA q na)) (hq' : Rg 4 wtC w vq (mkQ (q + 3 * na) nq)) (hq0 : 0 ≤ q) (hq : q + 3 * na + 4 * nq ≤ 1048576000) :
   Calls Try.prog 26 #[.agg (D4 n va vq g), .int .i64 q] w fun e w' => e = .returned (.int .i64 (q + 3 * na + 4 * nq)) ∧ Below w.heap.size w w' := by
  obtain ⟨W1, hW1⟩ : ∃ W1, w.alloc (Obj.cells (D4 n va vq g) 27) = W1 := ⟨_, rfl⟩
  have hb : Below w.heap.size w W1 := hW1 ▸ (Below.refl _ _).alloc (Nat.le_refl _) _
  have HB : Hid (Below w.heap.size w W1) := hb
  have K0 : Hid (Blk W1 w.heap.size (D4 n va vq g) 27) := by show Blk _ _ _ _; rw [← hW1]; exact Blk.new _ _ _
  have HA : Hid (Rg 3 agC W1 va (mkA q na)) := ha.below hb
  have HQ : Hid (Rg 4 wtC w vq (mkQ (q + 3 * na) nq)) := hq'
  obtain ⟨a0, c0, rfl, -⟩ := ha
  obtain ⟨a1, c1, rfl, -⟩ := hq'
  rw [mkg_len] at K0 HA ⊢
  rw [mkg_len] at K0 HQ ⊢
  have x1 := K0.out.cell 1
  simp at x1
  have HW1 : Hid (_ = W1) := hW1
  clear hb hW1
  simp only [mkg_len] at HW1
  go_enter Try.func26, Try.ntmps26
  go_wp2_with (fail)
  rw [HW1.out]
  refine (heldAgS_c _ q na W1 HA.out hq0 (by omega)).mono ?_
  rintro e w2 ⟨rfl, b2⟩
  have HB2 : Hid (Below w.heap.size w w2) := belowCall HB.out b2 HB.out.size
  have k0 := K0.out.below b2 K0.out.lt
  have x2 := k0.cell 2
  simp at x2
  have hn1 : ¬ q + 3 * (na : Int) < 0 := by omega
  clear k0 b2 x1 K0 HB HW1 HA
  go_wp2_with (fail)
  refine (heldWtS_c _ (q + 3 * na) nq w2 (HQ.out.below HB2.out) (by omega) (by omega)).mono ?_
  rintro e w3 ⟨rfl, b3⟩
  have HB3 : Hid (Below w.heap.size w w3) := belowCall HB2.out b3 HB2.out.size
  have hn2 : ¬ q + 3 * (na : Int) + 4 * (nq : Int) < 0 := by omega
  clear b3 x2 HB2
  go_wp2
  go_ret
  exact ⟨rfl, HB3.out⟩
end Go.Proofs.Ytpmmgbinogokfaa

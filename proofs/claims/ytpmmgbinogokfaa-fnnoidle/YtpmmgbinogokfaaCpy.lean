/- Desks copied; no condition. -/
import Derived.Test.YtpmmgbinogokfaaCln
namespace Go.Proofs.Ytpmmgbinogokfaa
open Go.RowKit Go.ChangeShapes Go.WideShapes Go.ChangeAt
set_option linter.unusedVariables false
set_option linter.unusedSimpArgs false
set_option maxRecDepth 8000
set_option maxHeartbeats 3200000 in
theorem copyI_c (n g : Int) (va vq : Value) (gs : List Ag) (qs : List Wt) (w : World) (ha : Rg 3 agC w va gs) (hq : Rg 4 wtC w vq qs) (la : gs.length ≤ 1048576) (lq : qs.length ≤ 1048576) :
   Calls Try.prog 45 #[.agg (D4 n va vq g)] w fun e w' => ∃ va' vq', e = .returned (.agg (D4 n va' vq' g)) ∧ OwD w.heap.size w' va' vq' gs qs ∧ Below w.heap.size w w' := by
  obtain ⟨W1, hW1⟩ : ∃ W1, (w.alloc (Obj.cells (D4 n va vq g) 27)).alloc (Obj.cells (D4 0 (.slice none 0 0) (.slice none 0 0) 0) 27) = W1 := ⟨_, rfl⟩
  have hb : Below w.heap.size w W1 := hW1 ▸ ((Below.refl _ _).alloc (Nat.le_refl _) _).alloc (by simp) _
  have hs1 : W1.heap.size = w.heap.size + 2 := by rw [← hW1]; simp
  have HS1 : Hid (W1.heap.size = w.heap.size + 2) := hs1
  have HB : Hid (Below w.heap.size w W1) := hb
  have HA : Hid (Rg 3 agC W1 va gs) := ha.below hb
  have HQ0 : Hid (Rg 4 wtC w vq qs) := hq
  have k0 : Blk W1 w.heap.size (D4 n va vq g) 27 := hW1 ▸ (Blk.new _ _ _).alloc _
  have k1 : Blk W1 (w.heap.size + 1) (D4 0 (.slice none 0 0) (.slice none 0 0) 0) 27 := hW1 ▸ Blk.newAt _ (w.heap.size + 1) _ 27 (by simp)
  have K : Hid (Blk W1 w.heap.size (D4 n va vq g) 27 ∧ Blk W1 (w.heap.size + 1) (D4 0 (.slice none 0 0) (.slice none 0 0) 0) 27) := ⟨k0, k1⟩
  have HW1 : Hid ((w.alloc (Obj.cells (D4 n va vq g) 27)).alloc (Obj.cells (D4 0 (.slice none 0 0) (.slice none 0 0) 0) 27) = W1) := hW1
  obtain ⟨a, cap, rfl, -⟩ := ha
  obtain ⟨a', cap', rfl, -⟩ := hq
  clear hb k0 k1 hs1 hW1
  go_enter Try.func45, Try.ntmps45
  go_wp2_with (fail)
  rw [HW1.out]
  refine (cloneAg_c _ _ _ HA.out la).mono ?_
  rintro e w2 ⟨v1, rfl, o1, b2⟩
  have b2' : Below W1.heap.size W1 w2 := b2
  have q0 := K.out.1.below b2' (by have := HS1.out; omega)
  have q1 := K.out.2.below b2' (by have := HS1.out; omega)
  obtain ⟨a1, c1, rfl⟩ := o1.form
  have y1 := q0.cell 1
  have f1 := q0.frozen 1
  have z2' := q0.cell 2
  simp at y1 z2'
  obtain ⟨W3, hW3⟩ : ∃ W3, w2.setCell ⟨w.heap.size, 1, none⟩ (.slice a1 gs.length c1) = W3 := ⟨_, rfl⟩
  have HW3 : Hid (w2.setCell ⟨w.heap.size, 1, none⟩ (.slice a1 gs.length c1) = W3) := hW3
  have g3 : w2.grownBy W3 (some w.heap.size) := hW3 ▸ grown_set' _ _ _ _
  have hOff1 : Hid (∀ k, k < w.heap.size + 2 → (Value.slice a1 gs.length c1).ownBlock ≠ some k) := fun k hk e => by
    have := (o1.lt _ e).1; have := HS1.out; omega
  have hs2 : w.heap.size + 2 ≤ w2.heap.size := by have := b2'.size; have := HS1.out; omega
  have B3 : Hid (Below w.heap.size w W3) := by
    show Below w.heap.size w W3
    rw [← hW3]; exact (belowCall HB.out b2' HB.out.size).setCell (by dsimp only; omega) _
  have O3 : Hid (Og 3 agC 36 w.heap.size W3 (.slice a1 gs.length c1) gs) := World.ownsRow.kept (o1.mono (by have := HS1.out; omega)) g3 (.inr (hOff1.out _ (by omega)))
  have K3 : Hid (Blk W3 w.heap.size (D4 n (.slice a1 gs.length c1) (.slice a' qs.length cap') g) 27 ∧ Blk W3 (w.heap.size + 1) (D4 0 (.slice none 0 0) (.slice none 0 0) 0) 27) := by
    refine ⟨?_, ?_⟩
    · rw [← hW3]; exact q0.set 1 _
    · rw [← hW3]; exact q1.other _ _ (by simp)
  have HQ3 : Hid (Rg 4 wtC W3 (.slice a' qs.length cap') qs) := HQ0.out.below B3.out
  have HS3 : Hid (w.heap.size + 2 ≤ W3.heap.size) := by show w.heap.size + 2 ≤ W3.heap.size; rw [← hW3]; simpa using hs2
  have z2 := K3.out.1.cell 2
  simp at z2
  clear g3 hs2 q0 q1 o1 b2 b2' K HA HB HQ0 HW1 HS1 hW3
  go_wp2_with (fail)
  rw [HW3.out]
  refine (cloneWt_c _ _ _ HQ3.out lq).mono ?_
  rintro e w4 ⟨v2, rfl, o2, b4⟩
  have b4' : Below W3.heap.size W3 w4 := b4
  clear b4 z2' z2 y1 f1
  have q0 := K3.out.1.below b4' (by have := HS3.out; omega)
  have q1 := K3.out.2.below b4' (by have := HS3.out; omega)
  have o3 := O3.out.below b4'
  obtain ⟨a2, c2, rfl⟩ := o2.form
  have hap := apart_new (w := W3) (b := W3.heap.size) (fun k e => (O3.out.lt k e).2) (Nat.le_refl _) (fun k e => (o2.lt k e).1)
  have n1 := hOff1.out w.heap.size (by omega)
  have n1' := hOff1.out (w.heap.size + 1) (by omega)
  have n2 : ∀ k, k < w.heap.size + 2 → (Value.slice a2 qs.length c2).ownBlock ≠ some k := fun k hk e => by
    have := (o2.lt _ e).1; have := HS3.out; omega
  have m2 := n2 w.heap.size (by omega)
  have m2' := n2 (w.heap.size + 1) (by omega)
  have x0 := q0.cell 0
  have x1 := q0.cell 1
  have x2 := q0.cell 2
  have x3 := q0.cell 3
  have fx2 := q0.frozen 2
  have e0 := q1.cell 0
  have e1 := q1.cell 1
  have e2 := q1.cell 2
  have e3 := q1.cell 3
  have fe0 := q1.frozen 0
  have fe1 := q1.frozen 1
  have fe2 := q1.frozen 2
  have fe3 := q1.frozen 3
  simp at x0 x1 x2 x3 e0 e1 e2 e3
  have Q1 := ((((q1.other ⟨w.heap.size, 2, none⟩ (.slice a2 qs.length c2) (by simp)).set 0 (.int .i64 n)).set 1 (.slice a1 gs.length c1)).set 2 (.slice a2 qs.length c2)).set 3 (.int .i64 g)
  have H1 : Hid _ := Q1
  have gg : w4.grownBy (w4.setCell ⟨w.heap.size, 2, none⟩ (.slice a2 qs.length c2)) (some w.heap.size) := grown_set' _ _ _ _
  obtain ⟨W5, hW5⟩ : ∃ W5, w4.setCell ⟨w.heap.size, 2, none⟩ (.slice a2 qs.length c2) = W5 := ⟨_, rfl⟩
  rw [hW5] at gg
  have gf : W5.grownBy ((((W5.setCell ⟨w.heap.size + 1, 0, none⟩ (.int .i64 n)).setCell ⟨w.heap.size + 1, 1, none⟩ (.slice a1 gs.length c1)).setCell ⟨w.heap.size + 1, 2, none⟩ (.slice a2 qs.length c2)).setCell ⟨w.heap.size + 1, 3, none⟩ (.int .i64 g)) (some (w.heap.size + 1)) := grown_trans (grown_trans (grown_trans (grown_set' _ _ _ _) (grown_set' _ _ _ _)) (grown_set' _ _ _ _)) (grown_set' _ _ _ _)
  have p1 := World.ownsRow.kept (World.ownsRow.kept o3 gg (.inr n1)) gf (.inr n1')
  have p2 := World.ownsRow.kept (World.ownsRow.kept (o2.mono (show w.heap.size ≤ W3.heap.size by have := HS3.out; omega)) gg (.inr m2)) gf (.inr m2')
  have bb := belowCall B3.out b4' B3.out.size
  have bf := ((((bb.setCell (show w.heap.size ≤ (⟨w.heap.size, 2, none⟩ : Addr).block by dsimp only; omega) (.slice a2 qs.length c2)).setCell (show w.heap.size ≤ (⟨w.heap.size + 1, 0, none⟩ : Addr).block by dsimp only; omega) (.int .i64 n)).setCell (show w.heap.size ≤ (⟨w.heap.size + 1, 1, none⟩ : Addr).block by dsimp only; omega) (.slice a1 gs.length c1)).setCell (show w.heap.size ≤ (⟨w.heap.size + 1, 2, none⟩ : Addr).block by dsimp only; omega) (.slice a2 qs.length c2)).setCell (show w.heap.size ≤ (⟨w.heap.size + 1, 3, none⟩ : Addr).block by dsimp only; omega) (.int .i64 g)
  rw [← hW5] at p1 p2
  have P1 : Hid _ := p1
  have P2 : Hid _ := p2
  have BF : Hid _ := bf
  clear hW5 gg gf p1 p2 bb bf n1 n1' n2 m2 m2' q0 q1 o2 o3 b4' K3 O3 B3 HQ3 HW3 HS3 Q1 hOff1
  go_wp2
  exact bodyPost_ret (v := .agg (D4 n (.slice a1 gs.length c1) (.slice a2 qs.length c2) g)) (results_cell_row rfl _ _ _ 27 _ (0, 0) _ rfl H1.out Try.underlying27 rfl sizeDk) rfl ⟨_, _, rfl, ⟨P1.out, P2.out, hap.1, hap.2⟩, BF.out⟩
set_option maxHeartbeats 3200000 in
theorem copyM_c (n g : Int) (va vq : Value) (gs : List Ag) (qs : List Wt) (w : World) (ha : Rg 3 agC w va gs) (hq : Rg 4 wtC w vq qs) (la : gs.length ≤ 1048576) (lq : qs.length ≤ 1048576) :
   Calls Try.prog 51 #[.agg (D4 n va vq g)] w fun e w' => ∃ va' vq', e = .returned (.agg (D4 n va' vq' g)) ∧ OwD w.heap.size w' va' vq' gs qs ∧ Below w.heap.size w w' := by
  obtain ⟨W1, hW1⟩ : ∃ W1, (w.alloc (Obj.cells (D4 n va vq g) 27)).alloc (Obj.cells (D4 0 (.slice none 0 0) (.slice none 0 0) 0) 27) = W1 := ⟨_, rfl⟩
  have hb : Below w.heap.size w W1 := hW1 ▸ ((Below.refl _ _).alloc (Nat.le_refl _) _).alloc (by simp) _
  have hs1 : W1.heap.size = w.heap.size + 2 := by rw [← hW1]; simp
  have HS1 : Hid (W1.heap.size = w.heap.size + 2) := hs1
  have HB : Hid (Below w.heap.size w W1) := hb
  have HA : Hid (Rg 3 agC W1 va gs) := ha.below hb
  have HQ0 : Hid (Rg 4 wtC w vq qs) := hq
  have k0 : Blk W1 w.heap.size (D4 n va vq g) 27 := hW1 ▸ (Blk.new _ _ _).alloc _
  have k1 : Blk W1 (w.heap.size + 1) (D4 0 (.slice none 0 0) (.slice none 0 0) 0) 27 := hW1 ▸ Blk.newAt _ (w.heap.size + 1) _ 27 (by simp)
  have K : Hid (Blk W1 w.heap.size (D4 n va vq g) 27 ∧ Blk W1 (w.heap.size + 1) (D4 0 (.slice none 0 0) (.slice none 0 0) 0) 27) := ⟨k0, k1⟩
  have HW1 : Hid ((w.alloc (Obj.cells (D4 n va vq g) 27)).alloc (Obj.cells (D4 0 (.slice none 0 0) (.slice none 0 0) 0) 27) = W1) := hW1
  obtain ⟨a, cap, rfl, -⟩ := ha
  obtain ⟨a', cap', rfl, -⟩ := hq
  have OE : Hid (Og 3 agC 36 W1.heap.size (W1.alloc (Obj.cells #[] 36)) (.slice (some ⟨W1.heap.size, 0, none⟩) 0 0) []) := World.ownsRow_lit (e := 36) (size := 3) (base := W1.heap.size) W1 #[] 0 (by omega) (by simp) (by simp)
  obtain ⟨WE, hWE⟩ : ∃ WE, W1.alloc (Obj.cells #[] 36) = WE := ⟨_, rfl⟩
  have HWE : Hid (W1.alloc (Obj.cells #[] 36) = WE) := hWE
  have bE : Below W1.heap.size W1 WE := hWE ▸ (Below.refl _ _).alloc (Nat.le_refl _) _
  have BE : Hid (Below W1.heap.size W1 WE) := bE
  have HAE : Hid (Rg 3 agC WE (.slice a gs.length cap) gs) := HA.out.below bE
  have xe := (k0.below bE k0.lt).cell 1
  simp at xe
  rw [hWE, hs1] at OE
  have HSE : Hid (w.heap.size + 2 ≤ WE.heap.size) := by show w.heap.size + 2 ≤ WE.heap.size; have := bE.size; omega
  have x1 := k0.cell 1
  simp at x1
  clear hb k0 k1 hs1 hW1 hWE bE
  go_enter Try.func51, Try.ntmps51
  go_wp2_with (at_builtin; rw [HW1.out, HWE.out]; refine appAg rfl _ _ rfl (w.heap.size + 2) _ [] rfl OE.out _ gs rfl HAE.out (by simp; omega) HSE.out ?_)
  intro v1 w2 o1 g2 _
  have b2e : Below (w.heap.size + 2) WE w2 := grown_below g2 HSE.out (fun k e => by simp [Value.ownBlock] at e; omega)
  have b2' : Below W1.heap.size W1 w2 := by have h1 := BE.out; rw [HS1.out] at h1 ⊢; exact h1.trans b2e
  try rw [List.nil_append] at o1
  rw [← HS1.out] at o1
  clear g2 b2e xe x1 OE HAE HWE BE HSE
  have q0 := K.out.1.below b2' (by have := HS1.out; omega)
  have q1 := K.out.2.below b2' (by have := HS1.out; omega)
  obtain ⟨a1, c1, rfl⟩ := o1.form
  have y1 := q0.cell 1
  have f1 := q0.frozen 1
  have z2' := q0.cell 2
  simp at y1 z2'
  obtain ⟨W3, hW3⟩ : ∃ W3, w2.setCell ⟨w.heap.size, 1, none⟩ (.slice a1 gs.length c1) = W3 := ⟨_, rfl⟩
  have HW3 : Hid (w2.setCell ⟨w.heap.size, 1, none⟩ (.slice a1 gs.length c1) = W3) := hW3
  have g3 : w2.grownBy W3 (some w.heap.size) := hW3 ▸ grown_set' _ _ _ _
  have hOff1 : Hid (∀ k, k < w.heap.size + 2 → (Value.slice a1 gs.length c1).ownBlock ≠ some k) := fun k hk e => by
    have := (o1.lt _ e).1; have := HS1.out; omega
  have hs2 : w.heap.size + 2 ≤ w2.heap.size := by have := b2'.size; have := HS1.out; omega
  have B3 : Hid (Below w.heap.size w W3) := by
    show Below w.heap.size w W3
    rw [← hW3]; exact (belowCall HB.out b2' HB.out.size).setCell (by dsimp only; omega) _
  have O3 : Hid (Og 3 agC 36 w.heap.size W3 (.slice a1 gs.length c1) gs) := World.ownsRow.kept (o1.mono (by have := HS1.out; omega)) g3 (.inr (hOff1.out _ (by omega)))
  have K3 : Hid (Blk W3 w.heap.size (D4 n (.slice a1 gs.length c1) (.slice a' qs.length cap') g) 27 ∧ Blk W3 (w.heap.size + 1) (D4 0 (.slice none 0 0) (.slice none 0 0) 0) 27) := by
    refine ⟨?_, ?_⟩
    · rw [← hW3]; exact q0.set 1 _
    · rw [← hW3]; exact q1.other _ _ (by simp)
  have HQ3 : Hid (Rg 4 wtC W3 (.slice a' qs.length cap') qs) := HQ0.out.below B3.out
  have HS3 : Hid (w.heap.size + 2 ≤ W3.heap.size) := by show w.heap.size + 2 ≤ W3.heap.size; rw [← hW3]; simpa using hs2
  have z2 := K3.out.1.cell 2
  simp at z2
  have OE : Hid (Og 4 wtC 74 W3.heap.size (W3.alloc (Obj.cells #[] 74)) (.slice (some ⟨W3.heap.size, 0, none⟩) 0 0) []) := World.ownsRow_lit (e := 74) (size := 4) (base := W3.heap.size) W3 #[] 0 (by omega) (by simp) (by simp)
  obtain ⟨WE, hWE⟩ : ∃ WE, W3.alloc (Obj.cells #[] 74) = WE := ⟨_, rfl⟩
  have HWE : Hid (W3.alloc (Obj.cells #[] 74) = WE) := hWE
  have bE : Below W3.heap.size W3 WE := hWE ▸ (Below.refl _ _).alloc (Nat.le_refl _) _
  have BE : Hid (Below W3.heap.size W3 WE) := bE
  have HAE : Hid (Rg 4 wtC WE (.slice a' qs.length cap') qs) := HQ3.out.below bE
  have hs23 : W3.heap.size = w2.heap.size := by rw [← hW3]; simp
  have HS23 : Hid (W3.heap.size = w2.heap.size) := hs23
  rw [hWE] at OE
  have OE2 : Hid (Og 4 wtC 74 W3.heap.size WE (.slice (some ⟨w2.heap.size, 0, none⟩) 0 0) []) := by have := OE.out; rw [hs23] at this ⊢; exact this
  have hltt : w.heap.size < w2.heap.size := by omega
  clear g3 hs2 q0 q1 o1 b2' K HA HB HQ0 HW1 HS1 hW3 hWE hs23 OE
  go_wp2_with (at_builtin; rw [HW3.out, HWE.out]; refine appWt rfl _ _ rfl W3.heap.size _ [] rfl OE2.out _ qs rfl HAE.out (by simp; omega) BE.out.size ?_)
  intro v2 w4 o2 g4 _
  have b4' : Below W3.heap.size W3 w4 := BE.out.trans (grown_below g4 BE.out.size (fun k e => by simp [Value.ownBlock] at e; have := HS23.out; omega))
  try rw [List.nil_append] at o2
  clear g4 z2' z2 y1 f1 OE2 HAE HWE BE HS23 hltt
  have q0 := K3.out.1.below b4' (by have := HS3.out; omega)
  have q1 := K3.out.2.below b4' (by have := HS3.out; omega)
  have o3 := O3.out.below b4'
  obtain ⟨a2, c2, rfl⟩ := o2.form
  have hap := apart_new (w := W3) (b := W3.heap.size) (fun k e => (O3.out.lt k e).2) (Nat.le_refl _) (fun k e => (o2.lt k e).1)
  have n1 := hOff1.out w.heap.size (by omega)
  have n1' := hOff1.out (w.heap.size + 1) (by omega)
  have n2 : ∀ k, k < w.heap.size + 2 → (Value.slice a2 qs.length c2).ownBlock ≠ some k := fun k hk e => by
    have := (o2.lt _ e).1; have := HS3.out; omega
  have m2 := n2 w.heap.size (by omega)
  have m2' := n2 (w.heap.size + 1) (by omega)
  have x0 := q0.cell 0
  have x1 := q0.cell 1
  have x2 := q0.cell 2
  have x3 := q0.cell 3
  have fx2 := q0.frozen 2
  have e0 := q1.cell 0
  have e1 := q1.cell 1
  have e2 := q1.cell 2
  have e3 := q1.cell 3
  have fe0 := q1.frozen 0
  have fe1 := q1.frozen 1
  have fe2 := q1.frozen 2
  have fe3 := q1.frozen 3
  simp at x0 x1 x2 x3 e0 e1 e2 e3
  have Q1 := ((((q1.other ⟨w.heap.size, 2, none⟩ (.slice a2 qs.length c2) (by simp)).set 0 (.int .i64 n)).set 1 (.slice a1 gs.length c1)).set 2 (.slice a2 qs.length c2)).set 3 (.int .i64 g)
  have H1 : Hid _ := Q1
  have gg : w4.grownBy (w4.setCell ⟨w.heap.size, 2, none⟩ (.slice a2 qs.length c2)) (some w.heap.size) := grown_set' _ _ _ _
  obtain ⟨W5, hW5⟩ : ∃ W5, w4.setCell ⟨w.heap.size, 2, none⟩ (.slice a2 qs.length c2) = W5 := ⟨_, rfl⟩
  rw [hW5] at gg
  have gf : W5.grownBy ((((W5.setCell ⟨w.heap.size + 1, 0, none⟩ (.int .i64 n)).setCell ⟨w.heap.size + 1, 1, none⟩ (.slice a1 gs.length c1)).setCell ⟨w.heap.size + 1, 2, none⟩ (.slice a2 qs.length c2)).setCell ⟨w.heap.size + 1, 3, none⟩ (.int .i64 g)) (some (w.heap.size + 1)) := grown_trans (grown_trans (grown_trans (grown_set' _ _ _ _) (grown_set' _ _ _ _)) (grown_set' _ _ _ _)) (grown_set' _ _ _ _)
  have p1 := World.ownsRow.kept (World.ownsRow.kept o3 gg (.inr n1)) gf (.inr n1')
  have p2 := World.ownsRow.kept (World.ownsRow.kept (o2.mono (show w.heap.size ≤ W3.heap.size by have := HS3.out; omega)) gg (.inr m2)) gf (.inr m2')
  have bb := belowCall B3.out b4' B3.out.size
  have bf := ((((bb.setCell (show w.heap.size ≤ (⟨w.heap.size, 2, none⟩ : Addr).block by dsimp only; omega) (.slice a2 qs.length c2)).setCell (show w.heap.size ≤ (⟨w.heap.size + 1, 0, none⟩ : Addr).block by dsimp only; omega) (.int .i64 n)).setCell (show w.heap.size ≤ (⟨w.heap.size + 1, 1, none⟩ : Addr).block by dsimp only; omega) (.slice a1 gs.length c1)).setCell (show w.heap.size ≤ (⟨w.heap.size + 1, 2, none⟩ : Addr).block by dsimp only; omega) (.slice a2 qs.length c2)).setCell (show w.heap.size ≤ (⟨w.heap.size + 1, 3, none⟩ : Addr).block by dsimp only; omega) (.int .i64 g)
  rw [← hW5] at p1 p2
  have P1 : Hid _ := p1
  have P2 : Hid _ := p2
  have BF : Hid _ := bf
  clear hW5 gg gf p1 p2 bb bf n1 n1' n2 m2 m2' q0 q1 o2 o3 b4' K3 O3 B3 HQ3 HW3 HS3 Q1 hOff1
  go_wp2
  exact bodyPost_ret (v := .agg (D4 n (.slice a1 gs.length c1) (.slice a2 qs.length c2) g)) (results_cell_row rfl _ _ _ 27 _ (0, 0) _ rfl H1.out Try.underlying27 rfl sizeDk) rfl ⟨_, _, rfl, ⟨P1.out, P2.out, hap.1, hap.2⟩, BF.out⟩
end Go.Proofs.Ytpmmgbinogokfaa

/- Desks compared, marked, held; no condition. -/
import Derived.Test.YtpmmgbinogokfaaDk
namespace Go.Proofs.Ytpmmgbinogokfaa
open Go.RowKit Go.ChangeShapes Go.WideShapes Go.ChangeAt
set_option linter.unusedVariables false
set_option linter.unusedSimpArgs false
set_option maxRecDepth 8000
set_option maxHeartbeats 1600000 in
theorem eqDesk_t (n g : Int) (va vq va' vq' : Value) (gs : List Ag) (qs : List Wt) (w : World) (ha : Rg 3 agC w va gs) (hq : Rg 4 wtC w vq qs) (ha' : Rg 3 agC w va' gs) (hq' : Rg 4 wtC w vq' qs) :
   Calls Try.prog 21 #[.agg (D4 n va vq g), .agg (D4 n va' vq' g)] w fun e w' => e = .returned (.bool true) ∧ Below w.heap.size w w' := by
  obtain ⟨W1, hW1⟩ : ∃ W1, (w.alloc (Obj.cells (D4 n va vq g) 27)).alloc (Obj.cells (D4 n va' vq' g) 27) = W1 := ⟨_, rfl⟩
  have hb : Below w.heap.size w W1 := hW1 ▸ ((Below.refl _ _).alloc (Nat.le_refl _) _).alloc (by simp) _
  have HB : Hid (Below w.heap.size w W1) := hb
  have K0 : Hid (Blk W1 w.heap.size (D4 n va vq g) 27) := by show Blk _ _ _ _; rw [← hW1]; exact (Blk.new _ _ _).alloc _
  have K1 : Hid (Blk W1 (w.heap.size + 1) (D4 n va' vq' g) 27) := by show Blk _ _ _ _; rw [← hW1]; exact Blk.newAt _ (w.heap.size + 1) _ 27 (by simp)
  have HA : Hid (Rg 3 agC w va gs ∧ Rg 3 agC w va' gs) := ⟨ha, ha'⟩
  have HQ : Hid (Rg 4 wtC w vq qs ∧ Rg 4 wtC w vq' qs) := ⟨hq, hq'⟩
  obtain ⟨a0, c0, rfl, -⟩ := ha
  obtain ⟨a1, c1, rfl, -⟩ := hq
  obtain ⟨a2, c2, rfl, -⟩ := ha'
  obtain ⟨a3, c3, rfl, -⟩ := hq'
  have x0 := K0.out.cell 0
  have x1 := K0.out.cell 1
  have y0 := K1.out.cell 0
  have y1 := K1.out.cell 1
  have hnn : (n != n) = false := by simp
  have hgg : (g != g) = false := by simp
  simp at x0 x1 y0 y1
  have HW1 : Hid (_ = W1) := hW1
  clear hb hW1
  go_enter Try.func21, Try.ntmps21
  go_wp2_with (fail)
  rw [HW1.out]
  refine (eqAgS_c _ _ gs gs W1 (HA.out.1.below HB.out) (HA.out.2.below HB.out)).mono ?_
  rintro e w2 ⟨rfl, b2⟩
  rw [decide_eq_true rfl]
  have HB2 : Hid (Below w.heap.size w w2) := belowCall HB.out b2 HB.out.size
  have k0 := K0.out.below b2 K0.out.lt
  have k1 := K1.out.below b2 K1.out.lt
  have K0' : Hid (Blk w2 w.heap.size (D4 n (.slice a0 gs.length c0) (.slice a1 qs.length c1) g) 27) := k0
  have K1' : Hid (Blk w2 (w.heap.size + 1) (D4 n (.slice a2 gs.length c2) (.slice a3 qs.length c3) g) 27) := k1
  have x2 := k0.cell 2
  have y2 := k1.cell 2
  simp at x2 y2
  clear k0 k1 b2 x0 x1 y0 y1 K0 K1 HB HW1
  go_wp2_with (fail)
  refine (eqWtS_c _ _ qs qs w2 (HQ.out.1.below HB2.out) (HQ.out.2.below HB2.out)).mono ?_
  rintro e w3 ⟨rfl, b3⟩
  rw [decide_eq_true rfl]
  have HB3 : Hid (Below w.heap.size w w3) := belowCall HB2.out b3 HB2.out.size
  have k0 := K0'.out.below b3 K0'.out.lt
  have k1 := K1'.out.below b3 K1'.out.lt
  have x3 := k0.cell 3
  have y3 := k1.cell 3
  simp at x3 y3
  clear k0 k1 b3 x2 y2 K0' K1' HB2
  go_wp2
  go_ret
  exact ⟨rfl, HB3.out⟩
/-- the blocks of a desk's rows -/
def InD (va vq : Value) (k : Nat) : Prop := va.ownBlock = some k ∨ vq.ownBlock = some k
theorem OwD.fr {X : Nat → Prop} {base : Nat} {w w' : World} {va vq : Value} {gs : List Ag} {qs : List Wt} (h : OwD base w va vq gs qs) (hf : Fr X w w') (hx : ∀ k, InD va vq k → ¬ X k) : OwD base w' va vq gs qs :=
  ⟨ownsRow_fr h.1 hf (fun k e => hx k (.inl e)), ownsRow_fr h.2.1 hf (fun k e => hx k (.inr e)), h.2.2⟩
theorem OwD.lt {base : Nat} {w : World} {va vq : Value} {gs : List Ag} {qs : List Wt} (h : OwD base w va vq gs qs) (k : Nat) (hk : InD va vq k) : base ≤ k ∧ k < w.heap.size := by
  rcases hk with e | e
  · exact h.1.lt k e
  · exact h.2.1.lt k e
abbrev mkA (q : Int) (n : Nat) : List Ag := mkg (mkAg q) n
abbrev mkQ (q : Int) (n : Nat) : List Wt := mkg (mkWt q) n
set_option maxHeartbeats 1600000 in
theorem markDesk_c (base : Nat) (n g q : Int) (va vq : Value) (gs : List Ag) (qs : List Wt) (w : World) (h : OwD base w va vq gs qs) (hq0 : 0 ≤ q) (hq : q + 3 * gs.length + 4 * qs.length ≤ 1048576000) :
   Calls Try.prog 24 #[.agg (D4 n va vq g), .int .i64 q] w fun e w' => e = .returned (.int .i64 (q + 3 * gs.length + 4 * qs.length)) ∧ OwD base w' va vq (mkA q gs.length) (mkQ (q + 3 * gs.length) qs.length) ∧ Fr (InD va vq) w w' := by
  obtain ⟨W1, hW1⟩ : ∃ W1, w.alloc (Obj.cells (D4 n va vq g) 27) = W1 := ⟨_, rfl⟩
  have hb : Below w.heap.size w W1 := hW1 ▸ (Below.refl _ _).alloc (Nat.le_refl _) _
  have HB : Hid (Below w.heap.size w W1) := hb
  have K0 : Hid (Blk W1 w.heap.size (D4 n va vq g) 27) := by show Blk _ _ _ _; rw [← hW1]; exact Blk.new _ _ _
  have HO : Hid (OwD base W1 va vq gs qs) := h.below hb
  have HS : Hid (∀ k, InD va vq k → k < w.heap.size) := fun k hk => (h.lt k hk).2
  obtain ⟨a0, c0, rfl⟩ := h.1.form
  obtain ⟨a1, c1, rfl⟩ := h.2.1.form
  have x1 := K0.out.cell 1
  simp at x1
  have HW1 : Hid (_ = W1) := hW1
  clear hb hW1 h
  go_enter Try.func24, Try.ntmps24
  go_wp2_with (fail)
  rw [HW1.out]
  refine (markAgS_c _ gs q base W1 HO.out.1 hq0 (by omega)).mono ?_
  rintro e w2 ⟨rfl, o1, g1⟩
  have f1 : Fr (InD (.slice a0 gs.length c0) (.slice a1 qs.length c1)) W1 w2 := Fr.ofGrown g1 (fun k e => .inl e)
  have F1 : Hid (Fr (InD (.slice a0 gs.length c0) (.slice a1 qs.length c1)) w w2) := (Fr.ofBelow HB.out).trans f1
  have O2 : Hid (Og 4 wtC 74 base w2 (.slice a1 qs.length c1) qs) := World.ownsRow.kept HO.out.2.1 g1 HO.out.2.2.2
  have O1 : Hid (Og 3 agC 36 base w2 (.slice a0 gs.length c0) (mkA q gs.length)) := o1
  have k0 := K0.out.fr f1 (fun e => by have := HS.out _ e; omega)
  have x2 := k0.cell 2
  simp at x2
  clear k0 f1 g1 o1 x1 K0 HB HW1
  go_wp2_with (fail)
  refine (markWtS_c _ qs (q + 3 * gs.length) base w2 O2.out (by omega) (by omega)).mono ?_
  rintro e w3 ⟨rfl, o2, g2⟩
  have HF : Hid (OwD base w3 (.slice a0 gs.length c0) (.slice a1 qs.length c1) (mkA q gs.length) (mkQ (q + 3 * gs.length) qs.length) ∧ Fr (InD (.slice a0 gs.length c0) (.slice a1 qs.length c1)) w w3) :=
    ⟨⟨World.ownsRow.kept O1.out g2 HO.out.2.2.1, o2, HO.out.2.2⟩, F1.out.trans (Fr.ofGrown g2 (fun k e => .inr e))⟩
  clear o2 g2 O1 O2 F1 x2 HO HS
  go_wp2
  go_ret
  exact ⟨rfl, HF.out⟩
set_option maxHeartbeats 1600000 in
theorem heldDesk_c (n g q : Int) (va vq : Value) (na nq : Nat) (w : World) (ha : Rg 3 agC w va (mkA q na)) (hq' : Rg 4 wtC w vq (mkQ (q + 3 * na) nq)) (hq0 : 0 ≤ q) (hq : q + 3 * na + 4 * nq ≤ 1048576000) :
   Calls Try.prog 26 #[.agg (D4 n va vq g), .int .i64 q] w fun e w' => e = .returned (.int .i64 (q + 3 * na + 4 * nq)) ∧ Below w.heap.size w w' := by
  obtain ⟨W1, hW1⟩ : ∃ W1, w.alloc (Obj.cells (D4 n va vq g) 27) = W1 := ⟨_, rfl⟩
  have hb : Below w.heap.size w W1 := hW1 ▸ (Below.refl _ _).alloc (Nat.le_refl _) _
  have HB : Hid (Below w.heap.size w W1) := hb
  have K0 : Hid (Blk W1 w.heap.size (D4 n va vq g) 27) := by show Blk _ _ _ _; rw [← hW1]; exact Blk.new _ _ _
  have HA : Hid (Rg 3 agC W1 va (mkA q na)) := ha.below hb
  have HQ : Hid (Rg 4 wtC w vq (mkQ (q + 3 * na) nq)) := hq'
  obtain ⟨a0, c0, rfl, -⟩ := ha
  obtain ⟨a1, c1, rfl, -⟩ := hq'
  rw [mkg_len] at K0 HA ⊢
  rw [mkg_len] at K0 HQ ⊢
  have x1 := K0.out.cell 1
  simp at x1
  have HW1 : Hid (_ = W1) := hW1
  clear hb hW1
  simp only [mkg_len] at HW1
  go_enter Try.func26, Try.ntmps26
  go_wp2_with (fail)
  rw [HW1.out]
  refine (heldAgS_c _ q na W1 HA.out hq0 (by omega)).mono ?_
  rintro e w2 ⟨rfl, b2⟩
  have HB2 : Hid (Below w.heap.size w w2) := belowCall HB.out b2 HB.out.size
  have k0 := K0.out.below b2 K0.out.lt
  have x2 := k0.cell 2
  simp at x2
  have hn1 : ¬ q + 3 * (na : Int) < 0 := by omega
  clear k0 b2 x1 K0 HB HW1 HA
  go_wp2_with (fail)
  refine (heldWtS_c _ (q + 3 * na) nq w2 (HQ.out.below HB2.out) (by omega) (by omega)).mono ?_
  rintro e w3 ⟨rfl, b3⟩
  have HB3 : Hid (Below w.heap.size w w3) := belowCall HB2.out b3 HB2.out.size
  have hn2 : ¬ q + 3 * (na : Int) + 4 * (nq : Int) < 0 := by omega
  clear b3 x2 HB2
  go_wp2
  go_ret
  exact ⟨rfl, HB3.out⟩
end Go.Proofs.Ytpmmgbinogokfaa

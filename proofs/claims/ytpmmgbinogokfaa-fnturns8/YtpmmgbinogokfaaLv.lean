/- A desk at work; no condition. -/
import Derived.Test.YtpmmgbinogokfaaGMath
import Derived.Test.YtpmmgbinogokfaaCpy
namespace Go.Proofs.Ytpmmgbinogokfaa
open Go.RowKit Go.ChangeShapes Go.WideShapes Go.ChangeAt
set_option linter.unusedVariables false
set_option linter.unusedSimpArgs false
set_option maxRecDepth 8000
abbrev L5 (now : Int) (va vq : Value) (g : Int) (vc : Value) : Array Value := #[.int .i64 now, va, vq, .int .i64 g, vc]
/-- a desk at work: its block, its agents and calls its own, its queue to be read -/
structure Lv (B : Nat) (W : World) (L : Nat) (now g : Int) (va vq vc : Value) (gs : List Ag) (qs : List Wt) (cs : List Int) : Prop where
  blk : Blk W L (L5 now va vq g vc) 83
  lb : B ≤ L
  ag : Og 3 agC 36 B W va gs
  qu : Rg 4 wtC W vq qs
  ca : Ow .i64 3 B W vc cs
  nva : va.ownBlock ≠ some L
  nvq : qs = [] ∨ vq.ownBlock ≠ some L
  nvc : vc.ownBlock ≠ some L
  naq : qs = [] ∨ va.ownBlock = none ∨ vq.ownBlock ≠ va.ownBlock
  nca : vc.ownBlock = none ∨ vc.ownBlock ≠ va.ownBlock
  ncq : qs = [] ∨ vc.ownBlock = none ∨ vq.ownBlock ≠ vc.ownBlock
theorem Lv.below {B : Nat} {W W' : World} {L : Nat} {now g : Int} {va vq vc : Value} {gs : List Ag} {qs : List Wt} {cs : List Int} (h : Lv B W L now g va vq vc gs qs cs) (hb : Below W.heap.size W W') : Lv B W' L now g va vq vc gs qs cs :=
  ⟨h.blk.below hb h.blk.lt, h.lb, h.ag.below hb, h.qu.below hb, h.ca.below hb, h.nva, h.nvq, h.nvc, h.naq, h.nca, h.ncq⟩
theorem Lv.drew {B : Nat} {W : World} {L : Nat} {now g : Int} {va vq vc : Value} {gs : List Ag} {qs : List Wt} {cs : List Int} (h : Lv B W L now g va vq vc gs qs cs) : Lv B W.drew L now g va vq vc gs qs cs := h.below (Below.refl _ _).drew
set_option maxHeartbeats 3200000 in
theorem openDesk_c (n g : Int) (va vq : Value) (gs : List Ag) (qs : List Wt) (w : World) (ha : Rg 3 agC w va gs) (hq : Rg 4 wtC w vq qs) (la : gs.length ≤ 1048576) :
   Calls Try.prog 47 #[.agg (D4 n va vq g)] w fun e w' => ∃ L va', e = .returned (.pointer (some ⟨L, 0, none⟩)) ∧ Lv w.heap.size w' L n g va' vq (.slice none 0 0) gs qs [] ∧ Below w.heap.size w w' := by
  have hqb := hq.blk wtC_len (by decide)
  have HQB : Hid (qs = [] ∨ ∀ k, vq.ownBlock = some k → k < w.heap.size) := hqb
  obtain ⟨W1, hW1⟩ : ∃ W1, w.alloc (Obj.cells (D4 n va vq g) 27) = W1 := ⟨_, rfl⟩
  have hb : Below w.heap.size w W1 := hW1 ▸ (Below.refl _ _).alloc (Nat.le_refl _) _
  have HB : Hid (Below w.heap.size w W1) := hb
  have k0 : Blk W1 w.heap.size (D4 n va vq g) 27 := hW1 ▸ Blk.new _ _ _
  have K0 : Hid (Blk W1 w.heap.size (D4 n va vq g) 27) := k0
  have HH : Hid (Rg 3 agC w va gs ∧ Rg 4 wtC w vq qs) := ⟨ha, hq⟩
  have HW1 : Hid (w.alloc (Obj.cells (D4 n va vq g) 27) = W1) := hW1
  obtain ⟨a0, p0, rfl, -⟩ := ha
  obtain ⟨a1, p1, rfl, -⟩ := hq
  obtain ⟨S, hS⟩ : ∃ S : World → Prop, ∀ W, S W ↔ Below W1.heap.size W1 W := ⟨_, fun _ => Iff.rfl⟩
  have z0 : ∀ W : At S, W.wd.cell? ⟨w.heap.size, 0, none⟩ = some (.int .i64 n) := fun W => (k0.below ((hS _).1 W.ok) k0.lt).cell 0
  have z1 : ∀ W : At S, W.wd.cell? ⟨w.heap.size, 1, none⟩ = some (.slice a0 gs.length p0) := fun W => (k0.below ((hS _).1 W.ok) k0.lt).cell 1
  have z2 : ∀ W : At S, W.wd.cell? ⟨w.heap.size, 2, none⟩ = some (.slice a1 qs.length p1) := fun W => (k0.below ((hS _).1 W.ok) k0.lt).cell 2
  have z3 : ∀ W : At S, W.wd.cell? ⟨w.heap.size, 3, none⟩ = some (.int .i64 g) := fun W => (k0.below ((hS _).1 W.ok) k0.lt).cell 3
  have HS : Hid (∀ W, S W ↔ Below W1.heap.size W1 W) := hS
  have ne : Nonempty (At S) := ⟨⟨W1, (hS _).2 (Below.refl _ _)⟩⟩
  clear hb k0 hW1 hS hqb
  go_enter Try.func47, Try.ntmps47
  go_wp2_with (fail)
  rw [HW1.out]
  refine region_mixA [true, true, true, true, false, true, true, true, true, false, false, false] 12 4 S (by kernel_rfl) rfl (by kernel_rfl) (fun _ _ _ _ _ h => h) ((HS.out _).2 (Below.refl _ _).drew) ?_
  simp only [selT, selF]
  repeat (go_big_quiet_step (fail))
  refine wpQuiet_nil ?_
  refine tail_step ?_
  go_wp2_with (fail)
  refine (cloneAg_c _ gs W1.drew (HH.out.1.below HB.out.drew) la).mono ?_
  rintro e w3 ⟨v', rfl, o3, b3⟩
  have B3 : Below W1.heap.size W1 w3 := (Below.refl _ _).drew.trans b3
  have HB3 : Hid (Below W1.heap.size W1 w3) := B3
  have O3 : Hid (Og 3 agC 36 W1.heap.size w3 v' gs) := o3
  obtain ⟨a3, p3, rfl⟩ := o3.form
  clear b3 B3 o3 z0 z1 z2 z3 ne
  go_wp2
  refine ⟨(HS.out _).2 HB3.out, tail_step ?_⟩
  go_wp2
  refine ⟨(HS.out _).2 HB3.out, tail_step ?_⟩
  go_wp2
  obtain ⟨W4, hW4⟩ : ∃ W4, w3.alloc (Obj.cells (L5 n (.slice a3 gs.length p3) (.slice a1 qs.length p1) g (.slice none 0 0)) 83) = W4 := ⟨_, rfl⟩
  have b4 : Below w3.heap.size w3 W4 := hW4 ▸ (Below.refl _ _).alloc (Nat.le_refl _) _
  have HB4 : Hid (Below W1.heap.size W1 W4) := belowCall HB3.out b4 HB3.out.size
  have HBF : Hid (Below w.heap.size w W4) := belowCall HB.out HB4.out HB.out.size
  have hsz : w.heap.size < W1.heap.size := K0.out.lt
  have hsz3 : W1.heap.size ≤ w3.heap.size := HB3.out.size
  have HLV : Hid (Lv w.heap.size W4 w3.heap.size n g (.slice a3 gs.length p3) (.slice a1 qs.length p1) (.slice none 0 0) gs qs []) := by
    refine ⟨hW4 ▸ Blk.new _ _ _, by omega, (O3.out.mono (by omega)).below b4, HH.out.2.below HBF.out, World.ownsRow_nil _ _ _ _, fun e => ?_, ?_, by simp [Value.ownBlock], ?_, .inl rfl, .inr (.inl rfl)⟩
    · have := (O3.out.lt _ e).2; omega
    · rcases HQB.out with h | h
      · exact .inl h
      · exact .inr fun e => by have := h _ e; omega
    · rcases HQB.out with h | h
      · exact .inl h
      · cases hx : (Value.slice a3 gs.length p3).ownBlock with
        | none => exact .inr (.inl rfl)
        | some k => exact .inr (.inr fun e => by have := h _ e; have := (O3.out.lt k hx).1; omega)
  have HW4 : Hid (w3.alloc (Obj.cells (L5 n (.slice a3 gs.length p3) (.slice a1 qs.length p1) g (.slice none 0 0)) 83) = W4) := hW4
  clear b4 hW4
  rw [HW4.out]
  refine ⟨(HS.out _).2 HB4.out, tail_step ?_⟩
  go_wp2
  refine ⟨(HS.out _).2 HB4.out, tail_end ?_⟩
  go_wp2
  go_ret
  exact ⟨_, _, rfl, HLV.out, HBF.out⟩
end Go.Proofs.Ytpmmgbinogokfaa

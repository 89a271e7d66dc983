/- The law of Hear12, where both tell alike; the table is as it was laid. -/
import Derived.Test.YtkjfcebdjnclaaaDoorPmh
import Derived.Test.YtkjfcebdjnclaaaDoorHrs
import Derived.Test.YtkjfcebdjnclaaaDoorDraw
import Derived.Test.YtkjfcebdjnclaaaDoorHmf
import Derived.Test.YtkjfcebdjnclaaaDoorHri
namespace Go.Proofs.YtkjfcebdjnclaaaDoor
open Go.RowKit Go.ChangeShapes Go.WideShapes Go.ChangeAt
set_option linter.unusedVariables false
set_option linter.unusedSimpArgs false
set_option maxRecDepth 8000

theorem Rd.blk' {w : World} {v : Value} {zs : List Int} (h : Rd .i64 w v zs) : zs = [] ∨ ∀ k, v.ownBlock = some k → k < w.heap.size := by
  obtain ⟨a, cap, rfl, h1, h2, h3⟩ := h
  rcases h3 with h3 | ⟨b, off, rfl, h4⟩
  · exact .inl h3
  · by_cases h0 : zs = []
    · exact .inl h0
    · have hp : 0 < zs.length := List.length_pos_iff.2 h0
      have hcell := h4 0 hp
      refine .inr fun k hk => ?_
      simp [Value.ownBlock] at hk
      subst hk
      exact block_lt_of_cell hcell
def HmQ (p : Pl) (st : List Pk) (out : List Int) (ok : Bool) (w : World) (e : Ending) (w' : World) : Prop := ∃ v u, e = .returned (.tuple #[u, .agg (plA p v), .bool ok]) ∧ Rg 18 pkC w' v st ∧ Rd .i64 w' u out ∧ Below w.heap.size w w'
def HrQ (p : Pl) (st : List Pk) (out : List Int) (ok : Bool) (w : World) (e : Ending) (w' : World) : Prop := ∃ v u, e = .returned (.tuple #[u, .agg (plA p v), .bool ok]) ∧ Og 18 pkC 40 w.heap.size w' v st ∧ Ow .i64 3 w.heap.size w' u out ∧ Below w.heap.size w w'
set_option maxHeartbeats 12800000 in
theorem hearCore (pp : Pl) (v : Value) (ls st : List Pk) (dp n : Int) (out : List Int) (ok : Bool) (w : World) (h : Rg 18 pkC w v ls) (hG : ChG w) (hol : out.length ≤ 100000) (hst : st.length ≤ 1048576)
    (hM : ∀ W u, Rg 18 pkC W u ls → Calls Tryd.prog 49 #[u, .int .i64 dp, .int .i64 n] W (HmQ pp st out ok W))
    (hI : ∀ W u, Rg 18 pkC W u ls → ChG W → Calls Tryd.prog 26 #[u, .int .i64 dp, .int .i64 n] W (HrQ pp st out ok W)) (hl : ls.length ≤ 1048576) :
    Calls Tryd.prog 13 #[v, .int .i64 dp, .int .i64 n] w fun e w' => e = .returned (.bool true) ∧ Below w.heap.size w w' := by
  have HR0 : Hid (Rg 18 pkC w v ls) := h
  have HG : Hid (ChG w) := hG
  have HM : Hid (∀ W u, Rg 18 pkC W u ls → Calls Tryd.prog 49 #[u, .int .i64 dp, .int .i64 n] W (HmQ pp st out ok W)) := hM
  have HI : Hid (∀ W u, Rg 18 pkC W u ls → ChG W → Calls Tryd.prog 26 #[u, .int .i64 dp, .int .i64 n] W (HrQ pp st out ok W)) := hI
  have HL : Hid (ls.length ≤ 1048576) := hl
  have okk : (ok != ok) = false := by simp
  obtain ⟨a, cap, rfl, -⟩ := h
  have B_w : Hid (Below w.heap.size w w) := Below.refl _ _
  clear hM hI hG
  go_enter Tryd.func13, Tryd.ntmps13
  go_wp2_with (fail)
  have hsz := szPkS_c _ ls 1048576 w HR0.out (by omega) (by omega)
  rw [if_neg (by omega)] at hsz
  refine hsz.mono ?_
  rintro e w1 ⟨rfl, hw⟩
  rw [hw]
  have gg : ¬ (1048576 : Int) - (ls.length : Int) < 0 := by omega
  clear hw w1 hsz
  go_wp2_with (fail)
  refine (toPkS_c _ ls w (HR0.out.below B_w.out) HL.out).mono ?_
  rintro e w2 ⟨va, rfl, ova, b⟩
  have B_w2 : Hid (Below w.heap.size w w2) := belowCall B_w.out b B_w.out.size
  clear b B_w gg
  go_wp2_with (fail)
  refine (HM.out w2 _ (ova.rd pkC_len)).mono ?_
  rintro e w3 ⟨v0, u0, rfl, rv0, ru0, b⟩
  have B_w3 : Hid (Below w.heap.size w w3) := belowCall B_w2.out b B_w2.out.size
  clear b B_w2
  clear ova
  have rvx := rv0
  obtain ⟨a0, c0, rfl, -⟩ := rvx
  have rux := ru0
  obtain ⟨d0, f0, rfl, -⟩ := rux
  have V0_w3 : Hid (Rg 18 pkC w3 (.slice a0 st.length c0) st) := rv0
  have U0_w3 : Hid (Rd .i64 w3 (.slice d0 out.length f0) out) := ru0
  have HP0 : Hid ((st = [] ∨ ∀ k, (.slice a0 st.length c0 : Value).ownBlock = some k → k < w3.heap.size) ∧ (out = [] ∨ ∀ k, (.slice d0 out.length f0 : Value).ownBlock = some k → k < w3.heap.size)) := ⟨Rg.blk pkC_len (by omega) rv0, ru0.blk'⟩
  have Z0_w3 : Hid (w3.heap.size ≤ w3.heap.size) := Nat.le_refl _
  clear rv0 ru0
  have ba : Below w3.heap.size w3 (w3.alloc (Obj.cells (#[.int .i64 pp.n, .int .i64 pp.d, .int .i64 pp.l, .int .i64 pp.g, .int .i64 pp.x, .slice a0 st.length c0]) 42)) := (Below.refl _ _).alloc (Nat.le_refl _) _
  have kb : Blk (w3.alloc (Obj.cells (#[.int .i64 pp.n, .int .i64 pp.d, .int .i64 pp.l, .int .i64 pp.g, .int .i64 pp.x, .slice a0 st.length c0]) 42)) w3.heap.size (plA pp (.slice a0 st.length c0)) 42 := Blk.new _ _ _
  obtain ⟨X4, hX4⟩ : ∃ X, w3.heap.size = X := ⟨_, rfl⟩
  obtain ⟨W4, hW4⟩ : ∃ W, w3.alloc (Obj.cells (#[.int .i64 pp.n, .int .i64 pp.d, .int .i64 pp.l, .int .i64 pp.g, .int .i64 pp.x, .slice a0 st.length c0]) 42) = W := ⟨_, rfl⟩
  rw [hW4] at ba kb
  rw [hX4] at kb
  have B_W4 : Hid (Below w.heap.size w W4) := belowCall B_w3.out ba B_w3.out.size
  have V0_W4 : Hid (Rg 18 pkC W4 (.slice a0 st.length c0) st) := V0_w3.out.below ba
  have U0_W4 : Hid (Rd .i64 W4 (.slice d0 out.length f0) out) := U0_w3.out.below ba
  have Z0_W4 : Hid (w3.heap.size ≤ W4.heap.size) := Nat.le_trans Z0_w3.out ba.size
  have C0_W4 : Hid (Blk W4 X4 (plA pp (.slice a0 st.length c0)) 42) := kb
  clear ba kb B_w3 V0_w3 U0_w3 Z0_w3
  have HZX : Hid (w3.heap.size ≤ W4.heap.size) := Z0_W4.out
  have HSX : Hid (w.heap.size ≤ W4.heap.size) := B_W4.out.size
  go_wp2_with (fail)
  refine (toPkS_c _ ls W4 (HR0.out.below B_W4.out) HL.out).mono ?_
  rintro e w5 ⟨vx, rfl, ox, b⟩
  have HXB : Hid (Below W4.heap.size W4 w5) := b
  have B_w5 : Hid (Below w.heap.size w w5) := belowCall B_W4.out b B_W4.out.size
  have V0_w5 : Hid (Rg 18 pkC w5 (.slice a0 st.length c0) st) := V0_W4.out.below b
  have U0_w5 : Hid (Rd .i64 w5 (.slice d0 out.length f0) out) := U0_W4.out.below b
  have C0_w5 : Hid (Blk w5 X4 (plA pp (.slice a0 st.length c0)) 42) := C0_W4.out.below b C0_W4.out.lt
  clear b B_W4 V0_W4 U0_W4 C0_W4 hW4 hX4 Z0_W4
  have HXE : Hid (W4.heap.size ≤ w5.heap.size) := HXB.out.size
  obtain ⟨ax, cx, rfl⟩ := ox.form
  have X_w5 : Hid (Og 18 pkC 40 W4.heap.size w5 (.slice ax ls.length cx) ls) := ox
  have HPX : Hid (∀ k, (.slice ax ls.length cx : Value).ownBlock = some k → W4.heap.size ≤ k ∧ k < w5.heap.size) := fun k hk => ox.lt k hk
  clear ox
  go_wp2_with (fail)
  refine (HI.out w5 _ (X_w5.out.rd pkC_len) (HG.out.below B_w5.out HG.out.lt)).mono ?_
  rintro e w6 ⟨vg, ug, rfl, og, oug, b⟩
  have HSG : Hid (w.heap.size ≤ w5.heap.size) := B_w5.out.size
  have B_w6 : Hid (Below w.heap.size w w6) := belowCall B_w5.out b B_w5.out.size
  have V0_w6 : Hid (Rg 18 pkC w6 (.slice a0 st.length c0) st) := V0_w5.out.below b
  have U0_w6 : Hid (Rd .i64 w6 (.slice d0 out.length f0) out) := U0_w5.out.below b
  have C0_w6 : Hid (Blk w6 X4 (plA pp (.slice a0 st.length c0)) 42) := C0_w5.out.below b C0_w5.out.lt
  have X_w6 : Hid (Og 18 pkC 40 W4.heap.size w6 (.slice ax ls.length cx) ls) := X_w5.out.below b
  clear b B_w5 V0_w5 U0_w5 C0_w5 X_w5
  obtain ⟨ag, cg, rfl⟩ := og.form
  obtain ⟨ag2, cg2, rfl⟩ := oug.form'
  have G_w6 : Hid (Og 18 pkC 40 w5.heap.size w6 (.slice ag st.length cg) st) := og
  have UG_w6 : Hid (Ow .i64 3 w5.heap.size w6 (.slice ag2 out.length cg2) out) := oug
  have NX0 : Hid (st = [] ∨ (.slice a0 st.length c0 : Value).ownBlock = none ∨ (.slice a0 st.length c0 : Value).ownBlock ≠ (.slice ax ls.length cx : Value).ownBlock) := by
    rcases HP0.out.1 with h0 | h0
    · exact .inl h0
    · cases hv : (.slice a0 st.length c0 : Value).ownBlock with
      | none => exact .inr (.inl rfl)
      | some k => exact .inr (.inr fun e => by have h1 := h0 k hv; have h2 := HPX.out k e.symm; have h3 := HZX.out; have h4 := HXE.out; omega)
  have NG0 : Hid (st = [] ∨ (.slice a0 st.length c0 : Value).ownBlock = none ∨ (.slice a0 st.length c0 : Value).ownBlock ≠ (.slice ag st.length cg : Value).ownBlock) := by
    rcases HP0.out.1 with h0 | h0
    · exact .inl h0
    · cases hv : (.slice a0 st.length c0 : Value).ownBlock with
      | none => exact .inr (.inl rfl)
      | some k => exact .inr (.inr fun e => by have h1 := h0 k hv; have h2 := og.lt k e.symm; have h3 := HZX.out; have h4 := HXE.out; omega)
  have NV0 : Hid (st = [] ∨ (.slice a0 st.length c0 : Value).ownBlock = none ∨ (.slice a0 st.length c0 : Value).ownBlock ≠ (.slice ag2 out.length cg2 : Value).ownBlock) := by
    rcases HP0.out.1 with h0 | h0
    · exact .inl h0
    · cases hv : (.slice a0 st.length c0 : Value).ownBlock with
      | none => exact .inr (.inl rfl)
      | some k => exact .inr (.inr fun e => by have h1 := h0 k hv; have h2 := oug.lt' k e.symm; have h3 := HZX.out; have h4 := HXE.out; omega)
  have NU0 : Hid (out = [] ∨ (.slice d0 out.length f0 : Value).ownBlock = none ∨ (.slice d0 out.length f0 : Value).ownBlock ≠ (.slice ag2 out.length cg2 : Value).ownBlock) := by
    rcases HP0.out.2 with h0 | h0
    · exact .inl h0
    · cases hv : (.slice d0 out.length f0 : Value).ownBlock with
      | none => exact .inr (.inl rfl)
      | some k => exact .inr (.inr fun e => by have h1 := h0 k hv; have h2 := oug.lt' k e.symm; have h3 := HZX.out; have h4 := HXE.out; omega)
  have NUX : Hid (out = [] ∨ (.slice d0 out.length f0 : Value).ownBlock = none ∨ (.slice d0 out.length f0 : Value).ownBlock ≠ (.slice ax ls.length cx : Value).ownBlock) := by
    rcases HP0.out.2 with h0 | h0
    · exact .inl h0
    · cases hv : (.slice d0 out.length f0 : Value).ownBlock with
      | none => exact .inr (.inl rfl)
      | some k => exact .inr (.inr fun e => by have h1 := h0 k hv; have h2 := HPX.out k e.symm; have h3 := HZX.out; have h4 := HXE.out; omega)
  have NUG : Hid (out = [] ∨ (.slice d0 out.length f0 : Value).ownBlock = none ∨ (.slice d0 out.length f0 : Value).ownBlock ≠ (.slice ag st.length cg : Value).ownBlock) := by
    rcases HP0.out.2 with h0 | h0
    · exact .inl h0
    · cases hv : (.slice d0 out.length f0 : Value).ownBlock with
      | none => exact .inr (.inl rfl)
      | some k => exact .inr (.inr fun e => by have h1 := h0 k hv; have h2 := og.lt k e.symm; have h3 := HZX.out; have h4 := HXE.out; omega)
  have NGX : Hid ((.slice ag st.length cg : Value).ownBlock = none ∨ (.slice ag st.length cg : Value).ownBlock ≠ (.slice ax ls.length cx : Value).ownBlock) := by
    cases hv : (.slice ag st.length cg : Value).ownBlock with
    | none => exact .inl rfl
    | some k => exact .inr fun e => by have h1 := og.lt k hv; have h2 := HPX.out k e.symm; omega
  clear og oug HP0
  have ba : Below w6.heap.size w6 (w6.alloc (Obj.cells (#[.int .i64 pp.n, .int .i64 pp.d, .int .i64 pp.l, .int .i64 pp.g, .int .i64 pp.x, .slice ag st.length cg]) 42)) := (Below.refl _ _).alloc (Nat.le_refl _) _
  have kb : Blk (w6.alloc (Obj.cells (#[.int .i64 pp.n, .int .i64 pp.d, .int .i64 pp.l, .int .i64 pp.g, .int .i64 pp.x, .slice ag st.length cg]) 42)) w6.heap.size (plA pp (.slice ag st.length cg)) 42 := Blk.new _ _ _
  obtain ⟨X7, hX7⟩ : ∃ X, w6.heap.size = X := ⟨_, rfl⟩
  obtain ⟨W7, hW7⟩ : ∃ W, w6.alloc (Obj.cells (#[.int .i64 pp.n, .int .i64 pp.d, .int .i64 pp.l, .int .i64 pp.g, .int .i64 pp.x, .slice ag st.length cg]) 42) = W := ⟨_, rfl⟩
  rw [hW7] at ba kb
  rw [hX7] at kb
  have B_W7 : Hid (Below w.heap.size w W7) := belowCall B_w6.out ba B_w6.out.size
  have V0_W7 : Hid (Rg 18 pkC W7 (.slice a0 st.length c0) st) := V0_w6.out.below ba
  have U0_W7 : Hid (Rd .i64 W7 (.slice d0 out.length f0) out) := U0_w6.out.below ba
  have C0_W7 : Hid (Blk W7 X4 (plA pp (.slice a0 st.length c0)) 42) := C0_w6.out.below ba C0_w6.out.lt
  have X_W7 : Hid (Og 18 pkC 40 W4.heap.size W7 (.slice ax ls.length cx) ls) := X_w6.out.below ba
  have G_W7 : Hid (Og 18 pkC 40 w5.heap.size W7 (.slice ag st.length cg) st) := G_w6.out.below ba
  have UG_W7 : Hid (Ow .i64 3 w5.heap.size W7 (.slice ag2 out.length cg2) out) := UG_w6.out.below ba
  have CG_W7 : Hid (Blk W7 X7 (plA pp (.slice ag st.length cg)) 42) := kb
  clear ba kb B_w6 V0_w6 U0_w6 C0_w6 X_w6 G_w6 UG_w6
  go_wp2_with (fail)
  refine (eqIS _ _ out W7 UG_W7.out.rd U0_W7.out).mono ?_
  rintro e w8 ⟨rfl, b⟩
  have B_w8 : Hid (Below w.heap.size w w8) := belowCall B_W7.out b B_W7.out.size
  have V0_w8 : Hid (Rg 18 pkC w8 (.slice a0 st.length c0) st) := V0_W7.out.below b
  have U0_w8 : Hid (Rd .i64 w8 (.slice d0 out.length f0) out) := U0_W7.out.below b
  have C0_w8 : Hid (Blk w8 X4 (plA pp (.slice a0 st.length c0)) 42) := C0_W7.out.below b C0_W7.out.lt
  have X_w8 : Hid (Og 18 pkC 40 W4.heap.size w8 (.slice ax ls.length cx) ls) := X_W7.out.below b
  have G_w8 : Hid (Og 18 pkC 40 w5.heap.size w8 (.slice ag st.length cg) st) := G_W7.out.below b
  have UG_w8 : Hid (Ow .i64 3 w5.heap.size w8 (.slice ag2 out.length cg2) out) := UG_W7.out.below b
  have CG_w8 : Hid (Blk w8 X7 (plA pp (.slice ag st.length cg)) 42) := CG_W7.out.below b CG_W7.out.lt
  clear b B_W7 V0_W7 U0_W7 C0_W7 X_W7 G_W7 UG_W7 CG_W7 hW7 hX7
  have k0 := CG_w8.out.cell 0
  have k1 := CG_w8.out.cell 1
  have k2 := CG_w8.out.cell 2
  have k3 := CG_w8.out.cell 3
  have k4 := CG_w8.out.cell 4
  have k5 := CG_w8.out.cell 5
  simp at k0 k1 k2 k3 k4 k5
  have l0 := C0_w8.out.cell 0
  have l1 := C0_w8.out.cell 1
  have l2 := C0_w8.out.cell 2
  have l3 := C0_w8.out.cell 3
  have l4 := C0_w8.out.cell 4
  have l5 := C0_w8.out.cell 5
  simp at l0 l1 l2 l3 l4 l5
  go_wp2_with (fail)
  refine (eqPl_t pp _ _ st w8 (G_w8.out.rd pkC_len) V0_w8.out).mono ?_
  rintro e w9 ⟨rfl, b⟩
  have B_w9 : Hid (Below w.heap.size w w9) := belowCall B_w8.out b B_w8.out.size
  have V0_w9 : Hid (Rg 18 pkC w9 (.slice a0 st.length c0) st) := V0_w8.out.below b
  have U0_w9 : Hid (Rd .i64 w9 (.slice d0 out.length f0) out) := U0_w8.out.below b
  have C0_w9 : Hid (Blk w9 X4 (plA pp (.slice a0 st.length c0)) 42) := C0_w8.out.below b C0_w8.out.lt
  have X_w9 : Hid (Og 18 pkC 40 W4.heap.size w9 (.slice ax ls.length cx) ls) := X_w8.out.below b
  have G_w9 : Hid (Og 18 pkC 40 w5.heap.size w9 (.slice ag st.length cg) st) := G_w8.out.below b
  have UG_w9 : Hid (Ow .i64 3 w5.heap.size w9 (.slice ag2 out.length cg2) out) := UG_w8.out.below b
  have CG_w9 : Hid (Blk w9 X7 (plA pp (.slice ag st.length cg)) 42) := CG_w8.out.below b CG_w8.out.lt
  clear b B_w8 V0_w8 U0_w8 C0_w8 X_w8 G_w8 UG_w8 CG_w8 k0 k1 k2 k3 k4 k5 l0 l1 l2 l3 l4 l5
  go_wp2_with (fail)
  refine (toPkS_c _ ls w9 (HR0.out.below B_w9.out) HL.out).mono ?_
  rintro e w10 ⟨vq, rfl, oq, b⟩
  have B_w10 : Hid (Below w.heap.size w w10) := belowCall B_w9.out b B_w9.out.size
  have V0_w10 : Hid (Rg 18 pkC w10 (.slice a0 st.length c0) st) := V0_w9.out.below b
  have U0_w10 : Hid (Rd .i64 w10 (.slice d0 out.length f0) out) := U0_w9.out.below b
  have C0_w10 : Hid (Blk w10 X4 (plA pp (.slice a0 st.length c0)) 42) := C0_w9.out.below b C0_w9.out.lt
  have X_w10 : Hid (Og 18 pkC 40 W4.heap.size w10 (.slice ax ls.length cx) ls) := X_w9.out.below b
  have G_w10 : Hid (Og 18 pkC 40 w5.heap.size w10 (.slice ag st.length cg) st) := G_w9.out.below b
  have UG_w10 : Hid (Ow .i64 3 w5.heap.size w10 (.slice ag2 out.length cg2) out) := UG_w9.out.below b
  have CG_w10 : Hid (Blk w10 X7 (plA pp (.slice ag st.length cg)) 42) := CG_w9.out.below b CG_w9.out.lt
  clear b B_w9 V0_w9 U0_w9 C0_w9 X_w9 G_w9 UG_w9 CG_w9
  have Q_w10 : Hid (Rg 18 pkC w10 vq ls) := oq.rd pkC_len
  clear oq
  go_wp2_with (fail)
  refine (eqPkS_t _ _ ls w10 (X_w10.out.rd pkC_len) Q_w10.out).mono ?_
  rintro e w11 ⟨rfl, b⟩
  have B_w11 : Hid (Below w.heap.size w w11) := belowCall B_w10.out b B_w10.out.size
  have V0_w11 : Hid (Rg 18 pkC w11 (.slice a0 st.length c0) st) := V0_w10.out.below b
  have U0_w11 : Hid (Rd .i64 w11 (.slice d0 out.length f0) out) := U0_w10.out.below b
  have C0_w11 : Hid (Blk w11 X4 (plA pp (.slice a0 st.length c0)) 42) := C0_w10.out.below b C0_w10.out.lt
  have X_w11 : Hid (Og 18 pkC 40 W4.heap.size w11 (.slice ax ls.length cx) ls) := X_w10.out.below b
  have G_w11 : Hid (Og 18 pkC 40 w5.heap.size w11 (.slice ag st.length cg) st) := G_w10.out.below b
  have UG_w11 : Hid (Ow .i64 3 w5.heap.size w11 (.slice ag2 out.length cg2) out) := UG_w10.out.below b
  have CG_w11 : Hid (Blk w11 X7 (plA pp (.slice ag st.length cg)) 42) := CG_w10.out.below b CG_w10.out.lt
  have Q_w11 : Hid (Rg 18 pkC w11 vq ls) := Q_w10.out.below b
  clear b B_w10 V0_w10 U0_w10 C0_w10 X_w10 G_w10 UG_w10 CG_w10 Q_w10
  go_wp2_with (fail)
  refine (markPkS_c _ ls 1 W4.heap.size w11 X_w11.out (by omega) (by omega)).mono ?_
  rintro e w12 ⟨rfl, om, gm⟩
  have bm : Below w.heap.size w11 w12 := grown_below gm B_w11.out.size (fun k hk => Nat.le_trans HSX.out (X_w11.out.lt k hk).1)
  have B_w12 : Hid (Below w.heap.size w w12) := B_w11.out.trans bm
  have V0_w12 : Hid (Rg 18 pkC w12 (.slice a0 st.length c0) st) := V0_w11.out.grown gm NX0.out
  have U0_w12 : Hid (Rd .i64 w12 (.slice d0 out.length f0) out) := U0_w11.out.grownE gm NUX.out
  have C0_w12 : Hid (Blk w12 X4 (plA pp (.slice a0 st.length c0)) 42) := C0_w11.out.grownO gm (og_blk_ne X_w11.out C0_w11.out (by decide))
  have G_w12 : Hid (Og 18 pkC 40 w5.heap.size w12 (.slice ag st.length cg) st) := G_w11.out.grownN gm NGX.out
  have UG_w12 : Hid (Ow .i64 3 w5.heap.size w12 (.slice ag2 out.length cg2) out) := UG_w11.out.grownN gm (og_ow_ne X_w11.out UG_w11.out)
  have CG_w12 : Hid (Blk w12 X7 (plA pp (.slice ag st.length cg)) 42) := CG_w11.out.grownO gm (og_blk_ne X_w11.out CG_w11.out (by decide))
  clear om gm bm X_w11 B_w11 V0_w11 U0_w11 C0_w11 G_w11 UG_w11 CG_w11 Q_w11
  have e0 : decide ((1 : Int) + 18 * (ls.length : Int) < 0) = false := by simp only [decide_eq_false_iff_not]; omega
  go_wp2_with (fail)
  refine (eqIS _ _ out w12 UG_w12.out.rd U0_w12.out).mono ?_
  rintro e w13 ⟨rfl, b⟩
  have B_w13 : Hid (Below w.heap.size w w13) := belowCall B_w12.out b B_w12.out.size
  have V0_w13 : Hid (Rg 18 pkC w13 (.slice a0 st.length c0) st) := V0_w12.out.below b
  have U0_w13 : Hid (Rd .i64 w13 (.slice d0 out.length f0) out) := U0_w12.out.below b
  have C0_w13 : Hid (Blk w13 X4 (plA pp (.slice a0 st.length c0)) 42) := C0_w12.out.below b C0_w12.out.lt
  have G_w13 : Hid (Og 18 pkC 40 w5.heap.size w13 (.slice ag st.length cg) st) := G_w12.out.below b
  have UG_w13 : Hid (Ow .i64 3 w5.heap.size w13 (.slice ag2 out.length cg2) out) := UG_w12.out.below b
  have CG_w13 : Hid (Blk w13 X7 (plA pp (.slice ag st.length cg)) 42) := CG_w12.out.below b CG_w12.out.lt
  clear b B_w12 V0_w12 U0_w12 C0_w12 G_w12 UG_w12 CG_w12
  have k0 := CG_w13.out.cell 0
  have k1 := CG_w13.out.cell 1
  have k2 := CG_w13.out.cell 2
  have k3 := CG_w13.out.cell 3
  have k4 := CG_w13.out.cell 4
  have k5 := CG_w13.out.cell 5
  simp at k0 k1 k2 k3 k4 k5
  have l0 := C0_w13.out.cell 0
  have l1 := C0_w13.out.cell 1
  have l2 := C0_w13.out.cell 2
  have l3 := C0_w13.out.cell 3
  have l4 := C0_w13.out.cell 4
  have l5 := C0_w13.out.cell 5
  simp at l0 l1 l2 l3 l4 l5
  go_wp2_with (fail)
  refine (eqPl_t pp _ _ st w13 (G_w13.out.rd pkC_len) V0_w13.out).mono ?_
  rintro e w14 ⟨rfl, b⟩
  have B_w14 : Hid (Below w.heap.size w w14) := belowCall B_w13.out b B_w13.out.size
  have V0_w14 : Hid (Rg 18 pkC w14 (.slice a0 st.length c0) st) := V0_w13.out.below b
  have U0_w14 : Hid (Rd .i64 w14 (.slice d0 out.length f0) out) := U0_w13.out.below b
  have C0_w14 : Hid (Blk w14 X4 (plA pp (.slice a0 st.length c0)) 42) := C0_w13.out.below b C0_w13.out.lt
  have G_w14 : Hid (Og 18 pkC 40 w5.heap.size w14 (.slice ag st.length cg) st) := G_w13.out.below b
  have UG_w14 : Hid (Ow .i64 3 w5.heap.size w14 (.slice ag2 out.length cg2) out) := UG_w13.out.below b
  have CG_w14 : Hid (Blk w14 X7 (plA pp (.slice ag st.length cg)) 42) := CG_w13.out.below b CG_w13.out.lt
  clear b B_w13 V0_w13 U0_w13 C0_w13 G_w13 UG_w13 CG_w13 k0 k1 k2 k3 k4 k5 l0 l1 l2 l3 l4 l5
  go_wp2_with (fail)
  refine (markI _ out 1 _ w14 UG_w14.out (by omega) (by omega)).mono ?_
  rintro e w15 ⟨rfl, om, gm⟩
  have bm : Below w.heap.size w14 w15 := grown_below gm B_w14.out.size (fun k hk => Nat.le_trans HSG.out (World.ownsRow.lt UG_w14.out k hk).1)
  have B_w15 : Hid (Below w.heap.size w w15) := B_w14.out.trans bm
  have V0_w15 : Hid (Rg 18 pkC w15 (.slice a0 st.length c0) st) := V0_w14.out.grown gm NV0.out
  have U0_w15 : Hid (Rd .i64 w15 (.slice d0 out.length f0) out) := U0_w14.out.grownE gm NU0.out
  have C0_w15 : Hid (Blk w15 X4 (plA pp (.slice a0 st.length c0)) 42) := C0_w14.out.grownO gm (own_blk_ne UG_w14.out C0_w14.out (by decide))
  have G_w15 : Hid (Og 18 pkC 40 w5.heap.size w15 (.slice ag st.length cg) st) := G_w14.out.grownN gm (ow_og_ne G_w14.out UG_w14.out)
  have CG_w15 : Hid (Blk w15 X7 (plA pp (.slice ag st.length cg)) 42) := CG_w14.out.grownO gm (own_blk_ne UG_w14.out CG_w14.out (by decide))
  have UM_w15 : Hid (Ow .i64 3 w5.heap.size w15 (.slice ag2 out.length cg2) (marks .i64 1 out.length)) := om
  clear om gm bm UG_w14 B_w14 V0_w14 U0_w14 C0_w14 G_w14 CG_w14
  obtain ⟨q1, hq1⟩ : ∃ q, (1 : Int) + (out.length : Int) = q := ⟨_, rfl⟩
  have hq1b : 0 ≤ q1 ∧ q1 ≤ 20000000 := by omega
  rw [hq1]
  have k0 := CG_w15.out.cell 0
  have k1 := CG_w15.out.cell 1
  have k2 := CG_w15.out.cell 2
  have k3 := CG_w15.out.cell 3
  have k4 := CG_w15.out.cell 4
  have k5 := CG_w15.out.cell 5
  simp at k0 k1 k2 k3 k4 k5
  go_wp2_with (fail)
  refine (markPl_c pp _ st q1 w5.heap.size w15 G_w15.out (by omega) (by omega)).mono ?_
  rintro e w16 ⟨rfl, om, gm⟩
  have bm : Below w.heap.size w15 w16 := grown_below gm B_w15.out.size (fun k hk => Nat.le_trans HSG.out (G_w15.out.lt k hk).1)
  have B_w16 : Hid (Below w.heap.size w w16) := B_w15.out.trans bm
  have V0_w16 : Hid (Rg 18 pkC w16 (.slice a0 st.length c0) st) := V0_w15.out.grown gm NG0.out
  have U0_w16 : Hid (Rd .i64 w16 (.slice d0 out.length f0) out) := U0_w15.out.grownE gm NUG.out
  have C0_w16 : Hid (Blk w16 X4 (plA pp (.slice a0 st.length c0)) 42) := C0_w15.out.grownO gm (og_blk_ne G_w15.out C0_w15.out (by decide))
  have CG_w16 : Hid (Blk w16 X7 (plA pp (.slice ag st.length cg)) 42) := CG_w15.out.grownO gm (og_blk_ne G_w15.out CG_w15.out (by decide))
  have UM_w16 : Hid (Ow .i64 3 w5.heap.size w16 (.slice ag2 out.length cg2) (marks .i64 1 out.length)) := UM_w15.out.grownN gm (og_ow_ne G_w15.out UM_w15.out)
  have GM_w16 : Hid (Og 18 pkC 40 w5.heap.size w16 (.slice ag st.length cg) (mkg (mkPk q1) st.length)) := om
  clear om gm bm G_w15 B_w15 V0_w15 U0_w15 C0_w15 CG_w15 UM_w15 k0 k1 k2 k3 k4 k5
  obtain ⟨q2, hq2⟩ : ∃ q, q1 + 18 * (st.length : Int) = q := ⟨_, rfl⟩
  have hq2b : 0 ≤ q2 ∧ q2 ≤ 40000000 := by omega
  rw [hq2]
  have e2 : (q2 != q2) = false := by simp
  have e3 : decide (q1 < 0) = false := by simp only [decide_eq_false_iff_not]; omega
  have e4 : decide (q2 < 0) = false := by simp only [decide_eq_false_iff_not]; omega
  go_wp2_with (fail)
  refine (heldI _ 1 out.length w16 UM_w16.out.rd (by omega) (by omega)).mono ?_
  rintro e w17 ⟨rfl, b⟩
  rw [hq1]
  have B_w17 : Hid (Below w.heap.size w w17) := belowCall B_w16.out b B_w16.out.size
  have V0_w17 : Hid (Rg 18 pkC w17 (.slice a0 st.length c0) st) := V0_w16.out.below b
  have U0_w17 : Hid (Rd .i64 w17 (.slice d0 out.length f0) out) := U0_w16.out.below b
  have C0_w17 : Hid (Blk w17 X4 (plA pp (.slice a0 st.length c0)) 42) := C0_w16.out.below b C0_w16.out.lt
  have CG_w17 : Hid (Blk w17 X7 (plA pp (.slice ag st.length cg)) 42) := CG_w16.out.below b CG_w16.out.lt
  have UM_w17 : Hid (Ow .i64 3 w5.heap.size w17 (.slice ag2 out.length cg2) (marks .i64 1 out.length)) := UM_w16.out.below b
  have GM_w17 : Hid (Og 18 pkC 40 w5.heap.size w17 (.slice ag st.length cg) (mkg (mkPk q1) st.length)) := GM_w16.out.below b
  clear b B_w16 V0_w16 U0_w16 C0_w16 CG_w16 UM_w16 GM_w16
  have k0 := CG_w17.out.cell 0
  have k1 := CG_w17.out.cell 1
  have k2 := CG_w17.out.cell 2
  have k3 := CG_w17.out.cell 3
  have k4 := CG_w17.out.cell 4
  have k5 := CG_w17.out.cell 5
  simp at k0 k1 k2 k3 k4 k5
  go_wp2_with (fail)
  refine (heldPl_c pp _ q1 st.length w17 (GM_w17.out.rd pkC_len) (by omega) (by omega)).mono ?_
  rintro e w18 ⟨rfl, b⟩
  rw [hq2]
  have B_w18 : Hid (Below w.heap.size w w18) := belowCall B_w17.out b B_w17.out.size
  have V0_w18 : Hid (Rg 18 pkC w18 (.slice a0 st.length c0) st) := V0_w17.out.below b
  have U0_w18 : Hid (Rd .i64 w18 (.slice d0 out.length f0) out) := U0_w17.out.below b
  have C0_w18 : Hid (Blk w18 X4 (plA pp (.slice a0 st.length c0)) 42) := C0_w17.out.below b C0_w17.out.lt
  have CG_w18 : Hid (Blk w18 X7 (plA pp (.slice ag st.length cg)) 42) := CG_w17.out.below b CG_w17.out.lt
  have UM_w18 : Hid (Ow .i64 3 w5.heap.size w18 (.slice ag2 out.length cg2) (marks .i64 1 out.length)) := UM_w17.out.below b
  have GM_w18 : Hid (Og 18 pkC 40 w5.heap.size w18 (.slice ag st.length cg) (mkg (mkPk q1) st.length)) := GM_w17.out.below b
  clear b B_w17 V0_w17 U0_w17 C0_w17 CG_w17 UM_w17 GM_w17 k0 k1 k2 k3 k4 k5
  go_wp2_with (fail)
  refine (toPkS_c _ ls w18 (HR0.out.below B_w18.out) HL.out).mono ?_
  rintro e w19 ⟨vb, rfl, ob, b⟩
  have B_w19 : Hid (Below w.heap.size w w19) := belowCall B_w18.out b B_w18.out.size
  have V0_w19 : Hid (Rg 18 pkC w19 (.slice a0 st.length c0) st) := V0_w18.out.below b
  have U0_w19 : Hid (Rd .i64 w19 (.slice d0 out.length f0) out) := U0_w18.out.below b
  have C0_w19 : Hid (Blk w19 X4 (plA pp (.slice a0 st.length c0)) 42) := C0_w18.out.below b C0_w18.out.lt
  have CG_w19 : Hid (Blk w19 X7 (plA pp (.slice ag st.length cg)) 42) := CG_w18.out.below b CG_w18.out.lt
  have UM_w19 : Hid (Ow .i64 3 w5.heap.size w19 (.slice ag2 out.length cg2) (marks .i64 1 out.length)) := UM_w18.out.below b
  have GM_w19 : Hid (Og 18 pkC 40 w5.heap.size w19 (.slice ag st.length cg) (mkg (mkPk q1) st.length)) := GM_w18.out.below b
  clear b B_w18 V0_w18 U0_w18 C0_w18 CG_w18 UM_w18 GM_w18
  have VB_w19 : Hid (Rg 18 pkC w19 vb ls) := ob.rd pkC_len
  clear ob
  go_wp2_with (fail)
  refine (HI.out w19 _ VB_w19.out (HG.out.below B_w19.out HG.out.lt)).mono ?_
  rintro e w20 ⟨vh, uh, rfl, oh, ouh, b⟩
  have B_w20 : Hid (Below w.heap.size w w20) := belowCall B_w19.out b B_w19.out.size
  have V0_w20 : Hid (Rg 18 pkC w20 (.slice a0 st.length c0) st) := V0_w19.out.below b
  have U0_w20 : Hid (Rd .i64 w20 (.slice d0 out.length f0) out) := U0_w19.out.below b
  have C0_w20 : Hid (Blk w20 X4 (plA pp (.slice a0 st.length c0)) 42) := C0_w19.out.below b C0_w19.out.lt
  have CG_w20 : Hid (Blk w20 X7 (plA pp (.slice ag st.length cg)) 42) := CG_w19.out.below b CG_w19.out.lt
  have UM_w20 : Hid (Ow .i64 3 w5.heap.size w20 (.slice ag2 out.length cg2) (marks .i64 1 out.length)) := UM_w19.out.below b
  have GM_w20 : Hid (Og 18 pkC 40 w5.heap.size w20 (.slice ag st.length cg) (mkg (mkPk q1) st.length)) := GM_w19.out.below b
  have VB_w20 : Hid (Rg 18 pkC w20 vb ls) := VB_w19.out.below b
  clear b B_w19 V0_w19 U0_w19 C0_w19 CG_w19 UM_w19 GM_w19 VB_w19
  obtain ⟨ah, ch, rfl⟩ := oh.form
  obtain ⟨ah2, ch2, rfl⟩ := ouh.form'
  have H_w20 : Hid (Rg 18 pkC w20 (.slice ah st.length ch) st) := oh.rd pkC_len
  have UH_w20 : Hid (Rd .i64 w20 (.slice ah2 out.length ch2) out) := ouh.rd
  clear oh ouh
  have ba : Below w20.heap.size w20 (w20.alloc (Obj.cells (#[.int .i64 pp.n, .int .i64 pp.d, .int .i64 pp.l, .int .i64 pp.g, .int .i64 pp.x, .slice ah st.length ch]) 42)) := (Below.refl _ _).alloc (Nat.le_refl _) _
  have kb : Blk (w20.alloc (Obj.cells (#[.int .i64 pp.n, .int .i64 pp.d, .int .i64 pp.l, .int .i64 pp.g, .int .i64 pp.x, .slice ah st.length ch]) 42)) w20.heap.size (plA pp (.slice ah st.length ch)) 42 := Blk.new _ _ _
  obtain ⟨X21, hX21⟩ : ∃ X, w20.heap.size = X := ⟨_, rfl⟩
  obtain ⟨W21, hW21⟩ : ∃ W, w20.alloc (Obj.cells (#[.int .i64 pp.n, .int .i64 pp.d, .int .i64 pp.l, .int .i64 pp.g, .int .i64 pp.x, .slice ah st.length ch]) 42) = W := ⟨_, rfl⟩
  rw [hW21] at ba kb
  rw [hX21] at kb
  have B_W21 : Hid (Below w.heap.size w W21) := belowCall B_w20.out ba B_w20.out.size
  have V0_W21 : Hid (Rg 18 pkC W21 (.slice a0 st.length c0) st) := V0_w20.out.below ba
  have U0_W21 : Hid (Rd .i64 W21 (.slice d0 out.length f0) out) := U0_w20.out.below ba
  have C0_W21 : Hid (Blk W21 X4 (plA pp (.slice a0 st.length c0)) 42) := C0_w20.out.below ba C0_w20.out.lt
  have CG_W21 : Hid (Blk W21 X7 (plA pp (.slice ag st.length cg)) 42) := CG_w20.out.below ba CG_w20.out.lt
  have UM_W21 : Hid (Ow .i64 3 w5.heap.size W21 (.slice ag2 out.length cg2) (marks .i64 1 out.length)) := UM_w20.out.below ba
  have GM_W21 : Hid (Og 18 pkC 40 w5.heap.size W21 (.slice ag st.length cg) (mkg (mkPk q1) st.length)) := GM_w20.out.below ba
  have H_W21 : Hid (Rg 18 pkC W21 (.slice ah st.length ch) st) := H_w20.out.below ba
  have UH_W21 : Hid (Rd .i64 W21 (.slice ah2 out.length ch2) out) := UH_w20.out.below ba
  have CH_W21 : Hid (Blk W21 X21 (plA pp (.slice ah st.length ch)) 42) := kb
  clear ba kb B_w20 V0_w20 U0_w20 C0_w20 CG_w20 UM_w20 GM_w20 H_w20 UH_w20
  go_wp2_with (fail)
  refine (eqIS _ _ out W21 UH_W21.out U0_W21.out).mono ?_
  rintro e w22 ⟨rfl, b⟩
  have B_w22 : Hid (Below w.heap.size w w22) := belowCall B_W21.out b B_W21.out.size
  have V0_w22 : Hid (Rg 18 pkC w22 (.slice a0 st.length c0) st) := V0_W21.out.below b
  have U0_w22 : Hid (Rd .i64 w22 (.slice d0 out.length f0) out) := U0_W21.out.below b
  have C0_w22 : Hid (Blk w22 X4 (plA pp (.slice a0 st.length c0)) 42) := C0_W21.out.below b C0_W21.out.lt
  have CG_w22 : Hid (Blk w22 X7 (plA pp (.slice ag st.length cg)) 42) := CG_W21.out.below b CG_W21.out.lt
  have UM_w22 : Hid (Ow .i64 3 w5.heap.size w22 (.slice ag2 out.length cg2) (marks .i64 1 out.length)) := UM_W21.out.below b
  have GM_w22 : Hid (Og 18 pkC 40 w5.heap.size w22 (.slice ag st.length cg) (mkg (mkPk q1) st.length)) := GM_W21.out.below b
  have H_w22 : Hid (Rg 18 pkC w22 (.slice ah st.length ch) st) := H_W21.out.below b
  have UH_w22 : Hid (Rd .i64 w22 (.slice ah2 out.length ch2) out) := UH_W21.out.below b
  have CH_w22 : Hid (Blk w22 X21 (plA pp (.slice ah st.length ch)) 42) := CH_W21.out.below b CH_W21.out.lt
  clear b B_W21 V0_W21 U0_W21 C0_W21 CG_W21 UM_W21 GM_W21 H_W21 UH_W21 CH_W21 VB_w20 hW21 hX21
  have k0 := CH_w22.out.cell 0
  have k1 := CH_w22.out.cell 1
  have k2 := CH_w22.out.cell 2
  have k3 := CH_w22.out.cell 3
  have k4 := CH_w22.out.cell 4
  have k5 := CH_w22.out.cell 5
  simp at k0 k1 k2 k3 k4 k5
  have l0 := C0_w22.out.cell 0
  have l1 := C0_w22.out.cell 1
  have l2 := C0_w22.out.cell 2
  have l3 := C0_w22.out.cell 3
  have l4 := C0_w22.out.cell 4
  have l5 := C0_w22.out.cell 5
  simp at l0 l1 l2 l3 l4 l5
  go_wp2_with (fail)
  refine (eqPl_t pp _ _ st w22 H_w22.out V0_w22.out).mono ?_
  rintro e w23 ⟨rfl, b⟩
  have B_w23 : Hid (Below w.heap.size w w23) := belowCall B_w22.out b B_w22.out.size
  have V0_w23 : Hid (Rg 18 pkC w23 (.slice a0 st.length c0) st) := V0_w22.out.below b
  have U0_w23 : Hid (Rd .i64 w23 (.slice d0 out.length f0) out) := U0_w22.out.below b
  have C0_w23 : Hid (Blk w23 X4 (plA pp (.slice a0 st.length c0)) 42) := C0_w22.out.below b C0_w22.out.lt
  have CG_w23 : Hid (Blk w23 X7 (plA pp (.slice ag st.length cg)) 42) := CG_w22.out.below b CG_w22.out.lt
  have UM_w23 : Hid (Ow .i64 3 w5.heap.size w23 (.slice ag2 out.length cg2) (marks .i64 1 out.length)) := UM_w22.out.below b
  have GM_w23 : Hid (Og 18 pkC 40 w5.heap.size w23 (.slice ag st.length cg) (mkg (mkPk q1) st.length)) := GM_w22.out.below b
  have H_w23 : Hid (Rg 18 pkC w23 (.slice ah st.length ch) st) := H_w22.out.below b
  have UH_w23 : Hid (Rd .i64 w23 (.slice ah2 out.length ch2) out) := UH_w22.out.below b
  have CH_w23 : Hid (Blk w23 X21 (plA pp (.slice ah st.length ch)) 42) := CH_w22.out.below b CH_w22.out.lt
  clear b B_w22 V0_w22 U0_w22 C0_w22 CG_w22 UM_w22 GM_w22 H_w22 UH_w22 CH_w22 k0 k1 k2 k3 k4 k5 l0 l1 l2 l3 l4 l5
  go_wp2_with (fail)
  refine (heldI _ 1 out.length w23 UM_w23.out.rd (by omega) (by omega)).mono ?_
  rintro e w24 ⟨rfl, b⟩
  rw [hq1]
  have B_w24 : Hid (Below w.heap.size w w24) := belowCall B_w23.out b B_w23.out.size
  have V0_w24 : Hid (Rg 18 pkC w24 (.slice a0 st.length c0) st) := V0_w23.out.below b
  have U0_w24 : Hid (Rd .i64 w24 (.slice d0 out.length f0) out) := U0_w23.out.below b
  have C0_w24 : Hid (Blk w24 X4 (plA pp (.slice a0 st.length c0)) 42) := C0_w23.out.below b C0_w23.out.lt
  have CG_w24 : Hid (Blk w24 X7 (plA pp (.slice ag st.length cg)) 42) := CG_w23.out.below b CG_w23.out.lt
  have UM_w24 : Hid (Ow .i64 3 w5.heap.size w24 (.slice ag2 out.length cg2) (marks .i64 1 out.length)) := UM_w23.out.below b
  have GM_w24 : Hid (Og 18 pkC 40 w5.heap.size w24 (.slice ag st.length cg) (mkg (mkPk q1) st.length)) := GM_w23.out.below b
  have H_w24 : Hid (Rg 18 pkC w24 (.slice ah st.length ch) st) := H_w23.out.below b
  have UH_w24 : Hid (Rd .i64 w24 (.slice ah2 out.length ch2) out) := UH_w23.out.below b
  have CH_w24 : Hid (Blk w24 X21 (plA pp (.slice ah st.length ch)) 42) := CH_w23.out.below b CH_w23.out.lt
  clear b B_w23 V0_w23 U0_w23 C0_w23 CG_w23 UM_w23 GM_w23 H_w23 UH_w23 CH_w23
  have k0 := CG_w24.out.cell 0
  have k1 := CG_w24.out.cell 1
  have k2 := CG_w24.out.cell 2
  have k3 := CG_w24.out.cell 3
  have k4 := CG_w24.out.cell 4
  have k5 := CG_w24.out.cell 5
  simp at k0 k1 k2 k3 k4 k5
  go_wp2_with (fail)
  refine (heldPl_c pp _ q1 st.length w24 (GM_w24.out.rd pkC_len) (by omega) (by omega)).mono ?_
  rintro e w25 ⟨rfl, b⟩
  rw [hq2]
  have B_w25 : Hid (Below w.heap.size w w25) := belowCall B_w24.out b B_w24.out.size
  have V0_w25 : Hid (Rg 18 pkC w25 (.slice a0 st.length c0) st) := V0_w24.out.below b
  have U0_w25 : Hid (Rd .i64 w25 (.slice d0 out.length f0) out) := U0_w24.out.below b
  have C0_w25 : Hid (Blk w25 X4 (plA pp (.slice a0 st.length c0)) 42) := C0_w24.out.below b C0_w24.out.lt
  have CG_w25 : Hid (Blk w25 X7 (plA pp (.slice ag st.length cg)) 42) := CG_w24.out.below b CG_w24.out.lt
  have UM_w25 : Hid (Ow .i64 3 w5.heap.size w25 (.slice ag2 out.length cg2) (marks .i64 1 out.length)) := UM_w24.out.below b
  have GM_w25 : Hid (Og 18 pkC 40 w5.heap.size w25 (.slice ag st.length cg) (mkg (mkPk q1) st.length)) := GM_w24.out.below b
  have H_w25 : Hid (Rg 18 pkC w25 (.slice ah st.length ch) st) := H_w24.out.below b
  have UH_w25 : Hid (Rd .i64 w25 (.slice ah2 out.length ch2) out) := UH_w24.out.below b
  have CH_w25 : Hid (Blk w25 X21 (plA pp (.slice ah st.length ch)) 42) := CH_w24.out.below b CH_w24.out.lt
  clear b B_w24 V0_w24 U0_w24 C0_w24 CG_w24 UM_w24 GM_w24 H_w24 UH_w24 CH_w24 k0 k1 k2 k3 k4 k5
  go_wp2
  go_ret
  exact ⟨rfl, B_w25.out⟩

end Go.Proofs.YtkjfcebdjnclaaaDoor
namespace Go.Proofs.YtkjfcebdjnclaaaDoor
open Go.RowKit Go.ChangeShapes Go.WideShapes Go.ChangeAt
set_option linter.unusedVariables false
set_option linter.unusedSimpArgs false
set_option maxRecDepth 8000

theorem seN_B {ls : List Pk} {h0 : HSt} (hb : ∀ k ∈ ls, PkBy k) (h00 : HsB h0 0) : ∀ j h, seN ls h0 j = some h → HsB h (2 * j)
  | 0, h, e => by cases e; exact h00
  | j + 1, h, e => by
    rw [seN] at e
    cases hx : seN ls h0 j with
    | none => rw [hx] at e; cases e
    | some x =>
      rw [hx] at e
      have hB := seN_B hb h00 j x hx
      have e' : (if j < ls.length then cmF x (kAt ls j) else poF x) = some h := e
      split at e'
      case isTrue hlt => exact hB.cm (by rw [kAt_eq hlt]; exact hb _ (List.getElem_mem hlt)) e'
      case isFalse =>
        have := hB.po e'
        exact ⟨Nat.le_trans this.st (by omega), Nat.le_trans this.lv (by omega), this.by'⟩
theorem hrF_B {ls : List Pk} {dp n : Int} {h : HSt} (hb : ∀ k ∈ ls, PkBy k) (e : hrF ls dp n = some h) : HsB h 240 := by
  by_cases hp : HrP ls dp n
  · rw [hrF_se hp] at e
    have := seN_B hb (h0 := h0F ls dp) ⟨Nat.le_refl _, Nat.le_refl _, fun x hx => by cases hx⟩ _ h e
    have h1 := hp.1.1.2
    have h2 := hp.2.2.2.2
    exact ⟨Nat.le_trans this.st (by omega), Nat.le_trans this.lv (by omega), this.by'⟩
  · unfold hrF at e; rw [if_neg hp] at e; cases e
set_option maxHeartbeats 3200000 in
theorem hearLaw (v : Value) (ls : List Pk) (dp n : Int) (w : World) (h : Rg 18 pkC w v ls) (hb : ∀ k ∈ ls, PkBy k) (hG : ChG w) : Calls Tryd.prog 13 #[v, .int .i64 dp, .int .i64 n] w fun e w' => e = .returned (.bool true) ∧ Below w.heap.size w w' := by
  by_cases hn : ls.length ≤ 1048576
  case neg =>
    have hsz := szPkS_c v ls 1048576 w h (by omega) (by omega)
    rw [if_pos (by omega)] at hsz
    have HSZ : Hid (Calls Tryd.prog 48 #[v, .int .i64 1048576] w fun e w' => e = .returned (.int .i64 (-1)) ∧ w' = w) := hsz
    have HB : Hid (Below w.heap.size w w) := Below.refl _ _
    clear hn hsz h hb hG
    go_enter Tryd.func13, Tryd.ntmps13
    go_wp2_with (fail)
    refine Calls.mono HSZ.out ?_
    rintro e w1 ⟨rfl, hw⟩
    rw [hw]
    clear hw w1
    go_wp2
    go_ret
    exact ⟨rfl, HB.out⟩
  case pos =>
  cases hF : hrF ls dp n with
  | none =>
    refine hearCore ⟨0, 0, 0, 0, 0⟩ v ls [] dp n [] false w h hG (by simp) (by simp) (fun W u hu => (hearM_c u ls dp n W hu hb).mono ?_) (fun W u hu hg => (hearI_c u ls dp n W hu hg hb).mono ?_) hn
    · rintro e w' ⟨b1, h1, h2⟩
      obtain ⟨u', rfl, r⟩ := h1 hF
      exact ⟨_, _, rfl, ⟨none, 0, rfl, Nat.le_refl _, Nat.zero_le _, .inl rfl⟩, r, b1⟩
    · rintro e w' ⟨b1, h1, h2⟩
      obtain rfl := h1 hF
      exact ⟨_, _, rfl, Og.nil 18 pkC 40 _ _, Ow.nil .i64 3 _ _, b1⟩
  | some x =>
    have hB := hrF_B hb hF
    refine hearCore x.p v ls x.st dp n x.lv true w h hG (Nat.le_trans hB.lv (by omega)) (Nat.le_trans hB.st (by omega)) (fun W u hu => (hearM_c u ls dp n W hu hb).mono ?_) (fun W u hu hg => (hearI_c u ls dp n W hu hg hb).mono ?_) hn
    · rintro e w' ⟨b1, h1, h2⟩
      obtain ⟨u', v', rfl, r1, r2⟩ := h2 x hF
      exact ⟨_, _, rfl, r2, r1, b1⟩
    · rintro e w' ⟨b1, h1, h2⟩
      obtain ⟨u', v', rfl, r1, r2⟩ := h2 x hF
      exact ⟨_, _, rfl, r2, r1, b1⟩

end Go.Proofs.YtkjfcebdjnclaaaDoor

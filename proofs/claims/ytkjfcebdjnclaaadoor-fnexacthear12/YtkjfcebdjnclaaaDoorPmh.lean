/- Players marked, and held; no condition. -/
import Derived.Test.YtkjfcebdjnclaaaDoorPlh
import Derived.Test.YtkjfcebdjnclaaaDoorPkm
import Derived.Test.YtkjfcebdjnclaaaDoorPyi
import Derived.Test.YtkjfcebdjnclaaaDoorCdh
import Derived.Test.YtkjfcebdjnclaaaDoorIvs
import Derived.Test.YtkjfcebdjnclaaaDoorOver
namespace Go.Proofs.YtkjfcebdjnclaaaDoor
open Go.RowKit Go.ChangeShapes Go.WideShapes Go.ChangeAt
set_option linter.unusedVariables false
set_option linter.unusedSimpArgs false
set_option maxRecDepth 8000

set_option maxHeartbeats 3200000 in
theorem markPl_c (p : Pl) (v : Value) (ls : List Pk) (q : Int) (base : Nat) (w : World) (h : Og 18 pkC 40 base w v ls) (h0 : 0 ≤ q) (hq : q + 18 * ls.length ≤ 1152921504606846976) :
    Calls Tryd.prog 46 #[.agg (plA p v), .int .i64 q] w fun e w' => e = .returned (.int .i64 (q + 18 * ls.length)) ∧ Og 18 pkC 40 base w' v (mkg (mkPk q) ls.length) ∧ w.grownBy w' v.ownBlock := by
  obtain ⟨W1, hW1⟩ : ∃ W, w.alloc (Obj.cells (plA p v) 42) = W := ⟨_, rfl⟩
  have K1 : Blk W1 w.heap.size (plA p v) 42 := by rw [← hW1]; exact Blk.new _ _ _
  have HO : Hid (Og 18 pkC 40 base W1 v ls) := by rw [← hW1]; exact h.below ((Below.refl _ _).alloc (Nat.le_refl _) _)
  have HG : Hid (w.grownBy W1 v.ownBlock) := by rw [← hW1]; exact World.grownBy_alloc w _ _
  have x5 := K1.cell 5
  simp at x5
  clear K1 h
  go_enter Tryd.func46, Tryd.ntmps46
  go_wp2_with (fail)
  refine (markPkS_c v ls q base W1 HO.out h0 hq).mono ?_
  rintro e w1 ⟨rfl, o1, g1⟩
  have HF : Hid (Og 18 pkC 40 base w1 v (mkg (mkPk q) ls.length) ∧ w.grownBy w1 v.ownBlock) := ⟨o1, grown_trans HG.out g1⟩
  clear o1 g1 x5
  go_wp2
  go_ret
  exact ⟨rfl, HF.out⟩
set_option maxHeartbeats 3200000 in
theorem heldPl_c (p : Pl) (v : Value) (q : Int) (n : Nat) (w : World) (h : Rg 18 pkC w v (mkg (mkPk q) n)) (h0 : 0 ≤ q) (hq : q + 18 * n ≤ 1152921504606846976) :
    Calls Tryd.prog 47 #[.agg (plA p v), .int .i64 q] w fun e w' => e = .returned (.int .i64 (q + 18 * n)) ∧ Below w.heap.size w w' := by
  obtain ⟨W1, hW1⟩ : ∃ W, w.alloc (Obj.cells (plA p v) 42) = W := ⟨_, rfl⟩
  have K1 : Blk W1 w.heap.size (plA p v) 42 := by rw [← hW1]; exact Blk.new _ _ _
  have HB : Hid (Below w.heap.size w W1) := by rw [← hW1]; exact (Below.refl _ _).alloc (Nat.le_refl _) _
  have HR : Hid (Rg 18 pkC W1 v (mkg (mkPk q) n)) := h.below HB.out
  have x5 := K1.cell 5
  simp at x5
  clear K1 h
  go_enter Tryd.func47, Tryd.ntmps47
  go_wp2_with (fail)
  refine (heldPkS_c v q n W1 HR.out h0 hq).mono ?_
  rintro e w1 ⟨rfl, b1⟩
  have HF : Hid (Below w.heap.size w w1) := belowCall HB.out b1 HB.out.size
  have hnn : ¬ (q + 18 * (n : Int) < 0) := by omega
  clear b1 x5
  go_wp2
  go_ret
  exact ⟨rfl, HF.out⟩

end Go.Proofs.YtkjfcebdjnclaaaDoor
namespace Go.Proofs.YtkjfcebdjnclaaaDoor
open Go.RowKit Go.ChangeShapes Go.WideShapes Go.ChangeAt
set_option linter.unusedVariables false
set_option linter.unusedSimpArgs false
set_option maxRecDepth 8000

/-- rows of packets lie in blocks of their own kind -/
theorem og_blk_ne {base : Nat} {W : World} {v : Value} {ls : List Pk} {g : Nat} {cs : Array Value} {t : TypeId} (h : Og 18 pkC 40 base W v ls) (hb : Blk W g cs t) (ht : t ≠ 40) : v.ownBlock ≠ some g := by
  intro e
  rcases h.2 with ⟨rfl, -⟩ | ⟨k, cap, cur, rfl, -, hg, -⟩
  · cases e
  · obtain rfl : k = g := by simpa [Value.ownBlock] using e
    rw [Blk, hg] at hb
    cases hb
    exact ht rfl
theorem og_ow_ne {base base' : Nat} {W : World} {v u : Value} {ls : List Pk} {zs : List Int} (h : Og 18 pkC 40 base W v ls) (h' : Ow .i64 3 base' W u zs) : u.ownBlock = none ∨ u.ownBlock ≠ v.ownBlock := by
  rcases h'.2 with ⟨rfl, -⟩ | ⟨k, cap, cur, rfl, -, hg, -⟩
  · exact .inl rfl
  · refine .inr fun e => ?_
    exact og_blk_ne h (show Blk W k cur 3 from hg) (by decide) e.symm
theorem ow_og_ne {base base' : Nat} {W : World} {v u : Value} {ls : List Pk} {zs : List Int} (h : Og 18 pkC 40 base W v ls) (h' : Ow .i64 3 base' W u zs) : v.ownBlock = none ∨ v.ownBlock ≠ u.ownBlock := by
  rcases h.2 with ⟨rfl, -⟩ | ⟨k, cap, cur, rfl, -, hg, -⟩
  · exact .inl rfl
  · refine .inr fun e => ?_
    exact own_blk_ne h' (show Blk W k cur 40 from hg) (by decide) e.symm
theorem Og.grownN {base : Nat} {W W' : World} {v : Value} {ls : List Pk} {row : Option Nat} (h : Og 18 pkC 40 base W v ls) (hg : W.grownBy W' row) (hne : v.ownBlock = none ∨ v.ownBlock ≠ row) : Og 18 pkC 40 base W' v ls := World.ownsRow.kept h hg hne
theorem Ow.grownN {base : Nat} {W W' : World} {v : Value} {zs : List Int} {row : Option Nat} (h : Ow .i64 3 base W v zs) (hg : W.grownBy W' row) (hne : v.ownBlock = none ∨ v.ownBlock ≠ row) : Ow .i64 3 base W' v zs := World.ownsRow.kept h hg hne
/-- as PmR: a store that may be read -/
def PmQ (p : Pl) (st : List Pk) (out : List Int) (ok : Bool) (w : World) (e : Ending) (w' : World) : Prop := ∃ v u, e = .returned (.tuple #[.agg (plA p v), u, .bool ok]) ∧ Rg 18 pkC w' v st ∧ (∀ k, v.ownBlock = some k → w.heap.size ≤ k ∧ k < w'.heap.size) ∧ Ow .i64 3 w.heap.size w' u out ∧ Below w.heap.size w w'
set_option maxHeartbeats 12800000 in
theorem pyCore (p pp : Pl) (v : Value) (ls st : List Pk) (out : List Int) (ok : Bool) (w : World) (h : Rg 18 pkC w v ls) (hG : ChG w) (hol : out.length ≤ 300) (hst : st.length ≤ 1048576)
    (hM : ∀ W u, Rg 18 pkC W u ls → Calls Tryd.prog 30 #[.agg (plA p u)] W (PmQ pp st out ok W))
    (hI : ∀ W u, Rg 18 pkC W u ls → ChG W → Calls Tryd.prog 28 #[.agg (plA p u)] W (PyR pp st out ok W)) (hl : ls.length ≤ 1048576) :
    Calls Tryd.prog 12 #[.agg (plA p v)] w fun e w' => e = .returned (.bool true) ∧ Below w.heap.size w w' := by
  have HR0 : Hid (Rg 18 pkC w v ls) := h
  have HG : Hid (ChG w) := hG
  have HM : Hid (∀ W u, Rg 18 pkC W u ls → Calls Tryd.prog 30 #[.agg (plA p u)] W (PmQ pp st out ok W)) := hM
  have HI : Hid (∀ W u, Rg 18 pkC W u ls → ChG W → Calls Tryd.prog 28 #[.agg (plA p u)] W (PyR pp st out ok W)) := hI
  have HL : Hid (ls.length ≤ 1048576) := hl
  have okk : (ok != ok) = false := by simp
  obtain ⟨a, cap, rfl, -⟩ := h
  obtain ⟨W0, hW0⟩ : ∃ W, w.alloc (Obj.cells (plA p (.slice a ls.length cap)) 63) = W := ⟨_, rfl⟩
  have B_W0 : Hid (Below w.heap.size w W0) := by rw [← hW0]; exact (Below.refl _ _).alloc (Nat.le_refl _) _
  have K_W0 : Hid (Blk W0 w.heap.size (plA p (.slice a ls.length cap)) 63) := by rw [← hW0]; exact Blk.new _ _ _
  clear hM hI hG
  have k0 := K_W0.out.cell 0
  have k1 := K_W0.out.cell 1
  have k2 := K_W0.out.cell 2
  have k3 := K_W0.out.cell 3
  have k4 := K_W0.out.cell 4
  have k5 := K_W0.out.cell 5
  simp at k0 k1 k2 k3 k4 k5
  go_enter Tryd.func12, Tryd.ntmps12
  go_wp2_with (fail)
  clear hW0
  have hsz := szPl_c p _ ls 1048576 W0 (HR0.out.below B_W0.out) (by omega) (by omega)
  rw [if_neg (by omega)] at hsz
  refine hsz.mono ?_
  rintro e w1 ⟨rfl, b⟩
  have B_w1 : Hid (Below w.heap.size w w1) := belowCall B_W0.out b B_W0.out.size
  have K_w1 : Hid (Blk w1 w.heap.size (plA p (.slice a ls.length cap)) 63) := K_W0.out.below b K_W0.out.lt
  have gg : ¬ (1048576 : Int) - (ls.length : Int) < 0 := by omega
  clear b hsz k0 k1 k2 k3 k4 k5 B_W0 K_W0
  have k0 := K_w1.out.cell 0
  have k1 := K_w1.out.cell 1
  have k2 := K_w1.out.cell 2
  have k3 := K_w1.out.cell 3
  have k4 := K_w1.out.cell 4
  have k5 := K_w1.out.cell 5
  simp at k0 k1 k2 k3 k4 k5
  go_wp2_with (fail)
  refine (toPl_c p _ ls w1 (HR0.out.below B_w1.out) HL.out).mono ?_
  rintro e w2 ⟨va, rfl, ova, b⟩
  have B_w2 : Hid (Below w.heap.size w w2) := belowCall B_w1.out b B_w1.out.size
  have K_w2 : Hid (Blk w2 w.heap.size (plA p (.slice a ls.length cap)) 63) := K_w1.out.below b K_w1.out.lt
  clear b B_w1 K_w1 gg k0 k1 k2 k3 k4 k5
  go_wp2_with (fail)
  refine (HM.out w2 _ (ova.rd pkC_len)).mono ?_
  rintro e w3 ⟨v0, u0, rfl, rv0, hv0, ou0, b⟩
  have B_w3 : Hid (Below w.heap.size w w3) := belowCall B_w2.out b B_w2.out.size
  have K_w3 : Hid (Blk w3 w.heap.size (plA p (.slice a ls.length cap)) 63) := K_w2.out.below b K_w2.out.lt
  clear b B_w2 K_w2
  clear ova
  have rvx := rv0
  obtain ⟨a0, c0, rfl, -⟩ := rvx
  have V0_w3 : Hid (Rg 18 pkC w3 (.slice a0 st.length c0) st) := rv0
  have U0_w3 : Hid (Ow .i64 3 w2.heap.size w3 u0 out) := ou0
  have HP0 : Hid ((∀ k, (.slice a0 st.length c0 : Value).ownBlock = some k → k < w3.heap.size) ∧ ∀ k, u0.ownBlock = some k → k < w3.heap.size) := ⟨fun k hk => (hv0 k hk).2, fun k hk => (World.ownsRow.lt ou0 k hk).2⟩
  have Z0_w3 : Hid (w3.heap.size ≤ w3.heap.size) := Nat.le_refl _
  clear rv0 hv0 ou0
  have ba : Below w3.heap.size w3 (w3.alloc (Obj.cells (#[.int .i64 pp.n, .int .i64 pp.d, .int .i64 pp.l, .int .i64 pp.g, .int .i64 pp.x, .slice a0 st.length c0]) 42)) := (Below.refl _ _).alloc (Nat.le_refl _) _
  have kb : Blk (w3.alloc (Obj.cells (#[.int .i64 pp.n, .int .i64 pp.d, .int .i64 pp.l, .int .i64 pp.g, .int .i64 pp.x, .slice a0 st.length c0]) 42)) w3.heap.size (plA pp (.slice a0 st.length c0)) 42 := Blk.new _ _ _
  obtain ⟨X4, hX4⟩ : ∃ X, w3.heap.size = X := ⟨_, rfl⟩
  obtain ⟨W4, hW4⟩ : ∃ W, w3.alloc (Obj.cells (#[.int .i64 pp.n, .int .i64 pp.d, .int .i64 pp.l, .int .i64 pp.g, .int .i64 pp.x, .slice a0 st.length c0]) 42) = W := ⟨_, rfl⟩
  rw [hW4] at ba kb
  rw [hX4] at kb
  have B_W4 : Hid (Below w.heap.size w W4) := belowCall B_w3.out ba B_w3.out.size
  have K_W4 : Hid (Blk W4 w.heap.size (plA p (.slice a ls.length cap)) 63) := K_w3.out.below ba K_w3.out.lt
  have V0_W4 : Hid (Rg 18 pkC W4 (.slice a0 st.length c0) st) := V0_w3.out.below ba
  have U0_W4 : Hid (Ow .i64 3 w2.heap.size W4 u0 out) := U0_w3.out.below ba
  have Z0_W4 : Hid (w3.heap.size ≤ W4.heap.size) := Nat.le_trans Z0_w3.out ba.size
  have C0_W4 : Hid (Blk W4 X4 (plA pp (.slice a0 st.length c0)) 42) := kb
  clear ba kb B_w3 K_w3 V0_w3 U0_w3 Z0_w3
  have k0 := K_W4.out.cell 0
  have k1 := K_W4.out.cell 1
  have k2 := K_W4.out.cell 2
  have k3 := K_W4.out.cell 3
  have k4 := K_W4.out.cell 4
  have k5 := K_W4.out.cell 5
  simp at k0 k1 k2 k3 k4 k5
  have HZX : Hid (w3.heap.size ≤ W4.heap.size) := Z0_W4.out
  have HSX : Hid (w.heap.size ≤ W4.heap.size) := B_W4.out.size
  go_wp2_with (fail)
  refine (toPl_c p _ ls W4 (HR0.out.below B_W4.out) HL.out).mono ?_
  rintro e w5 ⟨vx, rfl, ox, b⟩
  have HXB : Hid (Below W4.heap.size W4 w5) := b
  have B_w5 : Hid (Below w.heap.size w w5) := belowCall B_W4.out b B_W4.out.size
  have K_w5 : Hid (Blk w5 w.heap.size (plA p (.slice a ls.length cap)) 63) := K_W4.out.below b K_W4.out.lt
  have V0_w5 : Hid (Rg 18 pkC w5 (.slice a0 st.length c0) st) := V0_W4.out.below b
  have U0_w5 : Hid (Ow .i64 3 w2.heap.size w5 u0 out) := U0_W4.out.below b
  have C0_w5 : Hid (Blk w5 X4 (plA pp (.slice a0 st.length c0)) 42) := C0_W4.out.below b C0_W4.out.lt
  clear b B_W4 K_W4 V0_W4 U0_W4 C0_W4 hW4 hX4 k0 k1 k2 k3 k4 k5 Z0_W4
  have HXE : Hid (W4.heap.size ≤ w5.heap.size) := HXB.out.size
  obtain ⟨ax, cx, rfl⟩ := ox.form
  have X_w5 : Hid (Og 18 pkC 40 W4.heap.size w5 (.slice ax ls.length cx) ls) := ox
  have HPX : Hid (∀ k, (.slice ax ls.length cx : Value).ownBlock = some k → W4.heap.size ≤ k ∧ k < w5.heap.size) := fun k hk => ox.lt k hk
  clear ox
  have ZE_w5 : Hid (w5.heap.size ≤ w5.heap.size) := Nat.le_refl _
  have ba : Below w5.heap.size w5 (w5.alloc (Obj.cells (#[.int .i64 p.n, .int .i64 p.d, .int .i64 p.l, .int .i64 p.g, .int .i64 p.x, .slice ax ls.length cx]) 42)) := (Below.refl _ _).alloc (Nat.le_refl _) _
  have kb : Blk (w5.alloc (Obj.cells (#[.int .i64 p.n, .int .i64 p.d, .int .i64 p.l, .int .i64 p.g, .int .i64 p.x, .slice ax ls.length cx]) 42)) w5.heap.size (plA p (.slice ax ls.length cx)) 42 := Blk.new _ _ _
  obtain ⟨X6, hX6⟩ : ∃ X, w5.heap.size = X := ⟨_, rfl⟩
  obtain ⟨W6, hW6⟩ : ∃ W, w5.alloc (Obj.cells (#[.int .i64 p.n, .int .i64 p.d, .int .i64 p.l, .int .i64 p.g, .int .i64 p.x, .slice ax ls.length cx]) 42) = W := ⟨_, rfl⟩
  rw [hW6] at ba kb
  rw [hX6] at kb
  have B_W6 : Hid (Below w.heap.size w W6) := belowCall B_w5.out ba B_w5.out.size
  have K_W6 : Hid (Blk W6 w.heap.size (plA p (.slice a ls.length cap)) 63) := K_w5.out.below ba K_w5.out.lt
  have V0_W6 : Hid (Rg 18 pkC W6 (.slice a0 st.length c0) st) := V0_w5.out.below ba
  have U0_W6 : Hid (Ow .i64 3 w2.heap.size W6 u0 out) := U0_w5.out.below ba
  have C0_W6 : Hid (Blk W6 X4 (plA pp (.slice a0 st.length c0)) 42) := C0_w5.out.below ba C0_w5.out.lt
  have X_W6 : Hid (Og 18 pkC 40 W4.heap.size W6 (.slice ax ls.length cx) ls) := X_w5.out.below ba
  have ZE_W6 : Hid (w5.heap.size ≤ W6.heap.size) := Nat.le_trans ZE_w5.out ba.size
  have CX_W6 : Hid (Blk W6 X6 (plA p (.slice ax ls.length cx)) 42) := kb
  clear ba kb B_w5 K_w5 V0_w5 U0_w5 C0_w5 X_w5 ZE_w5
  have k0 := CX_W6.out.cell 0
  have k1 := CX_W6.out.cell 1
  have k2 := CX_W6.out.cell 2
  have k3 := CX_W6.out.cell 3
  have k4 := CX_W6.out.cell 4
  have k5 := CX_W6.out.cell 5
  simp at k0 k1 k2 k3 k4 k5
  have HZG : Hid (w5.heap.size ≤ W6.heap.size) := ZE_W6.out
  have HSG : Hid (w.heap.size ≤ W6.heap.size) := B_W6.out.size
  go_wp2_with (fail)
  refine (HI.out W6 _ (X_W6.out.rd pkC_len) (HG.out.below B_W6.out HG.out.lt)).mono ?_
  rintro e w7 ⟨vg, ug, rfl, og, oug, b⟩
  have B_w7 : Hid (Below w.heap.size w w7) := belowCall B_W6.out b B_W6.out.size
  have K_w7 : Hid (Blk w7 w.heap.size (plA p (.slice a ls.length cap)) 63) := K_W6.out.below b K_W6.out.lt
  have V0_w7 : Hid (Rg 18 pkC w7 (.slice a0 st.length c0) st) := V0_W6.out.below b
  have U0_w7 : Hid (Ow .i64 3 w2.heap.size w7 u0 out) := U0_W6.out.below b
  have C0_w7 : Hid (Blk w7 X4 (plA pp (.slice a0 st.length c0)) 42) := C0_W6.out.below b C0_W6.out.lt
  have X_w7 : Hid (Og 18 pkC 40 W4.heap.size w7 (.slice ax ls.length cx) ls) := X_W6.out.below b
  have CX_w7 : Hid (Blk w7 X6 (plA p (.slice ax ls.length cx)) 42) := CX_W6.out.below b CX_W6.out.lt
  clear b B_W6 K_W6 V0_W6 U0_W6 C0_W6 X_W6 CX_W6 hW6 hX6 k0 k1 k2 k3 k4 k5 ZE_W6
  obtain ⟨ag, cg, rfl⟩ := og.form
  have G_w7 : Hid (Og 18 pkC 40 W6.heap.size w7 (.slice ag st.length cg) st) := og
  have UG_w7 : Hid (Ow .i64 3 W6.heap.size w7 ug out) := oug
  have NX0 : Hid ((.slice a0 st.length c0 : Value).ownBlock = none ∨ (.slice a0 st.length c0 : Value).ownBlock ≠ (.slice ax ls.length cx : Value).ownBlock) := by
    cases hv : (.slice a0 st.length c0 : Value).ownBlock with
    | none => exact .inl rfl
    | some k => exact .inr fun e => by have h1 := HP0.out.1 k hv; have h2 := HPX.out k e.symm; have h3 := HZX.out; omega
  have NG0 : Hid ((.slice a0 st.length c0 : Value).ownBlock = none ∨ (.slice a0 st.length c0 : Value).ownBlock ≠ (.slice ag st.length cg : Value).ownBlock) := by
    cases hv : (.slice a0 st.length c0 : Value).ownBlock with
    | none => exact .inl rfl
    | some k => exact .inr fun e => by have h1 := HP0.out.1 k hv; have h2 := og.lt k e.symm; have h3 := HZX.out; have h4 := HZG.out; have h5 := HPX.out; have h6 : W4.heap.size ≤ w5.heap.size := by exact HXE.out
                                       omega
  have NGX : Hid ((.slice ag st.length cg : Value).ownBlock = none ∨ (.slice ag st.length cg : Value).ownBlock ≠ (.slice ax ls.length cx : Value).ownBlock) := by
    cases hv : (.slice ag st.length cg : Value).ownBlock with
    | none => exact .inl rfl
    | some k => exact .inr fun e => by have h1 := og.lt k hv; have h2 := HPX.out k e.symm; have h4 := HZG.out; omega
  have NUG : Hid (u0.ownBlock = none ∨ u0.ownBlock ≠ ug.ownBlock) := by
    cases hv : u0.ownBlock with
    | none => exact .inl rfl
    | some k => exact .inr fun e => by have h1 := HP0.out.2 k hv; have h2 := World.ownsRow.lt oug k e.symm; have h3 := HZX.out; have h4 := HZG.out; have h6 := HXE.out; omega
  have NV0 : Hid ((.slice a0 st.length c0 : Value).ownBlock = none ∨ (.slice a0 st.length c0 : Value).ownBlock ≠ ug.ownBlock) := by
    cases hv : (.slice a0 st.length c0 : Value).ownBlock with
    | none => exact .inl rfl
    | some k => exact .inr fun e => by have h1 := HP0.out.1 k hv; have h2 := World.ownsRow.lt oug k e.symm; have h3 := HZX.out; have h4 := HZG.out; have h6 := HXE.out; omega
  clear og oug HP0
  have ba : Below w7.heap.size w7 (w7.alloc (Obj.cells (#[.int .i64 pp.n, .int .i64 pp.d, .int .i64 pp.l, .int .i64 pp.g, .int .i64 pp.x, .slice ag st.length cg]) 42)) := (Below.refl _ _).alloc (Nat.le_refl _) _
  have kb : Blk (w7.alloc (Obj.cells (#[.int .i64 pp.n, .int .i64 pp.d, .int .i64 pp.l, .int .i64 pp.g, .int .i64 pp.x, .slice ag st.length cg]) 42)) w7.heap.size (plA pp (.slice ag st.length cg)) 42 := Blk.new _ _ _
  obtain ⟨X8, hX8⟩ : ∃ X, w7.heap.size = X := ⟨_, rfl⟩
  obtain ⟨W8, hW8⟩ : ∃ W, w7.alloc (Obj.cells (#[.int .i64 pp.n, .int .i64 pp.d, .int .i64 pp.l, .int .i64 pp.g, .int .i64 pp.x, .slice ag st.length cg]) 42) = W := ⟨_, rfl⟩
  rw [hW8] at ba kb
  rw [hX8] at kb
  have B_W8 : Hid (Below w.heap.size w W8) := belowCall B_w7.out ba B_w7.out.size
  have K_W8 : Hid (Blk W8 w.heap.size (plA p (.slice a ls.length cap)) 63) := K_w7.out.below ba K_w7.out.lt
  have V0_W8 : Hid (Rg 18 pkC W8 (.slice a0 st.length c0) st) := V0_w7.out.below ba
  have U0_W8 : Hid (Ow .i64 3 w2.heap.size W8 u0 out) := U0_w7.out.below ba
  have C0_W8 : Hid (Blk W8 X4 (plA pp (.slice a0 st.length c0)) 42) := C0_w7.out.below ba C0_w7.out.lt
  have X_W8 : Hid (Og 18 pkC 40 W4.heap.size W8 (.slice ax ls.length cx) ls) := X_w7.out.below ba
  have CX_W8 : Hid (Blk W8 X6 (plA p (.slice ax ls.length cx)) 42) := CX_w7.out.below ba CX_w7.out.lt
  have G_W8 : Hid (Og 18 pkC 40 W6.heap.size W8 (.slice ag st.length cg) st) := G_w7.out.below ba
  have UG_W8 : Hid (Ow .i64 3 W6.heap.size W8 ug out) := UG_w7.out.below ba
  have CG_W8 : Hid (Blk W8 X8 (plA pp (.slice ag st.length cg)) 42) := kb
  clear ba kb B_w7 K_w7 V0_w7 U0_w7 C0_w7 X_w7 CX_w7 G_w7 UG_w7
  have k0 := CG_W8.out.cell 0
  have k1 := CG_W8.out.cell 1
  have k2 := CG_W8.out.cell 2
  have k3 := CG_W8.out.cell 3
  have k4 := CG_W8.out.cell 4
  have k5 := CG_W8.out.cell 5
  simp at k0 k1 k2 k3 k4 k5
  have l0 := C0_W8.out.cell 0
  have l1 := C0_W8.out.cell 1
  have l2 := C0_W8.out.cell 2
  have l3 := C0_W8.out.cell 3
  have l4 := C0_W8.out.cell 4
  have l5 := C0_W8.out.cell 5
  simp at l0 l1 l2 l3 l4 l5
  go_wp2_with (fail)
  refine (eqPl_t pp _ _ st W8 (G_W8.out.rd pkC_len) V0_W8.out).mono ?_
  rintro e w9 ⟨rfl, b⟩
  have B_w9 : Hid (Below w.heap.size w w9) := belowCall B_W8.out b B_W8.out.size
  have K_w9 : Hid (Blk w9 w.heap.size (plA p (.slice a ls.length cap)) 63) := K_W8.out.below b K_W8.out.lt
  have V0_w9 : Hid (Rg 18 pkC w9 (.slice a0 st.length c0) st) := V0_W8.out.below b
  have U0_w9 : Hid (Ow .i64 3 w2.heap.size w9 u0 out) := U0_W8.out.below b
  have C0_w9 : Hid (Blk w9 X4 (plA pp (.slice a0 st.length c0)) 42) := C0_W8.out.below b C0_W8.out.lt
  have X_w9 : Hid (Og 18 pkC 40 W4.heap.size w9 (.slice ax ls.length cx) ls) := X_W8.out.below b
  have CX_w9 : Hid (Blk w9 X6 (plA p (.slice ax ls.length cx)) 42) := CX_W8.out.below b CX_W8.out.lt
  have G_w9 : Hid (Og 18 pkC 40 W6.heap.size w9 (.slice ag st.length cg) st) := G_W8.out.below b
  have UG_w9 : Hid (Ow .i64 3 W6.heap.size w9 ug out) := UG_W8.out.below b
  have CG_w9 : Hid (Blk w9 X8 (plA pp (.slice ag st.length cg)) 42) := CG_W8.out.below b CG_W8.out.lt
  clear b B_W8 K_W8 V0_W8 U0_W8 C0_W8 X_W8 CX_W8 G_W8 UG_W8 CG_W8 hW8 hX8 k0 k1 k2 k3 k4 k5 l0 l1 l2 l3 l4 l5
  go_wp2_with (fail)
  refine (eqIS _ _ out w9 UG_w9.out.rd U0_w9.out.rd).mono ?_
  rintro e w10 ⟨rfl, b⟩
  have B_w10 : Hid (Below w.heap.size w w10) := belowCall B_w9.out b B_w9.out.size
  have K_w10 : Hid (Blk w10 w.heap.size (plA p (.slice a ls.length cap)) 63) := K_w9.out.below b K_w9.out.lt
  have V0_w10 : Hid (Rg 18 pkC w10 (.slice a0 st.length c0) st) := V0_w9.out.below b
  have U0_w10 : Hid (Ow .i64 3 w2.heap.size w10 u0 out) := U0_w9.out.below b
  have C0_w10 : Hid (Blk w10 X4 (plA pp (.slice a0 st.length c0)) 42) := C0_w9.out.below b C0_w9.out.lt
  have X_w10 : Hid (Og 18 pkC 40 W4.heap.size w10 (.slice ax ls.length cx) ls) := X_w9.out.below b
  have CX_w10 : Hid (Blk w10 X6 (plA p (.slice ax ls.length cx)) 42) := CX_w9.out.below b CX_w9.out.lt
  have G_w10 : Hid (Og 18 pkC 40 W6.heap.size w10 (.slice ag st.length cg) st) := G_w9.out.below b
  have UG_w10 : Hid (Ow .i64 3 W6.heap.size w10 ug out) := UG_w9.out.below b
  have CG_w10 : Hid (Blk w10 X8 (plA pp (.slice ag st.length cg)) 42) := CG_w9.out.below b CG_w9.out.lt
  clear b B_w9 K_w9 V0_w9 U0_w9 C0_w9 X_w9 CX_w9 G_w9 UG_w9 CG_w9
  obtain ⟨S, hS⟩ : ∃ S : World → Prop, ∀ W, S W ↔ Below w10.heap.size w10 W := ⟨_, fun _ => Iff.rfl⟩
  have zc0 : ∀ W : At S, W.wd.cell? ⟨w.heap.size, 0, none⟩ = some ((plA p (.slice a ls.length cap))[0]) := fun W => by rw [(K_w10.out.below ((hS _).1 W.ok) K_w10.out.lt).cell 0]; rfl
  have zx0 : ∀ W : At S, W.wd.cell? ⟨X6, 0, none⟩ = some ((plA p (.slice ax ls.length cx))[0]) := fun W => by rw [(CX_w10.out.below ((hS _).1 W.ok) CX_w10.out.lt).cell 0]; rfl
  have zc1 : ∀ W : At S, W.wd.cell? ⟨w.heap.size, 1, none⟩ = some ((plA p (.slice a ls.length cap))[1]) := fun W => by rw [(K_w10.out.below ((hS _).1 W.ok) K_w10.out.lt).cell 1]; rfl
  have zx1 : ∀ W : At S, W.wd.cell? ⟨X6, 1, none⟩ = some ((plA p (.slice ax ls.length cx))[1]) := fun W => by rw [(CX_w10.out.below ((hS _).1 W.ok) CX_w10.out.lt).cell 1]; rfl
  have zc2 : ∀ W : At S, W.wd.cell? ⟨w.heap.size, 2, none⟩ = some ((plA p (.slice a ls.length cap))[2]) := fun W => by rw [(K_w10.out.below ((hS _).1 W.ok) K_w10.out.lt).cell 2]; rfl
  have zx2 : ∀ W : At S, W.wd.cell? ⟨X6, 2, none⟩ = some ((plA p (.slice ax ls.length cx))[2]) := fun W => by rw [(CX_w10.out.below ((hS _).1 W.ok) CX_w10.out.lt).cell 2]; rfl
  have zc3 : ∀ W : At S, W.wd.cell? ⟨w.heap.size, 3, none⟩ = some ((plA p (.slice a ls.length cap))[3]) := fun W => by rw [(K_w10.out.below ((hS _).1 W.ok) K_w10.out.lt).cell 3]; rfl
  have zx3 : ∀ W : At S, W.wd.cell? ⟨X6, 3, none⟩ = some ((plA p (.slice ax ls.length cx))[3]) := fun W => by rw [(CX_w10.out.below ((hS _).1 W.ok) CX_w10.out.lt).cell 3]; rfl
  have zc4 : ∀ W : At S, W.wd.cell? ⟨w.heap.size, 4, none⟩ = some ((plA p (.slice a ls.length cap))[4]) := fun W => by rw [(K_w10.out.below ((hS _).1 W.ok) K_w10.out.lt).cell 4]; rfl
  have zx4 : ∀ W : At S, W.wd.cell? ⟨X6, 4, none⟩ = some ((plA p (.slice ax ls.length cx))[4]) := fun W => by rw [(CX_w10.out.below ((hS _).1 W.ok) CX_w10.out.lt).cell 4]; rfl
  have zc5 : ∀ W : At S, W.wd.cell? ⟨w.heap.size, 5, none⟩ = some ((plA p (.slice a ls.length cap))[5]) := fun W => by rw [(K_w10.out.below ((hS _).1 W.ok) K_w10.out.lt).cell 5]; rfl
  have zx5 : ∀ W : At S, W.wd.cell? ⟨X6, 5, none⟩ = some ((plA p (.slice ax ls.length cx))[5]) := fun W => by rw [(CX_w10.out.below ((hS _).1 W.ok) CX_w10.out.lt).cell 5]; rfl
  simp at zc0 zx0 zc1 zx1 zc2 zx2 zc3 zx3 zc4 zx4 zc5 zx5
  have HS : Hid (∀ W, S W ↔ Below w10.heap.size w10 W) := hS
  have ne : Nonempty (At S) := ⟨⟨w10, (hS _).2 (Below.refl _ _)⟩⟩
  clear hS
  go_wp2
  refine region_mixA [true, true, false, false, false] 5 3 S (by kernel_rfl) rfl (by kernel_rfl) (fun _ _ _ _ _ h => h) ((HS.out _).2 (Below.refl _ _).drew) ?_
  simp only [selT, selF]
  repeat (go_big_quiet_step (fail))
  refine wpQuiet_nil ?_
  refine tail_step ?_
  go_wp2_with (fail)
  refine (toPl_c p _ ls w10.drew (HR0.out.below B_w10.out.drew) HL.out).mono ?_
  rintro e wq ⟨v7, rfl, o7, b7⟩
  have B7 : Below w10.heap.size w10 wq := (Below.refl _ _).drew.trans b7
  have HB7 : Hid (Below w10.heap.size w10 wq) := B7
  have HO7 : Hid (Rg 18 pkC wq (.slice ax ls.length cx) ls ∧ Rg 18 pkC wq v7 ls) := ⟨(X_w10.out.rd pkC_len).below B7, o7.rd pkC_len⟩
  clear o7 b7 B7
  go_wp2
  refine ⟨(HS.out _).2 HB7.out, tail_step ?_⟩
  go_wp2_with (fail)
  refine (eqPl_t p _ _ ls wq HO7.out.1 HO7.out.2).mono ?_
  rintro e wr ⟨rfl, b8⟩
  have HB8 : Hid (Below w10.heap.size w10 wr) := belowCall HB7.out b8 HB7.out.size
  clear b8 HO7
  go_wp2
  refine ⟨(HS.out _).2 HB8.out, tail_step ?_⟩
  go_wp2
  refine ⟨(HS.out _).2 HB8.out, tail_end ?_⟩
  have bE := HB8.out
  have B_wr : Hid (Below w.heap.size w wr) := belowCall B_w10.out bE B_w10.out.size
  have K_wr : Hid (Blk wr w.heap.size (plA p (.slice a ls.length cap)) 63) := K_w10.out.below bE K_w10.out.lt
  have V0_wr : Hid (Rg 18 pkC wr (.slice a0 st.length c0) st) := V0_w10.out.below bE
  have U0_wr : Hid (Ow .i64 3 w2.heap.size wr u0 out) := U0_w10.out.below bE
  have C0_wr : Hid (Blk wr X4 (plA pp (.slice a0 st.length c0)) 42) := C0_w10.out.below bE C0_w10.out.lt
  have X_wr : Hid (Og 18 pkC 40 W4.heap.size wr (.slice ax ls.length cx) ls) := X_w10.out.below bE
  have CX_wr : Hid (Blk wr X6 (plA p (.slice ax ls.length cx)) 42) := CX_w10.out.below bE CX_w10.out.lt
  have G_wr : Hid (Og 18 pkC 40 W6.heap.size wr (.slice ag st.length cg) st) := G_w10.out.below bE
  have UG_wr : Hid (Ow .i64 3 W6.heap.size wr ug out) := UG_w10.out.below bE
  have CG_wr : Hid (Blk wr X8 (plA pp (.slice ag st.length cg)) 42) := CG_w10.out.below bE CG_w10.out.lt
  clear bE HB7 HB8 HS ne zc0 zx0 zc1 zx1 zc2 zx2 zc3 zx3 zc4 zx4 zc5 zx5 B_w10 K_w10 V0_w10 U0_w10 C0_w10 X_w10 CX_w10 G_w10 UG_w10 CG_w10
  have k0 := CX_wr.out.cell 0
  have k1 := CX_wr.out.cell 1
  have k2 := CX_wr.out.cell 2
  have k3 := CX_wr.out.cell 3
  have k4 := CX_wr.out.cell 4
  have k5 := CX_wr.out.cell 5
  simp at k0 k1 k2 k3 k4 k5
  go_wp2_with (fail)
  refine (markPl_c p _ ls 1 W4.heap.size wr X_wr.out (by omega) (by omega)).mono ?_
  rintro e w11 ⟨rfl, om, gm⟩
  have bm : Below w.heap.size wr w11 := grown_below gm B_wr.out.size (fun k hk => Nat.le_trans HSX.out (X_wr.out.lt k hk).1)
  have B_w11 : Hid (Below w.heap.size w w11) := B_wr.out.trans bm
  have K_w11 : Hid (Blk w11 w.heap.size (plA p (.slice a ls.length cap)) 63) := K_wr.out.grownO gm (og_blk_ne X_wr.out K_wr.out (by decide))
  have V0_w11 : Hid (Rg 18 pkC w11 (.slice a0 st.length c0) st) := V0_wr.out.grown gm (.inr NX0.out)
  have U0_w11 : Hid (Ow .i64 3 w2.heap.size w11 u0 out) := U0_wr.out.grownN gm (og_ow_ne X_wr.out U0_wr.out)
  have C0_w11 : Hid (Blk w11 X4 (plA pp (.slice a0 st.length c0)) 42) := C0_wr.out.grownO gm (og_blk_ne X_wr.out C0_wr.out (by decide))
  have CX_w11 : Hid (Blk w11 X6 (plA p (.slice ax ls.length cx)) 42) := CX_wr.out.grownO gm (og_blk_ne X_wr.out CX_wr.out (by decide))
  have G_w11 : Hid (Og 18 pkC 40 W6.heap.size w11 (.slice ag st.length cg) st) := G_wr.out.grownN gm NGX.out
  have UG_w11 : Hid (Ow .i64 3 W6.heap.size w11 ug out) := UG_wr.out.grownN gm (og_ow_ne X_wr.out UG_wr.out)
  have CG_w11 : Hid (Blk w11 X8 (plA pp (.slice ag st.length cg)) 42) := CG_wr.out.grownO gm (og_blk_ne X_wr.out CG_wr.out (by decide))
  clear om gm bm X_wr B_wr K_wr V0_wr U0_wr C0_wr CX_wr G_wr UG_wr CG_wr k0 k1 k2 k3 k4 k5
  have e0 : decide ((1 : Int) + 18 * (ls.length : Int) < 0) = false := by simp only [decide_eq_false_iff_not]; omega
  have k0 := CG_w11.out.cell 0
  have k1 := CG_w11.out.cell 1
  have k2 := CG_w11.out.cell 2
  have k3 := CG_w11.out.cell 3
  have k4 := CG_w11.out.cell 4
  have k5 := CG_w11.out.cell 5
  simp at k0 k1 k2 k3 k4 k5
  have l0 := C0_w11.out.cell 0
  have l1 := C0_w11.out.cell 1
  have l2 := C0_w11.out.cell 2
  have l3 := C0_w11.out.cell 3
  have l4 := C0_w11.out.cell 4
  have l5 := C0_w11.out.cell 5
  simp at l0 l1 l2 l3 l4 l5
  go_wp2_with (fail)
  refine (eqPl_t pp _ _ st w11 (G_w11.out.rd pkC_len) V0_w11.out).mono ?_
  rintro e w12 ⟨rfl, b⟩
  have B_w12 : Hid (Below w.heap.size w w12) := belowCall B_w11.out b B_w11.out.size
  have K_w12 : Hid (Blk w12 w.heap.size (plA p (.slice a ls.length cap)) 63) := K_w11.out.below b K_w11.out.lt
  have V0_w12 : Hid (Rg 18 pkC w12 (.slice a0 st.length c0) st) := V0_w11.out.below b
  have U0_w12 : Hid (Ow .i64 3 w2.heap.size w12 u0 out) := U0_w11.out.below b
  have C0_w12 : Hid (Blk w12 X4 (plA pp (.slice a0 st.length c0)) 42) := C0_w11.out.below b C0_w11.out.lt
  have CX_w12 : Hid (Blk w12 X6 (plA p (.slice ax ls.length cx)) 42) := CX_w11.out.below b CX_w11.out.lt
  have G_w12 : Hid (Og 18 pkC 40 W6.heap.size w12 (.slice ag st.length cg) st) := G_w11.out.below b
  have UG_w12 : Hid (Ow .i64 3 W6.heap.size w12 ug out) := UG_w11.out.below b
  have CG_w12 : Hid (Blk w12 X8 (plA pp (.slice ag st.length cg)) 42) := CG_w11.out.below b CG_w11.out.lt
  clear b B_w11 K_w11 V0_w11 U0_w11 C0_w11 CX_w11 G_w11 UG_w11 CG_w11 k0 k1 k2 k3 k4 k5 l0 l1 l2 l3 l4 l5
  go_wp2_with (fail)
  refine (eqIS _ _ out w12 UG_w12.out.rd U0_w12.out.rd).mono ?_
  rintro e w13 ⟨rfl, b⟩
  have B_w13 : Hid (Below w.heap.size w w13) := belowCall B_w12.out b B_w12.out.size
  have K_w13 : Hid (Blk w13 w.heap.size (plA p (.slice a ls.length cap)) 63) := K_w12.out.below b K_w12.out.lt
  have V0_w13 : Hid (Rg 18 pkC w13 (.slice a0 st.length c0) st) := V0_w12.out.below b
  have U0_w13 : Hid (Ow .i64 3 w2.heap.size w13 u0 out) := U0_w12.out.below b
  have C0_w13 : Hid (Blk w13 X4 (plA pp (.slice a0 st.length c0)) 42) := C0_w12.out.below b C0_w12.out.lt
  have CX_w13 : Hid (Blk w13 X6 (plA p (.slice ax ls.length cx)) 42) := CX_w12.out.below b CX_w12.out.lt
  have G_w13 : Hid (Og 18 pkC 40 W6.heap.size w13 (.slice ag st.length cg) st) := G_w12.out.below b
  have UG_w13 : Hid (Ow .i64 3 W6.heap.size w13 ug out) := UG_w12.out.below b
  have CG_w13 : Hid (Blk w13 X8 (plA pp (.slice ag st.length cg)) 42) := CG_w12.out.below b CG_w12.out.lt
  clear b B_w12 K_w12 V0_w12 U0_w12 C0_w12 CX_w12 G_w12 UG_w12 CG_w12
  have k0 := CG_w13.out.cell 0
  have k1 := CG_w13.out.cell 1
  have k2 := CG_w13.out.cell 2
  have k3 := CG_w13.out.cell 3
  have k4 := CG_w13.out.cell 4
  have k5 := CG_w13.out.cell 5
  simp at k0 k1 k2 k3 k4 k5
  go_wp2_with (fail)
  refine (markPl_c pp _ st 1 W6.heap.size w13 G_w13.out (by omega) (by omega)).mono ?_
  rintro e w14 ⟨rfl, om, gm⟩
  have bm : Below w.heap.size w13 w14 := grown_below gm B_w13.out.size (fun k hk => Nat.le_trans HSG.out (G_w13.out.lt k hk).1)
  have B_w14 : Hid (Below w.heap.size w w14) := B_w13.out.trans bm
  have K_w14 : Hid (Blk w14 w.heap.size (plA p (.slice a ls.length cap)) 63) := K_w13.out.grownO gm (og_blk_ne G_w13.out K_w13.out (by decide))
  have V0_w14 : Hid (Rg 18 pkC w14 (.slice a0 st.length c0) st) := V0_w13.out.grown gm (.inr NG0.out)
  have U0_w14 : Hid (Ow .i64 3 w2.heap.size w14 u0 out) := U0_w13.out.grownN gm (og_ow_ne G_w13.out U0_w13.out)
  have C0_w14 : Hid (Blk w14 X4 (plA pp (.slice a0 st.length c0)) 42) := C0_w13.out.grownO gm (og_blk_ne G_w13.out C0_w13.out (by decide))
  have CX_w14 : Hid (Blk w14 X6 (plA p (.slice ax ls.length cx)) 42) := CX_w13.out.grownO gm (og_blk_ne G_w13.out CX_w13.out (by decide))
  have UG_w14 : Hid (Ow .i64 3 W6.heap.size w14 ug out) := UG_w13.out.grownN gm (og_ow_ne G_w13.out UG_w13.out)
  have CG_w14 : Hid (Blk w14 X8 (plA pp (.slice ag st.length cg)) 42) := CG_w13.out.grownO gm (og_blk_ne G_w13.out CG_w13.out (by decide))
  have GM_w14 : Hid (Og 18 pkC 40 W6.heap.size w14 (.slice ag st.length cg) (mkg (mkPk 1) st.length)) := om
  clear om gm bm G_w13 B_w13 K_w13 V0_w13 U0_w13 C0_w13 CX_w13 UG_w13 CG_w13 k0 k1 k2 k3 k4 k5
  obtain ⟨q1, hq1⟩ : ∃ q, (1 : Int) + 18 * (st.length : Int) = q := ⟨_, rfl⟩
  have hq1b : 0 ≤ q1 ∧ q1 ≤ 20000000 := by omega
  rw [hq1]
  go_wp2_with (fail)
  refine (markI _ out q1 _ w14 UG_w14.out (by omega) (by omega)).mono ?_
  rintro e w15 ⟨rfl, om, gm⟩
  have bm : Below w.heap.size w14 w15 := grown_below gm B_w14.out.size (fun k hk => Nat.le_trans HSG.out (World.ownsRow.lt UG_w14.out k hk).1)
  have B_w15 : Hid (Below w.heap.size w w15) := B_w14.out.trans bm
  have K_w15 : Hid (Blk w15 w.heap.size (plA p (.slice a ls.length cap)) 63) := K_w14.out.grownO gm (own_blk_ne UG_w14.out K_w14.out (by decide))
  have V0_w15 : Hid (Rg 18 pkC w15 (.slice a0 st.length c0) st) := V0_w14.out.grown gm (.inr NV0.out)
  have U0_w15 : Hid (Ow .i64 3 w2.heap.size w15 u0 out) := U0_w14.out.grownN gm NUG.out
  have C0_w15 : Hid (Blk w15 X4 (plA pp (.slice a0 st.length c0)) 42) := C0_w14.out.grownO gm (own_blk_ne UG_w14.out C0_w14.out (by decide))
  have CX_w15 : Hid (Blk w15 X6 (plA p (.slice ax ls.length cx)) 42) := CX_w14.out.grownO gm (own_blk_ne UG_w14.out CX_w14.out (by decide))
  have CG_w15 : Hid (Blk w15 X8 (plA pp (.slice ag st.length cg)) 42) := CG_w14.out.grownO gm (own_blk_ne UG_w14.out CG_w14.out (by decide))
  have GM_w15 : Hid (Og 18 pkC 40 W6.heap.size w15 (.slice ag st.length cg) (mkg (mkPk 1) st.length)) := GM_w14.out.grownN gm (ow_og_ne GM_w14.out UG_w14.out)
  have UM_w15 : Hid (Ow .i64 3 W6.heap.size w15 ug (marks .i64 q1 out.length)) := om
  clear om gm bm UG_w14 B_w14 K_w14 V0_w14 U0_w14 C0_w14 CX_w14 CG_w14 GM_w14
  have e2 : (q1 + (out.length : Int) != q1 + (out.length : Int)) = false := by simp
  have e3 : decide (q1 < 0) = false := by simp only [decide_eq_false_iff_not]; omega
  have e4 : decide (q1 + (out.length : Int) < 0) = false := by simp only [decide_eq_false_iff_not]; omega
  have k0 := CG_w15.out.cell 0
  have k1 := CG_w15.out.cell 1
  have k2 := CG_w15.out.cell 2
  have k3 := CG_w15.out.cell 3
  have k4 := CG_w15.out.cell 4
  have k5 := CG_w15.out.cell 5
  simp at k0 k1 k2 k3 k4 k5
  go_wp2_with (fail)
  refine (heldPl_c pp _ 1 st.length w15 (GM_w15.out.rd pkC_len) (by omega) (by omega)).mono ?_
  rintro e w16 ⟨rfl, b⟩
  rw [hq1]
  have B_w16 : Hid (Below w.heap.size w w16) := belowCall B_w15.out b B_w15.out.size
  have K_w16 : Hid (Blk w16 w.heap.size (plA p (.slice a ls.length cap)) 63) := K_w15.out.below b K_w15.out.lt
  have V0_w16 : Hid (Rg 18 pkC w16 (.slice a0 st.length c0) st) := V0_w15.out.below b
  have U0_w16 : Hid (Ow .i64 3 w2.heap.size w16 u0 out) := U0_w15.out.below b
  have C0_w16 : Hid (Blk w16 X4 (plA pp (.slice a0 st.length c0)) 42) := C0_w15.out.below b C0_w15.out.lt
  have CX_w16 : Hid (Blk w16 X6 (plA p (.slice ax ls.length cx)) 42) := CX_w15.out.below b CX_w15.out.lt
  have CG_w16 : Hid (Blk w16 X8 (plA pp (.slice ag st.length cg)) 42) := CG_w15.out.below b CG_w15.out.lt
  have GM_w16 : Hid (Og 18 pkC 40 W6.heap.size w16 (.slice ag st.length cg) (mkg (mkPk 1) st.length)) := GM_w15.out.below b
  have UM_w16 : Hid (Ow .i64 3 W6.heap.size w16 ug (marks .i64 q1 out.length)) := UM_w15.out.below b
  clear b B_w15 K_w15 V0_w15 U0_w15 C0_w15 CX_w15 CG_w15 GM_w15 UM_w15 k0 k1 k2 k3 k4 k5
  go_wp2_with (fail)
  refine (heldI _ q1 out.length w16 UM_w16.out.rd (by omega) (by omega)).mono ?_
  rintro e w17 ⟨rfl, b⟩
  have B_w17 : Hid (Below w.heap.size w w17) := belowCall B_w16.out b B_w16.out.size
  have K_w17 : Hid (Blk w17 w.heap.size (plA p (.slice a ls.length cap)) 63) := K_w16.out.below b K_w16.out.lt
  have V0_w17 : Hid (Rg 18 pkC w17 (.slice a0 st.length c0) st) := V0_w16.out.below b
  have U0_w17 : Hid (Ow .i64 3 w2.heap.size w17 u0 out) := U0_w16.out.below b
  have C0_w17 : Hid (Blk w17 X4 (plA pp (.slice a0 st.length c0)) 42) := C0_w16.out.below b C0_w16.out.lt
  have CX_w17 : Hid (Blk w17 X6 (plA p (.slice ax ls.length cx)) 42) := CX_w16.out.below b CX_w16.out.lt
  have CG_w17 : Hid (Blk w17 X8 (plA pp (.slice ag st.length cg)) 42) := CG_w16.out.below b CG_w16.out.lt
  have GM_w17 : Hid (Og 18 pkC 40 W6.heap.size w17 (.slice ag st.length cg) (mkg (mkPk 1) st.length)) := GM_w16.out.below b
  have UM_w17 : Hid (Ow .i64 3 W6.heap.size w17 ug (marks .i64 q1 out.length)) := UM_w16.out.below b
  clear b B_w16 K_w16 V0_w16 U0_w16 C0_w16 CX_w16 CG_w16 GM_w16 UM_w16
  have k0 := K_w17.out.cell 0
  have k1 := K_w17.out.cell 1
  have k2 := K_w17.out.cell 2
  have k3 := K_w17.out.cell 3
  have k4 := K_w17.out.cell 4
  have k5 := K_w17.out.cell 5
  simp at k0 k1 k2 k3 k4 k5
  go_wp2_with (fail)
  refine (toPl_c p _ ls w17 (HR0.out.below B_w17.out) HL.out).mono ?_
  rintro e w18 ⟨vb, rfl, ob, b⟩
  have B_w18 : Hid (Below w.heap.size w w18) := belowCall B_w17.out b B_w17.out.size
  have K_w18 : Hid (Blk w18 w.heap.size (plA p (.slice a ls.length cap)) 63) := K_w17.out.below b K_w17.out.lt
  have V0_w18 : Hid (Rg 18 pkC w18 (.slice a0 st.length c0) st) := V0_w17.out.below b
  have U0_w18 : Hid (Ow .i64 3 w2.heap.size w18 u0 out) := U0_w17.out.below b
  have C0_w18 : Hid (Blk w18 X4 (plA pp (.slice a0 st.length c0)) 42) := C0_w17.out.below b C0_w17.out.lt
  have CX_w18 : Hid (Blk w18 X6 (plA p (.slice ax ls.length cx)) 42) := CX_w17.out.below b CX_w17.out.lt
  have CG_w18 : Hid (Blk w18 X8 (plA pp (.slice ag st.length cg)) 42) := CG_w17.out.below b CG_w17.out.lt
  have GM_w18 : Hid (Og 18 pkC 40 W6.heap.size w18 (.slice ag st.length cg) (mkg (mkPk 1) st.length)) := GM_w17.out.below b
  have UM_w18 : Hid (Ow .i64 3 W6.heap.size w18 ug (marks .i64 q1 out.length)) := UM_w17.out.below b
  clear b B_w17 K_w17 V0_w17 U0_w17 C0_w17 CX_w17 CG_w17 GM_w17 UM_w17 k0 k1 k2 k3 k4 k5
  have VB_w18 : Hid (Rg 18 pkC w18 vb ls) := ob.rd pkC_len
  clear ob
  go_wp2_with (fail)
  refine (HI.out w18 _ VB_w18.out (HG.out.below B_w18.out HG.out.lt)).mono ?_
  rintro e w19 ⟨vh, uh, rfl, oh, ouh, b⟩
  have B_w19 : Hid (Below w.heap.size w w19) := belowCall B_w18.out b B_w18.out.size
  have K_w19 : Hid (Blk w19 w.heap.size (plA p (.slice a ls.length cap)) 63) := K_w18.out.below b K_w18.out.lt
  have V0_w19 : Hid (Rg 18 pkC w19 (.slice a0 st.length c0) st) := V0_w18.out.below b
  have U0_w19 : Hid (Ow .i64 3 w2.heap.size w19 u0 out) := U0_w18.out.below b
  have C0_w19 : Hid (Blk w19 X4 (plA pp (.slice a0 st.length c0)) 42) := C0_w18.out.below b C0_w18.out.lt
  have CX_w19 : Hid (Blk w19 X6 (plA p (.slice ax ls.length cx)) 42) := CX_w18.out.below b CX_w18.out.lt
  have CG_w19 : Hid (Blk w19 X8 (plA pp (.slice ag st.length cg)) 42) := CG_w18.out.below b CG_w18.out.lt
  have GM_w19 : Hid (Og 18 pkC 40 W6.heap.size w19 (.slice ag st.length cg) (mkg (mkPk 1) st.length)) := GM_w18.out.below b
  have UM_w19 : Hid (Ow .i64 3 W6.heap.size w19 ug (marks .i64 q1 out.length)) := UM_w18.out.below b
  have VB_w19 : Hid (Rg 18 pkC w19 vb ls) := VB_w18.out.below b
  clear b B_w18 K_w18 V0_w18 U0_w18 C0_w18 CX_w18 CG_w18 GM_w18 UM_w18 VB_w18
  obtain ⟨ah, ch, rfl⟩ := oh.form
  have H_w19 : Hid (Rg 18 pkC w19 (.slice ah st.length ch) st) := oh.rd pkC_len
  have UH_w19 : Hid (Rd .i64 w19 uh out) := ouh.rd
  clear oh ouh
  have ba : Below w19.heap.size w19 (w19.alloc (Obj.cells (#[.int .i64 pp.n, .int .i64 pp.d, .int .i64 pp.l, .int .i64 pp.g, .int .i64 pp.x, .slice ah st.length ch]) 42)) := (Below.refl _ _).alloc (Nat.le_refl _) _
  have kb : Blk (w19.alloc (Obj.cells (#[.int .i64 pp.n, .int .i64 pp.d, .int .i64 pp.l, .int .i64 pp.g, .int .i64 pp.x, .slice ah st.length ch]) 42)) w19.heap.size (plA pp (.slice ah st.length ch)) 42 := Blk.new _ _ _
  obtain ⟨X20, hX20⟩ : ∃ X, w19.heap.size = X := ⟨_, rfl⟩
  obtain ⟨W20, hW20⟩ : ∃ W, w19.alloc (Obj.cells (#[.int .i64 pp.n, .int .i64 pp.d, .int .i64 pp.l, .int .i64 pp.g, .int .i64 pp.x, .slice ah st.length ch]) 42) = W := ⟨_, rfl⟩
  rw [hW20] at ba kb
  rw [hX20] at kb
  have B_W20 : Hid (Below w.heap.size w W20) := belowCall B_w19.out ba B_w19.out.size
  have K_W20 : Hid (Blk W20 w.heap.size (plA p (.slice a ls.length cap)) 63) := K_w19.out.below ba K_w19.out.lt
  have V0_W20 : Hid (Rg 18 pkC W20 (.slice a0 st.length c0) st) := V0_w19.out.below ba
  have U0_W20 : Hid (Ow .i64 3 w2.heap.size W20 u0 out) := U0_w19.out.below ba
  have C0_W20 : Hid (Blk W20 X4 (plA pp (.slice a0 st.length c0)) 42) := C0_w19.out.below ba C0_w19.out.lt
  have CX_W20 : Hid (Blk W20 X6 (plA p (.slice ax ls.length cx)) 42) := CX_w19.out.below ba CX_w19.out.lt
  have CG_W20 : Hid (Blk W20 X8 (plA pp (.slice ag st.length cg)) 42) := CG_w19.out.below ba CG_w19.out.lt
  have GM_W20 : Hid (Og 18 pkC 40 W6.heap.size W20 (.slice ag st.length cg) (mkg (mkPk 1) st.length)) := GM_w19.out.below ba
  have UM_W20 : Hid (Ow .i64 3 W6.heap.size W20 ug (marks .i64 q1 out.length)) := UM_w19.out.below ba
  have H_W20 : Hid (Rg 18 pkC W20 (.slice ah st.length ch) st) := H_w19.out.below ba
  have UH_W20 : Hid (Rd .i64 W20 uh out) := UH_w19.out.below ba
  have CH_W20 : Hid (Blk W20 X20 (plA pp (.slice ah st.length ch)) 42) := kb
  clear ba kb B_w19 K_w19 V0_w19 U0_w19 C0_w19 CX_w19 CG_w19 GM_w19 UM_w19 H_w19 UH_w19
  have k0 := CH_W20.out.cell 0
  have k1 := CH_W20.out.cell 1
  have k2 := CH_W20.out.cell 2
  have k3 := CH_W20.out.cell 3
  have k4 := CH_W20.out.cell 4
  have k5 := CH_W20.out.cell 5
  simp at k0 k1 k2 k3 k4 k5
  have l0 := C0_W20.out.cell 0
  have l1 := C0_W20.out.cell 1
  have l2 := C0_W20.out.cell 2
  have l3 := C0_W20.out.cell 3
  have l4 := C0_W20.out.cell 4
  have l5 := C0_W20.out.cell 5
  simp at l0 l1 l2 l3 l4 l5
  go_wp2_with (fail)
  refine (eqPl_t pp _ _ st W20 H_W20.out V0_W20.out).mono ?_
  rintro e w21 ⟨rfl, b⟩
  have B_w21 : Hid (Below w.heap.size w w21) := belowCall B_W20.out b B_W20.out.size
  have K_w21 : Hid (Blk w21 w.heap.size (plA p (.slice a ls.length cap)) 63) := K_W20.out.below b K_W20.out.lt
  have V0_w21 : Hid (Rg 18 pkC w21 (.slice a0 st.length c0) st) := V0_W20.out.below b
  have U0_w21 : Hid (Ow .i64 3 w2.heap.size w21 u0 out) := U0_W20.out.below b
  have C0_w21 : Hid (Blk w21 X4 (plA pp (.slice a0 st.length c0)) 42) := C0_W20.out.below b C0_W20.out.lt
  have CX_w21 : Hid (Blk w21 X6 (plA p (.slice ax ls.length cx)) 42) := CX_W20.out.below b CX_W20.out.lt
  have CG_w21 : Hid (Blk w21 X8 (plA pp (.slice ag st.length cg)) 42) := CG_W20.out.below b CG_W20.out.lt
  have GM_w21 : Hid (Og 18 pkC 40 W6.heap.size w21 (.slice ag st.length cg) (mkg (mkPk 1) st.length)) := GM_W20.out.below b
  have UM_w21 : Hid (Ow .i64 3 W6.heap.size w21 ug (marks .i64 q1 out.length)) := UM_W20.out.below b
  have H_w21 : Hid (Rg 18 pkC w21 (.slice ah st.length ch) st) := H_W20.out.below b
  have UH_w21 : Hid (Rd .i64 w21 uh out) := UH_W20.out.below b
  have CH_w21 : Hid (Blk w21 X20 (plA pp (.slice ah st.length ch)) 42) := CH_W20.out.below b CH_W20.out.lt
  clear b B_W20 K_W20 V0_W20 U0_W20 C0_W20 CX_W20 CG_W20 GM_W20 UM_W20 H_W20 UH_W20 CH_W20 VB_w19 hW20 hX20 k0 k1 k2 k3 k4 k5 l0 l1 l2 l3 l4 l5
  go_wp2_with (fail)
  refine (eqIS _ _ out w21 UH_w21.out U0_w21.out.rd).mono ?_
  rintro e w22 ⟨rfl, b⟩
  have B_w22 : Hid (Below w.heap.size w w22) := belowCall B_w21.out b B_w21.out.size
  have K_w22 : Hid (Blk w22 w.heap.size (plA p (.slice a ls.length cap)) 63) := K_w21.out.below b K_w21.out.lt
  have V0_w22 : Hid (Rg 18 pkC w22 (.slice a0 st.length c0) st) := V0_w21.out.below b
  have U0_w22 : Hid (Ow .i64 3 w2.heap.size w22 u0 out) := U0_w21.out.below b
  have C0_w22 : Hid (Blk w22 X4 (plA pp (.slice a0 st.length c0)) 42) := C0_w21.out.below b C0_w21.out.lt
  have CX_w22 : Hid (Blk w22 X6 (plA p (.slice ax ls.length cx)) 42) := CX_w21.out.below b CX_w21.out.lt
  have CG_w22 : Hid (Blk w22 X8 (plA pp (.slice ag st.length cg)) 42) := CG_w21.out.below b CG_w21.out.lt
  have GM_w22 : Hid (Og 18 pkC 40 W6.heap.size w22 (.slice ag st.length cg) (mkg (mkPk 1) st.length)) := GM_w21.out.below b
  have UM_w22 : Hid (Ow .i64 3 W6.heap.size w22 ug (marks .i64 q1 out.length)) := UM_w21.out.below b
  have H_w22 : Hid (Rg 18 pkC w22 (.slice ah st.length ch) st) := H_w21.out.below b
  have UH_w22 : Hid (Rd .i64 w22 uh out) := UH_w21.out.below b
  have CH_w22 : Hid (Blk w22 X20 (plA pp (.slice ah st.length ch)) 42) := CH_w21.out.below b CH_w21.out.lt
  clear b B_w21 K_w21 V0_w21 U0_w21 C0_w21 CX_w21 CG_w21 GM_w21 UM_w21 H_w21 UH_w21 CH_w21
  have k0 := CG_w22.out.cell 0
  have k1 := CG_w22.out.cell 1
  have k2 := CG_w22.out.cell 2
  have k3 := CG_w22.out.cell 3
  have k4 := CG_w22.out.cell 4
  have k5 := CG_w22.out.cell 5
  simp at k0 k1 k2 k3 k4 k5
  go_wp2_with (fail)
  refine (heldPl_c pp _ 1 st.length w22 (GM_w22.out.rd pkC_len) (by omega) (by omega)).mono ?_
  rintro e w23 ⟨rfl, b⟩
  rw [hq1]
  have B_w23 : Hid (Below w.heap.size w w23) := belowCall B_w22.out b B_w22.out.size
  have K_w23 : Hid (Blk w23 w.heap.size (plA p (.slice a ls.length cap)) 63) := K_w22.out.below b K_w22.out.lt
  have V0_w23 : Hid (Rg 18 pkC w23 (.slice a0 st.length c0) st) := V0_w22.out.below b
  have U0_w23 : Hid (Ow .i64 3 w2.heap.size w23 u0 out) := U0_w22.out.below b
  have C0_w23 : Hid (Blk w23 X4 (plA pp (.slice a0 st.length c0)) 42) := C0_w22.out.below b C0_w22.out.lt
  have CX_w23 : Hid (Blk w23 X6 (plA p (.slice ax ls.length cx)) 42) := CX_w22.out.below b CX_w22.out.lt
  have CG_w23 : Hid (Blk w23 X8 (plA pp (.slice ag st.length cg)) 42) := CG_w22.out.below b CG_w22.out.lt
  have GM_w23 : Hid (Og 18 pkC 40 W6.heap.size w23 (.slice ag st.length cg) (mkg (mkPk 1) st.length)) := GM_w22.out.below b
  have UM_w23 : Hid (Ow .i64 3 W6.heap.size w23 ug (marks .i64 q1 out.length)) := UM_w22.out.below b
  have H_w23 : Hid (Rg 18 pkC w23 (.slice ah st.length ch) st) := H_w22.out.below b
  have UH_w23 : Hid (Rd .i64 w23 uh out) := UH_w22.out.below b
  have CH_w23 : Hid (Blk w23 X20 (plA pp (.slice ah st.length ch)) 42) := CH_w22.out.below b CH_w22.out.lt
  clear b B_w22 K_w22 V0_w22 U0_w22 C0_w22 CX_w22 CG_w22 GM_w22 UM_w22 H_w22 UH_w22 CH_w22 k0 k1 k2 k3 k4 k5
  go_wp2_with (fail)
  refine (heldI _ q1 out.length w23 UM_w23.out.rd (by omega) (by omega)).mono ?_
  rintro e w24 ⟨rfl, b⟩
  have B_w24 : Hid (Below w.heap.size w w24) := belowCall B_w23.out b B_w23.out.size
  have K_w24 : Hid (Blk w24 w.heap.size (plA p (.slice a ls.length cap)) 63) := K_w23.out.below b K_w23.out.lt
  have V0_w24 : Hid (Rg 18 pkC w24 (.slice a0 st.length c0) st) := V0_w23.out.below b
  have U0_w24 : Hid (Ow .i64 3 w2.heap.size w24 u0 out) := U0_w23.out.below b
  have C0_w24 : Hid (Blk w24 X4 (plA pp (.slice a0 st.length c0)) 42) := C0_w23.out.below b C0_w23.out.lt
  have CX_w24 : Hid (Blk w24 X6 (plA p (.slice ax ls.length cx)) 42) := CX_w23.out.below b CX_w23.out.lt
  have CG_w24 : Hid (Blk w24 X8 (plA pp (.slice ag st.length cg)) 42) := CG_w23.out.below b CG_w23.out.lt
  have GM_w24 : Hid (Og 18 pkC 40 W6.heap.size w24 (.slice ag st.length cg) (mkg (mkPk 1) st.length)) := GM_w23.out.below b
  have UM_w24 : Hid (Ow .i64 3 W6.heap.size w24 ug (marks .i64 q1 out.length)) := UM_w23.out.below b
  have H_w24 : Hid (Rg 18 pkC w24 (.slice ah st.length ch) st) := H_w23.out.below b
  have UH_w24 : Hid (Rd .i64 w24 uh out) := UH_w23.out.below b
  have CH_w24 : Hid (Blk w24 X20 (plA pp (.slice ah st.length ch)) 42) := CH_w23.out.below b CH_w23.out.lt
  clear b B_w23 K_w23 V0_w23 U0_w23 C0_w23 CX_w23 CG_w23 GM_w23 UM_w23 H_w23 UH_w23 CH_w23
  go_wp2
  go_ret
  exact ⟨rfl, B_w24.out⟩

end Go.Proofs.YtkjfcebdjnclaaaDoor

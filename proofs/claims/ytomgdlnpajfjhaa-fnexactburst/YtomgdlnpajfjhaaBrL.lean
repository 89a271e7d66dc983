/- The walk of the law of Burst; no condition. -/
import Derived.Test.YtomgdlnpajfjhaaBri
import Derived.Test.YtomgdlnpajfjhaaBrm
import Derived.Test.YtomgdlnpajfjhaaMks
namespace Go.Proofs.Ytomgdlnpajfjhaa
open Go.RowKit Go.ChangeShapes Go.WideShapes Go.ChangeAt
set_option linter.unusedVariables false
set_option linter.unusedSimpArgs false
set_option maxRecDepth 8000
theorem blk_ne {v v' : Value} {P : Nat} (h : ∀ k, v.ownBlock = some k → k < P) (h' : ∀ k, v'.ownBlock = some k → P ≤ k) : v.ownBlock = none ∨ v.ownBlock ≠ v'.ownBlock := by
  cases hv : v.ownBlock with
  | none => exact .inl rfl
  | some k => exact .inr (fun e => by have := h k hv; have := h' k e.symm; omega)
theorem blk_ne' {v v' : Value} {P : Nat} (h : ∀ k, v.ownBlock = some k → P ≤ k) (h' : ∀ k, v'.ownBlock = some k → k < P) : v.ownBlock = none ∨ v.ownBlock ≠ v'.ownBlock := by
  cases hv : v.ownBlock with
  | none => exact .inl rfl
  | some k => exact .inr (fun e => by have := h k hv; have := h' k e.symm; omega)
theorem Rd.blk {k : IntKind} {w : World} {v : Value} {zs : List Int} (h : Rd k w v zs) : zs = [] ∨ ∀ j, v.ownBlock = some j → j < w.heap.size := by
  obtain ⟨a, cap, rfl, h1, h2, h3⟩ := h
  rcases h3 with h3 | ⟨b, off, rfl, h4⟩
  · exact .inl h3
  · cases zs with
    | nil => exact .inl rfl
    | cons z r => exact .inr (fun j e => by simp [Value.ownBlock] at e; subst e; exact block_lt_of_cell (h4 0 (by simp)))
theorem Rd.rowE {k : IntKind} {w w' : World} {v : Value} {zs : List Int} {row : Option Nat} (h : Rd k w v zs) (hg : w.grownBy w' row) (hne : zs = [] ∨ v.ownBlock = none ∨ v.ownBlock ≠ row) : Rd k w' v zs := by
  rcases hne with h0 | hne
  · obtain ⟨a, cap, h1, h2, h3, _⟩ := h
    exact ⟨a, cap, h1, h2, h3, .inl h0⟩
  · exact h.grown hg hne
theorem br_len (zs : List Int) : (brL zs).length ≤ 400 := by
  unfold brL
  split
  · rename_i h
    unfold brB at h
    simp only [Bool.and_eq_true, decide_eq_true_eq] at h
    have := h.1.1.2
    simp [brS_len, trL_len]; omega
  · simp
set_option maxHeartbeats 12800000 in
theorem burstLaw (v : Value) (zs : List Int) (w : World) (h : Rd .i64 w v zs) : Calls Try.prog 4 #[v] w fun e w' => e = .returned (.bool true) ∧ Below w.heap.size w w' := by
  have HR : Hid (Rd .i64 w v zs) := h
  obtain ⟨a, cap, hv, h1, h2, -⟩ := h
  unfold maxLen at h2
  have hsf := storeF
  by_cases hl : (1048576 : Int) < (zs.length : Int)
  · subst hv
    go_enter Try.func4, Try.ntmps4
    go_wp2
    go_ret
    exact ⟨rfl, Below.refl _ _⟩
  have HLN : Hid (zs.length ≤ 1048576) := by show _ ≤ _; omega
  have hld : decide ((1048576 : Int) < (zs.length : Int)) = false := decide_eq_false hl
  obtain ⟨bb0, hbb0⟩ : ∃ b, brB zs = b := ⟨_, rfl⟩
  have HBB : Hid (brB zs = bb0) := hbb0
  obtain ⟨L, hL⟩ : ∃ L, brL zs = L := ⟨_, rfl⟩
  have HL : Hid (brL zs = L) := hL
  have HLL : Hid (L.length ≤ 400) := by show _ ≤ _; rw [← hL]; exact br_len zs
  have hne : (bb0 != bb0) = false := by simp
  have HCM : Hid (∀ (x : Value) (W : World), Rd .i64 W x zs → Calls Try.prog 14 #[x] W fun e w' => ∃ v, e = .returned (.tuple #[v, .bool bb0]) ∧ Og 2 smC 27 W.heap.size w' v L ∧ Below W.heap.size W w') := fun x W hx => by
    have := burstM_c x zs W hx
    unfold BrR at this
    rw [HBB.out, HL.out] at this; exact this
  have HCI : Hid (∀ (x : Value) (W : World), Rd .i64 W x zs → Calls Try.prog 7 #[x] W fun e w' => ∃ v, e = .returned (.tuple #[v, .bool bb0]) ∧ Og 2 smC 27 W.heap.size w' v L ∧ Below W.heap.size W w') := fun x W hx => by
    have := burstI_c x zs W hx
    unfold BrR at this
    rw [HBB.out, HL.out] at this; exact this
  clear hbb0 hL
  have HV : Hid (v = .slice a zs.length cap) := hv
  subst hv
  go_enter Try.func4, Try.ntmps4
  obtain ⟨v, hv⟩ : ∃ v, Value.slice a zs.length cap = v := ⟨_, rfl⟩
  have HVV : Hid (Value.slice a zs.length cap = v) := hv
  rw [hv] at HR
  clear hv HV
  go_wp2_with (fail)
  rw [HVV.out]
  clear HVV h1 h2 hl hld
  have HB0 : Hid (Below w.heap.size w w) := Below.refl _ _
  have KR0 : Hid (Rd .i64 w v zs) := HR.out
  refine (toI v zs _ KR0.out HLN.out).mono ?_
  rintro e w1 ⟨v1, rfl, o1, bb⟩
  have HB1 : Hid (Below w.heap.size w w1) := belowCall HB0.out bb HB0.out.size
  have KR1 : Hid (Rd .i64 w1 v zs) := KR0.out.below bb
  clear KR0
  have KA1 : Hid (Rd .i64 w1 v1 zs) := o1.rd
  clear bb o1
  go_wp2_with (fail)
  refine (HCM.out v1 _ KA1.out).mono ?_
  rintro e w2 ⟨vm, rfl, o1, bb⟩
  have HB2 : Hid (Below w.heap.size w w2) := belowCall HB1.out bb HB1.out.size
  have KR2 : Hid (Rd .i64 w2 v zs) := KR1.out.below bb
  have KA2 : Hid (Rd .i64 w2 v1 zs) := KA1.out.below bb
  clear KR1 KA1
  have KM2 : Hid (Rg 2 smC w2 vm L) := o1.rd smC_len
  have HPM : Hid (∀ k, vm.ownBlock = some k → k < w2.heap.size) := fun k e => (o1.lt k e).2
  have HPV : Hid (w.heap.size ≤ w2.heap.size) := HB2.out.size
  clear bb o1
  go_wp2_with (fail)
  refine (toI v zs _ KR2.out HLN.out).mono ?_
  rintro e w3 ⟨x3, rfl, o1, bb⟩
  have HB3 : Hid (Below w.heap.size w w3) := belowCall HB2.out bb HB2.out.size
  have KR3 : Hid (Rd .i64 w3 v zs) := KR2.out.below bb
  have KA3 : Hid (Rd .i64 w3 v1 zs) := KA2.out.below bb
  have KM3 : Hid (Rg 2 smC w3 vm L) := KM2.out.below bb
  clear KR2 KA2 KM2
  have KX3 : Hid (Ow .i64 3 w2.heap.size w3 x3 zs) := o1
  have HPX : Hid (∀ k, x3.ownBlock = some k → w2.heap.size ≤ k ∧ k < w3.heap.size) := fun k e => World.ownsRow.lt o1 k e
  have HP3 : Hid (w.heap.size ≤ w3.heap.size ∧ w2.heap.size ≤ w3.heap.size) := ⟨HB3.out.size, bb.size⟩
  clear bb o1
  go_wp2_with (fail)
  refine (HCI.out x3 _ KX3.out.rd).mono ?_
  rintro e w4 ⟨vg, rfl, o1, bb⟩
  have HB4 : Hid (Below w.heap.size w w4) := belowCall HB3.out bb HB3.out.size
  have KR4 : Hid (Rd .i64 w4 v zs) := KR3.out.below bb
  have KA4 : Hid (Rd .i64 w4 v1 zs) := KA3.out.below bb
  have KM4 : Hid (Rg 2 smC w4 vm L) := KM3.out.below bb
  have KX4 : Hid (Ow .i64 3 w2.heap.size w4 x3 zs) := KX3.out.below bb
  clear KR3 KA3 KM3 KX3
  have KG4 : Hid (Og 2 smC 27 w3.heap.size w4 vg L) := o1
  have HPG : Hid (∀ k, vg.ownBlock = some k → w3.heap.size ≤ k) := fun k e => (o1.lt k e).1
  clear bb o1
  go_wp2_with (fail)
  refine (eqSmS_t vg vm L _ (KG4.out.rd smC_len) KM4.out).mono ?_
  rintro e w5 ⟨rfl, bb⟩
  have HB5 : Hid (Below w.heap.size w w5) := belowCall HB4.out bb HB4.out.size
  have KR5 : Hid (Rd .i64 w5 v zs) := KR4.out.below bb
  have KA5 : Hid (Rd .i64 w5 v1 zs) := KA4.out.below bb
  have KM5 : Hid (Rg 2 smC w5 vm L) := KM4.out.below bb
  have KX5 : Hid (Ow .i64 3 w2.heap.size w5 x3 zs) := KX4.out.below bb
  have KG5 : Hid (Og 2 smC 27 w3.heap.size w5 vg L) := KG4.out.below bb
  clear KR4 KA4 KM4 KX4 KG4
  clear bb
  go_wp2_with (fail)
  refine (toI v zs _ KR5.out HLN.out).mono ?_
  rintro e w6 ⟨v6, rfl, o1, bb⟩
  have HB6 : Hid (Below w.heap.size w w6) := belowCall HB5.out bb HB5.out.size
  have KR6 : Hid (Rd .i64 w6 v zs) := KR5.out.below bb
  have KA6 : Hid (Rd .i64 w6 v1 zs) := KA5.out.below bb
  have KM6 : Hid (Rg 2 smC w6 vm L) := KM5.out.below bb
  have KX6 : Hid (Ow .i64 3 w2.heap.size w6 x3 zs) := KX5.out.below bb
  have KG6 : Hid (Og 2 smC 27 w3.heap.size w6 vg L) := KG5.out.below bb
  clear KR5 KA5 KM5 KX5 KG5
  have KZ6 : Hid (Rd .i64 w6 v6 zs) := o1.rd
  clear bb o1
  go_wp2_with (fail)
  refine (eqIS x3 v6 zs _ KX6.out.rd KZ6.out).mono ?_
  rintro e w7 ⟨rfl, bb⟩
  have HB7 : Hid (Below w.heap.size w w7) := belowCall HB6.out bb HB6.out.size
  have KR7 : Hid (Rd .i64 w7 v zs) := KR6.out.below bb
  have KA7 : Hid (Rd .i64 w7 v1 zs) := KA6.out.below bb
  have KM7 : Hid (Rg 2 smC w7 vm L) := KM6.out.below bb
  have KX7 : Hid (Ow .i64 3 w2.heap.size w7 x3 zs) := KX6.out.below bb
  have KG7 : Hid (Og 2 smC 27 w3.heap.size w7 vg L) := KG6.out.below bb
  have KZ7 : Hid (Rd .i64 w7 v6 zs) := KZ6.out.below bb
  clear KR6 KA6 KM6 KX6 KG6 KZ6
  clear bb
  have HRB : Hid (zs = [] ∨ ∀ k, v.ownBlock = some k → k < w.heap.size) := HR.out.blk
  go_wp2_with (fail)
  refine (markI x3 zs 1 w2.heap.size _ KX7.out (by omega) (by have := HLN.out; omega)).mono ?_
  rintro e w8 ⟨rfl, -, gg⟩
  have HB8 : Hid (Below w.heap.size w w8) := HB7.out.trans (grown_below gg HB7.out.size (fun k e => by have := (HPX.out k e).1; have := HPV.out; omega))
  have KR8 : Hid (Rd .i64 w8 v zs) := KR7.out.rowE gg (by rcases HRB.out with h | h; exact .inl h; exact .inr (blk_ne h (fun k e => by have := (HPX.out k e).1; have := HPV.out; omega)))
  have KM8 : Hid (Rg 2 smC w8 vm L) := KM7.out.grown gg (.inr (blk_ne HPM.out (fun k e => (HPX.out k e).1)))
  have KG8 : Hid (Og 2 smC 27 w3.heap.size w8 vg L) := World.ownsRow.kept KG7.out gg (blk_ne' HPG.out (fun k e => (HPX.out k e).2))
  clear gg
  have hk0 : ¬ (1 + (zs.length : Int)) < 0 := by omega
  have hk1 : decide ((1 + (zs.length : Int)) < 0) = false := decide_eq_false hk0
  go_wp2_with (fail)
  refine (eqSmS_t vg vm L _ (KG8.out.rd smC_len) KM8.out).mono ?_
  rintro e w9 ⟨rfl, bb⟩
  have HB9 : Hid (Below w.heap.size w w9) := belowCall HB8.out bb HB8.out.size
  have KR9 : Hid (Rd .i64 w9 v zs) := KR8.out.below bb
  have KM9 : Hid (Rg 2 smC w9 vm L) := KM8.out.below bb
  have KG9 : Hid (Og 2 smC 27 w3.heap.size w9 vg L) := KG8.out.below bb
  clear KR8 KM8 KG8
  clear bb
  go_wp2_with (fail)
  refine (markSm_c vg L 1 w3.heap.size _ KG9.out (by omega) (by omega) (by have := HLL.out; omega)).mono ?_
  rintro e w10 ⟨rfl, oo, gg⟩
  have HB10 : Hid (Below w.heap.size w w10) := HB9.out.trans (grown_below gg HB9.out.size (fun k e => by have := HPG.out k e; have := HP3.out; omega))
  have KR10 : Hid (Rd .i64 w10 v zs) := KR9.out.rowE gg (by rcases HRB.out with h | h; exact .inl h; exact .inr (blk_ne h (fun k e => by have := HPG.out k e; have := HP3.out; omega)))
  have KM10 : Hid (Rg 2 smC w10 vm L) := KM9.out.grown gg (.inr (blk_ne HPM.out (fun k e => by have := HPG.out k e; have := HP3.out; omega)))
  have KH10 : Hid (Og 2 smC 27 w3.heap.size w10 vg (mkg (mkf 1) L.length)) := oo
  clear gg oo
  have hm0 : ¬ (1 + 2 * (L.length : Int)) < 0 := by omega
  have hm1 : ((1 + 2 * (L.length : Int)) != (1 + 2 * (L.length : Int))) = false := by simp
  go_wp2_with (fail)
  refine (heldSm_c vg 1 L.length _ (KH10.out.rd smC_len) (by omega) (by omega) (by have := HLL.out; omega)).mono ?_
  rintro e w11 ⟨rfl, bb⟩
  have HB11 : Hid (Below w.heap.size w w11) := belowCall HB10.out bb HB10.out.size
  have KR11 : Hid (Rd .i64 w11 v zs) := KR10.out.below bb
  have KM11 : Hid (Rg 2 smC w11 vm L) := KM10.out.below bb
  have KH11 : Hid (Og 2 smC 27 w3.heap.size w11 vg (mkg (mkf 1) L.length)) := KH10.out.below bb
  clear KR10 KM10 KH10
  clear bb
  go_wp2_with (fail)
  refine (toI v zs _ KR11.out HLN.out).mono ?_
  rintro e w12 ⟨v12, rfl, o1, bb⟩
  have HB12 : Hid (Below w.heap.size w w12) := belowCall HB11.out bb HB11.out.size
  have KR12 : Hid (Rd .i64 w12 v zs) := KR11.out.below bb
  have KM12 : Hid (Rg 2 smC w12 vm L) := KM11.out.below bb
  have KH12 : Hid (Og 2 smC 27 w3.heap.size w12 vg (mkg (mkf 1) L.length)) := KH11.out.below bb
  clear KR11 KM11 KH11
  have KY12 : Hid (Rd .i64 w12 v12 zs) := o1.rd
  clear bb o1
  go_wp2_with (fail)
  refine (HCI.out v12 _ KY12.out).mono ?_
  rintro e w13 ⟨vh, rfl, o1, bb⟩
  have HB13 : Hid (Below w.heap.size w w13) := belowCall HB12.out bb HB12.out.size
  have KR13 : Hid (Rd .i64 w13 v zs) := KR12.out.below bb
  have KM13 : Hid (Rg 2 smC w13 vm L) := KM12.out.below bb
  have KH13 : Hid (Og 2 smC 27 w3.heap.size w13 vg (mkg (mkf 1) L.length)) := KH12.out.below bb
  have KY13 : Hid (Rd .i64 w13 v12 zs) := KY12.out.below bb
  clear KR12 KM12 KH12 KY12
  have KJ13 : Hid (Rg 2 smC w13 vh L) := o1.rd smC_len
  clear bb o1
  go_wp2_with (fail)
  refine (eqSmS_t vh vm L _ KJ13.out KM13.out).mono ?_
  rintro e w14 ⟨rfl, bb⟩
  have HB14 : Hid (Below w.heap.size w w14) := belowCall HB13.out bb HB13.out.size
  have KR14 : Hid (Rd .i64 w14 v zs) := KR13.out.below bb
  have KM14 : Hid (Rg 2 smC w14 vm L) := KM13.out.below bb
  have KH14 : Hid (Og 2 smC 27 w3.heap.size w14 vg (mkg (mkf 1) L.length)) := KH13.out.below bb
  have KY14 : Hid (Rd .i64 w14 v12 zs) := KY13.out.below bb
  have KJ14 : Hid (Rg 2 smC w14 vh L) := KJ13.out.below bb
  clear KR13 KM13 KH13 KY13 KJ13
  clear bb
  go_wp2_with (fail)
  refine (heldSm_c vg 1 L.length _ (KH14.out.rd smC_len) (by omega) (by omega) (by have := HLL.out; omega)).mono ?_
  rintro e w15 ⟨rfl, bb⟩
  have HB15 : Hid (Below w.heap.size w w15) := belowCall HB14.out bb HB14.out.size
  have KR15 : Hid (Rd .i64 w15 v zs) := KR14.out.below bb
  have KM15 : Hid (Rg 2 smC w15 vm L) := KM14.out.below bb
  have KH15 : Hid (Og 2 smC 27 w3.heap.size w15 vg (mkg (mkf 1) L.length)) := KH14.out.below bb
  have KY15 : Hid (Rd .i64 w15 v12 zs) := KY14.out.below bb
  have KJ15 : Hid (Rg 2 smC w15 vh L) := KJ14.out.below bb
  clear KR14 KM14 KH14 KY14 KJ14
  clear bb
  go_wp2
  go_ret
  exact ⟨rfl, HB15.out⟩

end Go.Proofs.Ytomgdlnpajfjhaa

/- The law of Admit; no condition. -/
import Derived.Test.YtikgempdohpdjaaAdi
import Derived.Test.YtikgempdohpdjaaAdm
import Derived.Test.YtikgempdohpdjaaLwb
namespace Go.Proofs.Ytikgempdohpdjaa
open Go.RowKit Go.ChangeShapes Go.WideShapes Go.ChangeAt
set_option linter.unusedVariables false
set_option linter.unusedSimpArgs false
set_option maxRecDepth 8000

theorem ob_blk {base : Nat} {w : World} {v : Value} {bs : List Bool} (h : Ob base w v bs) : ∀ k, v.ownBlock = some k → base ≤ k ∧ k < w.heap.size := fun k e => World.ownsRow.lt h k e
theorem ow_blk {k' : IntKind} {e' : TypeId} {base : Nat} {w : World} {v : Value} {bs : List Int} (h : Ow k' e' base w v bs) : ∀ k, v.ownBlock = some k → base ≤ k ∧ k < w.heap.size := fun k e => World.ownsRow.lt h k e
theorem adR_len (hs : List Int) (room : Int) (zs : List Int) : (adR hs room zs).length ≤ zs.length := by
  cases h : adB hs room zs with
  | false => rw [adR_no h]; simp
  | true => rw [adR_yes h, adL_len]; exact Nat.le_refl _
set_option maxHeartbeats 12800000 in
theorem admitLaw (v : Value) (hs : List Int) (room : Int) (u : Value) (zs : List Int) (w : World) (h : Rd .i64 w v hs) (hwf : (Lit.int .i64 room).wf = true) (h' : Rd .i64 w u zs) : Calls Try.prog 11 #[v, .int .i64 room, u] w fun e w' => e = .returned (.bool true) ∧ Below w.heap.size w w' := by
  have HR : Hid (Rd .i64 w v hs) := h
  have HR' : Hid (Rd .i64 w u zs) := h'
  obtain ⟨a, cap, hv, h1, h2, -⟩ := h
  obtain ⟨a', cap', hu, h1', h2', -⟩ := h'
  unfold maxLen at h2 h2'
  clear hwf
  by_cases hbig : (1048576 : Int) < (hs.length : Int)
  case pos =>
    subst hv hu
    have hd : decide ((1048576 : Int) < (hs.length : Int)) = true := decide_eq_true hbig
    go_enter Try.func11, Try.ntmps11
    go_wp2
    go_ret
    exact ⟨rfl, Below.refl _ _⟩
  have HLN : Hid (hs.length ≤ 1048576) := by show _ ≤ _; omega
  have hd : decide ((1048576 : Int) < (hs.length : Int)) = false := decide_eq_false hbig
  have he : ((1048576 : Int) < (hs.length : Int)) = False := eq_false hbig
  clear hbig
  by_cases hbig : (1048576 : Int) < (zs.length : Int)
  case pos =>
    subst hv hu
    have hd : decide ((1048576 : Int) < (zs.length : Int)) = true := decide_eq_true hbig
    go_enter Try.func11, Try.ntmps11
    go_wp2
    go_ret
    exact ⟨rfl, Below.refl _ _⟩
  have HLN' : Hid (zs.length ≤ 1048576) := by show _ ≤ _; omega
  have hd' : decide ((1048576 : Int) < (zs.length : Int)) = false := decide_eq_false hbig
  have he' : ((1048576 : Int) < (zs.length : Int)) = False := eq_false hbig
  obtain ⟨bb0, hbb0⟩ : ∃ b, adB hs room zs = b := ⟨_, rfl⟩
  obtain ⟨L, hL⟩ : ∃ L, adR hs room zs = L := ⟨_, rfl⟩
  have HLL : Hid (L.length ≤ 1048576) := by show _ ≤ _; rw [← hL]; have := adR_len hs room zs; omega
  have hne : (bb0 != bb0) = false := by simp
  have HCM : Hid (∀ (x y : Value) (W : World), Rd .i64 W x hs → Rd .i64 W y zs → Calls Try.prog 26 #[x, .int .i64 room, y] W fun e w' => ∃ v, e = .returned (.tuple #[v, .bool bb0]) ∧ Ob W.heap.size w' v L ∧ Below W.heap.size W w') := fun x y W hx hy => by
    have := adM_c x hs room y zs W hx hy
    unfold AdR at this
    rw [hbb0, hL] at this; exact this
  have HCI : Hid (∀ (x y : Value) (W : World), Rd .i64 W x hs → Rd .i64 W y zs → Calls Try.prog 25 #[x, .int .i64 room, y] W fun e w' => ∃ v, e = .returned (.tuple #[v, .bool bb0]) ∧ Ob W.heap.size w' v L ∧ Below W.heap.size W w') := fun x y W hx hy => by
    have := adI_c x hs room y zs W hx hy
    unfold AdR at this
    rw [hbb0, hL] at this; exact this
  clear hbig hbb0 hL
  subst hv hu
  go_enter Try.func11, Try.ntmps11
  go_wp2_with (fail)
  obtain ⟨v0, hv0⟩ : ∃ x, Value.slice a hs.length cap = x := ⟨_, rfl⟩
  obtain ⟨u0, hu0⟩ : ∃ x, Value.slice a' zs.length cap' = x := ⟨_, rfl⟩
  rw [hv0] at HR ⊢
  rw [hu0] at HR' ⊢
  clear hd he h1 h2 hv0 hd' he' h1' h2' hu0
  have HB0 : Hid (Below w.heap.size w w) := Below.refl _ _
  go_wp2_with (fail)
  refine (toI v0 hs _ (HR.out.below HB0.out) HLN.out).mono ?_
  rintro e w1 ⟨x1, rfl, o1, bb⟩
  have HB1 : Hid (Below w.heap.size w w1) := belowCall HB0.out bb HB0.out.size
  have KA1 : Hid (Ow .i64 3 w.heap.size w1 x1 hs) := o1
  clear bb o1
  go_wp2_with (fail)
  refine (toI u0 zs _ (HR'.out.below HB1.out) HLN'.out).mono ?_
  rintro e w2 ⟨x2, rfl, o1, bb⟩
  have HB2 : Hid (Below w.heap.size w w2) := belowCall HB1.out bb HB1.out.size
  have KA2 : Hid (Ow .i64 3 w.heap.size w2 x1 hs) := KA1.out.below bb
  clear KA1
  clear HB1
  have KC2 : Hid (Ow .i64 3 w1.heap.size w2 x2 zs) := o1
  clear bb o1
  go_wp2_with (fail)
  refine (HCM.out x1 x2 _ KA2.out.rd KC2.out.rd).mono ?_
  rintro e w3 ⟨vm, rfl, o1, bb⟩
  have HB3 : Hid (Below w.heap.size w w3) := belowCall HB2.out bb HB2.out.size
  have KA3 : Hid (Ow .i64 3 w.heap.size w3 x1 hs) := KA2.out.below bb
  clear KA2
  have KC3 : Hid (Ow .i64 3 w1.heap.size w3 x2 zs) := KC2.out.below bb
  clear KC2
  clear HB2
  have KM3 : Hid (Rb w3 vm L) := o1.rd
  clear bb o1
  clear KA3
  clear KC3
  have HM3 : Hid (Below w3.heap.size w3 w3) := Below.refl _ _
  have HS03 : Hid (w.heap.size ≤ w3.heap.size) := HB3.out.size
  have HVM : Hid (Rb w3 vm L) := KM3.out
  clear KM3
  go_wp2_with (fail)
  refine (toI v0 hs _ (HR.out.below HB3.out) HLN.out).mono ?_
  rintro e w4 ⟨x3, rfl, o1, bb⟩
  have HB4 : Hid (Below w.heap.size w w4) := belowCall HB3.out bb HB3.out.size
  have HM4 : Hid (Below w3.heap.size w3 w4) := belowCall HM3.out bb HM3.out.size
  clear HB3
  clear HM3
  have KX4 : Hid (Ow .i64 3 w3.heap.size w4 x3 hs) := o1
  have HPX0 : Hid (∀ k, x3.ownBlock = some k → k < w4.heap.size) := fun k e => (ow_blk o1 k e).2
  have HS01 : Hid (w3.heap.size ≤ w4.heap.size) := bb.size
  clear bb o1
  go_wp2_with (fail)
  refine (toI u0 zs _ (HR'.out.below HB4.out) HLN'.out).mono ?_
  rintro e w5 ⟨y3, rfl, o1, bb⟩
  have HB5 : Hid (Below w.heap.size w w5) := belowCall HB4.out bb HB4.out.size
  have HM5 : Hid (Below w3.heap.size w3 w5) := belowCall HM4.out bb HM4.out.size
  have KX5 : Hid (Ow .i64 3 w3.heap.size w5 x3 hs) := KX4.out.below bb
  clear KX4
  clear HB4
  clear HM4
  have KY5 : Hid (Ow .i64 3 w4.heap.size w5 y3 zs) := o1
  have HS02 : Hid (w4.heap.size ≤ w5.heap.size) := bb.size
  clear bb o1
  have HSS0 : Hid (w3.heap.size ≤ w4.heap.size ∧ w4.heap.size ≤ w5.heap.size ∧ w.heap.size ≤ w3.heap.size) := ⟨HS01.out, HS02.out, HS03.out⟩
  have HPX : Hid (∀ k, x3.ownBlock = some k → w3.heap.size ≤ k ∧ k < w4.heap.size) := fun k e => by have := ow_blk KX5.out k e; exact ⟨this.1, HPX0.out k e⟩
  have HPY : Hid (∀ k, y3.ownBlock = some k → w4.heap.size ≤ k ∧ k < w5.heap.size) := fun k e => ow_blk KY5.out k e
  have HSS : Hid (w3.heap.size ≤ w4.heap.size ∧ w4.heap.size ≤ w5.heap.size ∧ w.heap.size ≤ w3.heap.size) := HSS0.out
  go_wp2_with (fail)
  refine (HCI.out x3 y3 _ KX5.out.rd KY5.out.rd).mono ?_
  rintro e w6 ⟨vg, rfl, o1, bb⟩
  have HB6 : Hid (Below w.heap.size w w6) := belowCall HB5.out bb HB5.out.size
  have HM6 : Hid (Below w3.heap.size w3 w6) := belowCall HM5.out bb HM5.out.size
  have KX6 : Hid (Ow .i64 3 w3.heap.size w6 x3 hs) := KX5.out.below bb
  clear KX5
  have KY6 : Hid (Ow .i64 3 w4.heap.size w6 y3 zs) := KY5.out.below bb
  clear KY5
  clear HB5
  clear HM5
  have KG6 : Hid (Ob w5.heap.size w6 vg L) := o1
  clear bb o1
  have HPG : Hid (∀ k, vg.ownBlock = some k → w5.heap.size ≤ k) := fun k e => (ob_blk KG6.out k e).1
  go_wp2_with (fail)
  refine (eqBS vg vm L _ KG6.out.rd (HVM.out.below HM6.out)).mono ?_
  rintro e w7 ⟨rfl, bb⟩
  have HB7 : Hid (Below w.heap.size w w7) := belowCall HB6.out bb HB6.out.size
  have HM7 : Hid (Below w3.heap.size w3 w7) := belowCall HM6.out bb HM6.out.size
  have KX7 : Hid (Ow .i64 3 w3.heap.size w7 x3 hs) := KX6.out.below bb
  clear KX6
  have KY7 : Hid (Ow .i64 3 w4.heap.size w7 y3 zs) := KY6.out.below bb
  clear KY6
  have KG7 : Hid (Ob w5.heap.size w7 vg L) := KG6.out.below bb
  clear KG6
  clear HB6
  clear HM6
  clear bb
  go_wp2_with (fail)
  refine (toI v0 hs _ (HR.out.below HB7.out) HLN.out).mono ?_
  rintro e w8 ⟨x8, rfl, o1, bb⟩
  have HB8 : Hid (Below w.heap.size w w8) := belowCall HB7.out bb HB7.out.size
  have HM8 : Hid (Below w3.heap.size w3 w8) := belowCall HM7.out bb HM7.out.size
  have KX8 : Hid (Ow .i64 3 w3.heap.size w8 x3 hs) := KX7.out.below bb
  clear KX7
  have KY8 : Hid (Ow .i64 3 w4.heap.size w8 y3 zs) := KY7.out.below bb
  clear KY7
  have KG8 : Hid (Ob w5.heap.size w8 vg L) := KG7.out.below bb
  clear KG7
  clear HB7
  clear HM7
  have KZ8 : Hid (Ow .i64 3 w7.heap.size w8 x8 hs) := o1
  clear bb o1
  go_wp2_with (fail)
  refine (eqIS x3 x8 hs _ KX8.out.rd KZ8.out.rd).mono ?_
  rintro e w9 ⟨rfl, bb⟩
  have HB9 : Hid (Below w.heap.size w w9) := belowCall HB8.out bb HB8.out.size
  have HM9 : Hid (Below w3.heap.size w3 w9) := belowCall HM8.out bb HM8.out.size
  have KX9 : Hid (Ow .i64 3 w3.heap.size w9 x3 hs) := KX8.out.below bb
  clear KX8
  have KY9 : Hid (Ow .i64 3 w4.heap.size w9 y3 zs) := KY8.out.below bb
  clear KY8
  have KG9 : Hid (Ob w5.heap.size w9 vg L) := KG8.out.below bb
  clear KG8
  have KZ9 : Hid (Ow .i64 3 w7.heap.size w9 x8 hs) := KZ8.out.below bb
  clear KZ8
  clear HB8
  clear HM8
  clear bb
  clear KZ9
  go_wp2_with (fail)
  refine (toI u0 zs _ (HR'.out.below HB9.out) HLN'.out).mono ?_
  rintro e w10 ⟨y8, rfl, o1, bb⟩
  have HB10 : Hid (Below w.heap.size w w10) := belowCall HB9.out bb HB9.out.size
  have HM10 : Hid (Below w3.heap.size w3 w10) := belowCall HM9.out bb HM9.out.size
  have KX10 : Hid (Ow .i64 3 w3.heap.size w10 x3 hs) := KX9.out.below bb
  clear KX9
  have KY10 : Hid (Ow .i64 3 w4.heap.size w10 y3 zs) := KY9.out.below bb
  clear KY9
  have KG10 : Hid (Ob w5.heap.size w10 vg L) := KG9.out.below bb
  clear KG9
  clear HB9
  clear HM9
  have KZ10 : Hid (Ow .i64 3 w9.heap.size w10 y8 zs) := o1
  clear bb o1
  go_wp2_with (fail)
  refine (eqIS y3 y8 zs _ KY10.out.rd KZ10.out.rd).mono ?_
  rintro e w11 ⟨rfl, bb⟩
  have HB11 : Hid (Below w.heap.size w w11) := belowCall HB10.out bb HB10.out.size
  have HM11 : Hid (Below w3.heap.size w3 w11) := belowCall HM10.out bb HM10.out.size
  have KX11 : Hid (Ow .i64 3 w3.heap.size w11 x3 hs) := KX10.out.below bb
  clear KX10
  have KY11 : Hid (Ow .i64 3 w4.heap.size w11 y3 zs) := KY10.out.below bb
  clear KY10
  have KG11 : Hid (Ob w5.heap.size w11 vg L) := KG10.out.below bb
  clear KG10
  have KZ11 : Hid (Ow .i64 3 w9.heap.size w11 y8 zs) := KZ10.out.below bb
  clear KZ10
  clear HB10
  clear HM10
  clear bb
  clear KZ11
  go_wp2_with (fail)
  refine (markI x3 hs 1 w3.heap.size _ KX11.out (by omega) (by have := HLN.out; omega)).mono ?_
  rintro e w12 ⟨rfl, -, gg⟩
  have HB12 : Hid (Below w.heap.size w w12) := HB11.out.trans (grown_below gg HB11.out.size (fun k e => by have := HPX.out k e; have := HSS.out; omega))
  have HM12 : Hid (Below w3.heap.size w3 w12) := HM11.out.trans (grown_below gg HM11.out.size (fun k e => by have := HPX.out k e; have := HSS.out; omega))
  clear KX11
  have KY12 : Hid (Ow .i64 3 w4.heap.size w12 y3 zs) := World.ownsRow.kept KY11.out gg (blk_ne' (fun k e => (HPY.out k e).1) (fun k e => (HPX.out k e).2))
  clear KY11
  have KG12 : Hid (Ob w5.heap.size w12 vg L) := World.ownsRow.kept KG11.out gg (blk_ne' HPG.out (fun k e => by have := HPX.out k e; have := HSS.out; omega))
  clear KG11
  clear HB11
  clear HM11
  clear gg
  have hk0 : 0 ≤ 1 + (hs.length : Int) := by omega
  go_wp2_with (fail)
  refine (markI y3 zs (1 + (hs.length : Int)) w4.heap.size _ KY12.out (by omega) (by have := HLN.out; have := HLN'.out; omega)).mono ?_
  rintro e w13 ⟨rfl, -, gg⟩
  have HB13 : Hid (Below w.heap.size w w13) := HB12.out.trans (grown_below gg HB12.out.size (fun k e => by have := HPY.out k e; have := HSS.out; omega))
  have HM13 : Hid (Below w3.heap.size w3 w13) := HM12.out.trans (grown_below gg HM12.out.size (fun k e => by have := HPY.out k e; have := HSS.out; omega))
  clear KY12
  have KG13 : Hid (Ob w5.heap.size w13 vg L) := World.ownsRow.kept KG12.out gg (blk_ne' HPG.out (fun k e => by have := HPY.out k e; have := HSS.out; omega))
  clear KG12
  clear HB12
  clear HM12
  clear gg
  obtain ⟨kk, hkk⟩ : ∃ kk : Int, 1 + (hs.length : Int) + (zs.length : Int) = kk := ⟨_, rfl⟩
  rw [hkk]
  have hk1 : decide (kk < 0) = false := decide_eq_false (by omega)
  have hk2 : (kk < 0) = False := eq_false (by omega)
  clear hkk hk0
  go_wp2_with (fail)
  refine (eqBS vg vm L _ KG13.out.rd (HVM.out.below HM13.out)).mono ?_
  rintro e w14 ⟨rfl, bb⟩
  have HB14 : Hid (Below w.heap.size w w14) := belowCall HB13.out bb HB13.out.size
  have HM14 : Hid (Below w3.heap.size w3 w14) := belowCall HM13.out bb HM13.out.size
  have KG14 : Hid (Ob w5.heap.size w14 vg L) := KG13.out.below bb
  clear KG13
  clear HB13
  clear HM13
  clear bb
  go_wp2_with (fail)
  refine (markB vg L 1 w5.heap.size _ KG14.out (by omega) (by have := HLL.out; omega)).mono ?_
  rintro e w15 ⟨rfl, oo, gg⟩
  have HB15 : Hid (Below w.heap.size w w15) := HB14.out.trans (grown_below gg HB14.out.size (fun k e => by have := HPG.out k e; have := HSS.out; omega))
  have HM15 : Hid (Below w3.heap.size w3 w15) := HM14.out.trans (grown_below gg HM14.out.size (fun k e => by have := HPG.out k e; have := HSS.out; omega))
  clear KG14
  clear HB14
  clear HM14
  have KH15 : Hid (Ob w5.heap.size w15 vg (bmk 1 L.length)) := oo
  clear gg oo
  have hm0 : ¬ (1 + (L.length : Int)) < 0 := by omega
  have hm1 : ((1 + (L.length : Int)) != (1 + (L.length : Int))) = false := by simp
  go_wp2_with (fail)
  refine (heldB vg 1 L.length _ KH15.out.rd (by omega) (by have := HLL.out; omega)).mono ?_
  rintro e w16 ⟨rfl, bb⟩
  have HB16 : Hid (Below w.heap.size w w16) := belowCall HB15.out bb HB15.out.size
  have HM16 : Hid (Below w3.heap.size w3 w16) := belowCall HM15.out bb HM15.out.size
  have KH16 : Hid (Ob w5.heap.size w16 vg (bmk 1 L.length)) := KH15.out.below bb
  clear KH15
  clear HB15
  clear HM15
  clear bb
  go_wp2_with (fail)
  refine (toI v0 hs _ (HR.out.below HB16.out) HLN.out).mono ?_
  rintro e w17 ⟨x9, rfl, o1, bb⟩
  have HB17 : Hid (Below w.heap.size w w17) := belowCall HB16.out bb HB16.out.size
  have HM17 : Hid (Below w3.heap.size w3 w17) := belowCall HM16.out bb HM16.out.size
  have KH17 : Hid (Ob w5.heap.size w17 vg (bmk 1 L.length)) := KH16.out.below bb
  clear KH16
  clear HB16
  clear HM16
  have KA17 : Hid (Ow .i64 3 w16.heap.size w17 x9 hs) := o1
  clear bb o1
  go_wp2_with (fail)
  refine (toI u0 zs _ (HR'.out.below HB17.out) HLN'.out).mono ?_
  rintro e w18 ⟨y9, rfl, o1, bb⟩
  have HB18 : Hid (Below w.heap.size w w18) := belowCall HB17.out bb HB17.out.size
  have HM18 : Hid (Below w3.heap.size w3 w18) := belowCall HM17.out bb HM17.out.size
  have KH18 : Hid (Ob w5.heap.size w18 vg (bmk 1 L.length)) := KH17.out.below bb
  clear KH17
  have KA18 : Hid (Ow .i64 3 w16.heap.size w18 x9 hs) := KA17.out.below bb
  clear KA17
  clear HB17
  clear HM17
  have KC18 : Hid (Ow .i64 3 w17.heap.size w18 y9 zs) := o1
  clear bb o1
  go_wp2_with (fail)
  refine (HCI.out x9 y9 _ KA18.out.rd KC18.out.rd).mono ?_
  rintro e w19 ⟨vh, rfl, o1, bb⟩
  have HB19 : Hid (Below w.heap.size w w19) := belowCall HB18.out bb HB18.out.size
  have HM19 : Hid (Below w3.heap.size w3 w19) := belowCall HM18.out bb HM18.out.size
  have KH19 : Hid (Ob w5.heap.size w19 vg (bmk 1 L.length)) := KH18.out.below bb
  clear KH18
  have KA19 : Hid (Ow .i64 3 w16.heap.size w19 x9 hs) := KA18.out.below bb
  clear KA18
  have KC19 : Hid (Ow .i64 3 w17.heap.size w19 y9 zs) := KC18.out.below bb
  clear KC18
  clear HB18
  clear HM18
  have KJ19 : Hid (Rb w19 vh L) := o1.rd
  clear bb o1
  clear KA19
  clear KC19
  go_wp2_with (fail)
  refine (eqBS vh vm L _ KJ19.out (HVM.out.below HM19.out)).mono ?_
  rintro e w20 ⟨rfl, bb⟩
  have HB20 : Hid (Below w.heap.size w w20) := belowCall HB19.out bb HB19.out.size
  have HM20 : Hid (Below w3.heap.size w3 w20) := belowCall HM19.out bb HM19.out.size
  have KH20 : Hid (Ob w5.heap.size w20 vg (bmk 1 L.length)) := KH19.out.below bb
  clear KH19
  have KJ20 : Hid (Rb w20 vh L) := KJ19.out.below bb
  clear KJ19
  clear HB19
  clear HM19
  clear bb
  go_wp2_with (fail)
  refine (heldB vg 1 L.length _ KH20.out.rd (by omega) (by have := HLL.out; omega)).mono ?_
  rintro e w21 ⟨rfl, bb⟩
  have HB21 : Hid (Below w.heap.size w w21) := belowCall HB20.out bb HB20.out.size
  have HM21 : Hid (Below w3.heap.size w3 w21) := belowCall HM20.out bb HM20.out.size
  have KH21 : Hid (Ob w5.heap.size w21 vg (bmk 1 L.length)) := KH20.out.below bb
  clear KH20
  have KJ21 : Hid (Rb w21 vh L) := KJ20.out.below bb
  clear KJ20
  clear HB20
  clear HM20
  clear bb
  go_wp2
  go_ret
  exact ⟨rfl, HB21.out⟩

end Go.Proofs.Ytikgempdohpdjaa

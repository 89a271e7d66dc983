/- The law; no condition. -/
import Derived.Test.YtiadakponjpkmaaFrb
import Derived.Test.YtiadakponjpkmaaFrn
import Derived.Test.YtiadakponjpkmaaNto
import Derived.Test.YtiadakponjpkmaaNeq
namespace Go.Proofs.Ytiadakponjpkmaa
open Go.RowKit Go.ChangeShapes Go.WideShapes Go.ChangeAt
set_option linter.unusedVariables false
set_option linter.unusedSimpArgs false
set_option maxRecDepth 8000

theorem ow_blk' {k' : IntKind} {e' : TypeId} {base : Nat} {w : World} {v : Value} {bs : List Int} (h : Ow k' e' base w v bs) : ∀ k, v.ownBlock = some k → base ≤ k ∧ k < w.heap.size := fun k e => World.ownsRow.lt h k e
theorem faR_len (ls : List (List Int)) (t : Int) : (faR ls t).length ≤ 500 := by
  cases h : faB ls t with
  | false => rw [faR_no h]; simp
  | true =>
    have h' := h
    unfold faB at h'
    rw [Bool.and_eq_true, decide_eq_true_eq] at h'
    rw [faR_yes h, frO_len]
    have := gS_len (N := ls.length) (T := t.toNat) (ln := lnA ls) (ls.length * 60)
    omega
set_option maxHeartbeats 12800000 in
theorem fairLaw (v : Value) (ls : List (List Int)) (t : Int) (w : World) (h : Rn w v ls) (ht : (Lit.int .i64 t).wf = true) : Calls Try.prog 11 #[v, .int .i64 t] w fun e w' => e = .returned (.bool true) ∧ Below w.heap.size w w' := by
  have HR : Hid (Rn w v ls) := h
  clear h ht
  go_enter Try.func11, Try.ntmps11
  go_wp2_with (fail)
  refine (szSS_c v ls _ HR.out).mono ?_
  rintro e w0 ⟨r, rfl, hr, r0, r1, hw⟩
  rw [hw]
  clear hw w0
  by_cases hrn : r < 0
  case pos =>
    have hd : decide (r < 0) = true := decide_eq_true hrn
    go_wp2
    go_ret
    exact ⟨rfl, Below.refl _ _⟩
  have hd : decide (r < 0) = false := decide_eq_false hrn
  have hdf : (r < 0) = False := eq_false hrn
  have HLN : Hid (ls.length ≤ 1048576) := (hr (by omega)).1
  have HSM : Hid (smL ls ls.length ≤ 1048576) := (hr (by omega)).2
  obtain ⟨bb0, hbb0⟩ : ∃ b, faB ls t = b := ⟨_, rfl⟩
  obtain ⟨L, hL⟩ : ∃ L, faR ls t = L := ⟨_, rfl⟩
  have HLL : Hid (L.length ≤ 1048576) := by show _ ≤ _; rw [← hL]; have := faR_len ls t; have := HLN.out; omega
  have hne : (bb0 != bb0) = false := by simp
  have HCM : Hid (∀ (x : Value) (W : World), Rn W x ls → Calls Try.prog 28 #[x, .int .i64 t] W fun e w' => ∃ v, e = .returned (.tuple #[v, .bool bb0]) ∧ Ow .i64 3 W.heap.size w' v L ∧ Below W.heap.size W w') := fun x W hx => by
    have := faM_c x ls t W hx HLN.out
    unfold FaR at this
    rw [hbb0, hL] at this; exact this
  have HCI : Hid (∀ (x : Value) (W : World), Rn W x ls → Calls Try.prog 27 #[x, .int .i64 t] W fun e w' => ∃ v, e = .returned (.tuple #[v, .bool bb0]) ∧ Ow .i64 3 W.heap.size w' v L ∧ Below W.heap.size W w') := fun x W hx => by
    have := faI_c x ls t W hx
    unfold FaR at this
    rw [hbb0, hL] at this; exact this
  clear hbb0 hL hr hrn
  have HB0 : Hid (Below w.heap.size w w) := Below.refl _ _
  go_wp2_with (fail)
  refine (toSS v _ _ (HR.out.below HB0.out) HLN.out HSM.out).mono ?_
  rintro e w1 ⟨x1, usx1, Px1, rfl, o1, pl, bb⟩
  have HB1 : Hid (Below w.heap.size w w1) := belowCall HB0.out bb HB0.out.size
  have KA1 : Hid (On 35 w.heap.size w1 x1 ls usx1 Px1) := o1
  clear bb o1 pl hd hdf
  go_wp2_with (fail)
  refine (HCM.out x1 _ KA1.out.rd).mono ?_
  rintro e w2 ⟨vm, rfl, o1, bb⟩
  have HB2 : Hid (Below w.heap.size w w2) := belowCall HB1.out bb HB1.out.size
  have KA2 : Hid (On 35 w.heap.size w2 x1 ls usx1 Px1) := KA1.out.below bb
  clear KA1
  clear HB1
  have KM2 : Hid (Rd .i64 w2 vm L) := o1.rd
  clear bb o1
  clear KA2
  have HM2 : Hid (Below w2.heap.size w2 w2) := Below.refl _ _
  have HVM : Hid (Rd .i64 w2 vm L) := KM2.out
  have HS03 : Hid (w.heap.size ≤ w2.heap.size) := HB2.out.size
  clear KM2
  go_wp2_with (fail)
  refine (toSS v _ _ (HR.out.below HB2.out) HLN.out HSM.out).mono ?_
  rintro e w3 ⟨x3, usx3, Px3, rfl, o1, pl, bb⟩
  have HB3 : Hid (Below w.heap.size w w3) := belowCall HB2.out bb HB2.out.size
  have HM3 : Hid (Below w2.heap.size w2 w3) := belowCall HM2.out bb HM2.out.size
  clear HB2
  clear HM2
  have KX3 : Hid (On 35 w2.heap.size w3 x3 ls usx3 Px3) := o1
  have HPX : Hid (w2.heap.size ≤ Px3 0 ∧ Px3 ls.length ≤ w3.heap.size ∧ w.heap.size ≤ w2.heap.size ∧ w2.heap.size ≤ w3.heap.size) := ⟨o1.bas, pl, HS03.out, bb.size⟩
  clear bb o1 pl
  go_wp2_with (fail)
  refine (HCI.out x3 _ KX3.out.rd).mono ?_
  rintro e w4 ⟨vg, rfl, o1, bb⟩
  have HB4 : Hid (Below w.heap.size w w4) := belowCall HB3.out bb HB3.out.size
  have HM4 : Hid (Below w2.heap.size w2 w4) := belowCall HM3.out bb HM3.out.size
  have KX4 : Hid (On 35 w2.heap.size w4 x3 ls usx3 Px3) := KX3.out.below bb
  clear KX3
  clear HB3
  clear HM3
  have KG4 : Hid (Ow .i64 3 w3.heap.size w4 vg L) := o1
  clear bb o1
  have HPG : Hid (∀ k, vg.ownBlock = some k → w3.heap.size ≤ k) := fun k e => (ow_blk' KG4.out k e).1
  go_wp2_with (fail)
  refine (eqIS vg vm L _ KG4.out.rd (HVM.out.below HM4.out)).mono ?_
  rintro e w5 ⟨rfl, bb⟩
  have HB5 : Hid (Below w.heap.size w w5) := belowCall HB4.out bb HB4.out.size
  have HM5 : Hid (Below w2.heap.size w2 w5) := belowCall HM4.out bb HM4.out.size
  have KX5 : Hid (On 35 w2.heap.size w5 x3 ls usx3 Px3) := KX4.out.below bb
  clear KX4
  have KG5 : Hid (Ow .i64 3 w3.heap.size w5 vg L) := KG4.out.below bb
  clear KG4
  clear HB4
  clear HM4
  clear bb
  go_wp2_with (fail)
  refine (toSS v _ _ (HR.out.below HB5.out) HLN.out HSM.out).mono ?_
  rintro e w6 ⟨x8, usx8, Px8, rfl, o1, pl, bb⟩
  have HB6 : Hid (Below w.heap.size w w6) := belowCall HB5.out bb HB5.out.size
  have HM6 : Hid (Below w2.heap.size w2 w6) := belowCall HM5.out bb HM5.out.size
  have KX6 : Hid (On 35 w2.heap.size w6 x3 ls usx3 Px3) := KX5.out.below bb
  clear KX5
  have KG6 : Hid (Ow .i64 3 w3.heap.size w6 vg L) := KG5.out.below bb
  clear KG5
  clear HB5
  clear HM5
  have KZ6 : Hid (On 35 w5.heap.size w6 x8 ls usx8 Px8) := o1
  clear bb o1 pl
  go_wp2_with (fail)
  refine (eqSS x3 x8 ls _ KX6.out.rd KZ6.out.rd).mono ?_
  rintro e w7 ⟨rfl, bb⟩
  have HB7 : Hid (Below w.heap.size w w7) := belowCall HB6.out bb HB6.out.size
  have HM7 : Hid (Below w2.heap.size w2 w7) := belowCall HM6.out bb HM6.out.size
  have KX7 : Hid (On 35 w2.heap.size w7 x3 ls usx3 Px3) := KX6.out.below bb
  clear KX6
  have KG7 : Hid (Ow .i64 3 w3.heap.size w7 vg L) := KG6.out.below bb
  clear KG6
  have KZ7 : Hid (On 35 w5.heap.size w7 x8 ls usx8 Px8) := KZ6.out.below bb
  clear KZ6
  clear HB6
  clear HM6
  clear bb
  clear KZ7
  go_wp2_with (fail)
  refine (markSS x3 ls usx3 Px3 1 w2.heap.size _ KX7.out (by omega) HLN.out (by have := HSM.out; omega)).mono ?_
  rintro e w8 ⟨rfl, bt⟩
  have HB8 : Hid (Below w.heap.size w w8) := HB7.out.trans (bt.below (by have := HPX.out; omega) HB7.out.size)
  have HM8 : Hid (Below w2.heap.size w2 w8) := HM7.out.trans (bt.below (by have := HPX.out; omega) HM7.out.size)
  clear KX7
  have KG8 : Hid (Ow .i64 3 w3.heap.size w8 vg L) := own_btw KG7.out bt HPX.out.2.1
  clear KG7
  clear HB7
  clear HM7
  clear bt
  obtain ⟨kk, hkk⟩ : ∃ kk : Int, 1 + (smL ls ls.length : Int) = kk := ⟨_, rfl⟩
  rw [hkk]
  have hk1 : decide (kk < 0) = false := decide_eq_false (by omega)
  have hk2 : (kk < 0) = False := eq_false (by omega)
  clear hkk
  go_wp2_with (fail)
  refine (eqIS vg vm L _ KG8.out.rd (HVM.out.below HM8.out)).mono ?_
  rintro e w9 ⟨rfl, bb⟩
  have HB9 : Hid (Below w.heap.size w w9) := belowCall HB8.out bb HB8.out.size
  have HM9 : Hid (Below w2.heap.size w2 w9) := belowCall HM8.out bb HM8.out.size
  have KG9 : Hid (Ow .i64 3 w3.heap.size w9 vg L) := KG8.out.below bb
  clear KG8
  clear HB8
  clear HM8
  clear bb
  go_wp2_with (fail)
  refine (markI vg L 1 w3.heap.size _ KG9.out (by omega) (by have := HLL.out; omega)).mono ?_
  rintro e w10 ⟨rfl, oo, gg⟩
  have HB10 : Hid (Below w.heap.size w w10) := HB9.out.trans (grown_below gg HB9.out.size (fun k e => by have := HPG.out k e; have := HPX.out; omega))
  have HM10 : Hid (Below w2.heap.size w2 w10) := HM9.out.trans (grown_below gg HM9.out.size (fun k e => by have := HPG.out k e; have := HPX.out; omega))
  clear KG9
  clear HB9
  clear HM9
  have KH10 : Hid (Ow .i64 3 w3.heap.size w10 vg (marks .i64 1 L.length)) := oo
  clear gg oo
  have hm0 : ¬ (1 + (L.length : Int)) < 0 := by omega
  have hm1 : ((1 + (L.length : Int)) != (1 + (L.length : Int))) = false := by simp
  go_wp2_with (fail)
  refine (heldI vg 1 L.length _ KH10.out.rd (by omega) (by have := HLL.out; omega)).mono ?_
  rintro e w11 ⟨rfl, bb⟩
  have HB11 : Hid (Below w.heap.size w w11) := belowCall HB10.out bb HB10.out.size
  have HM11 : Hid (Below w2.heap.size w2 w11) := belowCall HM10.out bb HM10.out.size
  have KH11 : Hid (Ow .i64 3 w3.heap.size w11 vg (marks .i64 1 L.length)) := KH10.out.below bb
  clear KH10
  clear HB10
  clear HM10
  clear bb
  go_wp2_with (fail)
  refine (toSS v _ _ (HR.out.below HB11.out) HLN.out HSM.out).mono ?_
  rintro e w12 ⟨x9, usx9, Px9, rfl, o1, pl, bb⟩
  have HB12 : Hid (Below w.heap.size w w12) := belowCall HB11.out bb HB11.out.size
  have HM12 : Hid (Below w2.heap.size w2 w12) := belowCall HM11.out bb HM11.out.size
  have KH12 : Hid (Ow .i64 3 w3.heap.size w12 vg (marks .i64 1 L.length)) := KH11.out.below bb
  clear KH11
  clear HB11
  clear HM11
  have KA12 : Hid (On 35 w11.heap.size w12 x9 ls usx9 Px9) := o1
  clear bb o1 pl
  go_wp2_with (fail)
  refine (HCI.out x9 _ KA12.out.rd).mono ?_
  rintro e w13 ⟨vh, rfl, o1, bb⟩
  have HB13 : Hid (Below w.heap.size w w13) := belowCall HB12.out bb HB12.out.size
  have HM13 : Hid (Below w2.heap.size w2 w13) := belowCall HM12.out bb HM12.out.size
  have KH13 : Hid (Ow .i64 3 w3.heap.size w13 vg (marks .i64 1 L.length)) := KH12.out.below bb
  clear KH12
  have KA13 : Hid (On 35 w11.heap.size w13 x9 ls usx9 Px9) := KA12.out.below bb
  clear KA12
  clear HB12
  clear HM12
  have KJ13 : Hid (Rd .i64 w13 vh L) := o1.rd
  clear bb o1
  clear KA13
  go_wp2_with (fail)
  refine (eqIS vh vm L _ KJ13.out (HVM.out.below HM13.out)).mono ?_
  rintro e w14 ⟨rfl, bb⟩
  have HB14 : Hid (Below w.heap.size w w14) := belowCall HB13.out bb HB13.out.size
  have HM14 : Hid (Below w2.heap.size w2 w14) := belowCall HM13.out bb HM13.out.size
  have KH14 : Hid (Ow .i64 3 w3.heap.size w14 vg (marks .i64 1 L.length)) := KH13.out.below bb
  clear KH13
  have KJ14 : Hid (Rd .i64 w14 vh L) := KJ13.out.below bb
  clear KJ13
  clear HB13
  clear HM13
  clear bb
  go_wp2_with (fail)
  refine (heldI vg 1 L.length _ KH14.out.rd (by omega) (by have := HLL.out; omega)).mono ?_
  rintro e w15 ⟨rfl, bb⟩
  have HB15 : Hid (Below w.heap.size w w15) := belowCall HB14.out bb HB14.out.size
  have HM15 : Hid (Below w2.heap.size w2 w15) := belowCall HM14.out bb HM14.out.size
  have KH15 : Hid (Ow .i64 3 w3.heap.size w15 vg (marks .i64 1 L.length)) := KH14.out.below bb
  clear KH14
  have KJ15 : Hid (Rd .i64 w15 vh L) := KJ14.out.below bb
  clear KJ14
  clear HB14
  clear HM14
  clear bb
  go_wp2
  go_ret
  exact ⟨rfl, HB15.out⟩

end Go.Proofs.Ytiadakponjpkmaa

/- Proved: at every slice of arrays of sixteen bytes FnExactUncells returns true and leaves its argument as it was (Uncells answers as its model does, writes into no argument, and its answer owns its memory); no condition. -/
import Derived.Test.YtadhiddnjhjioaaUncS
import Derived.Test.YtadhiddnjhjioaaToA
import Derived.Test.YtadhiddnjhjioaaOpenA
import Derived.ChangeOld
namespace Go.Proofs.Ytadhiddnjhjioaa
open Go.RowKit Go.ChangeShapes Go.WideShapes Go.ChangeAt
set_option linter.unusedVariables false
set_option linter.unusedSimpArgs false
set_option maxHeartbeats 2000000 in
theorem sz_c (a : Option Addr) (n cap : Nat) (l : Int) (hl : 0 ≤ l) (hl2 : l ≤ 2000000) (hn : n ≤ 9223372036854775807) (w : World) : Calls Try.prog 36 #[.slice a n cap, .int .i64 l] w fun e w' => e = .returned (.int .i64 (if l < n then -1 else l - n)) ∧ w' = w := by
  by_cases h : l < n
  · rw [if_pos h]
    go_enter Try.func36, Try.ntmps36
    go_wp2
    go_ret
    exact ⟨rfl, rfl⟩
  · rw [if_neg h]
    go_enter Try.func36, Try.ntmps36
    go_wp2
    go_ret
    exact ⟨rfl, rfl⟩
set_option maxHeartbeats 2000000 in
theorem law8 (v : Value) (n : Nat) (zs : List Int) (w : World) (h : RdA w v n zs) :
   Calls Try.prog 8 #[v] w fun e w' => e = .returned (.bool true) ∧ Below w.heap.size w w' := by
  obtain ⟨a, cap, hv, h1, h2, hl, hbx, h3⟩ := id h
  subst hv
  clear h3 hbx
  unfold maxLen at h2
  have hsz := sz_c a n cap 1048576 (by omega) (by omega) (by omega)
  by_cases hbig : 1048576 < n
  · rw [if_pos (by omega)] at hsz
    have HSZ : Hid _ := hsz
    clear hsz h
    go_enter Try.func8, Try.ntmps8
    go_wp2_with fail
    refine (HSZ.out _).mono ?_
    rintro e w1 ⟨rfl, hw1⟩
    have hw1' := hw1.symm
    subst hw1'
    go_wp2
    go_ret
    exact ⟨rfl, Below.refl _ _⟩
  · rw [if_neg (by omega)] at hsz
    have HSZ : Hid _ := hsz
    clear hsz
    have hlen : n ≤ 1048576 := by omega
    have hol : (uncRes zs n).1.length ≤ 1099511627776 := by
      unfold uncRes
      split
      · have key : ∀ k j, (uncAt zs k j).1.length ≤ 15 * (j + k) := by
          intro k
          induction k with
          | zero => intro j; have := outTo_len zs j; simp [uncAt]; omega
          | succ k ih =>
            intro j
            rw [uncAt]
            split
            · have := outTo_len zs j; simp; omega
            · have := ih (j + 1); omega
        have := key n 0; omega
      · simp
    generalize hO : (uncRes zs n).1 = O at hol
    generalize hK : (uncRes zs n).2 = K
    have hbb : (K != K) = false := by simp
    have HO : Hid ((uncRes zs n).1 = O) := hO
    have HK : Hid ((uncRes zs n).2 = K) := hK
    clear hO hK
    have sp : ∀ (v1 : Value) (w1 : World), RdA w1 v1 n zs → Calls Try.prog 37 #[v1] w1 fun e w' => ∃ v', e = .returned (.tuple #[v', .int .i64 K]) ∧ Ow .u8 5 w1.heap.size w' v' O ∧ Below w1.heap.size w1 w' := by
      intro v1 w1 hr
      have := unc_spec v1 n zs w1 hr
      rw [HO.out, HK.out] at this; exact this
    have im : ∀ (v1 : Value) (w1 : World), RdA w1 v1 n zs → Calls Try.prog 17 #[v1] w1 fun e w' => ∃ v', e = .returned (.tuple #[v', .int .i64 K]) ∧ Ow .u8 5 w1.heap.size w' v' O ∧ Below w1.heap.size w1 w' := by
      intro v1 w1 hr
      have := unc_impl v1 n zs w1 hr
      rw [HO.out, HK.out] at this; exact this
    have SP : Hid _ := sp
    have IM : Hid _ := im
    clear sp im HO HK
    have hneg : ¬ (1048576 : Int) - (n : Int) < 0 := by omega
    go_enter Try.func8, Try.ntmps8
    go_wp2_with fail
    refine (HSZ.out _).mono ?_
    rintro e w0 ⟨rfl, hw0⟩
    have hw0' := hw0.symm
    subst hw0'
    go_wp2_with fail
    refine (toA _ n zs _ h hlen).mono ?_
    rintro e w1 ⟨v1, rfl, o1, b1⟩
    go_wp2_with fail
    refine (SP.out _ _ o1.rd).mono ?_
    rintro e w2 ⟨vw, rfl, ow, b2⟩
    have c2 : Below w.heap.size w w2 := belowCall b1 b2 b1.size
    clear o1
    go_wp2_with fail
    refine (toA _ n zs _ (h.below c2) hlen).mono ?_
    rintro e w3 ⟨vx, rfl, ox, b3⟩
    have c3 := belowCall c2 b3 c2.size
    have ow3 := ow.below b3
    go_wp2_with fail
    refine (IM.out _ _ ox.rd).mono ?_
    rintro e w4 ⟨vg, rfl, og, b4⟩
    have c4 := belowCall c3 b4 c3.size
    have ow4 := ow3.below b4
    have ox4 := ox.below b4
    -- the blocks differ
    have nxw : vw.ownBlock = none ∨ vw.ownBlock ≠ vx.ownBlock := (ownA_ne ow ox.1 (Nat.le_refl _)).1
    have nxg : vg.ownBlock = none ∨ vg.ownBlock ≠ vx.ownBlock := (ownA_ne ox.1 og (Nat.le_refl _)).2
    have nwg : vw.ownBlock = none ∨ vw.ownBlock ≠ vg.ownBlock := (ownA_ne ow3 og (Nat.le_refl _)).1
    clear ow ow3 ox
    go_wp2_with fail
    refine (eqBS _ _ O _ og.rd ow4.rd).mono ?_
    rintro e w5 ⟨rfl, b5⟩
    have c5 := belowCall c4 b5 c4.size
    have ow5 := ow4.below b5
    have ox5 := ox4.below b5
    have og5 := og.below b5
    clear ow4 ox4 og
    go_wp2_with fail
    refine (toA _ n zs _ (h.below c5) hlen).mono ?_
    rintro e w6 ⟨v6, rfl, o6, b6⟩
    have c6 := belowCall c5 b6 c5.size
    have ow6 := ow5.below b6
    have ox6 := ox5.below b6
    have og6 := og5.below b6
    clear ow5 ox5 og5
    go_wp2_with fail
    refine (eqAS _ _ n n zs _ ox6.rd o6.rd).mono ?_
    rintro e w7 ⟨rfl, b7⟩
    have c7 := belowCall c6 b7 c6.size
    have ow7 := ow6.below b7
    have ox7 := ox6.below b7
    have og7 := og6.below b7
    clear ow6 ox6 og6 o6
    go_wp2_with fail
    refine (markA _ n zs 1 _ _ ox7 (by omega) (by omega)).mono ?_
    rintro e w8 ⟨rfl, ox8, g8⟩
    have c8 : Below w.heap.size w w8 := c7.grown g8 c7.size (fun j hj => by have := (World.ownsRow.lt ox7.1 j hj).1; have := c2.size; omega)
    have ow8 : Ow .u8 5 _ w8 vw O := World.ownsRow.kept ow7 g8 nxw
    have og8 : Ow .u8 5 _ w8 vg O := World.ownsRow.kept og7 g8 nxg
    have k8 : decide ((1 : Int) + (n : Int) * 16 < 0) = false := by simp; omega
    clear ow7 ox7 og7 g8 ox8
    go_wp2_with fail
    refine (eqBS _ _ O _ og8.rd ow8.rd).mono ?_
    rintro e w9 ⟨rfl, b9⟩
    have c9 := belowCall c8 b9 c8.size
    have ow9 := ow8.below b9
    have og9 := og8.below b9
    clear ow8 og8
    go_wp2_with fail
    refine (markB _ O 1 _ _ og9 (by omega) (by omega)).mono ?_
    rintro e wa ⟨rfl, oga, ga⟩
    have ca : Below w.heap.size w wa := c9.grown ga c9.size (fun j hj => by have := (World.ownsRow.lt og9 j hj).1; have := c3.size; omega)
    have owa : Ow .u8 5 _ wa vw O := World.ownsRow.kept ow9 ga nwg
    clear ow9 og9 ga
    go_wp2_with fail
    refine (heldB _ 1 O.length _ oga.rd (by omega) (by omega)).mono ?_
    rintro e wb ⟨rfl, bb⟩
    have cb := belowCall ca bb ca.size
    have owb := owa.below bb
    have ogb := oga.below bb
    have kb : decide ((1 : Int) + (O.length : Int) < 0) = false := by simp; omega
    have kc : (((1 : Int) + (O.length : Int)) != ((1 : Int) + (O.length : Int))) = false := by simp
    clear owa oga
    go_wp2_with fail
    refine (toA _ n zs _ (h.below cb) hlen).mono ?_
    rintro e wc ⟨vc, rfl, oc, bc⟩
    have cc := belowCall cb bc cb.size
    have owc := owb.below bc
    have ogc := ogb.below bc
    clear owb ogb
    go_wp2_with fail
    refine (IM.out _ _ oc.rd).mono ?_
    rintro e wd ⟨vh, rfl, oh, bd⟩
    have cd := belowCall cc bd cc.size
    have owd := owc.below bd
    have ogd := ogc.below bd
    clear owc ogc oc
    go_wp2_with fail
    refine (eqBS _ _ O _ oh.rd owd.rd).mono ?_
    rintro e we ⟨rfl, be⟩
    have ce := belowCall cd be cd.size
    have oge := ogd.below be
    clear owd ogd oh
    go_wp2_with fail
    refine (heldB _ 1 O.length _ oge.rd (by omega) (by omega)).mono ?_
    rintro e wf ⟨rfl, bf⟩
    have cf := belowCall ce bf ce.size
    clear oge
    go_wp2
    go_ret
    exact ⟨rfl, cf⟩

set_option maxRecDepth 100000 in
theorem lifted8 (os : Os) (started : os.Started) (H : Type) (enc : TypeId × Value → H) :
    ReturnsInHanded {} Try.checked os 8 .any (Rows.fnExactUncellsSpec.pre6 enc Try.prog Try.f8 Rows.fnExactUncellsRow.domain false) (Rows.fnExactUncellsSpec.post enc Try.prog Try.f8 false true false false) := by
  refine returnsInHanded_of_change (C := Try.checked) own started (by kernel_rfl) Try.func8
    (ChangeSpec.witness6 (enc := enc) (C := Try.checked) false ⟨#[], #[.slice none 0 0], []⟩ 8 (by kernel_rfl) (by kernel_rfl) (by kernel_rfl) (by kernel_rfl)) ?_
  intro W base args ds gs before hval0 hW hcnd _
  have hval : ∀ (j : Nat) t v, Try.f8.params[j]? = some t → args[j]? = some v → Value.okWide Try.prog W .any base t v := hval0
  have hW' := hW
  obtain ⟨p, q, hA0, hV, rfl, hfz, hnd⟩ := hW
  have hA : DataW.TrodAll enc Try.prog W 0 (fun _ => true) true Try.f8.params.toList args.toList ds p := hA0
  rw [Try.params8] at hA hval
  obtain ⟨v0, vs0, d0, ds0, p0, q0, hargs, rfl, rfl, h0, rr0⟩ := trodAll_cons hA
  obtain ⟨rfl, rfl, rfl⟩ := trodAll_nil rr0
  obtain rfl : args = #[v0] := by cases args; simp_all
  obtain ⟨rfl, rfl⟩ := trodVars_none hV
  have lt0 : ∀ x ∈ p0, x.block < W.heap.size := by obtain ⟨m, hm⟩ := h0; exact DataW.trod_lt m _ _ _ hm
  obtain ⟨a0, len0, cap0, rfl⟩ := okWide_slice Try.underlying25 (hval 0 25 v0 rfl rfl)
  obtain ⟨z0, r0⟩ := openRowA h0
  clear hA0 hval0
  refine (law8 _ len0 z0 W r0).mono fun e W' ⟨he, bel⟩ => ?_
  subst he
  exact ⟨_, rfl, _, _, _, [], _, [], hW', trodAll_mk1 (shut_bool Try.underlying4 _), (trodAll_cons_mk (Below.trod laidOut (by kernel_rfl) (of_decide_eq_true (by kernel_rfl)) h0 bel lt0) trodAll_mk0), rfl, bel.frame _, fun h => by cases h⟩

theorem uncellsProved : Rows.FnExactUncellsSaid :=
  OpenClaim.holds_of_wide 8 Try.f8 rfl rfl rfl rfl rfl rfl rfl ⟨rfl, rfl, rfl, rfl, rfl⟩ rfl rfl rfl rfl rfl (by kernel_rfl) Try.func8 (by kernel_rfl)
    (of_decide_eq_true (by kernel_rfl)) (by unfold Func.isWrapper; first | (rw [if_pos (by decide +kernel)]; kernel_rfl) | (rw [if_neg (by decide +kernel)]; exact ⟨rfl, rfl⟩))
    (fun os started H enc _ => lifted8 os started H enc)
#print axioms uncellsProved
end Go.Proofs.Ytadhiddnjhjioaa

/- Proved: at every slice of bytes FnExactCells returns true and leaves its argument as it was (Cells answers as its model does, writes into no argument, and its answer owns its memory); no condition. -/
import Derived.Test.YtadhiddnjhjioaaCellsS
import Derived.Test.YtadhiddnjhjioaaMkA
import Derived.Test.YtadhiddnjhjioaaOpen
import Derived.ChangeOld
namespace Go.Proofs.Ytadhiddnjhjioaa
open Go.RowKit Go.ChangeShapes Go.WideShapes Go.ChangeAt
set_option linter.unusedVariables false
set_option linter.unusedSimpArgs false
set_option maxHeartbeats 2000000 in
theorem law7 (v : Value) (zs : List Int) (w : World) (h : Rd .u8 w v zs) (hwz : ∀ z ∈ zs, (Lit.int .u8 z).wf = true) :
   Calls Try.prog 7 #[v] w fun e w' => e = .returned (.bool true) ∧ Below w.heap.size w w' := by
  obtain ⟨a, cap, hv, h1, h2, h3⟩ := id h
  subst hv
  clear h3
  unfold maxLen at h2
  by_cases hbig : 1048576 < zs.length
  · have hb : decide ((1048576 : Int) < (zs.length : Int)) = true := by simp; omega
    go_enter Try.func7, Try.ntmps7
    go_wp2
    go_ret
    exact ⟨rfl, Below.refl _ _⟩
  · have hb : decide ((1048576 : Int) < (zs.length : Int)) = false := by simp; omega
    have hlen : zs.length ≤ 1048576 := by omega
    have hz : bytesOk zs := fun z hm => bounds_u8 (hwz z hm)
    have hol : cellsN zs ≤ 60 := by unfold cellsN; split <;> omega
    generalize hO : cellsL zs = O
    generalize hK : cellsN zs = K at hol
    have HO : Hid (cellsL zs = O) := hO
    have HK : Hid (cellsN zs = K) := hK
    clear hO hK
    have sp : ∀ (v1 : Value) (w1 : World), Rd .u8 w1 v1 zs → Calls Try.prog 16 #[v1] w1 fun e w' => ∃ v', e = .returned v' ∧ OwA w1.heap.size w' v' K O ∧ Below w1.heap.size w1 w' := by
      intro v1 w1 hr
      have := cells_spec v1 zs w1 hr hz
      rw [HO.out, HK.out] at this; exact this
    have im : ∀ (v1 : Value) (w1 : World), Rd .u8 w1 v1 zs → Calls Try.prog 15 #[v1] w1 fun e w' => ∃ v', e = .returned v' ∧ OwA w1.heap.size w' v' K O ∧ Below w1.heap.size w1 w' := by
      intro v1 w1 hr
      have := cells_impl v1 zs w1 hr hz
      rw [HO.out, HK.out] at this; exact this
    have SP : Hid _ := sp
    have IM : Hid _ := im
    clear sp im HO HK
    go_enter Try.func7, Try.ntmps7
    go_wp2_with fail
    refine (toB _ zs _ h hlen).mono ?_
    rintro e w1 ⟨v1, rfl, o1, b1⟩
    go_wp2_with fail
    refine (SP.out _ _ o1.rd).mono ?_
    rintro e w2 ⟨vw, rfl, ow, b2⟩
    have c2 : Below w.heap.size w w2 := belowCall b1 b2 b1.size
    clear o1
    go_wp2_with fail
    refine (toB _ zs _ (h.below c2) hlen).mono ?_
    rintro e w3 ⟨vx, rfl, ox, b3⟩
    have c3 := belowCall c2 b3 c2.size
    have ow3 := ow.below b3
    go_wp2_with fail
    refine (IM.out _ _ ox.rd).mono ?_
    rintro e w4 ⟨vg, rfl, og, b4⟩
    have c4 := belowCall c3 b4 c3.size
    have ow4 := ow3.below b4
    have ox4 := ox.below b4
    -- the blocks differ
    have nxw : vw.ownBlock = none ∨ vw.ownBlock ≠ vx.ownBlock := (ownA_ne ow.1 ox (Nat.le_refl _)).1
    have nxg : vg.ownBlock = none ∨ vg.ownBlock ≠ vx.ownBlock := (ownA_ne ox og.1 (Nat.le_refl _)).2
    have nwg : vw.ownBlock = none ∨ vw.ownBlock ≠ vg.ownBlock := (ownA_ne ow3.1 og.1 (Nat.le_refl _)).1
    clear ow ow3 ox
    go_wp2_with fail
    refine (eqAS _ _ K K O _ og.rd ow4.rd).mono ?_
    rintro e w5 ⟨rfl, b5⟩
    have c5 := belowCall c4 b5 c4.size
    have ow5 := ow4.below b5
    have ox5 := ox4.below b5
    have og5 := og.below b5
    clear ow4 ox4 og
    go_wp2_with fail
    refine (toB _ zs _ (h.below c5) hlen).mono ?_
    rintro e w6 ⟨v6, rfl, o6, b6⟩
    have c6 := belowCall c5 b6 c5.size
    have ow6 := ow5.below b6
    have ox6 := ox5.below b6
    have og6 := og5.below b6
    clear ow5 ox5 og5
    go_wp2_with fail
    refine (eqBS _ _ zs _ ox6.rd o6.rd).mono ?_
    rintro e w7 ⟨rfl, b7⟩
    have c7 := belowCall c6 b7 c6.size
    have ow7 := ow6.below b7
    have ox7 := ox6.below b7
    have og7 := og6.below b7
    clear ow6 ox6 og6 o6
    go_wp2_with fail
    refine (markB _ zs 1 _ _ ox7 (by omega) (by omega)).mono ?_
    rintro e w8 ⟨rfl, ox8, g8⟩
    have c8 : Below w.heap.size w w8 := c7.grown g8 c7.size (fun j hj => by have := (World.ownsRow.lt ox7 j hj).1; have := c2.size; omega)
    have ow8 : OwA _ w8 vw K O := ⟨World.ownsRow.kept ow7.1 g8 nxw, ow7.2⟩
    have og8 : OwA _ w8 vg K O := ⟨World.ownsRow.kept og7.1 g8 nxg, og7.2⟩
    have k8 : decide ((1 : Int) + (zs.length : Int) < 0) = false := by simp; omega
    clear ow7 ox7 og7 g8 ox8
    go_wp2_with fail
    refine (eqAS _ _ K K O _ og8.rd ow8.rd).mono ?_
    rintro e w9 ⟨rfl, b9⟩
    have c9 := belowCall c8 b9 c8.size
    have ow9 := ow8.below b9
    have og9 := og8.below b9
    clear ow8 og8
    go_wp2_with fail
    refine (markA _ K O 1 _ _ og9 (by omega) (by omega)).mono ?_
    rintro e wa ⟨rfl, oga, ga⟩
    have ca : Below w.heap.size w wa := c9.grown ga c9.size (fun j hj => by have := (World.ownsRow.lt og9.1 j hj).1; have := c3.size; omega)
    have owa : OwA _ wa vw K O := ⟨World.ownsRow.kept ow9.1 ga nwg, ow9.2⟩
    clear ow9 og9 ga
    go_wp2_with fail
    refine (heldA _ 1 K _ oga.rd (by omega) (by omega)).mono ?_
    rintro e wb ⟨rfl, bb⟩
    have cb := belowCall ca bb ca.size
    have owb := owa.below bb
    have ogb := oga.below bb
    have kb : decide ((1 : Int) + (K : Int) * 16 < 0) = false := by simp; omega
    have kc : (((1 : Int) + (K : Int) * 16) != ((1 : Int) + (K : Int) * 16)) = false := by simp
    clear owa oga
    go_wp2_with fail
    refine (toB _ zs _ (h.below cb) hlen).mono ?_
    rintro e wc ⟨vc, rfl, oc, bc⟩
    have cc := belowCall cb bc cb.size
    have owc := owb.below bc
    have ogc := ogb.below bc
    clear owb ogb
    go_wp2_with fail
    refine (IM.out _ _ oc.rd).mono ?_
    rintro e wd ⟨vh, rfl, oh, bd⟩
    have cd := belowCall cc bd cc.size
    have owd := owc.below bd
    have ogd := ogc.below bd
    clear owc ogc oc
    go_wp2_with fail
    refine (eqAS _ _ K K O _ oh.rd owd.rd).mono ?_
    rintro e we ⟨rfl, be⟩
    have ce := belowCall cd be cd.size
    have oge := ogd.below be
    clear owd ogd oh
    go_wp2_with fail
    refine (heldA _ 1 K _ oge.rd (by omega) (by omega)).mono ?_
    rintro e wf ⟨rfl, bf⟩
    have cf := belowCall ce bf ce.size
    clear oge
    go_wp2
    go_ret
    exact ⟨rfl, cf⟩

set_option maxRecDepth 100000 in
theorem lifted7 (os : Os) (started : os.Started) (H : Type) (enc : TypeId × Value → H) :
    ReturnsInHanded {} Try.checked os 7 .any (Rows.fnExactCellsSpec.pre6 enc Try.prog Try.f7 Rows.fnExactCellsRow.domain false) (Rows.fnExactCellsSpec.post enc Try.prog Try.f7 false true false false) := by
  refine returnsInHanded_of_change (C := Try.checked) own started (by kernel_rfl) Try.func7
    (ChangeSpec.witness6 (enc := enc) (C := Try.checked) false ⟨#[], #[.slice none 0 0], []⟩ 8 (by kernel_rfl) (by kernel_rfl) (by kernel_rfl) (by kernel_rfl)) ?_
  intro W base args ds gs before hval0 hW hcnd _
  have hval : ∀ (j : Nat) t v, Try.f7.params[j]? = some t → args[j]? = some v → Value.okWide Try.prog W .any base t v := hval0
  have hW' := hW
  obtain ⟨p, q, hA0, hV, rfl, hfz, hnd⟩ := hW
  have hA : DataW.TrodAll enc Try.prog W 0 (fun _ => true) true Try.f7.params.toList args.toList ds p := hA0
  rw [Try.params7] at hA hval
  obtain ⟨v0, vs0, d0, ds0, p0, q0, hargs, rfl, rfl, h0, rr0⟩ := trodAll_cons hA
  obtain ⟨rfl, rfl, rfl⟩ := trodAll_nil rr0
  obtain rfl : args = #[v0] := by cases args; simp_all
  obtain ⟨rfl, rfl⟩ := trodVars_none hV
  have lt0 : ∀ x ∈ p0, x.block < W.heap.size := by obtain ⟨m, hm⟩ := h0; exact DataW.trod_lt m _ _ _ hm
  obtain ⟨a0, len0, cap0, rfl⟩ := okWide_slice Try.underlying22 (hval 0 22 v0 rfl rfl)
  obtain ⟨z0, r0, wz0⟩ := openRow Try.underlying22 Try.underlying5 (by kernel_rfl) h0
  clear hA0 hval0
  refine (law7 _ z0 W r0 wz0).mono fun e W' ⟨he, bel⟩ => ?_
  subst he
  exact ⟨_, rfl, _, _, _, [], _, [], hW', trodAll_mk1 (shut_bool Try.underlying4 _), (trodAll_cons_mk (Below.trod laidOut (by kernel_rfl) (of_decide_eq_true (by kernel_rfl)) h0 bel lt0) trodAll_mk0), rfl, bel.frame _, fun h => by cases h⟩

theorem cellsProved : Rows.FnExactCellsSaid :=
  OpenClaim.holds_of_wide 7 Try.f7 rfl rfl rfl rfl rfl rfl rfl ⟨rfl, rfl, rfl, rfl, rfl⟩ rfl rfl rfl rfl rfl (by kernel_rfl) Try.func7 (by kernel_rfl)
    (of_decide_eq_true (by kernel_rfl)) (by unfold Func.isWrapper; first | (rw [if_pos (by decide +kernel)]; kernel_rfl) | (rw [if_neg (by decide +kernel)]; exact ⟨rfl, rfl⟩))
    (fun os started H enc _ => lifted7 os started H enc)
#print axioms cellsProved
end Go.Proofs.Ytadhiddnjhjioaa

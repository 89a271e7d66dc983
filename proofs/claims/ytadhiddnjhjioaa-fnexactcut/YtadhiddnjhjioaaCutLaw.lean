/- Proved: at every slice of bytes and every number FnExactCut returns true and leaves its arguments as they were (Cut answers as its model does, and writes into no argument); no condition. -/
import Derived.Test.YtadhiddnjhjioaaXor
import Derived.Test.YtadhiddnjhjioaaCutI
import Derived.Test.YtadhiddnjhjioaaOpen
import Derived.ChangeOld
namespace Go.Proofs.Ytadhiddnjhjioaa
open Go.RowKit Go.ChangeShapes Go.WideShapes Go.ChangeAt
set_option linter.unusedVariables false
set_option linter.unusedSimpArgs false
set_option maxHeartbeats 800000 in
theorem law6 (v : Value) (zs : List Int) (i : Int) (w : World) (h : Rd .u8 w v zs) (hwz : ∀ z ∈ zs, (Lit.int .u8 z).wf = true) (hwi : (Lit.int .i64 i).wf = true) :
   Calls Try.prog 6 #[v, .int .i64 i] w fun e w' => e = .returned (.bool true) ∧ Below w.heap.size w w' := by
  have hz : ∀ z ∈ zs, 0 ≤ z ∧ z ≤ 255 := fun z hm => bounds_u8 (hwz z hm)
  obtain ⟨a, cap, hv, h1, h2, h3⟩ := id h
  subst hv
  clear h3
  unfold maxLen at h2
  by_cases hbig : 1048576 < zs.length
  · have hb : decide ((1048576 : Int) < (zs.length : Int)) = true := by simp; omega
    go_enter Try.func6, Try.ntmps6
    go_wp2
    go_ret
    exact ⟨rfl, Below.refl _ _⟩
  · have hb : decide ((1048576 : Int) < (zs.length : Int)) = false := by simp; omega
    have hB := cutL_B hz i
    have hs16 := A16_size hB
    go_enter Try.func6, Try.ntmps6
    go_wp2_with fail
    refine (toB _ zs _ h (by omega)).mono ?_
    rintro e w1 ⟨v1, rfl, o1, b1⟩
    go_wp2_with fail
    refine (cut_spec _ zs hz i _ o1.rd (by omega)).mono ?_
    rintro e w2 ⟨rfl, b2⟩
    have c2 : Below w.heap.size w w2 := belowCall b1 b2 b1.size
    have z2 := c2.size
    have Bg0 := (Blk.newAt w2 w2.heap.size (A16 Z16) 29 rfl).row (A16 (cutL zs i))
    have c3 : Below w.heap.size w ((w2.alloc (.cells (A16 Z16) 29)).setRow w2.heap.size (A16 (cutL zs i))) := belowRow (c2.alloc z2 _) _ z2 _
    go_wp2_with (refine st29 rfl _ _ rfl w2.heap.size rfl (cutL zs i) hB rfl 29 (A16 Z16) (Blk.newAt _ _ _ _ rfl) (A16_size Z16_B) ?_)
    refine (toB _ zs _ (h.below c3) (by omega)).mono ?_
    rintro e w3 ⟨v3, rfl, o3, b3⟩
    have B3 := Bg0.below b3 (by simp)
    have c4 := belowCall c3 b3 (by simp; omega)
    have zz := b3.size
    simp at zz
    clear Bg0 c3
    go_wp2_with fail
    refine (cut_impl _ zs hz i _ o3.rd (by omega)).mono ?_
    rintro e w4 ⟨rfl, b4⟩
    have B4 := B3.below b4 B3.lt
    have o4 := o3.below b4
    have c5 := belowCall c4 b4 c4.size
    have z4 := c5.size
    have Bg0 := (Blk.newAt w4 w4.heap.size (A16 Z16) 29 rfl).row (A16 (cutL zs i))
    have B5 : Blk ((w4.alloc (.cells (A16 Z16) 29)).setRow w4.heap.size (A16 (cutL zs i))) w2.heap.size (A16 (cutL zs i)) 29 := (B4.alloc _).rowOther _ _ (Nat.ne_of_lt B4.lt)
    have c6 : Below w.heap.size w ((w4.alloc (.cells (A16 Z16) 29)).setRow w4.heap.size (A16 (cutL zs i))) := belowRow (c5.alloc z4 _) _ z4 _
    have c6' : Below w4.heap.size w4 ((w4.alloc (.cells (A16 Z16) 29)).setRow w4.heap.size (A16 (cutL zs i))) := belowRow ((Below.refl _ _).alloc (Nat.le_refl _) _) _ (Nat.le_refl _) _
    go_wp2_with (first | refine st29 rfl _ _ rfl w4.heap.size rfl (cutL zs i) hB rfl 29 (A16 Z16) (Blk.newAt _ _ _ _ rfl) (A16_size Z16_B) ?_ | refine ld29 rfl _ rfl w4.heap.size rfl 29 (A16 (cutL zs i)) (0, 0) Bg0 hs16 ?_ | refine ld29 rfl _ rfl w2.heap.size rfl 29 (A16 (cutL zs i)) (0, 0) B5 hs16 ?_)
    refine (eq_16 _ _ hB hB _).mono ?_
    rintro e w5 ⟨rfl, b5⟩
    have heq : eq16 (cutL zs i) (cutL zs i) = true := by simp [eq16]
    rw [heq]
    have c7 := belowCall c6 b5 (by simp; omega)
    have o5 := (o4.below c6').below b5
    clear Bg0 B5 c6 c6' B3 B4
    have hbb : (cutOk zs i != cutOk zs i) = false := by simp
    go_wp2_with fail
    refine (toB _ zs _ (h.below c7) (by omega)).mono ?_
    rintro e w6 ⟨v6, rfl, o6, b6⟩
    go_wp2_with fail
    refine (eqB _ _ zs zs _ (o5.below b6).rd o6.rd).mono ?_
    rintro e w7 ⟨rfl, b7⟩
    have heq2 : decide (zs = zs) = true := by simp
    rw [heq2]
    go_wp2
    go_ret
    exact ⟨rfl, belowCall (belowCall c7 b6 c7.size) b7 (by have := c7.size; have := b6.size; omega)⟩

set_option maxRecDepth 100000 in
theorem lifted6 (os : Os) (started : os.Started) (H : Type) (enc : TypeId × Value → H) :
    ReturnsInHanded {} Try.checked os 6 .any (Rows.fnExactCutSpec.pre6 enc Try.prog Try.f6 Rows.fnExactCutRow.domain false) (Rows.fnExactCutSpec.post enc Try.prog Try.f6 false true false false) := by
  refine returnsInHanded_of_change (C := Try.checked) own started (by kernel_rfl) Try.func6
    (ChangeSpec.witness6 (enc := enc) (C := Try.checked) false ⟨#[], #[.slice none 0 0, .int .i64 0], []⟩ 8 (by kernel_rfl) (by kernel_rfl) (by kernel_rfl) (by kernel_rfl)) ?_
  intro W base args ds gs before hval0 hW hcnd _
  have hval : ∀ (j : Nat) t v, Try.f6.params[j]? = some t → args[j]? = some v → Value.okWide Try.prog W .any base t v := hval0
  have hW' := hW
  obtain ⟨p, q, hA0, hV, rfl, hfz, hnd⟩ := hW
  have hA : DataW.TrodAll enc Try.prog W 0 (fun _ => true) true Try.f6.params.toList args.toList ds p := hA0
  rw [Try.params6] at hA hval
  obtain ⟨v0, vs0, d0, ds0, p0, q0, hargs, rfl, rfl, h0, rr0⟩ := trodAll_cons hA
  obtain ⟨v1, vs1, d1, ds1, p1, q1, rfl, rfl, rfl, h1, rr1⟩ := trodAll_cons rr0
  obtain ⟨rfl, rfl, rfl⟩ := trodAll_nil rr1
  obtain rfl : args = #[v0, v1] := by cases args; simp_all
  obtain ⟨rfl, rfl⟩ := trodVars_none hV
  have lt0 : ∀ x ∈ p0, x.block < W.heap.size := by obtain ⟨m, hm⟩ := h0; exact DataW.trod_lt m _ _ _ hm
  obtain ⟨a0, len0, cap0, rfl⟩ := okWide_slice Try.underlying22 (hval 0 22 v0 rfl rfl)
  obtain ⟨z0, r0, wz0⟩ := openRow Try.underlying22 Try.underlying5 (by kernel_rfl) h0
  obtain ⟨i1, rfl, rfl, rfl, w1⟩ := open_int Try.underlying3 (hval 1 3 v1 rfl rfl) h1
  clear hA0 hval0
  refine (law6 _ z0 i1 W r0 wz0 w1).mono fun e W' ⟨he, bel⟩ => ?_
  subst he
  exact ⟨_, rfl, _, _, _, [], _, [], hW', trodAll_mk1 (shut_bool Try.underlying4 _), (trodAll_cons_mk (Below.trod laidOut (by kernel_rfl) (of_decide_eq_true (by kernel_rfl)) h0 bel lt0) (trodAll_cons_mk (shut_int Try.underlying3 w1) trodAll_mk0)), rfl, bel.frame _, fun h => by cases h⟩

theorem cutProved : Rows.FnExactCutSaid :=
  OpenClaim.holds_of_wide 6 Try.f6 rfl rfl rfl rfl rfl rfl rfl ⟨rfl, rfl, rfl, rfl, rfl⟩ rfl rfl rfl rfl rfl (by kernel_rfl) Try.func6 (by kernel_rfl)
    (of_decide_eq_true (by kernel_rfl)) (by unfold Func.isWrapper; first | (rw [if_pos (by decide +kernel)]; kernel_rfl) | (rw [if_neg (by decide +kernel)]; exact ⟨rfl, rfl⟩))
    (fun os started H enc _ => lifted6 os started H enc)
#print axioms cutProved
end Go.Proofs.Ytadhiddnjhjioaa

/- Proved: at every code FnStuffed returns true and leaves it as it was (drawn bits that are stuffed come back, and no six 1 stand in a row there); no condition. -/
import Derived.Test.YtadhiddnjhjioaaSMath
import Derived.Test.YtadhiddnjhjioaaDrawS
import Derived.Test.YtadhiddnjhjioaaOpen
import Derived.ChangeOld
namespace Go.Proofs.Ytadhiddnjhjioaa
open Go.RowKit Go.ChangeShapes Go.WideShapes Go.ChangeAt
set_option linter.unusedVariables false
set_option linter.unusedSimpArgs false

set_option maxHeartbeats 800000 in
theorem sameI (v v' : Value) (xs ys : List Int) (w : World) (h : Rd .i64 w v xs) (h' : Rd .i64 w v' ys) :
   Calls Try.prog 27 #[v, v'] w fun e w' => e = .returned (.bool (decide (xs = ys))) ∧ Below w.heap.size w w' := by
  obtain ⟨a, cap, rfl, h1, h2, h3⟩ := h
  obtain ⟨a', cap', rfl, h1', h2', h3'⟩ := h'
  unfold maxLen at h2 h2'
  by_cases hne : xs.length = ys.length
  · have hneb : ((xs.length : Int) != (ys.length : Int)) = false := by simp [hne]
    go_enter Try.func27, Try.ntmps27
    go_wp2
    go_loopw [5] (fun i wr => ∃ j : Nat, j ≤ xs.length ∧ i = .int .i64 j ∧ Hid (∀ t, t < j → xs.getD t 0 = ys.getD t 0) ∧ Below w.heap.size w wr) (fun i _ => xs.length - (intOf i).toNat)
    case atStart => exact ⟨0, Nat.zero_le _, rfl, fun t ht => by omega, Below.refl _ _⟩
    case round =>
      obtain ⟨j, hj, rfl, hall, hbr⟩ := hrel
      by_cases hlt : j < xs.length
      · rcases h3 with h3 | ⟨b, off, rfl, h4⟩
        · subst h3; simp at hlt
        rcases h3' with h3' | ⟨b', off', rfl, h4'⟩
        · subst h3'; simp at hne; subst hne; simp at hlt
        have hc : wr.cell? ⟨b, off + j, none⟩ = some (.int .i64 (xs.getD j 0)) := by
          have := h4 j hlt
          rw [hbr.cell (block_lt_of_cell this)]; exact this
        have hc' : wr.cell? ⟨b', off' + j, none⟩ = some (.int .i64 (ys.getD j 0)) := by
          have := h4' j (by omega)
          rw [hbr.cell (block_lt_of_cell this)]; exact this
        have hi : (0 : Int) ≤ (j : Int) := by omega
        have hi2 : (j : Int) < (xs.length : Int) := by omega
        have hi3 : (j : Int) < (ys.length : Int) := by omega
        have hjy : j < ys.length := by omega
        have HN : Hid (xs.length = ys.length) := hne
        clear h4 h4' hne
        go_wp2
        go_quiet (fail)
        go_wp2
        · have hn : (xs[j] != ys[j]) = true := by assumption
          have hab : decide (xs = ys) = false := by
            simp only [decide_eq_false_iff_not]
            intro h; subst h; simp at hn
          go_ret
          exact ⟨by rw [hab]; rfl, below_drewN hbr _⟩
        · have he : (xs[j] != ys[j]) = false := by assumption
          go_roundw
          case rel =>
            refine ⟨j + 1, by omega, by go_num, fun t ht => ?_, below_drewN hbr _⟩
            by_cases hjk : t < j
            · exact hall.out t hjk
            · obtain rfl : t = j := by omega
              simpa [List.getElem?_eq_getElem hlt, List.getElem?_eq_getElem hjy] using he
          case measure => simp [intOf]; omega
      · obtain rfl : j = xs.length := by omega
        have hab : decide (xs = ys) = true := by simp only [decide_eq_true_eq]; exact ext_getD hne hall.out
        have HN : Hid (xs.length = ys.length) := hne
        clear h3 h3' hne
        go_wp2
        go_ret
        exact ⟨by rw [hab]; rfl, hbr⟩
  · have hneb : ((xs.length : Int) != (ys.length : Int)) = true := by rw [bne_iff_ne]; omega
    have hab : decide (xs = ys) = false := by
      simp only [decide_eq_false_iff_not]
      intro h; subst h; exact hne rfl
    have HN : Hid (¬ xs.length = ys.length) := hne
    clear hne h3 h3'
    go_enter Try.func27, Try.ntmps27
    go_wp2
    go_ret
    exact ⟨by rw [hab]; rfl, Below.refl _ _⟩
theorem sameIS (v v' : Value) (xs : List Int) (w : World) (h : Rd .i64 w v xs) (h' : Rd .i64 w v' xs) :
   Calls Try.prog 27 #[v, v'] w fun e w' => e = .returned (.bool true) ∧ Below w.heap.size w w' :=
  (sameI v v' xs xs w h h').mono fun e w' he => ⟨by rw [he.1]; simp, he.2⟩

set_option maxHeartbeats 3200000 in
theorem law5 (v : Value) (zs : List Int) (w : World) (h : Rd .u8 w v zs) (hwz : ∀ z ∈ zs, (Lit.int .u8 z).wf = true) :
   Calls Try.prog 5 #[v] w fun e w' => e = .returned (.bool true) ∧ Below w.heap.size w w' := by
  have hz : ∀ z ∈ zs, 0 ≤ z ∧ z ≤ 255 := fun z hm => bounds_u8 (hwz z hm)
  clear hwz
  obtain ⟨a, cap, hv, h1, h2, h3⟩ := id h
  subst hv
  clear h3
  unfold maxLen at h2
  by_cases hbig : 1048576 < zs.length
  · have hb : decide ((1048576 : Int) < (zs.length : Int)) = true := by simp; omega
    clear hz h
    go_enter Try.func5, Try.ntmps5
    go_wp2
    go_ret
    exact ⟨rfl, Below.refl _ _⟩
  · have hb : decide ((1048576 : Int) < (zs.length : Int)) = false := by simp; omega
    have hlen : zs.length ≤ 1048576 := by omega
    have HZ : Hid (∀ z ∈ zs, 0 ≤ z ∧ z ≤ 255) := hz
    clear hz
    go_enter Try.func5, Try.ntmps5
    go_wp2_with (go_at_call 13; go_in)
    refine (drawStuff_c _ zs _ h HZ.out hlen).mono ?_
    rintro e w1 ⟨vb, yb, rfl, ob, lb, c1⟩
    go_wp2_with fail
    refine (stuff_impl _ yb _ ob.rd).mono ?_
    rintro e w2 ⟨vs, rfl, os, b2⟩
    have c2 := belowCall c1 b2 c1.size
    have ob2 := ob.below b2
    go_wp2_with fail
    refine (stuff_spec _ yb _ ob2.rd).mono ?_
    rintro e w3 ⟨vt, rfl, ot, b3⟩
    have c3 := belowCall c2 b3 c2.size
    have ob3 := ob2.below b3
    have os3 := os.below b3
    clear ob ob2 os ot h HZ
    have hkk : (stuffOk yb != stuffOk yb) = false := by simp
    have hlit : Ow .i64 3 w3.heap.size (w3.alloc (.cells #[.int .i64 1, .int .i64 1, .int .i64 1, .int .i64 1, .int .i64 1] 3)) (.slice (some ⟨w3.heap.size, 0, none⟩) 5 5) [1, 1, 1, 1, 1] := World.ownsRow_lit w3 #[.int .i64 1, .int .i64 1, .int .i64 1, .int .i64 1, .int .i64 1] 5 (Nat.le_refl _) (by simp [maxLen]) (by simp)
    have hbA : Below w3.heap.size w3 (w3.alloc (.cells #[.int .i64 1, .int .i64 1, .int .i64 1, .int .i64 1, .int .i64 1] 3)) := (Below.refl _ _).alloc (Nat.le_refl _) _
    have cA := belowCall c3 hbA c3.size
    have obA := ob3.below hbA
    have osA := os3.below hbA
    clear ob3 os3
    go_wp2_with fail
    refine (stuff_impl _ [1, 1, 1, 1, 1] _ hlit.rd).mono ?_
    rintro e w4 ⟨v5, rfl, o5, b4⟩
    have c4 := belowCall cA b4 cA.size
    have ob4 := obA.below b4
    have os4 := osA.below b4
    rw [five_ok]
    obtain ⟨a5, cap5, hv5, _, _, _⟩ := o5.rd
    rw [five_len] at hv5
    subst hv5
    clear obA osA hlit hbA o5
    cases hok : stuffOk yb with
    | false =>
      go_wp2
      go_ret
      exact ⟨rfl, c4⟩
    | true =>
      obtain ⟨hruns, hun, hback⟩ := stuffed_back hok
      have HRUN : Hid (runsOk (stuffL yb)) := hruns
      have HUN : Hid (unOk (stuffL yb) = true) := hun
      have HBK : Hid (unL (stuffL yb) = yb) := hback
      clear hruns hun hback hkk
      have hsr := os4.rd
      have hsl : (stuffL yb).length ≤ 8000 := by
        have : stuffL yb = (stS yb yb.length).1 := by simp [stuffL, hok]
        rw [this]; have := stS_bd yb yb.length (Nat.le_refl _); omega
      generalize stuffL yb = S at HRUN HUN HBK os4 hsr hsl
      obtain ⟨a6, cap6, hv6, k1, k2, k3⟩ := id hsr
      subst hv6
      have HSR : Hid (Rd .i64 w4 (.slice a6 S.length cap6) S) := hsr
      unfold maxLen at k2
      clear hsr os4
      go_wp2
      go_loop [10, 11] (fun o i => ∃ j : Nat, j ≤ S.length ∧ i = .int .i64 j ∧ o = .int .i64 (runTo S j)) (fun _ i => S.length - (intOf i).toNat)
      case atStart => exact ⟨0, Nat.zero_le _, rfl, rfl⟩
      case round =>
        obtain ⟨j, hj, rfl, rfl⟩ := hrel
        by_cases hlt : j < S.length
        · rcases k3 with k3 | ⟨b, off, rfl, k4⟩
          · subst k3; simp at hlt
          have hc := k4 j hlt
          have hi2 : (j : Int) < (S.length : Int) := by omega
          have r0 := HRUN.out j hj
          have r1 := HRUN.out (j + 1) (by omega)
          rw [runTo_succ S j hlt] at r1
          have HR : Hid (runTo S (j + 1) = S.getD j 0 * (runTo S j + 1)) := runTo_succ S j hlt
          generalize hzj : S.getD j 0 = z at hc r1 HR
          have HZJ : Hid (S.getD j 0 = z) := hzj
          clear hzj k4
          generalize runTo S j = r at r0 r1 HR
          generalize hm : z * (r + 1) = m at r1 HR
          have hwm : wrap64 (z * (r + 1)) = m := by rw [hm]; exact wrap64_in (by omega)
          clear hm
          have hd5 : decide ((5 : Int) < m) = false := by simp; omega
          go_wp2
          go_round
          case rel => exact ⟨j + 1, by omega, by go_num, by rw [HR.out, hwm]⟩
          case measure => simp [intOf]; omega
        · clear k3
          go_wp2_with fail
          refine (un_impl _ S _ HSR.out).mono ?_
          rintro e w5 ⟨v7, rfl, o7, b5⟩
          rw [HUN.out]
          rw [HBK.out] at o7
          have c5 := belowCall c4 b5 c4.size
          have ob5 := ob4.below b5
          go_wp2_with fail
          refine (sameIS _ _ yb _ o7.rd ob5.rd).mono ?_
          rintro e w6 ⟨rfl, b6⟩
          go_wp2
          go_ret
          exact ⟨rfl, belowCall c5 b6 c5.size⟩

set_option maxRecDepth 100000 in
theorem lifted5 (os : Os) (started : os.Started) (H : Type) (enc : TypeId × Value → H) :
    ReturnsInHanded {} Try.checked os 5 .any (Rows.fnStuffedSpec.pre6 enc Try.prog Try.f5 Rows.fnStuffedRow.domain false) (Rows.fnStuffedSpec.post enc Try.prog Try.f5 false true false false) := by
  refine returnsInHanded_of_change (C := Try.checked) own started (by kernel_rfl) Try.func5
    (ChangeSpec.witness6 (enc := enc) (C := Try.checked) false ⟨#[], #[.slice none 0 0], []⟩ 8 (by kernel_rfl) (by kernel_rfl) (by kernel_rfl) (by kernel_rfl)) ?_
  intro W base args ds gs before hval0 hW hcnd _
  have hval : ∀ (j : Nat) t v, Try.f5.params[j]? = some t → args[j]? = some v → Value.okWide Try.prog W .any base t v := hval0
  have hW' := hW
  obtain ⟨p, q, hA0, hV, rfl, hfz, hnd⟩ := hW
  have hA : DataW.TrodAll enc Try.prog W 0 (fun _ => true) true Try.f5.params.toList args.toList ds p := hA0
  rw [Try.params5] at hA hval
  obtain ⟨v0, vs0, d0, ds0, p0, q0, hargs, rfl, rfl, h0, rr0⟩ := trodAll_cons hA
  obtain ⟨rfl, rfl, rfl⟩ := trodAll_nil rr0
  obtain rfl : args = #[v0] := by cases args; simp_all
  obtain ⟨rfl, rfl⟩ := trodVars_none hV
  have lt0 : ∀ x ∈ p0, x.block < W.heap.size := by obtain ⟨m, hm⟩ := h0; exact DataW.trod_lt m _ _ _ hm
  obtain ⟨a0, len0, cap0, rfl⟩ := okWide_slice Try.underlying22 (hval 0 22 v0 rfl rfl)
  obtain ⟨z0, r0, wz0⟩ := openRow Try.underlying22 Try.underlying5 (by kernel_rfl) h0
  clear hA0 hval0
  refine (law5 _ z0 W r0 wz0).mono fun e W' ⟨he, bel⟩ => ?_
  subst he
  exact ⟨_, rfl, _, _, _, [], _, [], hW', trodAll_mk1 (shut_bool Try.underlying4 _), (trodAll_cons_mk (Below.trod laidOut (by kernel_rfl) (of_decide_eq_true (by kernel_rfl)) h0 bel lt0) trodAll_mk0), rfl, bel.frame _, fun h => by cases h⟩

theorem stuffedProved : Rows.FnStuffedSaid :=
  OpenClaim.holds_of_wide 5 Try.f5 rfl rfl rfl rfl rfl rfl rfl ⟨rfl, rfl, rfl, rfl, rfl⟩ rfl rfl rfl rfl rfl (by kernel_rfl) Try.func5 (by kernel_rfl)
    (of_decide_eq_true (by kernel_rfl)) (by unfold Func.isWrapper; first | (rw [if_pos (by decide +kernel)]; kernel_rfl) | (rw [if_neg (by decide +kernel)]; exact ⟨rfl, rfl⟩))
    (fun os started H enc _ => lifted5 os started H enc)
#print axioms stuffedProved
end Go.Proofs.Ytadhiddnjhjioaa

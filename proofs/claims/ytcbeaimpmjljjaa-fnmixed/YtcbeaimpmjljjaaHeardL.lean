/- FnHeard; no condition. -/
import Derived.Test.YtcbeaimpmjljjaaHMath
import Derived.Test.YtcbeaimpmjljjaaHearS
import Derived.Test.YtcbeaimpmjljjaaHearI
import Derived.Test.YtcbeaimpmjljjaaOpenP
namespace Go.Proofs.Ytcbeaimpmjljjaa
open Go.RowKit Go.ChangeShapes Go.WideShapes Go.ChangeAt
set_option linter.unusedVariables false
set_option linter.unusedSimpArgs false
set_option maxRecDepth 8000
structure Hst (w : World) (n : Int) (V : Value) (cs : Calls2) (P : Nat) (W : World) : Prop where
  bel : Below w.heap.size w W
  box : Blk W P #[.int .i64 n, V] 26
  rd : RdC W V cs
theorem Hst.below {w W W' : World} {n : Int} {V : Value} {cs : Calls2} {P : Nat} (h : Hst w n V cs P W) (b : Below W.heap.size W W') : Hst w n V cs P W' := ⟨belowCall h.bel b h.bel.size, h.box.below b h.box.lt, h.rd.below b⟩
set_option maxHeartbeats 3200000 in
theorem law5 (v : Value) (zs : List Int) (w : World) (h : Rd .u8 w v zs) (hwz : ∀ z ∈ zs, (Lit.int .u8 z).wf = true) :
   Calls Try.prog 5 #[v] w fun e w' => e = .returned (.bool true) ∧ Below w.heap.size w w' := by
  have hz : ∀ z ∈ zs, 0 ≤ z ∧ z ≤ 255 := fun z hm => bounds_u8 (hwz z hm)
  clear hwz
  obtain ⟨a, cap, hv, h1, h2, h3⟩ := id h
  subst hv
  clear h3
  unfold maxLen at h2
  by_cases hbig : 1048576 < zs.length
  · have hb : decide ((1048576 : Int) < (zs.length : Int)) = true := by simp; omega
    clear hz h
    go_enter Try.func5, Try.ntmps5
    go_wp2
    go_ret
    exact ⟨rfl, Below.refl _ _⟩
  · have hb : decide ((1048576 : Int) < (zs.length : Int)) = false := by simp; omega
    have hlen : zs.length ≤ 1048576 := by omega
    have HZ : Hid (∀ z ∈ zs, 0 ≤ z ∧ z ≤ 255) := hz
    clear hz
    go_enter Try.func5, Try.ntmps5
    go_wp2_with (go_at_call 13; go_in)
    refine (drawOk_c _ zs _ h HZ.out hlen).mono ?_
    rintro e w1 ⟨n, V, cs, rfl, r1, l1, b1⟩
    obtain ⟨a2, ln2, c2, hV⟩ : ∃ a2 ln2 c2, V = .slice a2 ln2 c2 := by
      obtain ⟨lv, -, ⟨a2, c2, hV, -⟩, -⟩ := r1
      exact ⟨a2, _, c2, hV⟩
    subst hV
    have HP : Hid (RdC w1 (.slice a2 ln2 c2) cs) := r1
    obtain ⟨W1, hW1⟩ : ∃ W1, ((w1.alloc (Obj.cells #[Value.int IntKind.i64 n, Value.slice a2 ln2 c2] 26)).alloc
          (Obj.cells #[Value.int IntKind.i64 1, Value.bool false, Value.int IntKind.i64 0, Value.bool false] 42)).alloc
      (Obj.cells #[Value.bool false, Value.slice (some { block := w1.heap.size + 1, off := 0 }) 2 2] 45) = W1 := ⟨_, rfl⟩
    have bW : Below w1.heap.size w1 W1 := hW1 ▸ (((Below.refl _ _).alloc (Nat.le_refl _) _).alloc (by simp) _).alloc (by simp; omega) _
    have kp : Blk W1 w1.heap.size #[.int .i64 n, .slice a2 ln2 c2] 26 := hW1 ▸ ((Blk.new w1 _ _).below ((Below.refl _ _).alloc (Nat.le_refl _) _) (by simp)).below ((Below.refl _ _).alloc (Nat.le_refl _) _) (by simp; omega)
    have kl : Blk W1 (w1.heap.size + 1) #[.int .i64 1, .bool false, .int .i64 0, .bool false] 42 := hW1 ▸ (Blk.newAt _ (w1.heap.size + 1) _ 42 (by simp)).below ((Below.refl _ _).alloc (Nat.le_refl _) _) (by simp)
    have kc : Blk W1 (w1.heap.size + 2) #[.bool false, .slice (some ⟨w1.heap.size + 1, 0, none⟩) 2 2] 45 := hW1 ▸ Blk.newAt _ (w1.heap.size + 2) _ 45 (by simp)
    have RS : Hid (RdC W1 (.slice (some ⟨w1.heap.size + 2, 0, none⟩) 1 1) smallC) := by
      refine ⟨[(.bool false, .slice (some ⟨w1.heap.size + 1, 0, none⟩) 2 2)], rfl, ⟨_, 1, rfl, by simp, by simp [maxLen], .inr ⟨_, 0, rfl, fun i hi => ?_⟩⟩, fun i hi hi' => ?_⟩
      · obtain rfl : i = 0 := Nat.lt_one_iff.1 hi
        exact ⟨kc.cell 0, kc.cell 1⟩
      · obtain rfl : i = 0 := Nat.lt_one_iff.1 hi'
        refine ⟨rfl, _, 2, rfl, Nat.le_refl _, by simp [maxLen], .inr ⟨_, 0, rfl, fun j hj => ?_⟩⟩
        have hj2 : j < 2 := hj
        rcases j with _ | _ | j
        · exact ⟨kl.cell 0, kl.cell 1⟩
        · exact ⟨kl.cell 2, kl.cell 3⟩
        · omega
    have HW1 : Hid (((w1.alloc (Obj.cells #[Value.int IntKind.i64 n, Value.slice a2 ln2 c2] 26)).alloc
          (Obj.cells #[Value.int IntKind.i64 1, Value.bool false, Value.int IntKind.i64 0, Value.bool false] 42)).alloc
      (Obj.cells #[Value.bool false, Value.slice (some { block := w1.heap.size + 1, off := 0 }) 2 2] 45) = W1) := hW1
    obtain ⟨P, hP⟩ : ∃ P, P = w1.heap.size := ⟨_, rfl⟩
    have HPP : Hid (P = w1.heap.size) := hP
    have S1 : Hid (Hst w n (.slice a2 ln2 c2) cs P W1) := ⟨belowCall b1 bW b1.size, hP ▸ kp, HP.out.below bW⟩
    have hwP : w.heap.size ≤ P := hP ▸ b1.size
    clear h HZ hW1 bW kp kl kc HP r1 l1 b1 hP
    go_wp2_with fail
    rw [HW1.out, ← HPP.out]
    refine (heard_c 2 _ smallC 0 _ (by rw [HPP.out]; exact RS.out)).mono ?_
    rintro e w3 ⟨v3, z3, rfl, o3, hs3, b3⟩
    obtain rfl : z3 = [1] := (hs3.1 small_ok).trans small_hears
    obtain ⟨a3, c3, hv3, -, -, -⟩ := own_form o3
    have S3 : Hid (Hst w n (.slice a2 ln2 c2) cs P w3) := S1.out.below b3
    subst hv3
    clear S1 RS HPP HW1 hs3 b3
    have bl : Below w3.heap.size w3 (w3.alloc (Obj.cells #[.int .i64 1] 3)) := (Below.refl _ _).alloc (Nat.le_refl _) _
    have S4 : Hid (Hst w n (.slice a2 ln2 c2) cs P (w3.alloc (Obj.cells #[.int .i64 1] 3))) := S3.out.below bl
    have RL : Hid (Rd .i64 (w3.alloc (Obj.cells #[.int .i64 1] 3)) (.slice (some ⟨w3.heap.size, 0, none⟩) 1 1) [1]) := by
      have kk : Blk (w3.alloc (Obj.cells #[.int .i64 1] 3)) w3.heap.size #[.int .i64 1] 3 := Blk.new _ _ _
      refine ⟨_, 1, rfl, by simp, by simp [maxLen], .inr ⟨w3.heap.size, 0, rfl, fun i hi => ?_⟩⟩
      obtain rfl : i = 0 := Nat.lt_one_iff.1 hi
      exact kk.cell 0
    have R3 : Hid (Rd .i64 (w3.alloc (Obj.cells #[.int .i64 1] 3)) (.slice a3 1 c3) [1]) := (o3.below bl).rd
    clear S3 bl o3
    go_wp2_with fail
    refine (sameI_c _ _ [1] [1] _ R3.out RL.out).mono ?_
    rintro e w5 ⟨rfl, b5⟩
    rw [show decide (([1] : List Int) = [1]) = true from rfl]
    have S5 : Hid (Hst w n (.slice a2 ln2 c2) cs P w5) := S4.out.below b5
    have c0 := S5.out.box.cell 0
    have c1 := S5.out.box.cell 1
    simp at c0 c1
    clear S4 RL R3 b5
    go_wp2_with fail
    refine (ok_c n _ cs _ S5.out.rd).mono ?_
    rintro e w6 ⟨r, rfl, hr, b6⟩
    have S6 : Hid (Hst w n (.slice a2 ln2 c2) cs P w6) := S5.out.below b6
    clear c0 c1 S5 b6
    have c0 := S6.out.box.cell 0
    have c1 := S6.out.box.cell 1
    simp at c0 c1
    cases r with
    | false =>
      have HN : Hid (¬ POk n cs) := fun h => by simpa using hr.2 h
      clear hr
      go_wp2_with fail
      refine (heard_c n _ cs 0 _ S6.out.rd).mono ?_
      rintro e w7 ⟨v7, z7, rfl, o7, hs7, b7⟩
      obtain rfl : z7 = [] := hs7.2 HN.out
      obtain ⟨a7, c7, hv7, -, -, -⟩ := own_form o7
      subst hv7
      have S7 : Hid (Hst w n (.slice a2 ln2 c2) cs P w7) := S6.out.below b7
      clear hs7 b7 o7 S6 c0 c1
      go_wp2
      go_ret
      exact ⟨rfl, S7.out.bel⟩
    | true =>
      have hok := hr.1 rfl
      clear hr
      have hn1 := hok.1
      have hn2 := hok.2.1
      have HOK : Hid (POk n cs) := hok
      clear hok
      go_wp2
      go_loopw [5] (fun i wr => ∃ j : Nat, (j : Int) ≤ n ∧ i = .int .i64 j ∧ Hid (Hst w n (.slice a2 ln2 c2) cs P wr)) (fun i _ => n.toNat - (intOf i).toNat)
      case atStart => exact ⟨0, by omega, rfl, S6.out⟩
      case round =>
        obtain ⟨j, hj, rfl, Sr⟩ := hrel
        clear c0 c1 S6
        have c0 := Sr.out.box.cell 0
        have c1 := Sr.out.box.cell 1
        simp at c0 c1
        by_cases hlt : (j : Int) < n
        · go_wp2_with fail
          refine (heard_c n _ cs j _ Sr.out.rd).mono ?_
          rintro e w7 ⟨v7, H, rfl, o7, hs7, b7⟩
          have hH := hs7.1 HOK.out
          obtain ⟨a7, c7, hv7, m1, m2, -⟩ := own_form o7
          subst hv7
          have S7 : Hid (Hst w n (.slice a2 ln2 c2) cs P w7) := Sr.out.below b7
          have R7 : Hid (Rd .i64 w7 (.slice a7 H.length c7) H) := o7.rd
          have hH40 : H.length ≤ 40 := hs7.len
          have HH : Hid (H = asc n.toNat (hears cs j)) := hH
          clear hs7 b7 o7 Sr c0 c1 hH
          have c0 := S7.out.box.cell 0
          have c1 := S7.out.box.cell 1
          simp at c0 c1
          go_wp2_with fail
          refine (specHeard_c n _ cs j _ S7.out.rd).mono ?_
          rintro e w8 ⟨v8, H', rfl, o8, hs8, b8⟩
          obtain rfl : H' = H := (hs8.1 HOK.out).trans HH.out.symm
          obtain ⟨a8, c8, hv8, -, -, -⟩ := own_form o8
          subst hv8
          have S8 : Hid (Hst w n (.slice a2 ln2 c2) cs P w8) := S7.out.below b8
          have R8 : Hid (Rd .i64 w8 (.slice a7 H'.length c7) H') := R7.out.below b8
          have hll : ((H'.length : Int) != (H'.length : Int)) = false := by simp
          clear S7 R7 b8 o8 hs8 c0 c1
          go_wp2
          go_loopw [7] (fun i wr => ∃ k : Nat, k ≤ H'.length ∧ i = .int .i64 k ∧ Hid (Hst w n (.slice a2 ln2 c2) cs P wr) ∧ Hid (Rd .i64 wr (.slice a7 H'.length c7) H')) (fun i _ => H'.length - (intOf i).toNat)
          case atStart => exact ⟨0, by omega, rfl, S8.out, R8.out⟩
          case round =>
            obtain ⟨k, hk, rfl, Sk, Rk⟩ := hrel
            clear S8 R8
            by_cases hkl : k < H'.length
            · obtain ⟨b, hb⟩ : ∃ b, H'[k] = b := ⟨_, rfl⟩
              obtain ⟨q1, q2, q3⟩ := hears_law HOK.out (a := (j : Int)) (i := k) (by rw [← HH.out]; exact hkl)
              simp only [← HH.out, hb] at q1 q2 q3
              obtain ⟨bb, off, hcell⟩ : ∃ bb off, a7 = some ⟨bb, off, none⟩ ∧ ∀ i (h : i < H'.length), wr.cell? ⟨bb, off + i, none⟩ = some (.int .i64 H'[i]) := by
                obtain ⟨x1, x2, x3, -, -, x4⟩ := Rk.out
                cases x3
                rcases x4 with x4 | ⟨bb, off, rfl, x5⟩
                · simp [x4] at hkl
                · exact ⟨bb, off, rfl, fun i h => by rw [x5 i h]; simp [List.getElem?_eq_getElem h]⟩
              obtain ⟨rfl, hcell⟩ := hcell
              have HB : Hid (H'[k] = b) := hb
              have Q1 : Hid ((j : Int) ∈ asc n.toNat (hears cs b)) := q1
              have Q2 : Hid (OneP n cs j b) := q2
              have Q3 : Hid ((asc n.toNat (hears cs b)).length = H'.length) := q3
              have hi2 : (k : Int) < (H'.length : Int) := by omega
              clear q1 q2 q3
              obtain ⟨S, hS⟩ : ∃ S : World → Prop, ∀ W, S W ↔ Below wr.heap.size wr W := ⟨_, fun _ => Iff.rfl⟩
              have c0 := Sk.out.box.cell 0
              have c1 := Sk.out.box.cell 1
              simp at c0 c1
              have z0 : ∀ W : At S, W.wd.cell? ⟨P, 0, none⟩ = some (.int .i64 n) := fun W => (((hS _).1 W.ok).cell Sk.out.box.lt).trans c0
              have z1 : ∀ W : At S, W.wd.cell? ⟨P, 1, none⟩ = some (.slice a2 ln2 c2) := fun W => (((hS _).1 W.ok).cell Sk.out.box.lt).trans c1
              have ck : wr.cell? ⟨bb, off + k, none⟩ = some (.int .i64 b) := hb ▸ hcell k hkl
              have z2 : ∀ W : At S, W.wd.cell? ⟨bb, off + k, none⟩ = some (.int .i64 b) := fun W => (((hS _).1 W.ok).cell (block_lt_of_cell ck)).trans ck
              have HSI : Hid (∀ W, Below wr.heap.size wr W → S W) := fun W h => (hS W).2 h
              have HS4 : Hid (S wr.drew) := HSI.out _ (Below.refl _ _).drew
              have ne : Nonempty (At S) := ⟨⟨_, HS4.out⟩⟩
              have HCELL : Hid (∀ i (h : i < H'.length), wr.cell? ⟨bb, off + i, none⟩ = some (.int .i64 H'[i])) := hcell
              clear hS c0 c1 ck hcell hb
              go_wp2
              refine region_mixA [true, true, true, true, true, false, false] 6 1 S (by kernel_rfl) rfl (by kernel_rfl) (fun _ _ _ _ _ h => h) HS4.out ?_
              simp only [selT, selF]
              repeat (go_big_quiet_step (fail))
              refine wpQuiet_nil ?_
              clear z0 z1 z2 ne HS4
              refine tail_step ?_
              go_wp2_with (fail)
              refine (heard_c n _ cs b _ (Sk.out.below (Below.refl _ _).drew).rd).mono ?_
              rintro e w9 ⟨v9, G, rfl, o9, hs9, b9⟩
              obtain rfl := hs9.1 HOK.out
              obtain ⟨a9, c9, hv9, -, -, -⟩ := own_form o9
              subst hv9
              have b9' : Below wr.heap.size wr w9 := belowCall (Below.refl _ _).drew b9 (Nat.le_refl _)
              have S9 : Hid (Hst w n (.slice a2 ln2 c2) cs P w9) := Sk.out.below b9'
              have R9 : Hid (Rd .i64 w9 (.slice (some ⟨bb, off, none⟩) H'.length c7) H') := Rk.out.below b9'
              have RG : Hid (Rd .i64 w9 (.slice a9 (asc n.toNat (hears cs b)).length c9) (asc n.toNat (hears cs b))) := o9.rd
              have HS9 : Hid (S w9) := HSI.out _ b9'
              have HC9 : Hid (∀ i (h : i < H'.length), w9.cell? ⟨bb, off + i, none⟩ = some (.int .i64 H'[i])) := fun i h => (b9'.cell (block_lt_of_cell (HCELL.out i h))).trans (HCELL.out i h)
              clear o9 hs9 b9 b9' Sk Rk HCELL HSI
              go_wp2
              refine ⟨HS9.out, tail_end ?_⟩
              clear HS9
              generalize hG : asc n.toNat (hears cs b) = G at *
              have HW : Hid (∀ W : Ov w9, Calls Try.prog 26 #[.slice a9 G.length c9, .int .i64 j] W.wd fun e w'' => e = .returned (.bool true) ∧ ∃ W' : Ov w9, w'' = W'.wd) := fun W => ov_call ((within_c _ G j _ (RG.out.below W.ok)).mono fun e w' ⟨h1, h2⟩ => ⟨by rw [h1, decide_eq_true Q1.out], h2⟩)
              have HO : Hid (∀ W : Ov w9, Calls Try.prog 22 #[.agg #[.int .i64 n, .slice a2 ln2 c2], .int .i64 j, .int .i64 b] W.wd fun e w'' => e = .returned (.bool true) ∧ ∃ W' : Ov w9, w'' = W'.wd) := fun W => ov_call ((one_c n _ cs j b _ (S9.out.below W.ok).rd).mono fun e w' ⟨r, h1, h2, h3⟩ => ⟨by rw [h1, h2.2 Q2.out], h3⟩)
              have hGl : ((G.length : Int) != (H'.length : Int)) = false := by have := Q3.out; simp; omega
              have z0 : ∀ W : Ov w9, W.wd.cell? ⟨P, 0, none⟩ = some (.int .i64 n) := fun W => (W.ok.cell S9.out.box.lt).trans (S9.out.box.cell 0)
              have z1 : ∀ W : Ov w9, W.wd.cell? ⟨P, 1, none⟩ = some (.slice a2 ln2 c2) := fun W => (W.ok.cell S9.out.box.lt).trans (S9.out.box.cell 1)
              have z2 : ∀ W : Ov w9, W.wd.cell? ⟨bb, off + k, none⟩ = some (.int .i64 b) := ov_cell (HB.out ▸ HC9.out k hkl)
              have ne1 : Nonempty (Ov w9) := ⟨⟨_, Below.refl _ _⟩⟩
              have HG : Hid (asc n.toNat (hears cs b) = G) := hG
              clear hG
              cases k with
              | zero =>
                have z3 : ∀ W : Ov w9, W.wd.cell? ⟨bb, off, none⟩ = some (.int .i64 b) := z2
                clear z2
                go_wp2
                refine region_over (by kernel_rfl) (by kernel_rfl) ?_
                repeat (go_big_quiet_step (first | (go_at_call 26; exact HW.out _) | (go_at_call 22; exact HO.out _)))
                refine wpQuiet_nil ?_
                rintro _ ⟨W, rfl⟩
                go_wp2
                go_roundw
                case rel => exact ⟨1, by omega, by go_num, S9.out.below W.ok, R9.out.below W.ok⟩
                case measure => simp [intOf]; omega
              | succ k =>
                obtain ⟨b1, hb1⟩ : ∃ b1, H'[k] = b1 := ⟨_, rfl⟩
                have hbb : b1 < b := by
                  have := asc_lt (n := n.toNat) (l := hears cs (j : Int)) (i := k) (j := k + 1) (by omega) (by rw [← HH.out]; exact hkl)
                  simp only [← HH.out, hb1, HB.out] at this
                  exact this
                have z3 : ∀ W : Ov w9, W.wd.cell? ⟨bb, off + k, none⟩ = some (.int .i64 b1) := ov_cell (hb1 ▸ HC9.out k (by omega))
                have hge : decide (b ≤ b1) = false := by simp; omega
                have hk1 : ((k + 1 : Nat) : Int) - 1 = k := by omega
                have hkl2 : (k : Int) < (H'.length : Int) := by omega
                have HBB : Hid (b1 < b) := hbb
                clear hbb hb1
                go_wp2
                refine region_over (by kernel_rfl) (by kernel_rfl) ?_
                repeat (go_big_quiet_step (first | (go_at_call 26; exact HW.out _) | (go_at_call 22; exact HO.out _)))
                refine wpQuiet_nil ?_
                rintro _ ⟨W, rfl⟩
                go_wp2
                go_roundw
                case rel => exact ⟨k + 1 + 1, by omega, by go_num, S9.out.below W.ok, R9.out.below W.ok⟩
                case measure => simp [intOf]; omega
            · have hi2 : ¬ (k : Int) < (H'.length : Int) := by omega
              go_wp2
              go_roundw
              case rel => exact ⟨j + 1, by omega, by go_num, Sk.out⟩
              case measure => simp [intOf]; omega
        · clear c0 c1
          have hlt2 : ¬ (j : Int) < n := hlt
          have c0 := Sr.out.box.cell 0
          simp at c0
          go_wp2
          go_ret
          exact ⟨rfl, Sr.out.bel⟩
end Go.Proofs.Ytcbeaimpmjljjaa

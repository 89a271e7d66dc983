/- FnNoIdle's body answers true at every code; no condition. -/
import Derived.Test.YtpmmgbinogokfaaNiT
import Derived.Test.YtpmmgbinogokfaaTuM
import Derived.Test.YtpmmgbinogokfaaOpen
namespace Go.Proofs.Ytpmmgbinogokfaa
open Go.RowKit Go.ChangeShapes Go.WideShapes Go.ChangeAt
set_option linter.unusedVariables false
set_option linter.unusedSimpArgs false
set_option maxRecDepth 8000
structure Sv3 (w : World) (n : Int) (g : Int) (va : Value) (vq : Value) (b : Nat) (off : Nat) (m : Nat) (oc : Nat) (j : Nat) (c : Int) (s2 : Int) (d : Nat → Bool) (W : World) (v0 v1 v2 v3 v4 v5 v6 v7 v8 v9 v10 : Value)  : Prop where
  bel : Below w.heap.size w W
  f0 : d 0 = true → v0 = .agg (D4 n va vq g)
  f1 : d 1 = true → v1 = .slice (some ⟨b, off, none⟩) m oc
  f2 : d 2 = true → v2 = .int .i64 (j : Int)
  f3 : d 3 = true → v3 = .pointer (some ⟨b, off + j, none⟩)
  f4 : d 4 = true → v4 = .int .i64 c
  f5 : d 5 = true → v5 = .tuple #[.int .i64 0, .int .i64 s2]
  f6 : d 6 = true → v6 = .tuple #[.int .i64 0, .int .i64 s2]
  f7 : d 7 = true → v7 = .int .i64 0
  f8 : d 8 = true → v8 = .int .i64 s2
  f9 : d 9 = true → v9 = .int .i64 0
  f10 : d 10 = true → v10 = .int .i64 s2
def Sv3S (w : World) (n : Int) (g : Int) (va : Value) (vq : Value) (b : Nat) (off : Nat) (m : Nat) (oc : Nat) (j : Nat) (c : Int) (s2 : Int) (d : Nat → Bool) (q : List Value) (W : World) : Prop := ∃ v0 v1 v2 v3 v4 v5 v6 v7 v8 v9 v10 , q = [v0, v1, v2, v3, v4, v5, v6, v7, v8, v9, v10] ∧ Sv3 w n g va vq b off m oc j c s2 d W v0 v1 v2 v3 v4 v5 v6 v7 v8 v9 v10 
theorem Sv3.below {w : World} {n : Int} {g : Int} {va : Value} {vq : Value} {b : Nat} {off : Nat} {m : Nat} {oc : Nat} {j : Nat} {c : Int} {s2 : Int} {d : Nat → Bool} {W W' : World} {v0 v1 v2 v3 v4 v5 v6 v7 v8 v9 v10 : Value}  (h : Sv3 w n g va vq b off m oc j c s2 d W v0 v1 v2 v3 v4 v5 v6 v7 v8 v9 v10 ) (hb : Below W.heap.size W W') : Sv3 w n g va vq b off m oc j c s2 d W' v0 v1 v2 v3 v4 v5 v6 v7 v8 v9 v10  :=
  { h with
    bel := belowCall h.bel hb h.bel.size
  }
set_option maxHeartbeats 25600000 in
theorem noIdleLaw (v : Value) (zs : List Int) (w : World) (h : Rd .u8 w v zs) (hwz : ∀ z ∈ zs, (Lit.int .u8 z).wf = true) :
   Calls Try.prog 3 #[v] w fun e w' => e = .returned (.bool true) ∧ Below w.heap.size w w' := by
  have hz : ∀ z ∈ zs, 0 ≤ z ∧ z ≤ 255 := fun z hm => bounds_u8 (hwz z hm)
  clear hwz
  have HR : Hid (Rd .u8 w v zs) := h
  have HZ : Hid (∀ z ∈ zs, 0 ≤ z ∧ z ≤ 255) := hz
  obtain ⟨a, cap, rfl, h1, h2, h3⟩ := h
  clear h3 hz
  unfold maxLen at h2
  obtain ⟨L, hL⟩ : ∃ L, zs.length = L := ⟨_, rfl⟩
  have HLL : Hid (zs.length = L) := hL
  rw [hL] at h1 HR ⊢
  have HBG := big_c (.slice a L cap) zs w HR.out
  rw [hL] at HBG
  have HBG' : Hid (Calls Try.prog 9 #[.slice a L cap] w fun e w' => e = .returned (.bool (decide ((1048576 : Int) < (L : Int)))) ∧ w' = w) := HBG
  clear hL HBG
  by_cases hbig : 1048576 < L
  · have hb : decide ((1048576 : Int) < (L : Int)) = true := by simp; omega
    go_enter Try.func3, Try.ntmps3
    go_wp2_with (fail)
    refine HBG'.out.mono ?_
    rw [hb]
    rintro e w' ⟨rfl, rfl⟩
    go_wp2
    go_ret
    exact ⟨rfl, Below.refl _ _⟩
  have hb : decide ((1048576 : Int) < (L : Int)) = false := by simp; omega
  have HLN : Hid (zs.length ≤ 1048576) := by show _ ≤ _; rw [HLL.out]; omega
  clear hbig
  go_enter Try.func3, Try.ntmps3
  go_wp2_with (fail)
  refine HBG'.out.mono ?_
  rw [hb]
  rintro e w' ⟨rfl, hw⟩
  rw [hw]
  clear hw w' hb HBG'
  go_wp2_with (fail)
  refine (drawRun_c (.slice a L cap) zs w HR.out HZ.out HLN.out).mono ?_
  rintro e w1 ⟨n, g, va, vq, gs, qs, vo, os, rfl, o1, hl, ho, b1⟩
  have HB1 : Hid (Below w.heap.size w w1) := b1
  have HL : Hid (gs.length ≤ 100 ∧ qs.length ≤ 100 ∧ os.length ≤ 1000) := hl
  have ba : Below w1.heap.size w1 (w1.alloc (Obj.cells (D4 n va vq g) 27)) := (Below.refl _ _).alloc (Nat.le_refl _) _
  have kb : Blk (w1.alloc (Obj.cells (D4 n va vq g) 27)) w1.heap.size (D4 n va vq g) 27 := Blk.new _ _ _
  have o2 := o1.below ba
  obtain ⟨W2, hW2⟩ : ∃ W, w1.alloc (Obj.cells (D4 n va vq g) 27) = W := ⟨_, rfl⟩
  rw [hW2] at ba kb o2
  obtain ⟨P, hP⟩ : ∃ P, w1.heap.size = P := ⟨_, rfl⟩
  have HP : Hid (w1.heap.size = P) := hP
  have HPC : Hid (w.heap.size ≤ P) := by rw [Hid, ← hP]; exact b1.size
  rw [hP] at kb ba
  have NS2 : Hid (Ns w.heap.size P w1 W2 n g va vq gs qs) := ⟨kb, o2, ba⟩
  have HO1 : Hid (∀ W, Below P w1 W → Rg 5 doC W vo os) := fun W hb => ho.below (by rw [HP.out]; exact hb)
  have HO : Hid (Rg 5 doC w1 vo os) := ho
  obtain ⟨ga, gc, rfl⟩ := o2.1.form
  obtain ⟨qa, qc, rfl⟩ := o2.2.1.form
  obtain ⟨oa, oc, hov, ol, om, oh⟩ := ho
  unfold maxLen at om
  obtain ⟨m, hm⟩ : ∃ m, os.length = m := ⟨_, rfl⟩
  have HM : Hid (os.length = m) := hm
  rw [hm] at hov ol
  subst hov
  have hm10 : m ≤ 1000 := by rw [← hm]; exact hl.2.2
  have HW2 : Hid (w1.alloc (Obj.cells (D4 n (.slice ga gs.length gc) (.slice qa qs.length qc) g) 27) = W2) := hW2
  have x0 := kb.cell 0
  have x1 := kb.cell 1
  have x2 := kb.cell 2
  have x3 := kb.cell 3
  simp at x0 x1 x2 x3
  clear hm o1 o2 ba kb hl b1 hW2
  go_wp2_with (fail)
  rw [HW2.out]
  refine (deskM_c n g _ _ gs qs W2 (NS2.out.own.1.rd agC_len) (NS2.out.own.2.1.rd wtC_len)).mono ?_
  rintro e w3 ⟨r, rfl, hr, b3⟩
  have NS3 : Hid (Ns w.heap.size P w1 w3 n g (.slice ga gs.length gc) (.slice qa qs.length qc) gs qs) := NS2.out.below b3
  have HRB : Hid (r = true ↔ DkM n g gs qs) := hr
  clear x0 x1 x2 x3 NS2 b3 hr HW2
  by_cases hsm : r = true ∧ m ≤ 200
  case neg =>
    have HBE : Hid (Below w.heap.size w w3) := belowCall HB1.out (by rw [HP.out]; exact NS3.out.bel) HB1.out.size
    obtain ⟨W5, hW5⟩ : ∃ W, (w3.alloc (Obj.cells #[.int .i64 1, .int .i64 (-1), .int .i64 0] 36)).alloc (Obj.cells #[.int .i64 1, .int .i64 0, .int .i64 7, .int .i64 1, .int .i64 0] 38) = W := ⟨_, rfl⟩
    have HW5 : Hid ((w3.alloc (Obj.cells #[.int .i64 1, .int .i64 (-1), .int .i64 0] 36)).alloc (Obj.cells #[.int .i64 1, .int .i64 0, .int .i64 7, .int .i64 1, .int .i64 0] 38) = W5) := hW5
    have hs5 : W5.heap.size = w3.heap.size + 2 := by rw [← hW5]; simp
    have HB5 : Hid (Below w.heap.size w W5) := by
      rw [Hid, ← hW5]; exact (HBE.out.alloc HBE.out.size _).alloc (by have := HBE.out.size; simp; omega) _
    have ka : Blk W5 w3.heap.size #[.int .i64 1, .int .i64 (-1), .int .i64 0] 36 := by rw [← hW5]; exact (Blk.new _ _ _).alloc _
    have ko : Blk W5 (w3.heap.size + 1) #[.int .i64 1, .int .i64 0, .int .i64 7, .int .i64 1, .int .i64 0] 38 := by rw [← hW5]; exact Blk.newAt _ (w3.heap.size + 1) _ 38 (by simp)
    have HA5 : Hid (Rg 3 agC W5 (.slice (some ⟨w3.heap.size, 0, none⟩) 1 1) [(1, -1, 0)] ∧ Rg 4 wtC W5 (.slice none 0 0) [] ∧ Rg 5 doC W5 (.slice (some ⟨w3.heap.size + 1, 0, none⟩) 1 1) [(1, 0, 7, 1, 0)]) := by
      refine ⟨⟨_, _, rfl, Nat.le_refl _, by simp [maxLen], .inr ⟨_, 0, rfl, fun i hi => ?_⟩⟩, ⟨_, _, rfl, Nat.le_refl _, by simp [maxLen], .inl rfl⟩, ⟨_, _, rfl, Nat.le_refl _, by simp [maxLen], .inr ⟨_, 0, rfl, fun i hi => ?_⟩⟩⟩
      · have h0 : i = 0 := by simpa using hi
        subst h0
        intro q x hx
        rcases q with _ | _ | _ | q <;> simp [agC] at hx
        · subst hx; simpa using ka.cell 0
        · subst hx; simpa using ka.cell 1
        · subst hx; simpa using ka.cell 2
      · have h0 : i = 0 := by simpa using hi
        subst h0
        intro q x hx
        rcases q with _ | _ | _ | _ | _ | q <;> simp [doC] at hx
        · subst hx; simpa using ko.cell 0
        · subst hx; simpa using ko.cell 1
        · subst hx; simpa using ko.cell 2
        · subst hx; simpa using ko.cell 3
        · subst hx; simpa using ko.cell 4
    clear ka ko hs5 hW5 NS3 HO1 HO oh
    cases r with
    | false =>
      go_wp2_with (fail)
      rw [HW5.out]
      refine (runI_c 0 0 _ _ _ [(1, -1, 0)] [] [(1, 0, 7, 1, 0)] W5 HA5.out.1 HA5.out.2.1 (by simp) (by simp) HA5.out.2.2).mono ?_
      rw [rn_small]
      rintro e w6 ⟨va6, vq6, vg6, vc6, rfl, o6, g6, c6, -, b6⟩
      dsimp only at o6 g6 c6 ⊢
      have HB6 : Hid (Below w.heap.size w w6) := belowCall HB5.out b6 HB5.out.size
      obtain ⟨a6, p6, rfl⟩ := o6.1.form
      obtain ⟨a7, p7, rfl⟩ := o6.2.1.form
      have k6 : Blk (w6.alloc (Obj.cells (D4 0 (.slice a6 1 p6) (.slice a7 0 p7) 1) 27)) w6.heap.size (D4 0 (.slice a6 1 p6) (.slice a7 0 p7) 1) 27 := Blk.new _ _ _
      have b7 : Below w6.heap.size w6 (w6.alloc (Obj.cells (D4 0 (.slice a6 1 p6) (.slice a7 0 p7) 1) 27)) := (Below.refl _ _).alloc (Nat.le_refl _) _
      have HV6 : Hid (Rd .i64 w6 vg6 [7] ∧ Rd .i64 w6 vc6 [0]) := ⟨g6.rd, c6.rd⟩
      have kz := k6.cell 3
      simp at kz
      obtain ⟨W7, hW7⟩ : ∃ W, (w6.alloc (Obj.cells (D4 0 (.slice a6 1 p6) (.slice a7 0 p7) 1) 27)).alloc (Obj.cells #[.int .i64 7] 3) = W := ⟨_, rfl⟩
      have b8 : Below w6.heap.size w6 W7 := by rw [← hW7]; exact b7.alloc (by simp) _
      have HB7 : Hid (Below w.heap.size w W7) := belowCall HB6.out b8 HB6.out.size
      have HV7 : Hid (Rd .i64 W7 vg6 [7] ∧ Rd .i64 W7 vc6 [0] ∧ Rd .i64 W7 (.slice (some ⟨w6.heap.size + 1, 0, none⟩) 1 1) [7]) := by
        refine ⟨HV6.out.1.below b8, HV6.out.2.below b8, _, _, rfl, Nat.le_refl _, by simp [maxLen], .inr ⟨_, 0, rfl, fun i hi => ?_⟩⟩
        have h0 : i = 0 := by simpa using hi
        subst h0
        have kk : Blk W7 (w6.heap.size + 1) #[.int .i64 7] 3 := by rw [← hW7]; exact Blk.newAt _ (w6.heap.size + 1) _ 3 (by simp)
        simpa using kk.cell 0
      have HW7 : Hid ((w6.alloc (Obj.cells (D4 0 (.slice a6 1 p6) (.slice a7 0 p7) 1) 27)).alloc (Obj.cells #[.int .i64 7] 3) = W7) := hW7
      clear o6 g6 c6 b6 b7 b8 k6 hW7
      go_wp2_with (fail)
      rw [HW7.out]
      refine (sameI_c vg6 _ [7] [7] W7 HV7.out.1 HV7.out.2.2).mono ?_
      rw [show decide ([(7 : Int)] = [7]) = true by simp]
      rintro e w8 ⟨rfl, b8⟩
      have HB8 : Hid (Below w.heap.size w w8) := belowCall HB7.out b8 HB7.out.size
      have b9 : Below w8.heap.size w8 (w8.alloc (Obj.cells #[.int .i64 0] 3)) := (Below.refl _ _).alloc (Nat.le_refl _) _
      have HB9 : Hid (Below w.heap.size w (w8.alloc (Obj.cells #[.int .i64 0] 3))) := belowCall HB8.out b9 HB8.out.size
      have HV9 : Hid (Rd .i64 (w8.alloc (Obj.cells #[.int .i64 0] 3)) vc6 [0] ∧ Rd .i64 (w8.alloc (Obj.cells #[.int .i64 0] 3)) (.slice (some ⟨w8.heap.size, 0, none⟩) 1 1) [0]) := by
        refine ⟨(HV7.out.2.1.below b8).below b9, _, _, rfl, Nat.le_refl _, by simp [maxLen], .inr ⟨_, 0, rfl, fun i hi => ?_⟩⟩
        have h0 : i = 0 := by simpa using hi
        subst h0
        exact (Blk.new w8 #[.int .i64 0] 3).cell 0
      clear b8 b9 HW7 kz
      go_wp2_with (fail)
      refine (sameI_c vc6 _ [0] [0] _ HV9.out.1 HV9.out.2).mono ?_
      rw [show decide ([(0 : Int)] = [0]) = true by simp]
      rintro e wz ⟨rfl, bz⟩
      have HBz : Hid (Below w.heap.size w wz) := belowCall HB9.out bz HB9.out.size
      clear bz
      go_wp2
      go_ret
      exact ⟨rfl, HBz.out⟩
    | true =>
      have hmm : (200 : Int) < (m : Int) := by
        have : ¬ m ≤ 200 := fun e => hsm ⟨rfl, e⟩
        omega
      go_wp2_with (fail)
      rw [HW5.out]
      refine (runI_c 0 0 _ _ _ [(1, -1, 0)] [] [(1, 0, 7, 1, 0)] W5 HA5.out.1 HA5.out.2.1 (by simp) (by simp) HA5.out.2.2).mono ?_
      rw [rn_small]
      rintro e w6 ⟨va6, vq6, vg6, vc6, rfl, o6, g6, c6, -, b6⟩
      dsimp only at o6 g6 c6 ⊢
      have HB6 : Hid (Below w.heap.size w w6) := belowCall HB5.out b6 HB5.out.size
      obtain ⟨a6, p6, rfl⟩ := o6.1.form
      obtain ⟨a7, p7, rfl⟩ := o6.2.1.form
      have k6 : Blk (w6.alloc (Obj.cells (D4 0 (.slice a6 1 p6) (.slice a7 0 p7) 1) 27)) w6.heap.size (D4 0 (.slice a6 1 p6) (.slice a7 0 p7) 1) 27 := Blk.new _ _ _
      have b7 : Below w6.heap.size w6 (w6.alloc (Obj.cells (D4 0 (.slice a6 1 p6) (.slice a7 0 p7) 1) 27)) := (Below.refl _ _).alloc (Nat.le_refl _) _
      have HV6 : Hid (Rd .i64 w6 vg6 [7] ∧ Rd .i64 w6 vc6 [0]) := ⟨g6.rd, c6.rd⟩
      have kz := k6.cell 3
      simp at kz
      obtain ⟨W7, hW7⟩ : ∃ W, (w6.alloc (Obj.cells (D4 0 (.slice a6 1 p6) (.slice a7 0 p7) 1) 27)).alloc (Obj.cells #[.int .i64 7] 3) = W := ⟨_, rfl⟩
      have b8 : Below w6.heap.size w6 W7 := by rw [← hW7]; exact b7.alloc (by simp) _
      have HB7 : Hid (Below w.heap.size w W7) := belowCall HB6.out b8 HB6.out.size
      have HV7 : Hid (Rd .i64 W7 vg6 [7] ∧ Rd .i64 W7 vc6 [0] ∧ Rd .i64 W7 (.slice (some ⟨w6.heap.size + 1, 0, none⟩) 1 1) [7]) := by
        refine ⟨HV6.out.1.below b8, HV6.out.2.below b8, _, _, rfl, Nat.le_refl _, by simp [maxLen], .inr ⟨_, 0, rfl, fun i hi => ?_⟩⟩
        have h0 : i = 0 := by simpa using hi
        subst h0
        have kk : Blk W7 (w6.heap.size + 1) #[.int .i64 7] 3 := by rw [← hW7]; exact Blk.newAt _ (w6.heap.size + 1) _ 3 (by simp)
        simpa using kk.cell 0
      have HW7 : Hid ((w6.alloc (Obj.cells (D4 0 (.slice a6 1 p6) (.slice a7 0 p7) 1) 27)).alloc (Obj.cells #[.int .i64 7] 3) = W7) := hW7
      clear o6 g6 c6 b6 b7 b8 k6 hW7
      go_wp2_with (fail)
      rw [HW7.out]
      refine (sameI_c vg6 _ [7] [7] W7 HV7.out.1 HV7.out.2.2).mono ?_
      rw [show decide ([(7 : Int)] = [7]) = true by simp]
      rintro e w8 ⟨rfl, b8⟩
      have HB8 : Hid (Below w.heap.size w w8) := belowCall HB7.out b8 HB7.out.size
      have b9 : Below w8.heap.size w8 (w8.alloc (Obj.cells #[.int .i64 0] 3)) := (Below.refl _ _).alloc (Nat.le_refl _) _
      have HB9 : Hid (Below w.heap.size w (w8.alloc (Obj.cells #[.int .i64 0] 3))) := belowCall HB8.out b9 HB8.out.size
      have HV9 : Hid (Rd .i64 (w8.alloc (Obj.cells #[.int .i64 0] 3)) vc6 [0] ∧ Rd .i64 (w8.alloc (Obj.cells #[.int .i64 0] 3)) (.slice (some ⟨w8.heap.size, 0, none⟩) 1 1) [0]) := by
        refine ⟨(HV7.out.2.1.below b8).below b9, _, _, rfl, Nat.le_refl _, by simp [maxLen], .inr ⟨_, 0, rfl, fun i hi => ?_⟩⟩
        have h0 : i = 0 := by simpa using hi
        subst h0
        exact (Blk.new w8 #[.int .i64 0] 3).cell 0
      clear b8 b9 HW7 kz
      go_wp2_with (fail)
      refine (sameI_c vc6 _ [0] [0] _ HV9.out.1 HV9.out.2).mono ?_
      rw [show decide ([(0 : Int)] = [0]) = true by simp]
      rintro e wz ⟨rfl, bz⟩
      have HBz : Hid (Below w.heap.size w wz) := belowCall HB9.out bz HB9.out.size
      clear bz
      go_wp2
      go_ret
      exact ⟨rfl, HBz.out⟩
  case pos =>
    obtain ⟨rfl, hm2⟩ := hsm
    have HDK : Hid (DkOk n g gs qs) := (dk_iff n g gs qs).1 (HRB.out.1 rfl)
    have hg0 : 0 ≤ g ∧ g ≤ 1000000 := HDK.out.2.2.2.1
    have hmI : ((200 : Int) < (m : Int)) = False := eq_false (by omega)
    obtain ⟨hG1, hG2⟩ := hg0
    have x0 := NS3.out.box.cell 0
    have x1 := NS3.out.box.cell 1
    have x2 := NS3.out.box.cell 2
    have x3 := NS3.out.box.cell 3
    simp at x0 x1 x2 x3
    clear HRB
    go_wp2
    clear x0 x1 x2 x3
    go_loopw [9, 10] (fun mv i wr => ∃ j : Nat, ∃ mm : Int, j ≤ m ∧ i = .int .i64 j ∧ mv = .int .i64 mm ∧ 0 ≤ mm ∧ mm ≤ 12 * j ∧ Hid (∃ n1 g1 va vq gs qs, Ns w.heap.size P w1 wr n1 g1 va vq gs qs ∧ DkOk n1 g1 gs qs ∧ g1 = g + mm)) (fun _ i _ => m - (intOf i).toNat)
    case atStart => exact ⟨0, 0, Nat.zero_le _, rfl, rfl, Int.le_refl _, by simp, _, _, _, _, _, _, NS3.out, HDK.out, by simp⟩
    case round =>
      obtain ⟨j, mm, hj, rfl, rfl, hm0, hm12, hrest⟩ := hrel
      clear NS3 HDK
      obtain ⟨n1, g1, va3, vq3, gs1, qs1, hR, hD, hgm⟩ := hrest.out
      clear hrest
      have HGM : Hid (g1 = g + mm) := hgm
      have HDK : Hid (DkOk n1 g1 gs1 qs1) := hD
      clear hgm
      by_cases hlt : j < m
      · have hje : j < os.length := by rw [HM.out]; exact hlt
        have HBD : Hid (gs1.length ≤ 1048576 ∧ qs1.length ≤ 1048576 ∧ True) := by
          have h1 := hD.1
          have h2 := hD.2.1
          exact ⟨by omega, by omega, trivial⟩
        have hg0 := hD.2.2.2.1
        obtain ⟨hg1, hg2⟩ := hg0
        obtain ⟨k, t, a, s, p, hop⟩ : ∃ k t a s p, os[j] = (k, t, a, s, p) := ⟨_, _, _, _, _, rfl⟩
        have hdo := doF_ok hD k t a s p
        have hcl : (doF n1 g1 gs1 qs1 k t a s p).2.1.length ≤ 12 := by have := (stp_bd (n1, g1, gs1, qs1) (k, t, a, s, p)).2.2; unfold stp at this; exact this
        obtain ⟨R, hRR⟩ : ∃ R, doF n1 g1 gs1 qs1 k t a s p = R := ⟨_, rfl⟩
        rw [hRR] at hdo hcl
        have HRR : Hid (doF n1 g1 gs1 qs1 k t a s p = R) := hRR
        have HDO : Hid (DkOk R.1.1 R.1.2.1 R.1.2.2.1 R.1.2.2.2 ∧ R.1.2.1 = g1 + R.2.1.length ∧ ∀ c ∈ R.2.1, (∃ x ∈ R.1.2.2.1, x.2.1 = c) ∧ 0 ≤ c ∧ c ≤ 1000000000) := hdo
        have HCN : Hid (R.2.1.length ≤ 12) := hcl
        rcases oh with oh | ⟨b, off, rfl, h4⟩
        · rw [oh] at hje; simp at hje
        have h5 : wr.rangeAt b (off + j * 5) (doC (k, t, a, s, p)) := by
          have := h4 j hje
          rw [hop] at this
          refine rangeAt_below this (B := P) hR.bel ?_
          rw [← hP]; exact block_lt_of_cell (this 0 _ rfl)
        have HRG : Hid (∀ W, Below wr.heap.size wr W → W.rangeAt b (off + j * 5) (doC (k, t, a, s, p))) := fun W h => rangeAt_below h5 (B := wr.heap.size) h (block_lt_of_cell (h5 0 _ rfl))
        have S3 : Hid (Ns w.heap.size P w1 wr n1 g1 va3 vq3 gs1 qs1) := hR
        obtain ⟨c3, d3, rfl⟩ := hR.own.1.form
        obtain ⟨c4, d4, rfl⟩ := hR.own.2.1.form
        have HBX : Hid (Blk wr P (D4 n1 (.slice c3 gs1.length d3) (.slice c4 qs1.length d4) g1) 27) := hR.box
        have HRD : Hid (∀ W, Below wr.heap.size wr W → Rg 3 agC W (.slice c3 gs1.length d3) gs1 ∧ Rg 4 wtC W (.slice c4 qs1.length d4) qs1) := fun W h => ⟨(hR.own.1.rd agC_len).below h, (hR.own.2.1.rd wtC_len).below h⟩
        have hjI : (j : Int) < (m : Int) := by omega
        have HPW : Hid (P ≤ wr.heap.size) := Nat.le_of_lt hR.box.lt
        clear hR h4 h5 hRR hop HO hD hdo hcl HO1
        go_upto_region 12 with (fail)
        refine region_vals [undef, undef, undef, undef, undef, undef, undef, undef, undef, undef, undef, undef, undef, undef]
          (SmS wr.heap.size wr n1 g1 (.slice c3 gs1.length d3) (.slice c4 qs1.length d4) gs1 qs1 k t a s p R b off m oc j)
          (by kernel_rfl) (by kernel_rfl) ?_ ⟨?_, ?_, ?_, ?_, ?_, ?_, ?_, ?_, ?_, ?_, ?_, ?_, ?_, ?_, trivial⟩ ?_
        · refine ⟨_, _, _, _, _, _, _, _, _, _, _, _, _, _, undef, undef, undef, undef, undef, 0, rfl, ⟨(Below.refl _ _).drew, ?_, ?_, ?_, ?_, ?_, ?_, ?_, ?_, ?_, ?_, ?_, ?_, ?_, ?_, ?_, ?_, ?_, ?_⟩⟩ <;> simp
        · rintro d vs W ⟨v0, v1, v2, v3, v4, v5, v6, v7, v8, v9, v10, v11, v12, v13, u0, u1, va', vq', vc', X, rfl, H⟩ hn hd
          simp only [putAll, Act.put, List.setIfInBounds_toArray, List.set_cons_succ, List.set_cons_zero]
          have kk := HBX.out.below H.bel HBX.out.lt
          have x0 := kk.cell 0
          have x1 := kk.cell 1
          have x2 := kk.cell 2
          have x3 := kk.cell 3
          simp at x0 x1 x2 x3
          have HH1 : Hid _ := H
          clear H
          clear hd kk
          go_wp2
          have H := HH1.out
          refine ⟨rfl, [.agg (D4 n1 (.slice c3 gs1.length d3) (.slice c4 qs1.length d4) g1), v1, v2, v3, v4, v5, v6, v7, v8, v9, v10, v11, v12, v13], ?_, .agg (D4 n1 (.slice c3 gs1.length d3) (.slice c4 qs1.length d4) g1), v1, v2, v3, v4, v5, v6, v7, v8, v9, v10, v11, v12, v13, u0, u1, va', vq', vc', X, rfl, ⟨H.bel, (by have h := H.f1; simpa [doneSet] using h), (by have h := H.f2; simpa [doneSet] using h), (by have h := H.f3; simpa [doneSet] using h), (fun _ => rfl), (by have h := H.f4; simpa [doneSet] using h), (by have h := H.f5; simpa [doneSet] using h), (by have h := H.od; simpa [doneSet] using h), (by have h := H.f6; simpa [doneSet] using h), (by have h := H.f7; simpa [doneSet] using h), (by have h := H.f8; simpa [doneSet] using h), (by have h := H.f9; simpa [doneSet] using h), (by have h := H.f10; simpa [doneSet] using h), (by have h := H.oa; simpa [doneSet] using h), (by have h := H.os; simpa [doneSet] using h), (by have h := H.f12; simpa [doneSet] using h), (by have h := H.f13; simpa [doneSet] using h), (by have h := H.gd; simpa [doneSet] using h), (by have h := H.ga; simpa [doneSet] using h)⟩⟩
          simp only [putAll, Act.put, List.setIfInBounds_toArray, List.set_cons_succ, List.set_cons_zero]
        · rintro d vs W ⟨v0, v1, v2, v3, v4, v5, v6, v7, v8, v9, v10, v11, v12, v13, u0, u1, va', vq', vc', X, rfl, H⟩ hn hd
          simp only [putAll, Act.put, List.setIfInBounds_toArray, List.set_cons_succ, List.set_cons_zero]
          have HH1 : Hid _ := H
          clear H
          clear hd
          go_wp2
          have H := HH1.out
          refine ⟨rfl, [v0, .slice (some ⟨b, off, none⟩) m oc, v2, v3, v4, v5, v6, v7, v8, v9, v10, v11, v12, v13], ?_, v0, .slice (some ⟨b, off, none⟩) m oc, v2, v3, v4, v5, v6, v7, v8, v9, v10, v11, v12, v13, u0, u1, va', vq', vc', X, rfl, ⟨H.bel, (fun _ => rfl), (by have h := H.f2; simpa [doneSet] using h), (by have h := H.f3; simpa [doneSet] using h), (by have h := H.f0; simpa [doneSet] using h), (by have h := H.f4; simpa [doneSet] using h), (by have h := H.f5; simpa [doneSet] using h), (by have h := H.od; simpa [doneSet] using h), (by have h := H.f6; simpa [doneSet] using h), (by have h := H.f7; simpa [doneSet] using h), (by have h := H.f8; simpa [doneSet] using h), (by have h := H.f9; simpa [doneSet] using h), (by have h := H.f10; simpa [doneSet] using h), (by have h := H.oa; simpa [doneSet] using h), (by have h := H.os; simpa [doneSet] using h), (by have h := H.f12; simpa [doneSet] using h), (by have h := H.f13; simpa [doneSet] using h), (by have h := H.gd; simpa [doneSet] using h), (by have h := H.ga; simpa [doneSet] using h)⟩⟩
          simp only [putAll, Act.put, List.setIfInBounds_toArray, List.set_cons_succ, List.set_cons_zero]
        · rintro d vs W ⟨v0, v1, v2, v3, v4, v5, v6, v7, v8, v9, v10, v11, v12, v13, u0, u1, va', vq', vc', X, rfl, H⟩ hn hd
          simp only [putAll, Act.put, List.setIfInBounds_toArray, List.set_cons_succ, List.set_cons_zero]
          have HH1 : Hid _ := H
          clear H
          clear hd
          go_wp2
          have H := HH1.out
          refine ⟨rfl, [v0, v1, .int .i64 (j : Int), v3, v4, v5, v6, v7, v8, v9, v10, v11, v12, v13], ?_, v0, v1, .int .i64 (j : Int), v3, v4, v5, v6, v7, v8, v9, v10, v11, v12, v13, u0, u1, va', vq', vc', X, rfl, ⟨H.bel, (by have h := H.f1; simpa [doneSet] using h), (fun _ => rfl), (by have h := H.f3; simpa [doneSet] using h), (by have h := H.f0; simpa [doneSet] using h), (by have h := H.f4; simpa [doneSet] using h), (by have h := H.f5; simpa [doneSet] using h), (by have h := H.od; simpa [doneSet] using h), (by have h := H.f6; simpa [doneSet] using h), (by have h := H.f7; simpa [doneSet] using h), (by have h := H.f8; simpa [doneSet] using h), (by have h := H.f9; simpa [doneSet] using h), (by have h := H.f10; simpa [doneSet] using h), (by have h := H.oa; simpa [doneSet] using h), (by have h := H.os; simpa [doneSet] using h), (by have h := H.f12; simpa [doneSet] using h), (by have h := H.f13; simpa [doneSet] using h), (by have h := H.gd; simpa [doneSet] using h), (by have h := H.ga; simpa [doneSet] using h)⟩⟩
          simp only [putAll, Act.put, List.setIfInBounds_toArray, List.set_cons_succ, List.set_cons_zero]
        · rintro d vs W ⟨v0, v1, v2, v3, v4, v5, v6, v7, v8, v9, v10, v11, v12, v13, u0, u1, va', vq', vc', X, rfl, H⟩ hn hd
          simp only [putAll, Act.put, List.setIfInBounds_toArray, List.set_cons_succ, List.set_cons_zero]
          have h1 : d 1 = true := hd { on := 1, ground := .data } (by simp) rfl
          have h2 : d 2 = true := hd { on := 2, ground := .data } (by simp) rfl
          obtain rfl := H.f1 h1
          obtain rfl := H.f2 h2
          have HH1 : Hid _ := H
          clear H
          clear hd
          go_wp2
          have H := HH1.out
          refine ⟨rfl, [v0, .slice (some ⟨b, off, none⟩) m oc, .int .i64 (j : Int), .pointer (some ⟨b, off + j * 5, none⟩), v4, v5, v6, v7, v8, v9, v10, v11, v12, v13], ?_, v0, .slice (some ⟨b, off, none⟩) m oc, .int .i64 (j : Int), .pointer (some ⟨b, off + j * 5, none⟩), v4, v5, v6, v7, v8, v9, v10, v11, v12, v13, u0, u1, va', vq', vc', X, rfl, ⟨H.bel, (fun _ => rfl), (fun _ => rfl), (fun _ => rfl), (by have h := H.f0; simpa [doneSet] using h), (by have h := H.f4; simpa [doneSet] using h), (by have h := H.f5; simpa [doneSet] using h), (by have h := H.od; simpa [doneSet] using h), (by have h := H.f6; simpa [doneSet] using h), (by have h := H.f7; simpa [doneSet] using h), (by have h := H.f8; simpa [doneSet] using h), (by have h := H.f9; simpa [doneSet] using h), (by have h := H.f10; simpa [doneSet] using h), (by have h := H.oa; simpa [doneSet] using h), (by have h := H.os; simpa [doneSet] using h), (by have h := H.f12; simpa [doneSet] using h), (by have h := H.f13; simpa [doneSet] using h), (by have h := H.gd; simpa [doneSet] using h), (by have h := H.ga; simpa [doneSet] using h)⟩⟩
          simp only [putAll, Act.put, List.setIfInBounds_toArray, List.set_cons_succ, List.set_cons_zero]
        · rintro d vs W ⟨v0, v1, v2, v3, v4, v5, v6, v7, v8, v9, v10, v11, v12, v13, u0, u1, va', vq', vc', X, rfl, H⟩ hn hd
          simp only [putAll, Act.put, List.setIfInBounds_toArray, List.set_cons_succ, List.set_cons_zero]
          have h3 : d 3 = true := hd { on := 3, ground := .data } (by simp) rfl
          obtain rfl := H.f3 h3
          have kk := HRG.out W H.bel
          have y0 := kk 0 _ rfl
          have y1 := kk 1 _ rfl
          have y2 := kk 2 _ rfl
          have y3 := kk 3 _ rfl
          have y4 := kk 4 _ rfl
          simp at y0 y1 y2 y3 y4
          have HH1 : Hid _ := H
          clear H
          clear hd kk
          go_wp2
          have H := HH1.out
          refine ⟨rfl, [v0, v1, v2, .pointer (some ⟨b, off + j * 5, none⟩), .agg #[.int .i64 k, .int .i64 t, .int .i64 a, .int .i64 s, .int .i64 p], v5, v6, v7, v8, v9, v10, v11, v12, v13], ?_, v0, v1, v2, .pointer (some ⟨b, off + j * 5, none⟩), .agg #[.int .i64 k, .int .i64 t, .int .i64 a, .int .i64 s, .int .i64 p], v5, v6, v7, v8, v9, v10, v11, v12, v13, u0, u1, va', vq', vc', X, rfl, ⟨H.bel, (by have h := H.f1; simpa [doneSet] using h), (by have h := H.f2; simpa [doneSet] using h), (fun _ => rfl), (by have h := H.f0; simpa [doneSet] using h), (fun _ => rfl), (by have h := H.f5; simpa [doneSet] using h), (by have h := H.od; simpa [doneSet] using h), (by have h := H.f6; simpa [doneSet] using h), (by have h := H.f7; simpa [doneSet] using h), (by have h := H.f8; simpa [doneSet] using h), (by have h := H.f9; simpa [doneSet] using h), (by have h := H.f10; simpa [doneSet] using h), (by have h := H.oa; simpa [doneSet] using h), (by have h := H.os; simpa [doneSet] using h), (by have h := H.f12; simpa [doneSet] using h), (by have h := H.f13; simpa [doneSet] using h), (by have h := H.gd; simpa [doneSet] using h), (by have h := H.ga; simpa [doneSet] using h)⟩⟩
          simp only [putAll, Act.put, List.setIfInBounds_toArray, List.set_cons_succ, List.set_cons_zero]
        · rintro d vs W ⟨v0, v1, v2, v3, v4, v5, v6, v7, v8, v9, v10, v11, v12, v13, u0, u1, va', vq', vc', X, rfl, H⟩ hn hd
          simp only [putAll, Act.put, List.setIfInBounds_toArray, List.set_cons_succ, List.set_cons_zero]
          have h0 : d 0 = true := hd { on := 0, ground := .data } (by simp) rfl
          have h4 : d 4 = true := hd { on := 4, ground := .data } (by simp) rfl
          obtain rfl := H.f0 h0
          obtain rfl := H.f4 h4
          have HO : Hid (Rg 3 agC W (.slice c3 gs1.length d3) gs1 ∧ Rg 4 wtC W (.slice c4 qs1.length d4) qs1) := HRD.out W H.bel
          have HH1 : Hid _ := H
          clear H
          have HHN : Hid (d 5 = false) := hn
          clear hd hn
          go_wp2_with (fail)
          refine (doI_c n1 g1 (.slice c3 gs1.length d3) (.slice c4 qs1.length d4) gs1 qs1 k t a s p W HO.out.1 HO.out.2 HBD.out.1 HBD.out.2.1).mono ?_
          rw [HRR.out]
          rintro e W3 ⟨va3, vq3, vc3, rfl, ho, hc, hap, hb⟩
          have hsz : wr.heap.size ≤ W.heap.size := HH1.out.bel.size
          have HO2 : Hid (OwD wr.heap.size W3 va3 vq3 R.1.2.2.1 R.1.2.2.2 ∧ Ow .i64 3 wr.heap.size W3 vc3 R.2.1 ∧ ∀ j, vc3.ownBlock = some j → ¬ InD va3 vq3 j) := ⟨ho.mono hsz, hc.mono hsz, hap⟩
          have H := HH1.out.below (Nat.le_refl _) hb
          have HH2 : Hid _ := H
          clear HH1 H ho hc hap hb hsz HO
          go_wp2
          have H := HH2.out
          have hn := HHN.out
          refine ⟨rfl, [.agg (D4 n1 (.slice c3 gs1.length d3) (.slice c4 qs1.length d4) g1), v1, v2, v3, .agg #[.int .i64 k, .int .i64 t, .int .i64 a, .int .i64 s, .int .i64 p], .tuple #[.agg (D4 R.1.1 va3 vq3 R.1.2.1), vc3, .int .i64 R.2.2], v6, v7, v8, v9, v10, v11, v12, v13], ?_, .agg (D4 n1 (.slice c3 gs1.length d3) (.slice c4 qs1.length d4) g1), v1, v2, v3, .agg #[.int .i64 k, .int .i64 t, .int .i64 a, .int .i64 s, .int .i64 p], .tuple #[.agg (D4 R.1.1 va3 vq3 R.1.2.1), vc3, .int .i64 R.2.2], v6, v7, v8, v9, v10, v11, v12, v13, u0, u1, va3, vq3, vc3, X, rfl, ⟨H.bel, (by have h := H.f1; simpa [doneSet] using h), (by have h := H.f2; simpa [doneSet] using h), (by have h := H.f3; simpa [doneSet] using h), (fun _ => rfl), (fun _ => rfl), (fun _ => rfl), (fun _ => HO2.out), (fun e => absurd (H.gd ((.inl (by simpa [doneSet] using e)))) (by rw [hn]; simp)), (fun e => absurd (H.gd (.inr ((.inl (by simpa [doneSet] using e))))) (by rw [hn]; simp)), (fun e => absurd (H.gd (.inr (.inr ((.inl (by simpa [doneSet] using e)))))) (by rw [hn]; simp)), (fun e => absurd (H.gd (.inr (.inr (.inr ((.inl (by simpa [doneSet] using e))))))) (by rw [hn]; simp)), (by have h := H.f10; simpa [doneSet] using h), (by have h := H.oa; simpa [doneSet] using h), (fun e => absurd (H.gd (.inr (.inr (.inr (.inr ((.inl (by simpa [doneSet] using e)))))))) (by rw [hn]; simp)), (fun e => absurd (H.gd (.inr (.inr (.inr (.inr (.inr ((.inl (by simpa [doneSet] using e))))))))) (by rw [hn]; simp)), (fun e => absurd (H.gd (.inr (.inr (.inr (.inr (.inr (.inr ((by simpa [doneSet] using e))))))))) (by rw [hn]; simp)), (fun _ => by simp [doneSet]), (by have h := H.ga; simpa [doneSet] using h)⟩⟩
          simp only [putAll, Act.put, List.setIfInBounds_toArray, List.set_cons_succ, List.set_cons_zero]
        · rintro d vs W ⟨v0, v1, v2, v3, v4, v5, v6, v7, v8, v9, v10, v11, v12, v13, u0, u1, va', vq', vc', X, rfl, H⟩ hn hd
          simp only [putAll, Act.put, List.setIfInBounds_toArray, List.set_cons_succ, List.set_cons_zero]
          have h5 : d 5 = true := hd { on := 5, ground := .data } (by simp) rfl
          obtain rfl := H.f5 h5
          have HH1 : Hid _ := H
          clear H
          clear hd
          go_wp2
          have H := HH1.out
          refine ⟨rfl, [v0, v1, v2, v3, v4, .tuple #[.agg (D4 R.1.1 va' vq' R.1.2.1), vc', .int .i64 R.2.2], .tuple #[.agg (D4 R.1.1 va' vq' R.1.2.1), vc', .int .i64 R.2.2], v7, v8, v9, v10, v11, v12, v13], ?_, v0, v1, v2, v3, v4, .tuple #[.agg (D4 R.1.1 va' vq' R.1.2.1), vc', .int .i64 R.2.2], .tuple #[.agg (D4 R.1.1 va' vq' R.1.2.1), vc', .int .i64 R.2.2], v7, v8, v9, v10, v11, v12, v13, u0, u1, va', vq', vc', X, rfl, ⟨H.bel, (by have h := H.f1; simpa [doneSet] using h), (by have h := H.f2; simpa [doneSet] using h), (by have h := H.f3; simpa [doneSet] using h), (by have h := H.f0; simpa [doneSet] using h), (by have h := H.f4; simpa [doneSet] using h), (fun _ => rfl), (by have h := H.od; simpa [doneSet] using h), (fun _ => rfl), (by have h := H.f7; simpa [doneSet] using h), (by have h := H.f8; simpa [doneSet] using h), (by have h := H.f9; simpa [doneSet] using h), (by have h := H.f10; simpa [doneSet] using h), (by have h := H.oa; simpa [doneSet] using h), (by have h := H.os; simpa [doneSet] using h), (by have h := H.f12; simpa [doneSet] using h), (by have h := H.f13; simpa [doneSet] using h), (fun _ => by simpa [doneSet] using h5), (by have h := H.ga; simpa [doneSet] using h)⟩⟩
          simp only [putAll, Act.put, List.setIfInBounds_toArray, List.set_cons_succ, List.set_cons_zero]
        · rintro d vs W ⟨v0, v1, v2, v3, v4, v5, v6, v7, v8, v9, v10, v11, v12, v13, u0, u1, va', vq', vc', X, rfl, H⟩ hn hd
          simp only [putAll, Act.put, List.setIfInBounds_toArray, List.set_cons_succ, List.set_cons_zero]
          have h6 : d 6 = true := hd { on := 6, ground := .data } (by simp) rfl
          have h5 := H.gd (.inl h6)
          obtain rfl := H.f6 h6
          have HH1 : Hid _ := H
          clear H
          clear hd
          go_wp2
          have H := HH1.out
          refine ⟨rfl, [v0, v1, v2, v3, v4, v5, .tuple #[.agg (D4 R.1.1 va' vq' R.1.2.1), vc', .int .i64 R.2.2], .agg (D4 R.1.1 va' vq' R.1.2.1), v8, v9, v10, v11, v12, v13], ?_, v0, v1, v2, v3, v4, v5, .tuple #[.agg (D4 R.1.1 va' vq' R.1.2.1), vc', .int .i64 R.2.2], .agg (D4 R.1.1 va' vq' R.1.2.1), v8, v9, v10, v11, v12, v13, u0, u1, va', vq', vc', X, rfl, ⟨H.bel, (by have h := H.f1; simpa [doneSet] using h), (by have h := H.f2; simpa [doneSet] using h), (by have h := H.f3; simpa [doneSet] using h), (by have h := H.f0; simpa [doneSet] using h), (by have h := H.f4; simpa [doneSet] using h), (by have h := H.f5; simpa [doneSet] using h), (by have h := H.od; simpa [doneSet] using h), (fun _ => rfl), (fun _ => rfl), (by have h := H.f8; simpa [doneSet] using h), (by have h := H.f9; simpa [doneSet] using h), (by have h := H.f10; simpa [doneSet] using h), (by have h := H.oa; simpa [doneSet] using h), (by have h := H.os; simpa [doneSet] using h), (by have h := H.f12; simpa [doneSet] using h), (by have h := H.f13; simpa [doneSet] using h), (fun _ => by simpa [doneSet] using h5), (by have h := H.ga; simpa [doneSet] using h)⟩⟩
          simp only [putAll, Act.put, List.setIfInBounds_toArray, List.set_cons_succ, List.set_cons_zero]
        · rintro d vs W ⟨v0, v1, v2, v3, v4, v5, v6, v7, v8, v9, v10, v11, v12, v13, u0, u1, va', vq', vc', X, rfl, H⟩ hn hd
          simp only [putAll, Act.put, List.setIfInBounds_toArray, List.set_cons_succ, List.set_cons_zero]
          have h6 : d 6 = true := hd { on := 6, ground := .data } (by simp) rfl
          have h5 := H.gd (.inl h6)
          obtain rfl := H.f6 h6
          have HH1 : Hid _ := H
          clear H
          clear hd
          go_wp2
          have H := HH1.out
          refine ⟨rfl, [v0, v1, v2, v3, v4, v5, .tuple #[.agg (D4 R.1.1 va' vq' R.1.2.1), vc', .int .i64 R.2.2], v7, vc', v9, v10, v11, v12, v13], ?_, v0, v1, v2, v3, v4, v5, .tuple #[.agg (D4 R.1.1 va' vq' R.1.2.1), vc', .int .i64 R.2.2], v7, vc', v9, v10, v11, v12, v13, u0, u1, va', vq', vc', X, rfl, ⟨H.bel, (by have h := H.f1; simpa [doneSet] using h), (by have h := H.f2; simpa [doneSet] using h), (by have h := H.f3; simpa [doneSet] using h), (by have h := H.f0; simpa [doneSet] using h), (by have h := H.f4; simpa [doneSet] using h), (by have h := H.f5; simpa [doneSet] using h), (by have h := H.od; simpa [doneSet] using h), (fun _ => rfl), (by have h := H.f7; simpa [doneSet] using h), (fun _ => rfl), (by have h := H.f9; simpa [doneSet] using h), (by have h := H.f10; simpa [doneSet] using h), (by have h := H.oa; simpa [doneSet] using h), (by have h := H.os; simpa [doneSet] using h), (by have h := H.f12; simpa [doneSet] using h), (by have h := H.f13; simpa [doneSet] using h), (fun _ => by simpa [doneSet] using h5), (by have h := H.ga; simpa [doneSet] using h)⟩⟩
          simp only [putAll, Act.put, List.setIfInBounds_toArray, List.set_cons_succ, List.set_cons_zero]
        · rintro d vs W ⟨v0, v1, v2, v3, v4, v5, v6, v7, v8, v9, v10, v11, v12, v13, u0, u1, va', vq', vc', X, rfl, H⟩ hn hd
          simp only [putAll, Act.put, List.setIfInBounds_toArray, List.set_cons_succ, List.set_cons_zero]
          have h6 : d 6 = true := hd { on := 6, ground := .data } (by simp) rfl
          have h5 := H.gd (.inl h6)
          obtain rfl := H.f6 h6
          have HH1 : Hid _ := H
          clear H
          clear hd
          go_wp2
          have H := HH1.out
          refine ⟨rfl, [v0, v1, v2, v3, v4, v5, .tuple #[.agg (D4 R.1.1 va' vq' R.1.2.1), vc', .int .i64 R.2.2], v7, v8, .int .i64 R.2.2, v10, v11, v12, v13], ?_, v0, v1, v2, v3, v4, v5, .tuple #[.agg (D4 R.1.1 va' vq' R.1.2.1), vc', .int .i64 R.2.2], v7, v8, .int .i64 R.2.2, v10, v11, v12, v13, u0, u1, va', vq', vc', X, rfl, ⟨H.bel, (by have h := H.f1; simpa [doneSet] using h), (by have h := H.f2; simpa [doneSet] using h), (by have h := H.f3; simpa [doneSet] using h), (by have h := H.f0; simpa [doneSet] using h), (by have h := H.f4; simpa [doneSet] using h), (by have h := H.f5; simpa [doneSet] using h), (by have h := H.od; simpa [doneSet] using h), (fun _ => rfl), (by have h := H.f7; simpa [doneSet] using h), (by have h := H.f8; simpa [doneSet] using h), (fun _ => rfl), (by have h := H.f10; simpa [doneSet] using h), (by have h := H.oa; simpa [doneSet] using h), (by have h := H.os; simpa [doneSet] using h), (by have h := H.f12; simpa [doneSet] using h), (by have h := H.f13; simpa [doneSet] using h), (fun _ => by simpa [doneSet] using h5), (by have h := H.ga; simpa [doneSet] using h)⟩⟩
          simp only [putAll, Act.put, List.setIfInBounds_toArray, List.set_cons_succ, List.set_cons_zero]
        · rintro d vs W ⟨v0, v1, v2, v3, v4, v5, v6, v7, v8, v9, v10, v11, v12, v13, u0, u1, va', vq', vc', X, rfl, H⟩ hn hd
          simp only [putAll, Act.put, List.setIfInBounds_toArray, List.set_cons_succ, List.set_cons_zero]
          have HH1 : Hid _ := H
          clear H
          have HHN : Hid (d 10 = false) := hn
          clear hd hn
          go_wp2
          have H0 := HH1.out
          have hn := HHN.out
          have H := HH1.out.below (Nat.le_refl _) ((Below.refl _ W).alloc (Nat.le_refl _) (.cells (D4 0 (.slice none 0 0) (.slice none 0 0) 0) 27))
          refine ⟨rfl, [v0, v1, v2, v3, v4, v5, v6, v7, v8, v9, .pointer (some ⟨W.heap.size, 0, none⟩), v11, v12, v13], ?_, v0, v1, v2, v3, v4, v5, v6, v7, v8, v9, .pointer (some ⟨W.heap.size, 0, none⟩), v11, v12, v13, u0, u1, va', vq', vc', W.heap.size, rfl, ⟨H.bel, (by have h := H.f1; simpa [doneSet] using h), (by have h := H.f2; simpa [doneSet] using h), (by have h := H.f3; simpa [doneSet] using h), (by have h := H.f0; simpa [doneSet] using h), (by have h := H.f4; simpa [doneSet] using h), (by have h := H.f5; simpa [doneSet] using h), (by have h := H.od; simpa [doneSet] using h), (by have h := H.f6; simpa [doneSet] using h), (by have h := H.f7; simpa [doneSet] using h), (by have h := H.f8; simpa [doneSet] using h), (by have h := H.f9; simpa [doneSet] using h), (fun _ => rfl), (fun _ => ⟨H0.bel.size, fun _ => Blk.new _ _ _⟩), (fun e => absurd (H.ga (by simpa [doneSet] using e)) (by rw [hn]; simp)), (by have h := H.f12; simpa [doneSet] using h), (by have h := H.f13; simpa [doneSet] using h), (by have h := H.gd; simpa [doneSet] using h), (fun _ => by simp [doneSet])⟩⟩
          simp only [putAll, Act.put, List.setIfInBounds_toArray, List.set_cons_succ, List.set_cons_zero]
        · rintro d vs W ⟨v0, v1, v2, v3, v4, v5, v6, v7, v8, v9, v10, v11, v12, v13, u0, u1, va', vq', vc', X, rfl, H⟩ hn hd
          simp only [putAll, Act.put, List.setIfInBounds_toArray, List.set_cons_succ, List.set_cons_zero]
          have h10 : d 10 = true := hd { on := 10, ground := .data } (by simp) rfl
          have h7 : d 7 = true := hd { on := 7, ground := .data } (by simp) rfl
          have h5 := H.gd (.inr ((.inl h7)))
          obtain rfl := H.f10 h10
          obtain rfl := H.f7 h7
          obtain ⟨hCX, hb⟩ := H.oa h10
          have hb := hb hn
          have e0 := hb.cell 0
          have e1 := hb.cell 1
          have e2 := hb.cell 2
          have e3 := hb.cell 3
          have u0' := hb.frozen 0
          have u1' := hb.frozen 1
          have u2' := hb.frozen 2
          have u3' := hb.frozen 3
          simp at e0 e1 e2 e3
          have HBX2 : Hid (wr.heap.size ≤ X ∧ Blk W X (D4 0 (.slice none 0 0) (.slice none 0 0) 0) 27) := ⟨hCX, hb⟩
          obtain ⟨ma1, mc1, hm1⟩ := (H.od h5).1.1.form
          obtain ⟨ma2, mc2, hm2⟩ := (H.od h5).1.2.1.form
          obtain ⟨ml1, hml1⟩ : ∃ m, R.1.2.2.1.length = m := ⟨_, rfl⟩
          obtain ⟨ml2, hml2⟩ : ∃ m, R.1.2.2.2.length = m := ⟨_, rfl⟩
          rw [hml1] at hm1
          rw [hml2] at hm2
          subst hm1 hm2
          have HH1 : Hid _ := H
          clear H
          clear hd hn hCX hb hml1 hml2
          go_wp2
          have H := HH1.out
          obtain ⟨hCX, hb⟩ := HBX2.out
          obtain ⟨va', hva'⟩ : ∃ v, v = Value.slice ma1 ml1 mc1 := ⟨_, rfl⟩
          obtain ⟨vq', hvq'⟩ : ∃ v, v = Value.slice ma2 ml2 mc2 := ⟨_, rfl⟩
          rw [← hva', ← hvq'] at H ⊢
          have gf : W.grownBy ((((W.setCell ⟨X, 0, none⟩ (.int .i64 R.1.1)).setCell ⟨X, 1, none⟩ va').setCell ⟨X, 2, none⟩ vq').setCell ⟨X, 3, none⟩ (.int .i64 R.1.2.1)) (some X) := grown_trans (grown_trans (grown_trans (grown_set' _ _ _ _) (grown_set' _ _ _ _)) (grown_set' _ _ _ _)) (grown_set' _ _ _ _)
          refine ⟨rfl, [v0, v1, v2, v3, v4, v5, v6, .agg (D4 R.1.1 va' vq' R.1.2.1), v8, v9, .pointer (some ⟨X, 0, none⟩), undef, v12, v13], ?_, v0, v1, v2, v3, v4, v5, v6, .agg (D4 R.1.1 va' vq' R.1.2.1), v8, v9, .pointer (some ⟨X, 0, none⟩), undef, v12, v13, u0, u1, va', vq', vc', X, rfl, ⟨(H.bel.trans (grown_below gf H.bel.size (fun _ e => by cases e; exact hCX))), (by have h := H.f1; simpa [doneSet] using h), (by have h := H.f2; simpa [doneSet] using h), (by have h := H.f3; simpa [doneSet] using h), (by have h := H.f0; simpa [doneSet] using h), (by have h := H.f4; simpa [doneSet] using h), (by have h := H.f5; simpa [doneSet] using h), (fun _ => ⟨⟨World.ownsRow.kept (H.od h5).1.1 gf (.inr (row_blk (H.od h5).1.1 hb (by decide))), World.ownsRow.kept (H.od h5).1.2.1 gf (.inr (row_blk (H.od h5).1.2.1 hb (by decide))), (H.od h5).1.2.2⟩, World.ownsRow.kept (H.od h5).2.1 gf (.inr (row_blk (H.od h5).2.1 hb (by decide))), (H.od h5).2.2⟩), (by have h := H.f6; simpa [doneSet] using h), (fun _ => rfl), (by have h := H.f8; simpa [doneSet] using h), (by have h := H.f9; simpa [doneSet] using h), (fun _ => rfl), (fun _ => ⟨hCX, fun e => by simp [doneSet] at e⟩), (fun _ => (((hb.set 0 _).set 1 _).set 2 _).set 3 _), (by have h := H.f12; simpa [doneSet] using h), (by have h := H.f13; simpa [doneSet] using h), (fun _ => by simpa [doneSet] using h5), (fun _ => by simpa [doneSet] using h10)⟩⟩
          simp only [putAll, Act.put, List.setIfInBounds_toArray, List.set_cons_succ, List.set_cons_zero]
        · rintro d vs W ⟨v0, v1, v2, v3, v4, v5, v6, v7, v8, v9, v10, v11, v12, v13, u0, u1, va', vq', vc', X, rfl, H⟩ hn hd
          simp only [putAll, Act.put, List.setIfInBounds_toArray, List.set_cons_succ, List.set_cons_zero]
          have h8 : d 8 = true := hd { on := 8, ground := .data } (by simp) rfl
          have h5 := H.gd (.inr (.inr ((.inl h8))))
          obtain rfl := H.f8 h8
          have HH1 : Hid _ := H
          clear H
          clear hd
          go_wp2
          have H := HH1.out
          refine ⟨rfl, [v0, v1, v2, v3, v4, v5, v6, v7, v8, v9, v10, v11, v8, v13], ?_, v0, v1, v2, v3, v4, v5, v6, v7, v8, v9, v10, v11, v8, v13, u0, u1, va', vq', v8, X, rfl, ⟨H.bel, (by have h := H.f1; simpa [doneSet] using h), (by have h := H.f2; simpa [doneSet] using h), (by have h := H.f3; simpa [doneSet] using h), (by have h := H.f0; simpa [doneSet] using h), (by have h := H.f4; simpa [doneSet] using h), (by have h := H.f5; simpa [doneSet] using h), (by have h := H.od; simpa [doneSet] using h), (by have h := H.f6; simpa [doneSet] using h), (by have h := H.f7; simpa [doneSet] using h), (fun _ => rfl), (by have h := H.f9; simpa [doneSet] using h), (by have h := H.f10; simpa [doneSet] using h), (by have h := H.oa; simpa [doneSet] using h), (by have h := H.os; simpa [doneSet] using h), (fun _ => rfl), (by have h := H.f13; simpa [doneSet] using h), (fun _ => by simpa [doneSet] using h5), (by have h := H.ga; simpa [doneSet] using h)⟩⟩
          simp only [putAll, Act.put, List.setIfInBounds_toArray, List.set_cons_succ, List.set_cons_zero]
        · rintro d vs W ⟨v0, v1, v2, v3, v4, v5, v6, v7, v8, v9, v10, v11, v12, v13, u0, u1, va', vq', vc', X, rfl, H⟩ hn hd
          simp only [putAll, Act.put, List.setIfInBounds_toArray, List.set_cons_succ, List.set_cons_zero]
          have h9 : d 9 = true := hd { on := 9, ground := .data } (by simp) rfl
          have h5 := H.gd (.inr (.inr (.inr ((.inl h9)))))
          obtain rfl := H.f9 h9
          have HH1 : Hid _ := H
          clear H
          clear hd
          go_wp2
          have H := HH1.out
          refine ⟨rfl, [v0, v1, v2, v3, v4, v5, v6, v7, v8, .int .i64 R.2.2, v10, v11, v12, .int .i64 R.2.2], ?_, v0, v1, v2, v3, v4, v5, v6, v7, v8, .int .i64 R.2.2, v10, v11, v12, .int .i64 R.2.2, u0, u1, va', vq', vc', X, rfl, ⟨H.bel, (by have h := H.f1; simpa [doneSet] using h), (by have h := H.f2; simpa [doneSet] using h), (by have h := H.f3; simpa [doneSet] using h), (by have h := H.f0; simpa [doneSet] using h), (by have h := H.f4; simpa [doneSet] using h), (by have h := H.f5; simpa [doneSet] using h), (by have h := H.od; simpa [doneSet] using h), (by have h := H.f6; simpa [doneSet] using h), (by have h := H.f7; simpa [doneSet] using h), (by have h := H.f8; simpa [doneSet] using h), (fun _ => rfl), (by have h := H.f10; simpa [doneSet] using h), (by have h := H.oa; simpa [doneSet] using h), (by have h := H.os; simpa [doneSet] using h), (by have h := H.f12; simpa [doneSet] using h), (fun _ => rfl), (fun _ => by simpa [doneSet] using h5), (by have h := H.ga; simpa [doneSet] using h)⟩⟩
          simp only [putAll, Act.put, List.setIfInBounds_toArray, List.set_cons_succ, List.set_cons_zero]
        rintro d vs W7 ⟨v0, v1, v2, v3, v4, v5, v6, v7, v8, v9, v10, v11, v12, v13, u0, u1, va4, vq4, vcl, X, rfl, H⟩ hn
        obtain rfl := H.f10 (hn 10 (by decide))
        have hv12 := H.f12 (hn 12 (by decide))
        subst hv12
        obtain rfl := H.f13 (hn 13 (by decide))
        obtain ⟨o2, oc2, apc⟩ := H.od (hn 5 (by decide))
        have hX := H.os (hn 11 (by decide))
        have HCX : Hid (wr.heap.size ≤ X) := (H.oa (hn 10 (by decide))).1
        have HBL : Hid (Below wr.heap.size wr W7) := H.bel
        have S5 : Hid (Ns w.heap.size P w1 W7 n1 g1 (.slice c3 gs1.length d3) (.slice c4 qs1.length d4) gs1 qs1) := S3.out.below H.bel
        simp only [putAll, Act.put, List.setIfInBounds_toArray, List.set_cons_succ, List.set_cons_zero]
        have HX7 : Hid (Blk W7 X (D4 R.1.1 va4 vq4 R.1.2.1) 27) := hX
        have HO7 : Hid (OwD wr.heap.size W7 va4 vq4 R.1.2.2.1 R.1.2.2.2 ∧ Ow .i64 3 wr.heap.size W7 v12 R.2.1) := ⟨o2, oc2⟩
        have HRG7 : Hid (∀ W, Below W7.heap.size W7 W → W.rangeAt b (off + j * 5) (doC (k, t, a, s, p))) := fun W h => HRG.out W (belowCall HBL.out h HBL.out.size)
        have HBX7 : Hid (Blk W7 P (D4 n1 (.slice c3 gs1.length d3) (.slice c4 qs1.length d4) g1) 27) := S5.out.box
        have HRD7 : Hid (∀ W, Below W7.heap.size W7 W → Rg 3 agC W (.slice c3 gs1.length d3) gs1 ∧ Rg 4 wtC W (.slice c4 qs1.length d4) qs1) := fun W h => ⟨(S5.out.own.1.rd agC_len).below h, (S5.out.own.2.1.rd wtC_len).below h⟩
        obtain ⟨vcl, hvcl⟩ : ∃ v, v12 = v := ⟨_, rfl⟩
        rw [hvcl] at HO7 ⊢
        clear H hn HRD HRG HBX hvcl apc o2 oc2 hX
        go_upto_region 13 with (fail)
        refine region_vals [undef, undef, undef, undef, undef, undef, undef, undef, undef, undef, undef, undef, undef, undef]
          (SmS W7.heap.size W7 n1 g1 (.slice c3 gs1.length d3) (.slice c4 qs1.length d4) gs1 qs1 k t a s p R b off m oc j)
          (by kernel_rfl) (by kernel_rfl) ?_ ⟨?_, ?_, ?_, ?_, ?_, ?_, ?_, ?_, ?_, ?_, ?_, ?_, ?_, ?_, trivial⟩ ?_
        · refine ⟨_, _, _, _, _, _, _, _, _, _, _, _, _, _, undef, undef, undef, undef, undef, 0, rfl, ⟨(Below.refl _ _).drew, ?_, ?_, ?_, ?_, ?_, ?_, ?_, ?_, ?_, ?_, ?_, ?_, ?_, ?_, ?_, ?_, ?_, ?_⟩⟩ <;> simp
        · rintro d vs W ⟨v0, v1, v2, v3, v4, v5, v6, v7, v8, v9, v10, v11, v12, v13, u0, u1, va', vq', vc', X, rfl, H⟩ hn hd
          simp only [putAll, Act.put, List.setIfInBounds_toArray, List.set_cons_succ, List.set_cons_zero]
          have kk := HBX7.out.below H.bel HBX7.out.lt
          have x0 := kk.cell 0
          have x1 := kk.cell 1
          have x2 := kk.cell 2
          have x3 := kk.cell 3
          simp at x0 x1 x2 x3
          have HH1 : Hid _ := H
          clear H
          clear hd kk
          go_wp2
          have H := HH1.out
          refine ⟨rfl, [.agg (D4 n1 (.slice c3 gs1.length d3) (.slice c4 qs1.length d4) g1), v1, v2, v3, v4, v5, v6, v7, v8, v9, v10, v11, v12, v13], ?_, .agg (D4 n1 (.slice c3 gs1.length d3) (.slice c4 qs1.length d4) g1), v1, v2, v3, v4, v5, v6, v7, v8, v9, v10, v11, v12, v13, u0, u1, va', vq', vc', X, rfl, ⟨H.bel, (by have h := H.f1; simpa [doneSet] using h), (by have h := H.f2; simpa [doneSet] using h), (by have h := H.f3; simpa [doneSet] using h), (fun _ => rfl), (by have h := H.f4; simpa [doneSet] using h), (by have h := H.f5; simpa [doneSet] using h), (by have h := H.od; simpa [doneSet] using h), (by have h := H.f6; simpa [doneSet] using h), (by have h := H.f7; simpa [doneSet] using h), (by have h := H.f8; simpa [doneSet] using h), (by have h := H.f9; simpa [doneSet] using h), (by have h := H.f10; simpa [doneSet] using h), (by have h := H.oa; simpa [doneSet] using h), (by have h := H.os; simpa [doneSet] using h), (by have h := H.f12; simpa [doneSet] using h), (by have h := H.f13; simpa [doneSet] using h), (by have h := H.gd; simpa [doneSet] using h), (by have h := H.ga; simpa [doneSet] using h)⟩⟩
          simp only [putAll, Act.put, List.setIfInBounds_toArray, List.set_cons_succ, List.set_cons_zero]
        · rintro d vs W ⟨v0, v1, v2, v3, v4, v5, v6, v7, v8, v9, v10, v11, v12, v13, u0, u1, va', vq', vc', X, rfl, H⟩ hn hd
          simp only [putAll, Act.put, List.setIfInBounds_toArray, List.set_cons_succ, List.set_cons_zero]
          have HH1 : Hid _ := H
          clear H
          clear hd
          go_wp2
          have H := HH1.out
          refine ⟨rfl, [v0, .slice (some ⟨b, off, none⟩) m oc, v2, v3, v4, v5, v6, v7, v8, v9, v10, v11, v12, v13], ?_, v0, .slice (some ⟨b, off, none⟩) m oc, v2, v3, v4, v5, v6, v7, v8, v9, v10, v11, v12, v13, u0, u1, va', vq', vc', X, rfl, ⟨H.bel, (fun _ => rfl), (by have h := H.f2; simpa [doneSet] using h), (by have h := H.f3; simpa [doneSet] using h), (by have h := H.f0; simpa [doneSet] using h), (by have h := H.f4; simpa [doneSet] using h), (by have h := H.f5; simpa [doneSet] using h), (by have h := H.od; simpa [doneSet] using h), (by have h := H.f6; simpa [doneSet] using h), (by have h := H.f7; simpa [doneSet] using h), (by have h := H.f8; simpa [doneSet] using h), (by have h := H.f9; simpa [doneSet] using h), (by have h := H.f10; simpa [doneSet] using h), (by have h := H.oa; simpa [doneSet] using h), (by have h := H.os; simpa [doneSet] using h), (by have h := H.f12; simpa [doneSet] using h), (by have h := H.f13; simpa [doneSet] using h), (by have h := H.gd; simpa [doneSet] using h), (by have h := H.ga; simpa [doneSet] using h)⟩⟩
          simp only [putAll, Act.put, List.setIfInBounds_toArray, List.set_cons_succ, List.set_cons_zero]
        · rintro d vs W ⟨v0, v1, v2, v3, v4, v5, v6, v7, v8, v9, v10, v11, v12, v13, u0, u1, va', vq', vc', X, rfl, H⟩ hn hd
          simp only [putAll, Act.put, List.setIfInBounds_toArray, List.set_cons_succ, List.set_cons_zero]
          have HH1 : Hid _ := H
          clear H
          clear hd
          go_wp2
          have H := HH1.out
          refine ⟨rfl, [v0, v1, .int .i64 (j : Int), v3, v4, v5, v6, v7, v8, v9, v10, v11, v12, v13], ?_, v0, v1, .int .i64 (j : Int), v3, v4, v5, v6, v7, v8, v9, v10, v11, v12, v13, u0, u1, va', vq', vc', X, rfl, ⟨H.bel, (by have h := H.f1; simpa [doneSet] using h), (fun _ => rfl), (by have h := H.f3; simpa [doneSet] using h), (by have h := H.f0; simpa [doneSet] using h), (by have h := H.f4; simpa [doneSet] using h), (by have h := H.f5; simpa [doneSet] using h), (by have h := H.od; simpa [doneSet] using h), (by have h := H.f6; simpa [doneSet] using h), (by have h := H.f7; simpa [doneSet] using h), (by have h := H.f8; simpa [doneSet] using h), (by have h := H.f9; simpa [doneSet] using h), (by have h := H.f10; simpa [doneSet] using h), (by have h := H.oa; simpa [doneSet] using h), (by have h := H.os; simpa [doneSet] using h), (by have h := H.f12; simpa [doneSet] using h), (by have h := H.f13; simpa [doneSet] using h), (by have h := H.gd; simpa [doneSet] using h), (by have h := H.ga; simpa [doneSet] using h)⟩⟩
          simp only [putAll, Act.put, List.setIfInBounds_toArray, List.set_cons_succ, List.set_cons_zero]
        · rintro d vs W ⟨v0, v1, v2, v3, v4, v5, v6, v7, v8, v9, v10, v11, v12, v13, u0, u1, va', vq', vc', X, rfl, H⟩ hn hd
          simp only [putAll, Act.put, List.setIfInBounds_toArray, List.set_cons_succ, List.set_cons_zero]
          have h1 : d 1 = true := hd { on := 1, ground := .data } (by simp) rfl
          have h2 : d 2 = true := hd { on := 2, ground := .data } (by simp) rfl
          obtain rfl := H.f1 h1
          obtain rfl := H.f2 h2
          have HH1 : Hid _ := H
          clear H
          clear hd
          go_wp2
          have H := HH1.out
          refine ⟨rfl, [v0, .slice (some ⟨b, off, none⟩) m oc, .int .i64 (j : Int), .pointer (some ⟨b, off + j * 5, none⟩), v4, v5, v6, v7, v8, v9, v10, v11, v12, v13], ?_, v0, .slice (some ⟨b, off, none⟩) m oc, .int .i64 (j : Int), .pointer (some ⟨b, off + j * 5, none⟩), v4, v5, v6, v7, v8, v9, v10, v11, v12, v13, u0, u1, va', vq', vc', X, rfl, ⟨H.bel, (fun _ => rfl), (fun _ => rfl), (fun _ => rfl), (by have h := H.f0; simpa [doneSet] using h), (by have h := H.f4; simpa [doneSet] using h), (by have h := H.f5; simpa [doneSet] using h), (by have h := H.od; simpa [doneSet] using h), (by have h := H.f6; simpa [doneSet] using h), (by have h := H.f7; simpa [doneSet] using h), (by have h := H.f8; simpa [doneSet] using h), (by have h := H.f9; simpa [doneSet] using h), (by have h := H.f10; simpa [doneSet] using h), (by have h := H.oa; simpa [doneSet] using h), (by have h := H.os; simpa [doneSet] using h), (by have h := H.f12; simpa [doneSet] using h), (by have h := H.f13; simpa [doneSet] using h), (by have h := H.gd; simpa [doneSet] using h), (by have h := H.ga; simpa [doneSet] using h)⟩⟩
          simp only [putAll, Act.put, List.setIfInBounds_toArray, List.set_cons_succ, List.set_cons_zero]
        · rintro d vs W ⟨v0, v1, v2, v3, v4, v5, v6, v7, v8, v9, v10, v11, v12, v13, u0, u1, va', vq', vc', X, rfl, H⟩ hn hd
          simp only [putAll, Act.put, List.setIfInBounds_toArray, List.set_cons_succ, List.set_cons_zero]
          have h3 : d 3 = true := hd { on := 3, ground := .data } (by simp) rfl
          obtain rfl := H.f3 h3
          have kk := HRG7.out W H.bel
          have y0 := kk 0 _ rfl
          have y1 := kk 1 _ rfl
          have y2 := kk 2 _ rfl
          have y3 := kk 3 _ rfl
          have y4 := kk 4 _ rfl
          simp at y0 y1 y2 y3 y4
          have HH1 : Hid _ := H
          clear H
          clear hd kk
          go_wp2
          have H := HH1.out
          refine ⟨rfl, [v0, v1, v2, .pointer (some ⟨b, off + j * 5, none⟩), .agg #[.int .i64 k, .int .i64 t, .int .i64 a, .int .i64 s, .int .i64 p], v5, v6, v7, v8, v9, v10, v11, v12, v13], ?_, v0, v1, v2, .pointer (some ⟨b, off + j * 5, none⟩), .agg #[.int .i64 k, .int .i64 t, .int .i64 a, .int .i64 s, .int .i64 p], v5, v6, v7, v8, v9, v10, v11, v12, v13, u0, u1, va', vq', vc', X, rfl, ⟨H.bel, (by have h := H.f1; simpa [doneSet] using h), (by have h := H.f2; simpa [doneSet] using h), (fun _ => rfl), (by have h := H.f0; simpa [doneSet] using h), (fun _ => rfl), (by have h := H.f5; simpa [doneSet] using h), (by have h := H.od; simpa [doneSet] using h), (by have h := H.f6; simpa [doneSet] using h), (by have h := H.f7; simpa [doneSet] using h), (by have h := H.f8; simpa [doneSet] using h), (by have h := H.f9; simpa [doneSet] using h), (by have h := H.f10; simpa [doneSet] using h), (by have h := H.oa; simpa [doneSet] using h), (by have h := H.os; simpa [doneSet] using h), (by have h := H.f12; simpa [doneSet] using h), (by have h := H.f13; simpa [doneSet] using h), (by have h := H.gd; simpa [doneSet] using h), (by have h := H.ga; simpa [doneSet] using h)⟩⟩
          simp only [putAll, Act.put, List.setIfInBounds_toArray, List.set_cons_succ, List.set_cons_zero]
        · rintro d vs W ⟨v0, v1, v2, v3, v4, v5, v6, v7, v8, v9, v10, v11, v12, v13, u0, u1, va', vq', vc', X, rfl, H⟩ hn hd
          simp only [putAll, Act.put, List.setIfInBounds_toArray, List.set_cons_succ, List.set_cons_zero]
          have h0 : d 0 = true := hd { on := 0, ground := .data } (by simp) rfl
          have h4 : d 4 = true := hd { on := 4, ground := .data } (by simp) rfl
          obtain rfl := H.f0 h0
          obtain rfl := H.f4 h4
          have HO : Hid (Rg 3 agC W (.slice c3 gs1.length d3) gs1 ∧ Rg 4 wtC W (.slice c4 qs1.length d4) qs1) := HRD7.out W H.bel
          have HH1 : Hid _ := H
          clear H
          have HHN : Hid (d 5 = false) := hn
          clear hd hn
          go_wp2_with (fail)
          refine (doM_c n1 g1 (.slice c3 gs1.length d3) (.slice c4 qs1.length d4) gs1 qs1 k t a s p W HO.out.1 HO.out.2 HBD.out.1 HBD.out.2.1).mono ?_
          rw [HRR.out]
          rintro e W3 ⟨va3, vq3, vc3, rfl, ho, hc, hap, hb⟩
          have hsz : W7.heap.size ≤ W.heap.size := HH1.out.bel.size
          have HO2 : Hid (OwD W7.heap.size W3 va3 vq3 R.1.2.2.1 R.1.2.2.2 ∧ Ow .i64 3 W7.heap.size W3 vc3 R.2.1 ∧ ∀ j, vc3.ownBlock = some j → ¬ InD va3 vq3 j) := ⟨ho.mono hsz, hc.mono hsz, hap⟩
          have H := HH1.out.below (Nat.le_refl _) hb
          have HH2 : Hid _ := H
          clear HH1 H ho hc hap hb hsz HO
          go_wp2
          have H := HH2.out
          have hn := HHN.out
          refine ⟨rfl, [.agg (D4 n1 (.slice c3 gs1.length d3) (.slice c4 qs1.length d4) g1), v1, v2, v3, .agg #[.int .i64 k, .int .i64 t, .int .i64 a, .int .i64 s, .int .i64 p], .tuple #[.agg (D4 R.1.1 va3 vq3 R.1.2.1), vc3, .int .i64 R.2.2], v6, v7, v8, v9, v10, v11, v12, v13], ?_, .agg (D4 n1 (.slice c3 gs1.length d3) (.slice c4 qs1.length d4) g1), v1, v2, v3, .agg #[.int .i64 k, .int .i64 t, .int .i64 a, .int .i64 s, .int .i64 p], .tuple #[.agg (D4 R.1.1 va3 vq3 R.1.2.1), vc3, .int .i64 R.2.2], v6, v7, v8, v9, v10, v11, v12, v13, u0, u1, va3, vq3, vc3, X, rfl, ⟨H.bel, (by have h := H.f1; simpa [doneSet] using h), (by have h := H.f2; simpa [doneSet] using h), (by have h := H.f3; simpa [doneSet] using h), (fun _ => rfl), (fun _ => rfl), (fun _ => rfl), (fun _ => HO2.out), (fun e => absurd (H.gd ((.inl (by simpa [doneSet] using e)))) (by rw [hn]; simp)), (fun e => absurd (H.gd (.inr ((.inl (by simpa [doneSet] using e))))) (by rw [hn]; simp)), (fun e => absurd (H.gd (.inr (.inr ((.inl (by simpa [doneSet] using e)))))) (by rw [hn]; simp)), (fun e => absurd (H.gd (.inr (.inr (.inr ((.inl (by simpa [doneSet] using e))))))) (by rw [hn]; simp)), (by have h := H.f10; simpa [doneSet] using h), (by have h := H.oa; simpa [doneSet] using h), (fun e => absurd (H.gd (.inr (.inr (.inr (.inr ((.inl (by simpa [doneSet] using e)))))))) (by rw [hn]; simp)), (fun e => absurd (H.gd (.inr (.inr (.inr (.inr (.inr ((.inl (by simpa [doneSet] using e))))))))) (by rw [hn]; simp)), (fun e => absurd (H.gd (.inr (.inr (.inr (.inr (.inr (.inr ((by simpa [doneSet] using e))))))))) (by rw [hn]; simp)), (fun _ => by simp [doneSet]), (by have h := H.ga; simpa [doneSet] using h)⟩⟩
          simp only [putAll, Act.put, List.setIfInBounds_toArray, List.set_cons_succ, List.set_cons_zero]
        · rintro d vs W ⟨v0, v1, v2, v3, v4, v5, v6, v7, v8, v9, v10, v11, v12, v13, u0, u1, va', vq', vc', X, rfl, H⟩ hn hd
          simp only [putAll, Act.put, List.setIfInBounds_toArray, List.set_cons_succ, List.set_cons_zero]
          have h5 : d 5 = true := hd { on := 5, ground := .data } (by simp) rfl
          obtain rfl := H.f5 h5
          have HH1 : Hid _ := H
          clear H
          clear hd
          go_wp2
          have H := HH1.out
          refine ⟨rfl, [v0, v1, v2, v3, v4, .tuple #[.agg (D4 R.1.1 va' vq' R.1.2.1), vc', .int .i64 R.2.2], .tuple #[.agg (D4 R.1.1 va' vq' R.1.2.1), vc', .int .i64 R.2.2], v7, v8, v9, v10, v11, v12, v13], ?_, v0, v1, v2, v3, v4, .tuple #[.agg (D4 R.1.1 va' vq' R.1.2.1), vc', .int .i64 R.2.2], .tuple #[.agg (D4 R.1.1 va' vq' R.1.2.1), vc', .int .i64 R.2.2], v7, v8, v9, v10, v11, v12, v13, u0, u1, va', vq', vc', X, rfl, ⟨H.bel, (by have h := H.f1; simpa [doneSet] using h), (by have h := H.f2; simpa [doneSet] using h), (by have h := H.f3; simpa [doneSet] using h), (by have h := H.f0; simpa [doneSet] using h), (by have h := H.f4; simpa [doneSet] using h), (fun _ => rfl), (by have h := H.od; simpa [doneSet] using h), (fun _ => rfl), (by have h := H.f7; simpa [doneSet] using h), (by have h := H.f8; simpa [doneSet] using h), (by have h := H.f9; simpa [doneSet] using h), (by have h := H.f10; simpa [doneSet] using h), (by have h := H.oa; simpa [doneSet] using h), (by have h := H.os; simpa [doneSet] using h), (by have h := H.f12; simpa [doneSet] using h), (by have h := H.f13; simpa [doneSet] using h), (fun _ => by simpa [doneSet] using h5), (by have h := H.ga; simpa [doneSet] using h)⟩⟩
          simp only [putAll, Act.put, List.setIfInBounds_toArray, List.set_cons_succ, List.set_cons_zero]
        · rintro d vs W ⟨v0, v1, v2, v3, v4, v5, v6, v7, v8, v9, v10, v11, v12, v13, u0, u1, va', vq', vc', X, rfl, H⟩ hn hd
          simp only [putAll, Act.put, List.setIfInBounds_toArray, List.set_cons_succ, List.set_cons_zero]
          have h6 : d 6 = true := hd { on := 6, ground := .data } (by simp) rfl
          have h5 := H.gd (.inl h6)
          obtain rfl := H.f6 h6
          have HH1 : Hid _ := H
          clear H
          clear hd
          go_wp2
          have H := HH1.out
          refine ⟨rfl, [v0, v1, v2, v3, v4, v5, .tuple #[.agg (D4 R.1.1 va' vq' R.1.2.1), vc', .int .i64 R.2.2], .agg (D4 R.1.1 va' vq' R.1.2.1), v8, v9, v10, v11, v12, v13], ?_, v0, v1, v2, v3, v4, v5, .tuple #[.agg (D4 R.1.1 va' vq' R.1.2.1), vc', .int .i64 R.2.2], .agg (D4 R.1.1 va' vq' R.1.2.1), v8, v9, v10, v11, v12, v13, u0, u1, va', vq', vc', X, rfl, ⟨H.bel, (by have h := H.f1; simpa [doneSet] using h), (by have h := H.f2; simpa [doneSet] using h), (by have h := H.f3; simpa [doneSet] using h), (by have h := H.f0; simpa [doneSet] using h), (by have h := H.f4; simpa [doneSet] using h), (by have h := H.f5; simpa [doneSet] using h), (by have h := H.od; simpa [doneSet] using h), (fun _ => rfl), (fun _ => rfl), (by have h := H.f8; simpa [doneSet] using h), (by have h := H.f9; simpa [doneSet] using h), (by have h := H.f10; simpa [doneSet] using h), (by have h := H.oa; simpa [doneSet] using h), (by have h := H.os; simpa [doneSet] using h), (by have h := H.f12; simpa [doneSet] using h), (by have h := H.f13; simpa [doneSet] using h), (fun _ => by simpa [doneSet] using h5), (by have h := H.ga; simpa [doneSet] using h)⟩⟩
          simp only [putAll, Act.put, List.setIfInBounds_toArray, List.set_cons_succ, List.set_cons_zero]
        · rintro d vs W ⟨v0, v1, v2, v3, v4, v5, v6, v7, v8, v9, v10, v11, v12, v13, u0, u1, va', vq', vc', X, rfl, H⟩ hn hd
          simp only [putAll, Act.put, List.setIfInBounds_toArray, List.set_cons_succ, List.set_cons_zero]
          have h6 : d 6 = true := hd { on := 6, ground := .data } (by simp) rfl
          have h5 := H.gd (.inl h6)
          obtain rfl := H.f6 h6
          have HH1 : Hid _ := H
          clear H
          clear hd
          go_wp2
          have H := HH1.out
          refine ⟨rfl, [v0, v1, v2, v3, v4, v5, .tuple #[.agg (D4 R.1.1 va' vq' R.1.2.1), vc', .int .i64 R.2.2], v7, vc', v9, v10, v11, v12, v13], ?_, v0, v1, v2, v3, v4, v5, .tuple #[.agg (D4 R.1.1 va' vq' R.1.2.1), vc', .int .i64 R.2.2], v7, vc', v9, v10, v11, v12, v13, u0, u1, va', vq', vc', X, rfl, ⟨H.bel, (by have h := H.f1; simpa [doneSet] using h), (by have h := H.f2; simpa [doneSet] using h), (by have h := H.f3; simpa [doneSet] using h), (by have h := H.f0; simpa [doneSet] using h), (by have h := H.f4; simpa [doneSet] using h), (by have h := H.f5; simpa [doneSet] using h), (by have h := H.od; simpa [doneSet] using h), (fun _ => rfl), (by have h := H.f7; simpa [doneSet] using h), (fun _ => rfl), (by have h := H.f9; simpa [doneSet] using h), (by have h := H.f10; simpa [doneSet] using h), (by have h := H.oa; simpa [doneSet] using h), (by have h := H.os; simpa [doneSet] using h), (by have h := H.f12; simpa [doneSet] using h), (by have h := H.f13; simpa [doneSet] using h), (fun _ => by simpa [doneSet] using h5), (by have h := H.ga; simpa [doneSet] using h)⟩⟩
          simp only [putAll, Act.put, List.setIfInBounds_toArray, List.set_cons_succ, List.set_cons_zero]
        · rintro d vs W ⟨v0, v1, v2, v3, v4, v5, v6, v7, v8, v9, v10, v11, v12, v13, u0, u1, va', vq', vc', X, rfl, H⟩ hn hd
          simp only [putAll, Act.put, List.setIfInBounds_toArray, List.set_cons_succ, List.set_cons_zero]
          have h6 : d 6 = true := hd { on := 6, ground := .data } (by simp) rfl
          have h5 := H.gd (.inl h6)
          obtain rfl := H.f6 h6
          have HH1 : Hid _ := H
          clear H
          clear hd
          go_wp2
          have H := HH1.out
          refine ⟨rfl, [v0, v1, v2, v3, v4, v5, .tuple #[.agg (D4 R.1.1 va' vq' R.1.2.1), vc', .int .i64 R.2.2], v7, v8, .int .i64 R.2.2, v10, v11, v12, v13], ?_, v0, v1, v2, v3, v4, v5, .tuple #[.agg (D4 R.1.1 va' vq' R.1.2.1), vc', .int .i64 R.2.2], v7, v8, .int .i64 R.2.2, v10, v11, v12, v13, u0, u1, va', vq', vc', X, rfl, ⟨H.bel, (by have h := H.f1; simpa [doneSet] using h), (by have h := H.f2; simpa [doneSet] using h), (by have h := H.f3; simpa [doneSet] using h), (by have h := H.f0; simpa [doneSet] using h), (by have h := H.f4; simpa [doneSet] using h), (by have h := H.f5; simpa [doneSet] using h), (by have h := H.od; simpa [doneSet] using h), (fun _ => rfl), (by have h := H.f7; simpa [doneSet] using h), (by have h := H.f8; simpa [doneSet] using h), (fun _ => rfl), (by have h := H.f10; simpa [doneSet] using h), (by have h := H.oa; simpa [doneSet] using h), (by have h := H.os; simpa [doneSet] using h), (by have h := H.f12; simpa [doneSet] using h), (by have h := H.f13; simpa [doneSet] using h), (fun _ => by simpa [doneSet] using h5), (by have h := H.ga; simpa [doneSet] using h)⟩⟩
          simp only [putAll, Act.put, List.setIfInBounds_toArray, List.set_cons_succ, List.set_cons_zero]
        · rintro d vs W ⟨v0, v1, v2, v3, v4, v5, v6, v7, v8, v9, v10, v11, v12, v13, u0, u1, va', vq', vc', X, rfl, H⟩ hn hd
          simp only [putAll, Act.put, List.setIfInBounds_toArray, List.set_cons_succ, List.set_cons_zero]
          have HH1 : Hid _ := H
          clear H
          have HHN : Hid (d 10 = false) := hn
          clear hd hn
          go_wp2
          have H0 := HH1.out
          have hn := HHN.out
          have H := HH1.out.below (Nat.le_refl _) ((Below.refl _ W).alloc (Nat.le_refl _) (.cells (D4 0 (.slice none 0 0) (.slice none 0 0) 0) 27))
          refine ⟨rfl, [v0, v1, v2, v3, v4, v5, v6, v7, v8, v9, .pointer (some ⟨W.heap.size, 0, none⟩), v11, v12, v13], ?_, v0, v1, v2, v3, v4, v5, v6, v7, v8, v9, .pointer (some ⟨W.heap.size, 0, none⟩), v11, v12, v13, u0, u1, va', vq', vc', W.heap.size, rfl, ⟨H.bel, (by have h := H.f1; simpa [doneSet] using h), (by have h := H.f2; simpa [doneSet] using h), (by have h := H.f3; simpa [doneSet] using h), (by have h := H.f0; simpa [doneSet] using h), (by have h := H.f4; simpa [doneSet] using h), (by have h := H.f5; simpa [doneSet] using h), (by have h := H.od; simpa [doneSet] using h), (by have h := H.f6; simpa [doneSet] using h), (by have h := H.f7; simpa [doneSet] using h), (by have h := H.f8; simpa [doneSet] using h), (by have h := H.f9; simpa [doneSet] using h), (fun _ => rfl), (fun _ => ⟨H0.bel.size, fun _ => Blk.new _ _ _⟩), (fun e => absurd (H.ga (by simpa [doneSet] using e)) (by rw [hn]; simp)), (by have h := H.f12; simpa [doneSet] using h), (by have h := H.f13; simpa [doneSet] using h), (by have h := H.gd; simpa [doneSet] using h), (fun _ => by simp [doneSet])⟩⟩
          simp only [putAll, Act.put, List.setIfInBounds_toArray, List.set_cons_succ, List.set_cons_zero]
        · rintro d vs W ⟨v0, v1, v2, v3, v4, v5, v6, v7, v8, v9, v10, v11, v12, v13, u0, u1, va', vq', vc', X, rfl, H⟩ hn hd
          simp only [putAll, Act.put, List.setIfInBounds_toArray, List.set_cons_succ, List.set_cons_zero]
          have h10 : d 10 = true := hd { on := 10, ground := .data } (by simp) rfl
          have h7 : d 7 = true := hd { on := 7, ground := .data } (by simp) rfl
          have h5 := H.gd (.inr ((.inl h7)))
          obtain rfl := H.f10 h10
          obtain rfl := H.f7 h7
          obtain ⟨hCX, hb⟩ := H.oa h10
          have hb := hb hn
          have e0 := hb.cell 0
          have e1 := hb.cell 1
          have e2 := hb.cell 2
          have e3 := hb.cell 3
          have u0' := hb.frozen 0
          have u1' := hb.frozen 1
          have u2' := hb.frozen 2
          have u3' := hb.frozen 3
          simp at e0 e1 e2 e3
          have HBX2 : Hid (W7.heap.size ≤ X ∧ Blk W X (D4 0 (.slice none 0 0) (.slice none 0 0) 0) 27) := ⟨hCX, hb⟩
          obtain ⟨ma1, mc1, hm1⟩ := (H.od h5).1.1.form
          obtain ⟨ma2, mc2, hm2⟩ := (H.od h5).1.2.1.form
          obtain ⟨ml1, hml1⟩ : ∃ m, R.1.2.2.1.length = m := ⟨_, rfl⟩
          obtain ⟨ml2, hml2⟩ : ∃ m, R.1.2.2.2.length = m := ⟨_, rfl⟩
          rw [hml1] at hm1
          rw [hml2] at hm2
          subst hm1 hm2
          have HH1 : Hid _ := H
          clear H
          clear hd hn hCX hb hml1 hml2
          go_wp2
          have H := HH1.out
          obtain ⟨hCX, hb⟩ := HBX2.out
          obtain ⟨va', hva'⟩ : ∃ v, v = Value.slice ma1 ml1 mc1 := ⟨_, rfl⟩
          obtain ⟨vq', hvq'⟩ : ∃ v, v = Value.slice ma2 ml2 mc2 := ⟨_, rfl⟩
          rw [← hva', ← hvq'] at H ⊢
          have gf : W.grownBy ((((W.setCell ⟨X, 0, none⟩ (.int .i64 R.1.1)).setCell ⟨X, 1, none⟩ va').setCell ⟨X, 2, none⟩ vq').setCell ⟨X, 3, none⟩ (.int .i64 R.1.2.1)) (some X) := grown_trans (grown_trans (grown_trans (grown_set' _ _ _ _) (grown_set' _ _ _ _)) (grown_set' _ _ _ _)) (grown_set' _ _ _ _)
          refine ⟨rfl, [v0, v1, v2, v3, v4, v5, v6, .agg (D4 R.1.1 va' vq' R.1.2.1), v8, v9, .pointer (some ⟨X, 0, none⟩), undef, v12, v13], ?_, v0, v1, v2, v3, v4, v5, v6, .agg (D4 R.1.1 va' vq' R.1.2.1), v8, v9, .pointer (some ⟨X, 0, none⟩), undef, v12, v13, u0, u1, va', vq', vc', X, rfl, ⟨(H.bel.trans (grown_below gf H.bel.size (fun _ e => by cases e; exact hCX))), (by have h := H.f1; simpa [doneSet] using h), (by have h := H.f2; simpa [doneSet] using h), (by have h := H.f3; simpa [doneSet] using h), (by have h := H.f0; simpa [doneSet] using h), (by have h := H.f4; simpa [doneSet] using h), (by have h := H.f5; simpa [doneSet] using h), (fun _ => ⟨⟨World.ownsRow.kept (H.od h5).1.1 gf (.inr (row_blk (H.od h5).1.1 hb (by decide))), World.ownsRow.kept (H.od h5).1.2.1 gf (.inr (row_blk (H.od h5).1.2.1 hb (by decide))), (H.od h5).1.2.2⟩, World.ownsRow.kept (H.od h5).2.1 gf (.inr (row_blk (H.od h5).2.1 hb (by decide))), (H.od h5).2.2⟩), (by have h := H.f6; simpa [doneSet] using h), (fun _ => rfl), (by have h := H.f8; simpa [doneSet] using h), (by have h := H.f9; simpa [doneSet] using h), (fun _ => rfl), (fun _ => ⟨hCX, fun e => by simp [doneSet] at e⟩), (fun _ => (((hb.set 0 _).set 1 _).set 2 _).set 3 _), (by have h := H.f12; simpa [doneSet] using h), (by have h := H.f13; simpa [doneSet] using h), (fun _ => by simpa [doneSet] using h5), (fun _ => by simpa [doneSet] using h10)⟩⟩
          simp only [putAll, Act.put, List.setIfInBounds_toArray, List.set_cons_succ, List.set_cons_zero]
        · rintro d vs W ⟨v0, v1, v2, v3, v4, v5, v6, v7, v8, v9, v10, v11, v12, v13, u0, u1, va', vq', vc', X, rfl, H⟩ hn hd
          simp only [putAll, Act.put, List.setIfInBounds_toArray, List.set_cons_succ, List.set_cons_zero]
          have h8 : d 8 = true := hd { on := 8, ground := .data } (by simp) rfl
          have h5 := H.gd (.inr (.inr ((.inl h8))))
          obtain rfl := H.f8 h8
          have HH1 : Hid _ := H
          clear H
          clear hd
          go_wp2
          have H := HH1.out
          refine ⟨rfl, [v0, v1, v2, v3, v4, v5, v6, v7, v8, v9, v10, v11, v8, v13], ?_, v0, v1, v2, v3, v4, v5, v6, v7, v8, v9, v10, v11, v8, v13, u0, u1, va', vq', v8, X, rfl, ⟨H.bel, (by have h := H.f1; simpa [doneSet] using h), (by have h := H.f2; simpa [doneSet] using h), (by have h := H.f3; simpa [doneSet] using h), (by have h := H.f0; simpa [doneSet] using h), (by have h := H.f4; simpa [doneSet] using h), (by have h := H.f5; simpa [doneSet] using h), (by have h := H.od; simpa [doneSet] using h), (by have h := H.f6; simpa [doneSet] using h), (by have h := H.f7; simpa [doneSet] using h), (fun _ => rfl), (by have h := H.f9; simpa [doneSet] using h), (by have h := H.f10; simpa [doneSet] using h), (by have h := H.oa; simpa [doneSet] using h), (by have h := H.os; simpa [doneSet] using h), (fun _ => rfl), (by have h := H.f13; simpa [doneSet] using h), (fun _ => by simpa [doneSet] using h5), (by have h := H.ga; simpa [doneSet] using h)⟩⟩
          simp only [putAll, Act.put, List.setIfInBounds_toArray, List.set_cons_succ, List.set_cons_zero]
        · rintro d vs W ⟨v0, v1, v2, v3, v4, v5, v6, v7, v8, v9, v10, v11, v12, v13, u0, u1, va', vq', vc', X, rfl, H⟩ hn hd
          simp only [putAll, Act.put, List.setIfInBounds_toArray, List.set_cons_succ, List.set_cons_zero]
          have h9 : d 9 = true := hd { on := 9, ground := .data } (by simp) rfl
          have h5 := H.gd (.inr (.inr (.inr ((.inl h9)))))
          obtain rfl := H.f9 h9
          have HH1 : Hid _ := H
          clear H
          clear hd
          go_wp2
          have H := HH1.out
          refine ⟨rfl, [v0, v1, v2, v3, v4, v5, v6, v7, v8, .int .i64 R.2.2, v10, v11, v12, .int .i64 R.2.2], ?_, v0, v1, v2, v3, v4, v5, v6, v7, v8, .int .i64 R.2.2, v10, v11, v12, .int .i64 R.2.2, u0, u1, va', vq', vc', X, rfl, ⟨H.bel, (by have h := H.f1; simpa [doneSet] using h), (by have h := H.f2; simpa [doneSet] using h), (by have h := H.f3; simpa [doneSet] using h), (by have h := H.f0; simpa [doneSet] using h), (by have h := H.f4; simpa [doneSet] using h), (by have h := H.f5; simpa [doneSet] using h), (by have h := H.od; simpa [doneSet] using h), (by have h := H.f6; simpa [doneSet] using h), (by have h := H.f7; simpa [doneSet] using h), (by have h := H.f8; simpa [doneSet] using h), (fun _ => rfl), (by have h := H.f10; simpa [doneSet] using h), (by have h := H.oa; simpa [doneSet] using h), (by have h := H.os; simpa [doneSet] using h), (by have h := H.f12; simpa [doneSet] using h), (fun _ => rfl), (fun _ => by simpa [doneSet] using h5), (by have h := H.ga; simpa [doneSet] using h)⟩⟩
          simp only [putAll, Act.put, List.setIfInBounds_toArray, List.set_cons_succ, List.set_cons_zero]
        rintro d' vs' W9 ⟨v0', v1', v2', v3', v4', v5', v6', v7', v8', v9', v10', v11', v12', v13', u0', u1', va5, vq5, vcl5, X5, rfl, H⟩ hn
        obtain rfl := H.f10 (hn 10 (by decide))
        have hv12 := H.f12 (hn 12 (by decide))
        subst hv12
        obtain rfl := H.f13 (hn 13 (by decide))
        obtain ⟨o2, oc2, apc⟩ := H.od (hn 5 (by decide))
        have HBL9 : Hid (Below W7.heap.size W7 W9) := H.bel
        have S9 : Hid (Ns w.heap.size P w1 W9 n1 g1 (.slice c3 gs1.length d3) (.slice c4 qs1.length d4) gs1 qs1) := S5.out.below H.bel
        simp only [putAll, Act.put, List.setIfInBounds_toArray, List.set_cons_succ, List.set_cons_zero]
        have HC9 : Hid (Rd .i64 W9 v12' R.2.1) := oc2.rd
        have HO9 : Hid (OwD wr.heap.size W9 va4 vq4 R.1.2.2.1 R.1.2.2.2 ∧ Ow .i64 3 wr.heap.size W9 vcl R.2.1) := ⟨HO7.out.1.below H.bel, HO7.out.2.below H.bel⟩
        have HX9 : Hid (Blk W9 X (D4 R.1.1 va4 vq4 R.1.2.1) 27) := HX7.out.below H.bel HX7.out.lt
        obtain ⟨vcl5, hvcl⟩ : ∃ v, v12' = v := ⟨_, rfl⟩
        rw [hvcl] at HC9 ⊢
        clear H hn HRD7 HRG7 HBX7 hvcl apc o2 oc2 S5 HX7 HO7 S3
        obtain ⟨⟨n2, g2, gs2, qs2⟩, cl2, code2⟩ := R
        dsimp only at HDO HCN HC9 HO9 HX9 ⊢
        obtain ⟨c5, d5, rfl⟩ := HO9.out.1.1.form
        obtain ⟨c6, d6, rfl⟩ := HO9.out.1.2.1.form
        have hcc : (code2 != code2) = false := by simp
        go_wp2_with (fail)
        refine (sameI_c vcl vcl5 cl2 cl2 W9 HO9.out.2.rd HC9.out).mono ?_
        rw [show decide (cl2 = cl2) = true by simp]
        rintro e w10 ⟨rfl, b10⟩
        have SA : Hid (Ns w.heap.size P w1 w10 n1 g1 (.slice c3 gs1.length d3) (.slice c4 qs1.length d4) gs1 qs1) := S9.out.below b10
        have HOA : Hid (OwD wr.heap.size w10 (.slice c5 gs2.length d5) (.slice c6 qs2.length d6) gs2 qs2 ∧ Ow .i64 3 wr.heap.size w10 vcl cl2) := ⟨HO9.out.1.below b10, HO9.out.2.below b10⟩
        have HXA : Hid (Blk w10 X (D4 n2 (.slice c5 gs2.length d5) (.slice c6 qs2.length d6) g2) 27) := HX9.out.below b10 HX9.out.lt
        clear b10 S9 HO9 HX9 HC9
        have y0 := HXA.out.cell 0
        have y1 := HXA.out.cell 1
        have y2 := HXA.out.cell 2
        have y3 := HXA.out.cell 3
        simp at y0 y1 y2 y3
        go_wp2_with (fail)
        refine (deskI_c n2 g2 _ _ gs2 qs2 w10 (HOA.out.1.1.rd agC_len) (HOA.out.1.2.1.rd wtC_len)).mono ?_
        rintro e w11 ⟨r1, rfl, hr1, b11⟩
        obtain rfl : r1 = true := hr1.2 HDO.out.1
        have SB : Hid (Ns w.heap.size P w1 w11 n1 g1 (.slice c3 gs1.length d3) (.slice c4 qs1.length d4) gs1 qs1) := SA.out.below b11
        have HOB : Hid (OwD wr.heap.size w11 (.slice c5 gs2.length d5) (.slice c6 qs2.length d6) gs2 qs2 ∧ Ow .i64 3 wr.heap.size w11 vcl cl2) := ⟨HOA.out.1.below b11, HOA.out.2.below b11⟩
        have HXB : Hid (Blk w11 X (D4 n2 (.slice c5 gs2.length d5) (.slice c6 qs2.length d6) g2) 27) := HXA.out.below b11 HXA.out.lt
        clear b11 SA HOA HXA hr1 y0 y1 y2 y3
        have y0 := HXB.out.cell 0
        have y1 := HXB.out.cell 1
        have y2 := HXB.out.cell 2
        have y3 := HXB.out.cell 3
        simp at y0 y1 y2 y3
        go_wp2_with (fail)
        refine (deskM_c n2 g2 _ _ gs2 qs2 w11 (HOB.out.1.1.rd agC_len) (HOB.out.1.2.1.rd wtC_len)).mono ?_
        rintro e w12 ⟨r2, rfl, hr2, b12⟩
        obtain rfl : r2 = true := hr2.2 ((dk_iff n2 g2 gs2 qs2).2 HDO.out.1)
        have SC : Hid (Ns w.heap.size P w1 w12 n1 g1 (.slice c3 gs1.length d3) (.slice c4 qs1.length d4) gs1 qs1) := SB.out.below b12
        have HOC : Hid (OwD w.heap.size w12 (.slice c5 gs2.length d5) (.slice c6 qs2.length d6) gs2 qs2 ∧ Ow .i64 3 w.heap.size w12 vcl cl2) := ⟨(HOB.out.1.below b12).mono (Nat.le_trans HPC.out HPW.out), (HOB.out.2.below b12).mono (Nat.le_trans HPC.out HPW.out)⟩
        have HXC : Hid (Blk w12 X (D4 n2 (.slice c5 gs2.length d5) (.slice c6 qs2.length d6) g2) 27) := HXB.out.below b12 HXB.out.lt
        clear b12 SB HOB HXB hr2 y0 y1 y2 y3
        have hrd := HOC.out.2.rd
        obtain ⟨ca, cc, rfl, cl1_, cm_, ch_⟩ := hrd
        unfold maxLen at cm_
        have HCH : Hid (cl2 = [] ∨ ∃ b off, ca = some ⟨b, off, none⟩ ∧ ∀ i, i < cl2.length → w12.cell? ⟨b, off + i, none⟩ = some (.int .i64 (cl2.getD i 0))) := ch_
        obtain ⟨lc, hlc⟩ : ∃ l, cl2.length = l := ⟨_, rfl⟩
        have HLC : Hid (cl2.length = lc) := hlc
        have hl12 : lc ≤ 12 := by rw [← hlc]; exact HCN.out
        have HG2 : Hid (g2 = g1 + lc) := by rw [Hid, ← hlc]; exact HDO.out.2.1
        rw [hlc] at cl1_ HOC ⊢
        have hgg : (g2 != g1 + (lc : Int)) = false := by rw [HG2.out]; simp
        have y3 := HXC.out.cell 3
        have x3 := SC.out.box.cell 3
        simp at x3 y3
        clear ch_ hlc
        go_wp2
        clear x3 y3
        go_loopw [17] (fun i wl => ∃ q : Nat, q ≤ lc ∧ i = .int .i64 q ∧ Hid (Below w12.heap.size w12 wl)) (fun i _ => lc - (intOf i).toNat)
        case atStart => exact ⟨0, Nat.zero_le _, rfl, Below.refl _ _⟩
        case round =>
          obtain ⟨q, hq, rfl, hbl⟩ := hrel
          by_cases hql : q < lc
          · have hqI : (q : Int) < (lc : Int) := by omega
            have hqc : q < cl2.length := by rw [HLC.out]; exact hql
            obtain ⟨cb, co, rfl, hcell⟩ : ∃ b off, ca = some ⟨b, off, none⟩ ∧ ∀ i, i < cl2.length → w12.cell? ⟨b, off + i, none⟩ = some (.int .i64 (cl2.getD i 0)) := by
              rcases HCH.out with h | h
              · rw [h] at hqc; simp at hqc
              · exact h
            obtain ⟨c, hc⟩ : ∃ c, cl2.getD q 0 = c := ⟨_, rfl⟩
            have hcm : c ∈ cl2 := by rw [← hc]; simp [List.getD_eq_getElem?_getD, List.getElem?_eq_getElem hqc]
            have hsv := serv_busy HDO.out.1 (HDO.out.2.2 c hcm).2.1 (HDO.out.2.2 c hcm).1
            obtain ⟨s1, s2, hss⟩ : ∃ s1 s2, servF n2 g2 gs2 qs2 c = (s1, s2) := ⟨_, _, rfl⟩
            rw [hss] at hsv
            dsimp only at hsv
            subst hsv
            have HSV : Hid (servF n2 g2 gs2 qs2 c = (0, s2)) := hss
            have hce := hcell q hqc
            rw [hc] at hce
            have HCL : Hid (∀ W, Below wr.heap.size wr W → W.cell? ⟨cb, co + q, none⟩ = some (.int .i64 c)) := fun W h => by
              rw [(belowCall hbl.out h hbl.out.size).cell (block_lt_of_cell hce)]; exact hce
            have HX3 : Hid (∀ W, Below wr.heap.size wr W → Blk W X (D4 n2 (.slice c5 gs2.length d5) (.slice c6 qs2.length d6) g2) 27) := fun W h => HXC.out.below (belowCall hbl.out h hbl.out.size) HXC.out.lt
            have HRD3 : Hid (∀ W, Below wr.heap.size wr W → Rg 3 agC W (.slice c5 gs2.length d5) gs2 ∧ Rg 4 wtC W (.slice c6 qs2.length d6) qs2) := fun W h => ⟨(HOC.out.1.1.rd agC_len).below (belowCall hbl.out h hbl.out.size), (HOC.out.1.2.1.rd wtC_len).below (belowCall hbl.out h hbl.out.size)⟩
            clear hcell hc hcm hss hce
            go_upto_region 19 with (fail)
            refine region_vals [undef, undef, undef, undef, undef, undef, undef, undef, undef, undef, undef] (Sv3S (wr) (n2) (g2) (.slice c5 gs2.length d5) (.slice c6 qs2.length d6) (cb) (co) (lc) (cc) (q) (c) (s2)) (by kernel_rfl) (by kernel_rfl) ?_ ⟨?_, ?_, ?_, ?_, ?_, ?_, ?_, ?_, ?_, ?_, ?_, trivial⟩ ?_
            · refine ⟨_, _, _, _, _, _, _, _, _, _, _, rfl, ⟨((Below.refl _ _).drew), ?_, ?_, ?_, ?_, ?_, ?_, ?_, ?_, ?_, ?_, ?_⟩⟩ <;> simp
            · rintro d vs W ⟨v0, v1, v2, v3, v4, v5, v6, v7, v8, v9, v10, rfl, H⟩ hn hd
              simp only [putAll, Act.put, List.setIfInBounds_toArray, List.set_cons_succ, List.set_cons_zero]
              have kk := HX3.out W H.bel
              have y0 := kk.cell 0
              have y1 := kk.cell 1
              have y2 := kk.cell 2
              have y3 := kk.cell 3
              simp at y0 y1 y2 y3
              clear kk
              have HH1 : Hid (Sv3 (wr) (n2) (g2) (.slice c5 gs2.length d5) (.slice c6 qs2.length d6) (cb) (co) (lc) (cc) (q) (c) (s2) d W v0 v1 v2 v3 v4 v5 v6 v7 v8 v9 v10 ) := H
              clear H
              have HHN : Hid (d 0 = false) := hn
              clear hd hn
              go_wp2
              have H0 := HH1.out
              have H := HH1.out
              have hn := HHN.out
              refine ⟨rfl, [.agg (D4 n2 (.slice c5 gs2.length d5) (.slice c6 qs2.length d6) g2), v1, v2, v3, v4, v5, v6, v7, v8, v9, v10], ?_, .agg (D4 n2 (.slice c5 gs2.length d5) (.slice c6 qs2.length d6) g2), v1, v2, v3, v4, v5, v6, v7, v8, v9, v10, rfl, ⟨H.bel, (fun _ => rfl), (by have h := H.f1; simpa [doneSet] using h), (by have h := H.f2; simpa [doneSet] using h), (by have h := H.f3; simpa [doneSet] using h), (by have h := H.f4; simpa [doneSet] using h), (by have h := H.f5; simpa [doneSet] using h), (by have h := H.f6; simpa [doneSet] using h), (by have h := H.f7; simpa [doneSet] using h), (by have h := H.f8; simpa [doneSet] using h), (by have h := H.f9; simpa [doneSet] using h), (by have h := H.f10; simpa [doneSet] using h)⟩⟩
              simp only [putAll, Act.put, List.setIfInBounds_toArray, List.set_cons_succ, List.set_cons_zero]
            · rintro d vs W ⟨v0, v1, v2, v3, v4, v5, v6, v7, v8, v9, v10, rfl, H⟩ hn hd
              simp only [putAll, Act.put, List.setIfInBounds_toArray, List.set_cons_succ, List.set_cons_zero]
              have HH1 : Hid (Sv3 (wr) (n2) (g2) (.slice c5 gs2.length d5) (.slice c6 qs2.length d6) (cb) (co) (lc) (cc) (q) (c) (s2) d W v0 v1 v2 v3 v4 v5 v6 v7 v8 v9 v10 ) := H
              clear H
              have HHN : Hid (d 1 = false) := hn
              clear hd hn
              go_wp2
              have H0 := HH1.out
              have H := HH1.out
              have hn := HHN.out
              refine ⟨rfl, [v0, .slice (some ⟨cb, co, none⟩) lc cc, v2, v3, v4, v5, v6, v7, v8, v9, v10], ?_, v0, .slice (some ⟨cb, co, none⟩) lc cc, v2, v3, v4, v5, v6, v7, v8, v9, v10, rfl, ⟨H.bel, (by have h := H.f0; simpa [doneSet] using h), (fun _ => rfl), (by have h := H.f2; simpa [doneSet] using h), (by have h := H.f3; simpa [doneSet] using h), (by have h := H.f4; simpa [doneSet] using h), (by have h := H.f5; simpa [doneSet] using h), (by have h := H.f6; simpa [doneSet] using h), (by have h := H.f7; simpa [doneSet] using h), (by have h := H.f8; simpa [doneSet] using h), (by have h := H.f9; simpa [doneSet] using h), (by have h := H.f10; simpa [doneSet] using h)⟩⟩
              simp only [putAll, Act.put, List.setIfInBounds_toArray, List.set_cons_succ, List.set_cons_zero]
            · rintro d vs W ⟨v0, v1, v2, v3, v4, v5, v6, v7, v8, v9, v10, rfl, H⟩ hn hd
              simp only [putAll, Act.put, List.setIfInBounds_toArray, List.set_cons_succ, List.set_cons_zero]
              have HH1 : Hid (Sv3 (wr) (n2) (g2) (.slice c5 gs2.length d5) (.slice c6 qs2.length d6) (cb) (co) (lc) (cc) (q) (c) (s2) d W v0 v1 v2 v3 v4 v5 v6 v7 v8 v9 v10 ) := H
              clear H
              have HHN : Hid (d 2 = false) := hn
              clear hd hn
              go_wp2
              have H0 := HH1.out
              have H := HH1.out
              have hn := HHN.out
              refine ⟨rfl, [v0, v1, .int .i64 (q : Int), v3, v4, v5, v6, v7, v8, v9, v10], ?_, v0, v1, .int .i64 (q : Int), v3, v4, v5, v6, v7, v8, v9, v10, rfl, ⟨H.bel, (by have h := H.f0; simpa [doneSet] using h), (by have h := H.f1; simpa [doneSet] using h), (fun _ => rfl), (by have h := H.f3; simpa [doneSet] using h), (by have h := H.f4; simpa [doneSet] using h), (by have h := H.f5; simpa [doneSet] using h), (by have h := H.f6; simpa [doneSet] using h), (by have h := H.f7; simpa [doneSet] using h), (by have h := H.f8; simpa [doneSet] using h), (by have h := H.f9; simpa [doneSet] using h), (by have h := H.f10; simpa [doneSet] using h)⟩⟩
              simp only [putAll, Act.put, List.setIfInBounds_toArray, List.set_cons_succ, List.set_cons_zero]
            · rintro d vs W ⟨v0, v1, v2, v3, v4, v5, v6, v7, v8, v9, v10, rfl, H⟩ hn hd
              simp only [putAll, Act.put, List.setIfInBounds_toArray, List.set_cons_succ, List.set_cons_zero]
              have h1 : d 1 = true := hd { on := 1, ground := .data } (by simp) rfl
              have h2 : d 2 = true := hd { on := 2, ground := .data } (by simp) rfl
              obtain rfl := H.f1 h1
              obtain rfl := H.f2 h2
              have HH1 : Hid (Sv3 (wr) (n2) (g2) (.slice c5 gs2.length d5) (.slice c6 qs2.length d6) (cb) (co) (lc) (cc) (q) (c) (s2) d W v0 (.slice (some ⟨cb, co, none⟩) lc cc) (.int .i64 (q : Int)) v3 v4 v5 v6 v7 v8 v9 v10 ) := H
              clear H
              have HHN : Hid (d 3 = false) := hn
              have HHD : Hid (d 1 = true ∧ d 2 = true) := ⟨h1, h2⟩
              clear hd hn h1 h2
              go_wp2
              have H0 := HH1.out
              have H := HH1.out
              have hn := HHN.out
              have h1 := HHD.out.1
              have h2 := HHD.out.2
              refine ⟨rfl, [v0, .slice (some ⟨cb, co, none⟩) lc cc, .int .i64 (q : Int), .pointer (some ⟨cb, co + q, none⟩), v4, v5, v6, v7, v8, v9, v10], ?_, v0, .slice (some ⟨cb, co, none⟩) lc cc, .int .i64 (q : Int), .pointer (some ⟨cb, co + q, none⟩), v4, v5, v6, v7, v8, v9, v10, rfl, ⟨H.bel, (by have h := H.f0; simpa [doneSet] using h), (fun _ => rfl), (fun _ => rfl), (fun _ => rfl), (by have h := H.f4; simpa [doneSet] using h), (by have h := H.f5; simpa [doneSet] using h), (by have h := H.f6; simpa [doneSet] using h), (by have h := H.f7; simpa [doneSet] using h), (by have h := H.f8; simpa [doneSet] using h), (by have h := H.f9; simpa [doneSet] using h), (by have h := H.f10; simpa [doneSet] using h)⟩⟩
              simp only [putAll, Act.put, List.setIfInBounds_toArray, List.set_cons_succ, List.set_cons_zero]
            · rintro d vs W ⟨v0, v1, v2, v3, v4, v5, v6, v7, v8, v9, v10, rfl, H⟩ hn hd
              simp only [putAll, Act.put, List.setIfInBounds_toArray, List.set_cons_succ, List.set_cons_zero]
              have h3 : d 3 = true := hd { on := 3, ground := .data } (by simp) rfl
              have yc := HCL.out W H.bel
              obtain rfl := H.f3 h3
              have HH1 : Hid (Sv3 (wr) (n2) (g2) (.slice c5 gs2.length d5) (.slice c6 qs2.length d6) (cb) (co) (lc) (cc) (q) (c) (s2) d W v0 v1 v2 (.pointer (some ⟨cb, co + q, none⟩)) v4 v5 v6 v7 v8 v9 v10 ) := H
              clear H
              have HHN : Hid (d 4 = false) := hn
              have HHD : Hid (d 3 = true) := h3
              clear hd hn h3
              go_wp2
              have H0 := HH1.out
              have H := HH1.out
              have hn := HHN.out
              have h3 := HHD.out
              refine ⟨rfl, [v0, v1, v2, .pointer (some ⟨cb, co + q, none⟩), .int .i64 c, v5, v6, v7, v8, v9, v10], ?_, v0, v1, v2, .pointer (some ⟨cb, co + q, none⟩), .int .i64 c, v5, v6, v7, v8, v9, v10, rfl, ⟨H.bel, (by have h := H.f0; simpa [doneSet] using h), (by have h := H.f1; simpa [doneSet] using h), (by have h := H.f2; simpa [doneSet] using h), (fun _ => rfl), (fun _ => rfl), (by have h := H.f5; simpa [doneSet] using h), (by have h := H.f6; simpa [doneSet] using h), (by have h := H.f7; simpa [doneSet] using h), (by have h := H.f8; simpa [doneSet] using h), (by have h := H.f9; simpa [doneSet] using h), (by have h := H.f10; simpa [doneSet] using h)⟩⟩
              simp only [putAll, Act.put, List.setIfInBounds_toArray, List.set_cons_succ, List.set_cons_zero]
            · rintro d vs W ⟨v0, v1, v2, v3, v4, v5, v6, v7, v8, v9, v10, rfl, H⟩ hn hd
              simp only [putAll, Act.put, List.setIfInBounds_toArray, List.set_cons_succ, List.set_cons_zero]
              have h0 : d 0 = true := hd { on := 0, ground := .data } (by simp) rfl
              have h4 : d 4 = true := hd { on := 4, ground := .data } (by simp) rfl
              obtain rfl := H.f0 h0
              obtain rfl := H.f4 h4
              have HH1 : Hid (Sv3 (wr) (n2) (g2) (.slice c5 gs2.length d5) (.slice c6 qs2.length d6) (cb) (co) (lc) (cc) (q) (c) (s2) d W (.agg (D4 n2 (.slice c5 gs2.length d5) (.slice c6 qs2.length d6) g2)) v1 v2 v3 (.int .i64 c) v5 v6 v7 v8 v9 v10 ) := H
              clear H
              have HHN : Hid (d 5 = false) := hn
              have HHD : Hid (d 0 = true ∧ d 4 = true) := ⟨h0, h4⟩
              clear hd hn h0 h4
              go_wp2_with (fail)
              refine (servedI_c n2 g2 _ _ gs2 qs2 c W (HRD3.out W HH1.out.bel).1 (HRD3.out W HH1.out.bel).2).mono ?_
              rw [HSV.out]
              rintro e W3 ⟨rfl, hb⟩
              have HB3 : Hid (Below W.heap.size W W3) := hb
              clear hb
              go_wp2
              have H0 := HH1.out
              have H := HH1.out.below HB3.out
              have hn := HHN.out
              have h0 := HHD.out.1
              have h4 := HHD.out.2
              refine ⟨rfl, [.agg (D4 n2 (.slice c5 gs2.length d5) (.slice c6 qs2.length d6) g2), v1, v2, v3, .int .i64 c, .tuple #[.int .i64 0, .int .i64 s2], v6, v7, v8, v9, v10], ?_, .agg (D4 n2 (.slice c5 gs2.length d5) (.slice c6 qs2.length d6) g2), v1, v2, v3, .int .i64 c, .tuple #[.int .i64 0, .int .i64 s2], v6, v7, v8, v9, v10, rfl, ⟨H.bel, (fun _ => rfl), (by have h := H.f1; simpa [doneSet] using h), (by have h := H.f2; simpa [doneSet] using h), (by have h := H.f3; simpa [doneSet] using h), (fun _ => rfl), (fun _ => rfl), (by have h := H.f6; simpa [doneSet] using h), (by have h := H.f7; simpa [doneSet] using h), (by have h := H.f8; simpa [doneSet] using h), (by have h := H.f9; simpa [doneSet] using h), (by have h := H.f10; simpa [doneSet] using h)⟩⟩
              simp only [putAll, Act.put, List.setIfInBounds_toArray, List.set_cons_succ, List.set_cons_zero]
            · rintro d vs W ⟨v0, v1, v2, v3, v4, v5, v6, v7, v8, v9, v10, rfl, H⟩ hn hd
              simp only [putAll, Act.put, List.setIfInBounds_toArray, List.set_cons_succ, List.set_cons_zero]
              have h5 : d 5 = true := hd { on := 5, ground := .data } (by simp) rfl
              obtain rfl := H.f5 h5
              have HH1 : Hid (Sv3 (wr) (n2) (g2) (.slice c5 gs2.length d5) (.slice c6 qs2.length d6) (cb) (co) (lc) (cc) (q) (c) (s2) d W v0 v1 v2 v3 v4 (.tuple #[.int .i64 0, .int .i64 s2]) v6 v7 v8 v9 v10 ) := H
              clear H
              have HHN : Hid (d 6 = false) := hn
              have HHD : Hid (d 5 = true) := h5
              clear hd hn h5
              go_wp2
              have H0 := HH1.out
              have H := HH1.out
              have hn := HHN.out
              have h5 := HHD.out
              refine ⟨rfl, [v0, v1, v2, v3, v4, .tuple #[.int .i64 0, .int .i64 s2], .tuple #[.int .i64 0, .int .i64 s2], v7, v8, v9, v10], ?_, v0, v1, v2, v3, v4, .tuple #[.int .i64 0, .int .i64 s2], .tuple #[.int .i64 0, .int .i64 s2], v7, v8, v9, v10, rfl, ⟨H.bel, (by have h := H.f0; simpa [doneSet] using h), (by have h := H.f1; simpa [doneSet] using h), (by have h := H.f2; simpa [doneSet] using h), (by have h := H.f3; simpa [doneSet] using h), (by have h := H.f4; simpa [doneSet] using h), (fun _ => rfl), (fun _ => rfl), (by have h := H.f7; simpa [doneSet] using h), (by have h := H.f8; simpa [doneSet] using h), (by have h := H.f9; simpa [doneSet] using h), (by have h := H.f10; simpa [doneSet] using h)⟩⟩
              simp only [putAll, Act.put, List.setIfInBounds_toArray, List.set_cons_succ, List.set_cons_zero]
            · rintro d vs W ⟨v0, v1, v2, v3, v4, v5, v6, v7, v8, v9, v10, rfl, H⟩ hn hd
              simp only [putAll, Act.put, List.setIfInBounds_toArray, List.set_cons_succ, List.set_cons_zero]
              have h6 : d 6 = true := hd { on := 6, ground := .data } (by simp) rfl
              obtain rfl := H.f6 h6
              have HH1 : Hid (Sv3 (wr) (n2) (g2) (.slice c5 gs2.length d5) (.slice c6 qs2.length d6) (cb) (co) (lc) (cc) (q) (c) (s2) d W v0 v1 v2 v3 v4 v5 (.tuple #[.int .i64 0, .int .i64 s2]) v7 v8 v9 v10 ) := H
              clear H
              have HHN : Hid (d 7 = false) := hn
              have HHD : Hid (d 6 = true) := h6
              clear hd hn h6
              go_wp2
              have H0 := HH1.out
              have H := HH1.out
              have hn := HHN.out
              have h6 := HHD.out
              refine ⟨rfl, [v0, v1, v2, v3, v4, v5, .tuple #[.int .i64 0, .int .i64 s2], .int .i64 0, v8, v9, v10], ?_, v0, v1, v2, v3, v4, v5, .tuple #[.int .i64 0, .int .i64 s2], .int .i64 0, v8, v9, v10, rfl, ⟨H.bel, (by have h := H.f0; simpa [doneSet] using h), (by have h := H.f1; simpa [doneSet] using h), (by have h := H.f2; simpa [doneSet] using h), (by have h := H.f3; simpa [doneSet] using h), (by have h := H.f4; simpa [doneSet] using h), (by have h := H.f5; simpa [doneSet] using h), (fun _ => rfl), (fun _ => rfl), (by have h := H.f8; simpa [doneSet] using h), (by have h := H.f9; simpa [doneSet] using h), (by have h := H.f10; simpa [doneSet] using h)⟩⟩
              simp only [putAll, Act.put, List.setIfInBounds_toArray, List.set_cons_succ, List.set_cons_zero]
            · rintro d vs W ⟨v0, v1, v2, v3, v4, v5, v6, v7, v8, v9, v10, rfl, H⟩ hn hd
              simp only [putAll, Act.put, List.setIfInBounds_toArray, List.set_cons_succ, List.set_cons_zero]
              have h6 : d 6 = true := hd { on := 6, ground := .data } (by simp) rfl
              obtain rfl := H.f6 h6
              have HH1 : Hid (Sv3 (wr) (n2) (g2) (.slice c5 gs2.length d5) (.slice c6 qs2.length d6) (cb) (co) (lc) (cc) (q) (c) (s2) d W v0 v1 v2 v3 v4 v5 (.tuple #[.int .i64 0, .int .i64 s2]) v7 v8 v9 v10 ) := H
              clear H
              have HHN : Hid (d 8 = false) := hn
              have HHD : Hid (d 6 = true) := h6
              clear hd hn h6
              go_wp2
              have H0 := HH1.out
              have H := HH1.out
              have hn := HHN.out
              have h6 := HHD.out
              refine ⟨rfl, [v0, v1, v2, v3, v4, v5, .tuple #[.int .i64 0, .int .i64 s2], v7, .int .i64 s2, v9, v10], ?_, v0, v1, v2, v3, v4, v5, .tuple #[.int .i64 0, .int .i64 s2], v7, .int .i64 s2, v9, v10, rfl, ⟨H.bel, (by have h := H.f0; simpa [doneSet] using h), (by have h := H.f1; simpa [doneSet] using h), (by have h := H.f2; simpa [doneSet] using h), (by have h := H.f3; simpa [doneSet] using h), (by have h := H.f4; simpa [doneSet] using h), (by have h := H.f5; simpa [doneSet] using h), (fun _ => rfl), (by have h := H.f7; simpa [doneSet] using h), (fun _ => rfl), (by have h := H.f9; simpa [doneSet] using h), (by have h := H.f10; simpa [doneSet] using h)⟩⟩
              simp only [putAll, Act.put, List.setIfInBounds_toArray, List.set_cons_succ, List.set_cons_zero]
            · rintro d vs W ⟨v0, v1, v2, v3, v4, v5, v6, v7, v8, v9, v10, rfl, H⟩ hn hd
              simp only [putAll, Act.put, List.setIfInBounds_toArray, List.set_cons_succ, List.set_cons_zero]
              have h7 : d 7 = true := hd { on := 7, ground := .data } (by simp) rfl
              obtain rfl := H.f7 h7
              have HH1 : Hid (Sv3 (wr) (n2) (g2) (.slice c5 gs2.length d5) (.slice c6 qs2.length d6) (cb) (co) (lc) (cc) (q) (c) (s2) d W v0 v1 v2 v3 v4 v5 v6 (.int .i64 0) v8 v9 v10 ) := H
              clear H
              have HHN : Hid (d 9 = false) := hn
              have HHD : Hid (d 7 = true) := h7
              clear hd hn h7
              go_wp2
              have H0 := HH1.out
              have H := HH1.out
              have hn := HHN.out
              have h7 := HHD.out
              refine ⟨rfl, [v0, v1, v2, v3, v4, v5, v6, .int .i64 0, v8, .int .i64 0, v10], ?_, v0, v1, v2, v3, v4, v5, v6, .int .i64 0, v8, .int .i64 0, v10, rfl, ⟨H.bel, (by have h := H.f0; simpa [doneSet] using h), (by have h := H.f1; simpa [doneSet] using h), (by have h := H.f2; simpa [doneSet] using h), (by have h := H.f3; simpa [doneSet] using h), (by have h := H.f4; simpa [doneSet] using h), (by have h := H.f5; simpa [doneSet] using h), (by have h := H.f6; simpa [doneSet] using h), (fun _ => rfl), (by have h := H.f8; simpa [doneSet] using h), (fun _ => rfl), (by have h := H.f10; simpa [doneSet] using h)⟩⟩
              simp only [putAll, Act.put, List.setIfInBounds_toArray, List.set_cons_succ, List.set_cons_zero]
            · rintro d vs W ⟨v0, v1, v2, v3, v4, v5, v6, v7, v8, v9, v10, rfl, H⟩ hn hd
              simp only [putAll, Act.put, List.setIfInBounds_toArray, List.set_cons_succ, List.set_cons_zero]
              have h8 : d 8 = true := hd { on := 8, ground := .data } (by simp) rfl
              obtain rfl := H.f8 h8
              have HH1 : Hid (Sv3 (wr) (n2) (g2) (.slice c5 gs2.length d5) (.slice c6 qs2.length d6) (cb) (co) (lc) (cc) (q) (c) (s2) d W v0 v1 v2 v3 v4 v5 v6 v7 (.int .i64 s2) v9 v10 ) := H
              clear H
              have HHN : Hid (d 10 = false) := hn
              have HHD : Hid (d 8 = true) := h8
              clear hd hn h8
              go_wp2
              have H0 := HH1.out
              have H := HH1.out
              have hn := HHN.out
              have h8 := HHD.out
              refine ⟨rfl, [v0, v1, v2, v3, v4, v5, v6, v7, .int .i64 s2, v9, .int .i64 s2], ?_, v0, v1, v2, v3, v4, v5, v6, v7, .int .i64 s2, v9, .int .i64 s2, rfl, ⟨H.bel, (by have h := H.f0; simpa [doneSet] using h), (by have h := H.f1; simpa [doneSet] using h), (by have h := H.f2; simpa [doneSet] using h), (by have h := H.f3; simpa [doneSet] using h), (by have h := H.f4; simpa [doneSet] using h), (by have h := H.f5; simpa [doneSet] using h), (by have h := H.f6; simpa [doneSet] using h), (by have h := H.f7; simpa [doneSet] using h), (fun _ => rfl), (by have h := H.f9; simpa [doneSet] using h), (fun _ => rfl)⟩⟩
              simp only [putAll, Act.put, List.setIfInBounds_toArray, List.set_cons_succ, List.set_cons_zero]
            rintro d9 vs9 W5 ⟨z0, z1, z2, z3, z4, z5, z6, z7, z8, z9, z10, rfl, H⟩ hn
            obtain rfl := H.f9 (hn 9 (by decide))
            obtain rfl := H.f10 (hn 10 (by decide))
            have HBW : Hid (Below w12.heap.size w12 W5) := belowCall hbl.out H.bel hbl.out.size
            simp only [putAll, Act.put, List.setIfInBounds_toArray, List.set_cons_succ, List.set_cons_zero]
            clear H hn HSV HCL HX3 HRD3 hbl
            go_wp2
            go_roundw
            case rel => exact ⟨q + 1, by omega, by go_num, HBW.out⟩
            case measure => simp [intOf]; omega
          · obtain rfl : q = lc := by omega
            have SD := SC.out.below hbl.out
            have od := HOC.out.1.below hbl.out
            have SE : Hid (Ns w.heap.size P w1 ((((wr.setCell ⟨P, 0, none⟩ (.int .i64 n2)).setCell ⟨P, 1, none⟩ (.slice c5 gs2.length d5)).setCell ⟨P, 2, none⟩ (.slice c6 qs2.length d6)).setCell ⟨P, 3, none⟩ (.int .i64 g2)) n2 g2 (.slice c5 gs2.length d5) (.slice c6 qs2.length d6) gs2 qs2) := SD.put od
            have kx := HXC.out.below hbl.out HXC.out.lt
            have x0 := SD.box.cell 0
            have x1 := SD.box.cell 1
            have x2 := SD.box.cell 2
            have x3 := SD.box.cell 3
            have f0 := SD.box.frozen 0
            have f1 := SD.box.frozen 1
            have f2 := SD.box.frozen 2
            have f3 := SD.box.frozen 3
            have y0 := kx.cell 0
            have y1 := kx.cell 1
            have y2 := kx.cell 2
            have y3 := kx.cell 3
            simp at x0 x1 x2 x3 y0 y1 y2 y3
            clear SD od kx hbl SC HOC HXC HCH
            go_wp2
            go_roundw
            case rel => exact ⟨j + 1, mm + q, by omega, by go_num, by go_num, by omega, by omega, _, _, _, _, _, _, SE.out, HDO.out.1, by have h1 := HG2.out; have h2 := HGM.out; omega⟩
            case measure => simp [intOf]; omega
      · obtain rfl : j = m := by omega
        have hgg : (g1 == g + mm) = true := by rw [HGM.out]; simp
        have x3 := hR.box.cell 3
        simp at x3
        have HBE : Hid (Below w.heap.size w wr) := belowCall HB1.out (by rw [HP.out]; exact hR.bel) HB1.out.size
        have hg0 := hD.2.2.2.1
        obtain ⟨hg1, hg2⟩ := hg0
        clear hR hD oh HO HO1
        go_wp2
        go_ret
        exact ⟨rfl, HBE.out⟩
end Go.Proofs.Ytpmmgbinogokfaa

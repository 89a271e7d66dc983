/- FnClearedBoth; no condition. -/
import Derived.Test.YtljejjfhlpjlfaaAgLw
import Derived.Test.YtljejjfhlpjlfaaDr6
import Derived.Test.YtljejjfhlpjlfaaAgr
import Derived.Test.YtljejjfhlpjlfaaSl
import Derived.Test.YtljejjfhlpjlfaaRuI
import Derived.Test.YtljejjfhlpjlfaaRuM
namespace Go.Proofs.Ytljejjfhlpjlfaa
open Go.RowKit Go.ChangeShapes Go.WideShapes Go.ChangeAt
set_option linter.unusedVariables false
set_option linter.unusedSimpArgs false
set_option maxRecDepth 8000

theorem doE_start {c : Int} (h : c < 1000) : doE (0, c, 0, c, []) 1 0 = ((1, c + 1, 0, c, [(1, 1, c + 1)]), true) := by
  have : ¬ 1000 ≤ c := by omega
  simp [doE, doM, this]
set_option maxHeartbeats 12800000 in
theorem clearedLaw (v : Value) (zs : List Int) (w : World) (h : Rd .u8 w v zs) (hwz : ∀ z ∈ zs, (Lit.int .u8 z).wf = true) :
   Calls Try.prog 4 #[v] w fun e w' => e = .returned (.bool true) ∧ Below w.heap.size w w' := by
  have hz : ∀ z ∈ zs, 0 ≤ z ∧ z ≤ 255 := fun z hm => bounds_u8 (hwz z hm)
  clear hwz
  have HR : Hid (Rd .u8 w v zs) := h
  obtain ⟨a, cap, rfl, h1, h2, h3⟩ := h
  clear h3
  unfold maxLen at h2
  by_cases hbig : 1048576 < zs.length
  · have hb : decide ((1048576 : Int) < (zs.length : Int)) = true := by simp; omega
    clear hz HR
    go_enter Try.func4, Try.ntmps4
    go_wp2
    go_ret
    exact ⟨rfl, Below.refl _ _⟩
  have hb : decide ((1048576 : Int) < (zs.length : Int)) = false := by simp; omega
  have hlen : zs.length ≤ 1048576 := by omega
  have HZ : Hid (∀ z ∈ zs, 0 ≤ z ∧ z ≤ 255) := hz
  clear hz
  obtain ⟨⟨s1, c1, s2, c2, l1⟩, hD⟩ : ∃ d, evL (dayF zs) (0, 0, 0, 0, []) = d := ⟨_, rfl⟩
  have hk := hw_evL (dayF zs) hw_zero.1 hw_zero.2
  rw [hD] at hk
  have HD : Hid (evL (dayF zs) (0, 0, 0, 0, []) = (s1, c1, s2, c2, l1)) := hD
  have HDO : Hid (DOt (s1, c1, s2, c2, l1)) := hk.1
  have HHW : Hid (HwI (s1, c1, s2, c2, l1)) := hk.2
  have HLN : Hid (l1.length ≤ 1048576) := by have h0 : DOk s1 c1 s2 c2 l1 := hk.1; have := h0.2.2.2.2.2.2.1; show _ ≤ _; omega
  obtain ⟨n1, hn1⟩ : ∃ n, l1.length = n := ⟨_, rfl⟩
  have HN1 : Hid (l1.length = n1) := hn1
  have HDL : Hid ((dayF zs).length ≤ 300) := by have := dayF_len zs; show _ ≤ _; omega
  clear hk hD hn1
  go_enter Try.func4, Try.ntmps4
  go_wp2_with (fail)
  refine (big_c _ zs _ HR.out).mono ?_
  rintro e wq ⟨rfl, hwq⟩
  rw [hwq, hb]
  clear hwq wq
  go_wp2_with (fail)
  refine (day_x _ zs _ HR.out HZ.out hlen).mono ?_
  rintro e w1 ⟨v1, rfl, o1, b1⟩
  have HR1 : Hid (Rp mf mg w1 v1 (dayF zs)) := o1.rd
  have HB1 : Hid (Below w.heap.size w w1) := b1
  clear o1 b1
  go_wp2_with (fail)
  refine (runI_c 0 0 0 0 (.slice none 0 0) v1 [] (dayF zs) w1 (Ot.nil 0 w1).rd (by simp) HR1.out).mono ?_
  rintro e w2 ⟨d', q1, -, -, v2, rfl, o2, g2, -⟩
  have hd' := (q1 HDL.out hw_zero.1).trans HD.out
  subst hd'
  simp only at o2
  obtain ⟨a2, p2, hv2, -⟩ := own_form o2
  rw [HN1.out] at hv2
  subst hv2
  have b2 : Below w1.heap.size w1 w2 := ⟨g2.os, g2.tape, g2.output, g2.size, fun j hj => g2.block j hj (by simp [Value.ownBlock])⟩
  have bb2 : Below w.heap.size w w2 := belowCall HB1.out b2 HB1.out.size
  have al : Below w2.heap.size w2 (w2.alloc (Obj.cells (D5 s1 c1 s2 c2 (.slice a2 n1 p2)) 31)) := (Below.refl _ _).alloc (Nat.le_refl _) _
  have HJg3 : Hid (Aj (w2.alloc (Obj.cells (D5 s1 c1 s2 c2 (.slice a2 n1 p2)) 31)) w2.heap.size s1 c1 s2 c2 (.slice a2 n1 p2) l1) := ⟨Blk.new _ _ _, o2.rd.below al⟩
  have HBW3 : Hid (Below w.heap.size w (w2.alloc (Obj.cells (D5 s1 c1 s2 c2 (.slice a2 n1 p2)) 31))) := belowCall (bb2) al (bb2).size
  have HALW3 : Hid (Below w2.heap.size w2 (w2.alloc (Obj.cells (D5 s1 c1 s2 c2 (.slice a2 n1 p2)) 31))) := al
  obtain ⟨W3, hW⟩ : ∃ W, (w2.alloc (Obj.cells (D5 s1 c1 s2 c2 (.slice a2 n1 p2)) 31)) = W := ⟨_, rfl⟩
  obtain ⟨g3, hg⟩ : ∃ k, w2.heap.size = k := ⟨_, rfl⟩
  have HWW3 : Hid ((w2.alloc (Obj.cells (D5 s1 c1 s2 c2 (.slice a2 n1 p2)) 31)) = W3) := hW
  have HGg3 : Hid (w2.heap.size = g3) := hg
  rw [hW] at HJg3 HBW3 HALW3
  rw [hg] at HJg3
  clear hW hg al
  clear o2 g2 b2 bb2 HR1 HB1 q1
  go_wp2_with (fail)
  rw [HWW3.out, HGg3.out]
  refine (day_x _ zs W3 (HR.out.below HBW3.out) HZ.out hlen).mono ?_
  rintro e w4 ⟨v4, rfl, o4, b4⟩
  have HR4 : Hid (Rp mf mg w4 v4 (dayF zs)) := o4.rd
  have HB4 : Hid (Below w.heap.size w w4) := belowCall HBW3.out b4 HBW3.out.size
  have HJ4 : Hid (Aj w4 g3 s1 c1 s2 c2 (.slice a2 n1 p2) l1) := HJg3.out.below b4
  clear o4 b4 HJg3 HWW3 HGg3 HALW3 HBW3
  go_wp2_with (fail)
  refine (runM_c 0 0 0 0 (.slice none 0 0) v4 [] (dayF zs) w4 (Ot.nil 0 w4).rd (by simp) HR4.out).mono ?_
  rintro e w5 ⟨d', q1, -, -, v5, rfl, o5, g5, -⟩
  have hd' := (q1 HDL.out hw_zero.1).trans HD.out
  subst hd'
  simp only at o5
  obtain ⟨a5, p5, hv5, -⟩ := own_form o5
  rw [HN1.out] at hv5
  subst hv5
  have b5 : Below w4.heap.size w4 w5 := ⟨g5.os, g5.tape, g5.output, g5.size, fun j hj => g5.block j hj (by simp [Value.ownBlock])⟩
  have bb5 : Below w.heap.size w w5 := belowCall HB4.out b5 HB4.out.size
  have HJ5 : Hid (Aj w5 g3 s1 c1 s2 c2 (.slice a2 n1 p2) l1) := HJ4.out.below b5
  have al : Below w5.heap.size w5 (w5.alloc (Obj.cells (D5 s1 c1 s2 c2 (.slice a5 n1 p5)) 31)) := (Below.refl _ _).alloc (Nat.le_refl _) _
  have HJg4 : Hid (Aj (w5.alloc (Obj.cells (D5 s1 c1 s2 c2 (.slice a5 n1 p5)) 31)) w5.heap.size s1 c1 s2 c2 (.slice a5 n1 p5) l1) := ⟨Blk.new _ _ _, o5.rd.below al⟩
  have HBW6 : Hid (Below w.heap.size w (w5.alloc (Obj.cells (D5 s1 c1 s2 c2 (.slice a5 n1 p5)) 31))) := belowCall (bb5) al (bb5).size
  have HALW6 : Hid (Below w5.heap.size w5 (w5.alloc (Obj.cells (D5 s1 c1 s2 c2 (.slice a5 n1 p5)) 31))) := al
  obtain ⟨W6, hW⟩ : ∃ W, (w5.alloc (Obj.cells (D5 s1 c1 s2 c2 (.slice a5 n1 p5)) 31)) = W := ⟨_, rfl⟩
  obtain ⟨g4, hg⟩ : ∃ k, w5.heap.size = k := ⟨_, rfl⟩
  have HWW6 : Hid ((w5.alloc (Obj.cells (D5 s1 c1 s2 c2 (.slice a5 n1 p5)) 31)) = W6) := hW
  have HGg4 : Hid (w5.heap.size = g4) := hg
  rw [hW] at HJg4 HBW6 HALW6
  rw [hg] at HJg4
  clear hW hg al
  have HJ6 : Hid (Aj W6 g3 s1 c1 s2 c2 (.slice a2 n1 p2) l1) := HJ5.out.below HALW6.out
  have HOK : Hid (Calls Try.prog 14 #[.agg (D5 s1 c1 s2 c2 (.slice a2 n1 p2))] W6 fun e w' => e = .returned (.bool true) ∧ Below W6.heap.size W6 w') := (okM_c s1 c1 s2 c2 (.slice a2 n1 p2) l1 W6 HJ6.out.rd).mono (by
    rintro e w' ⟨r, rfl, hr, hb⟩
    obtain rfl : r = true := hr.2 HDO.out
    exact ⟨rfl, hb⟩)
  clear o5 g5 b5 bb5 HR4 HB4 q1 HJ4
  have k0 := HJ5.out.box.cell 0
  have k1 := HJ5.out.box.cell 1
  have k2 := HJ5.out.box.cell 2
  have k3 := HJ5.out.box.cell 3
  have k4 := HJ5.out.box.cell 4
  simp at k0 k1 k2 k3 k4
  have kl := HJ5.out.box.lt
  go_wp2_with (fail)
  rw [halvesEq]
  simp only [Result.andThen_ok, Bool.not_true]
  go_wp2_with (fail)
  rw [HWW6.out]
  try rw [HGg4.out]
  refine HOK.out.mono ?_
  rintro e w6 ⟨rfl, b6⟩
  have HJ7 : Hid (Aj w6 g3 s1 c1 s2 c2 (.slice a2 n1 p2) l1) := HJ6.out.below b6
  have HB6 : Hid (Below w.heap.size w w6) := belowCall HBW6.out b6 HBW6.out.size
  clear b6 k0 k1 k2 k3 k4 kl HOK HJ5 HJ6 HJg4 HWW6 HGg4 HALW6 HBW6
  go_wp2_with (fail)
  refine (at_c _ zs 0 w6 (HR.out.below HB6.out) HZ.out (by decide) hlen).mono ?_
  rintro e wq ⟨x, rfl, x0, x255, hwq⟩
  rw [hwq]
  clear hwq wq
  have hside : x % 2 = 0 ∨ x % 2 = 1 := by omega
  rcases hside with hs | hs
  · have HSI : Hid (x % 2 = 0) := hs
    obtain ⟨⟨⟨t1, t2, t3, t4, tl⟩, ok⟩, hT⟩ : ∃ r, doE (s1, c1, s2, c2, l1) 3 0 = r := ⟨_, rfl⟩
    have HT : Hid (doE (s1, c1, s2, c2, l1) 3 0 = ((t1, t2, t3, t4, tl), ok)) := hT
    have hd2 := dok_doE HDO.out 3 0
    have hw2 := hw_doE HDO.out HHW.out 3 0
    rw [hT] at hd2 hw2
    have HD2 : Hid (DOt (t1, t2, t3, t4, tl)) := hd2
    have HW2 : Hid (HwI (t1, t2, t3, t4, tl)) := hw2
    have hdk : DOk t1 t2 t3 t4 tl := hd2
    have ht2 : 0 ≤ t2 ∧ t2 ≤ 1000 := hdk.2.2.2.2.1
    have ht4 : 0 ≤ t4 ∧ t4 ≤ t2 := hdk.2.2.2.2.2.1
    obtain ⟨ht2a, ht2b⟩ := ht2
    obtain ⟨ht4a, ht4b⟩ := ht4
    have HTL : Hid (tl.length ≤ 1048576) := by have := hdk.2.2.2.2.2.2.1; show _ ≤ _; omega
    obtain ⟨Ln, hLn⟩ : ∃ n, tl.length = n := ⟨_, rfl⟩
    have HLT : Hid (tl.length = Ln) := hLn
    clear hT hd2 hw2 hLn hdk
    have k0 := HJ7.out.box.cell 0
    have k1 := HJ7.out.box.cell 1
    have k2 := HJ7.out.box.cell 2
    have k3 := HJ7.out.box.cell 3
    have k4 := HJ7.out.box.cell 4
    simp at k0 k1 k2 k3 k4
    have kl := HJ7.out.box.lt
    go_wp2_with (fail)
    refine (evI_t s1 c1 s2 c2 (.slice a2 n1 p2) l1 3 0 w6 HJ7.out.rd HLN.out (t1, t2, t3, t4, tl) ok (fun _ => HT.out.symm) (fun hn => absurd HDO.out hn)).mono ?_
    rintro e w7 ⟨v7, rfl, o7, g7, -⟩
    obtain ⟨a7, p7, hv7, -⟩ := own_form o7
    simp only at hv7 o7
    rw [HLT.out] at hv7
    subst hv7
    have b7 : Below w6.heap.size w6 w7 := ⟨g7.os, g7.tape, g7.output, g7.size, fun j hj => g7.block j hj (by simp [Value.ownBlock])⟩
    have bb7 : Below w.heap.size w w7 := belowCall HB6.out b7 HB6.out.size
    have HJ8 : Hid (Aj w7 g3 s1 c1 s2 c2 (.slice a2 n1 p2) l1) := HJ7.out.below b7
    have al : Below w7.heap.size w7 (w7.alloc (Obj.cells (D5 t1 t2 t3 t4 (.slice a7 Ln p7)) 31)) := (Below.refl _ _).alloc (Nat.le_refl _) _
    have HJg6 : Hid (Aj (w7.alloc (Obj.cells (D5 t1 t2 t3 t4 (.slice a7 Ln p7)) 31)) w7.heap.size t1 t2 t3 t4 (.slice a7 Ln p7) tl) := ⟨Blk.new _ _ _, o7.rd.below al⟩
    have HBW7 : Hid (Below w.heap.size w (w7.alloc (Obj.cells (D5 t1 t2 t3 t4 (.slice a7 Ln p7)) 31))) := belowCall (bb7) al (bb7).size
    have HALW7 : Hid (Below w7.heap.size w7 (w7.alloc (Obj.cells (D5 t1 t2 t3 t4 (.slice a7 Ln p7)) 31))) := al
    obtain ⟨W7, hW⟩ : ∃ W, (w7.alloc (Obj.cells (D5 t1 t2 t3 t4 (.slice a7 Ln p7)) 31)) = W := ⟨_, rfl⟩
    obtain ⟨g6, hg⟩ : ∃ k, w7.heap.size = k := ⟨_, rfl⟩
    have HWW7 : Hid ((w7.alloc (Obj.cells (D5 t1 t2 t3 t4 (.slice a7 Ln p7)) 31)) = W7) := hW
    have HGg6 : Hid (w7.heap.size = g6) := hg
    rw [hW] at HJg6 HBW7 HALW7
    rw [hg] at HJg6
    clear hW hg al
    have HJ9 : Hid (Aj W7 g3 s1 c1 s2 c2 (.slice a2 n1 p2) l1) := HJ8.out.below HALW7.out
    clear o7 g7 b7 bb7 k0 k1 k2 k3 k4 kl HJ7
    have k0 := HJ8.out.box.cell 0
    have k1 := HJ8.out.box.cell 1
    have k2 := HJ8.out.box.cell 2
    have k3 := HJ8.out.box.cell 3
    have k4 := HJ8.out.box.cell 4
    simp at k0 k1 k2 k3 k4
    have kl := HJ8.out.box.lt
    go_wp2_with (fail)
    rw [HWW7.out, HGg6.out]
    refine (evM_t s1 c1 s2 c2 (.slice a2 n1 p2) l1 3 0 W7 HJ9.out.rd HLN.out (t1, t2, t3, t4, tl) ok (fun _ => HT.out.symm) (fun hn => absurd HDO.out hn)).mono ?_
    rintro e w8 ⟨v8, rfl, o8, g8', -⟩
    obtain ⟨a8, p8, hv8, -⟩ := own_form o8
    simp only at hv8 o8
    rw [HLT.out] at hv8
    subst hv8
    have b8 : Below W7.heap.size W7 w8 := ⟨g8'.os, g8'.tape, g8'.output, g8'.size, fun j hj => g8'.block j hj (by simp [Value.ownBlock])⟩
    have bb8 : Below w.heap.size w w8 := belowCall HBW7.out b8 HBW7.out.size
    have HJ10 : Hid (Aj w8 g6 t1 t2 t3 t4 (.slice a7 Ln p7) tl) := HJg6.out.below b8
    have al : Below w8.heap.size w8 (w8.alloc (Obj.cells (D5 t1 t2 t3 t4 (.slice a8 Ln p8)) 31)) := (Below.refl _ _).alloc (Nat.le_refl _) _
    have HJg8 : Hid (Aj (w8.alloc (Obj.cells (D5 t1 t2 t3 t4 (.slice a8 Ln p8)) 31)) w8.heap.size t1 t2 t3 t4 (.slice a8 Ln p8) tl) := ⟨Blk.new _ _ _, o8.rd.below al⟩
    have HBW8 : Hid (Below w.heap.size w (w8.alloc (Obj.cells (D5 t1 t2 t3 t4 (.slice a8 Ln p8)) 31))) := belowCall (bb8) al (bb8).size
    have HALW8 : Hid (Below w8.heap.size w8 (w8.alloc (Obj.cells (D5 t1 t2 t3 t4 (.slice a8 Ln p8)) 31))) := al
    obtain ⟨W8, hW⟩ : ∃ W, (w8.alloc (Obj.cells (D5 t1 t2 t3 t4 (.slice a8 Ln p8)) 31)) = W := ⟨_, rfl⟩
    obtain ⟨g8, hg⟩ : ∃ k, w8.heap.size = k := ⟨_, rfl⟩
    have HWW8 : Hid ((w8.alloc (Obj.cells (D5 t1 t2 t3 t4 (.slice a8 Ln p8)) 31)) = W8) := hW
    have HGg8 : Hid (w8.heap.size = g8) := hg
    rw [hW] at HJg8 HBW8 HALW8
    rw [hg] at HJg8
    clear hW hg al
    have HJ11 : Hid (Aj W8 g6 t1 t2 t3 t4 (.slice a7 Ln p7) tl) := HJ10.out.below HALW8.out
    have hokk : (ok != ok) = false := by simp
    clear o8 g8' b8 bb8 k0 k1 k2 k3 k4 kl HJ8 HJ9 HJg6 HWW7 HGg6 HALW7 HBW7
    cases ok
    case false =>
      have HE : Hid (∀ W, Calls Try.prog 12 #[.agg (D5 0 0 0 0 (.slice none 0 0)), .agg (H2 1 0)] W (DuR W.heap.size W (.slice none 0 0) (1, 1, 0, 0, [(1, 1, 1)]) true)) := fun W => evI_t 0 0 0 0 (.slice none 0 0) [] 1 0 W (Ot.nil 0 W).rd (by simp) _ _ (fun _ => doE_zero.symm) (fun h => absurd hw_zero.1 h)
      go_wp2_with (fail)
      rw [HWW8.out]
      try rw [HGg8.out]
      refine (HE.out _).mono ?_
      rintro e w9 ⟨v9, rfl, o9, g9, -⟩
      obtain ⟨a9, p9, hv9, -⟩ := own_form o9
      simp only [List.length_cons, List.length_nil] at hv9
      subst hv9
      have b9 : Below W8.heap.size W8 w9 := ⟨g9.os, g9.tape, g9.output, g9.size, fun j hj => g9.block j hj (by simp [Value.ownBlock])⟩
      have HF : Hid (Below w.heap.size w (w9.alloc (Obj.cells (D5 1 1 0 0 (.slice a9 (0 + 1) p9)) 31))) := by
        have bb := belowCall HBW8.out b9 HBW8.out.size
        exact belowCall bb ((Below.refl _ _).alloc (Nat.le_refl _) _) bb.size
      clear o9 g9 b9
      go_wp2
      go_ret
      exact ⟨rfl, HF.out⟩
    have HCL := cl_clear (d := (s1, c1, s2, c2, l1)) (i := 0) (by decide) (by rw [HT.out])
    rw [HT.out] at HCL
    have HST : Hid (Calls Try.prog 15 #[.agg (D5 t1 t2 t3 t4 (.slice a7 Ln p7)), .int .i64 3] W8 (SeR (t1, t2, t3, t4, tl) 3 W8)) := setI_c t1 t2 t3 t4 (.slice a7 Ln p7) tl 3 W8 HJ11.out.rd HTL.out
    have k0 := HJ10.out.box.cell 0
    have k1 := HJ10.out.box.cell 1
    have k2 := HJ10.out.box.cell 2
    have k3 := HJ10.out.box.cell 3
    have k4 := HJ10.out.box.cell 4
    simp at k0 k1 k2 k3 k4
    have kl := HJ10.out.box.lt
    have HCC : Hid ((0 = 0 → ClI (t1, t2, t3, t4, tl)) ∧ (0 = 1 → t4 = t2 → ClI (t1, t2, t3, t4, tl))) := by
      refine ⟨fun e => ?_, fun e e' => ?_⟩
      · first | exact HCL.1 rfl | exact absurd e (by decide)
      · first | exact HCL.2 rfl e' | exact absurd e (by decide)
    clear HCL
    go_wp2_with (fail)
    rw [HWW8.out]
    try rw [HGg8.out]
    refine HST.out.mono ?_
    rintro e w9 ⟨d', hd1, -, hd3, v9, rfl, o9, g9, -⟩
    obtain ⟨d1, hs1, hs2⟩ := hd1 ⟨HD2.out, by decide, by decide⟩
    have hag := (settle_agrees (n := 2) HD2.out HW2.out hs1 hs2).1
    have hcl : ClI (t1, t2, t3, t4, tl) → d' = (0, t2, 0, t2, []) := fun hc => settle_cleared (n := 2) HD2.out HW2.out hc hs1 hs2
    simp only at hag
    have b9 : Below W8.heap.size W8 w9 := ⟨g9.os, g9.tape, g9.output, g9.size, fun j hj => g9.block j hj (by simp [Value.ownBlock])⟩
    have HB9 : Hid (Below w.heap.size w w9) := belowCall HBW8.out b9 HBW8.out.size
    clear hd1 hs1 hs2 g9 b9 k0 k1 k2 k3 k4 kl HST HJ10 HJ11 HJg8 HWW8 HGg8 HALW8 HBW8 hd3
    have hdd := hcl (HCC.out.1 (by first | trivial | rfl))
    subst hdd
    clear hag hcl
    simp only at o9
    obtain ⟨a9, p9, hv9, -⟩ := own_form o9
    simp only [List.length_nil] at hv9
    subst hv9
    have HO9 : Hid (Rt w9 (.slice a9 0 p9) []) := o9.rd
    have HBA : Hid (Below w.heap.size w (w9.alloc (Obj.cells (D5 0 t2 0 t2 (.slice a9 0 p9)) 31))) := belowCall HB9.out ((Below.refl _ _).alloc (Nat.le_refl _) _) HB9.out.size
    clear o9
    by_cases h1000 : 1000 ≤ t2
    · have q1 : (t2 < t2) = False := eq_false (by omega)
      go_wp2
      refine wp_loop_rounds 3 ?_
      rw [rounds_succ]
      go_wp2
      rw [rounds_succ]
      go_wp2
      rw [rounds_succ]
      go_wp2
      go_ret
      exact ⟨rfl, HBA.out⟩
    · have q1 : (t2 < t2) = False := eq_false (by omega)
      have hlt : t2 < 1000 := by omega
      have HEV : Hid (∀ W, Rt W (.slice a9 0 p9) [] → Calls Try.prog 12 #[.agg (D5 0 t2 0 t2 (.slice a9 0 p9)), .agg (H2 1 0)] W (DuR W.heap.size W (.slice none 0 0) (1, t2 + 1, 0, t2, [(1, 1, t2 + 1)]) true)) := fun W hW => evI_t 0 t2 0 t2 (.slice a9 0 p9) [] 1 0 W hW (by simp) _ _ (fun _ => (doE_start hlt).symm) (fun h => absurd (show DOk 0 t2 0 t2 [] from ⟨by omega, by omega, by omega, by omega, by omega, by omega, by simp, fun k hk => by simp at hk⟩) h)
      have HOA : Hid (Rt (w9.alloc (Obj.cells (D5 0 t2 0 t2 (.slice a9 0 p9)) 31)) (.slice a9 0 p9) []) := HO9.out.below ((Below.refl _ _).alloc (Nat.le_refl _) _)
      have hee : (t2 + 1 == t2 + 1) = true := by simp
      go_wp2
      refine wp_loop_rounds 3 ?_
      rw [rounds_succ]
      go_wp2
      rw [rounds_succ]
      go_wp2
      rw [rounds_succ]
      go_wp2_with (fail)
      refine (HEV.out _ HOA.out).mono ?_
      rintro e wz ⟨vz, rfl, oz, gz, -⟩
      obtain ⟨az, pz, hvz, -⟩ := own_form oz
      simp only [List.length_cons, List.length_nil] at hvz
      subst hvz
      have bz : Below (w9.alloc (Obj.cells (D5 0 t2 0 t2 (.slice a9 0 p9)) 31)).heap.size (w9.alloc (Obj.cells (D5 0 t2 0 t2 (.slice a9 0 p9)) 31)) wz := ⟨gz.os, gz.tape, gz.output, gz.size, fun j hj => gz.block j hj (by simp [Value.ownBlock])⟩
      have kz : Blk wz w9.heap.size (D5 0 t2 0 t2 (.slice a9 0 p9)) 31 := (Blk.new _ _ _).below bz (by simp)
      have z1 := kz.cell 1
      have zl := kz.lt
      simp at z1
      have HFZ : Hid (Below w.heap.size w (wz.alloc (Obj.cells (D5 1 (t2 + 1) 0 t2 (.slice az (0 + 1) pz)) 31))) := by
        have bb := belowCall HBA.out bz HBA.out.size
        exact belowCall bb ((Below.refl _ _).alloc (Nat.le_refl _) _) bb.size
      clear oz gz bz kz
      go_wp2
      go_ret
      exact ⟨rfl, HFZ.out⟩
  · have HSI : Hid (x % 2 = 1) := hs
    obtain ⟨⟨⟨t1, t2, t3, t4, tl⟩, ok⟩, hT⟩ : ∃ r, doE (s1, c1, s2, c2, l1) 3 1 = r := ⟨_, rfl⟩
    have HT : Hid (doE (s1, c1, s2, c2, l1) 3 1 = ((t1, t2, t3, t4, tl), ok)) := hT
    have hd2 := dok_doE HDO.out 3 1
    have hw2 := hw_doE HDO.out HHW.out 3 1
    rw [hT] at hd2 hw2
    have HD2 : Hid (DOt (t1, t2, t3, t4, tl)) := hd2
    have HW2 : Hid (HwI (t1, t2, t3, t4, tl)) := hw2
    have hdk : DOk t1 t2 t3 t4 tl := hd2
    have ht2 : 0 ≤ t2 ∧ t2 ≤ 1000 := hdk.2.2.2.2.1
    have ht4 : 0 ≤ t4 ∧ t4 ≤ t2 := hdk.2.2.2.2.2.1
    obtain ⟨ht2a, ht2b⟩ := ht2
    obtain ⟨ht4a, ht4b⟩ := ht4
    have HTL : Hid (tl.length ≤ 1048576) := by have := hdk.2.2.2.2.2.2.1; show _ ≤ _; omega
    obtain ⟨Ln, hLn⟩ : ∃ n, tl.length = n := ⟨_, rfl⟩
    have HLT : Hid (tl.length = Ln) := hLn
    clear hT hd2 hw2 hLn hdk
    have k0 := HJ7.out.box.cell 0
    have k1 := HJ7.out.box.cell 1
    have k2 := HJ7.out.box.cell 2
    have k3 := HJ7.out.box.cell 3
    have k4 := HJ7.out.box.cell 4
    simp at k0 k1 k2 k3 k4
    have kl := HJ7.out.box.lt
    go_wp2_with (fail)
    refine (evI_t s1 c1 s2 c2 (.slice a2 n1 p2) l1 3 1 w6 HJ7.out.rd HLN.out (t1, t2, t3, t4, tl) ok (fun _ => HT.out.symm) (fun hn => absurd HDO.out hn)).mono ?_
    rintro e w7 ⟨v7, rfl, o7, g7, -⟩
    obtain ⟨a7, p7, hv7, -⟩ := own_form o7
    simp only at hv7 o7
    rw [HLT.out] at hv7
    subst hv7
    have b7 : Below w6.heap.size w6 w7 := ⟨g7.os, g7.tape, g7.output, g7.size, fun j hj => g7.block j hj (by simp [Value.ownBlock])⟩
    have bb7 : Below w.heap.size w w7 := belowCall HB6.out b7 HB6.out.size
    have HJ8 : Hid (Aj w7 g3 s1 c1 s2 c2 (.slice a2 n1 p2) l1) := HJ7.out.below b7
    have al : Below w7.heap.size w7 (w7.alloc (Obj.cells (D5 t1 t2 t3 t4 (.slice a7 Ln p7)) 31)) := (Below.refl _ _).alloc (Nat.le_refl _) _
    have HJg6 : Hid (Aj (w7.alloc (Obj.cells (D5 t1 t2 t3 t4 (.slice a7 Ln p7)) 31)) w7.heap.size t1 t2 t3 t4 (.slice a7 Ln p7) tl) := ⟨Blk.new _ _ _, o7.rd.below al⟩
    have HBW7 : Hid (Below w.heap.size w (w7.alloc (Obj.cells (D5 t1 t2 t3 t4 (.slice a7 Ln p7)) 31))) := belowCall (bb7) al (bb7).size
    have HALW7 : Hid (Below w7.heap.size w7 (w7.alloc (Obj.cells (D5 t1 t2 t3 t4 (.slice a7 Ln p7)) 31))) := al
    obtain ⟨W7, hW⟩ : ∃ W, (w7.alloc (Obj.cells (D5 t1 t2 t3 t4 (.slice a7 Ln p7)) 31)) = W := ⟨_, rfl⟩
    obtain ⟨g6, hg⟩ : ∃ k, w7.heap.size = k := ⟨_, rfl⟩
    have HWW7 : Hid ((w7.alloc (Obj.cells (D5 t1 t2 t3 t4 (.slice a7 Ln p7)) 31)) = W7) := hW
    have HGg6 : Hid (w7.heap.size = g6) := hg
    rw [hW] at HJg6 HBW7 HALW7
    rw [hg] at HJg6
    clear hW hg al
    have HJ9 : Hid (Aj W7 g3 s1 c1 s2 c2 (.slice a2 n1 p2) l1) := HJ8.out.below HALW7.out
    clear o7 g7 b7 bb7 k0 k1 k2 k3 k4 kl HJ7
    have k0 := HJ8.out.box.cell 0
    have k1 := HJ8.out.box.cell 1
    have k2 := HJ8.out.box.cell 2
    have k3 := HJ8.out.box.cell 3
    have k4 := HJ8.out.box.cell 4
    simp at k0 k1 k2 k3 k4
    have kl := HJ8.out.box.lt
    go_wp2_with (fail)
    rw [HWW7.out, HGg6.out]
    refine (evM_t s1 c1 s2 c2 (.slice a2 n1 p2) l1 3 1 W7 HJ9.out.rd HLN.out (t1, t2, t3, t4, tl) ok (fun _ => HT.out.symm) (fun hn => absurd HDO.out hn)).mono ?_
    rintro e w8 ⟨v8, rfl, o8, g8', -⟩
    obtain ⟨a8, p8, hv8, -⟩ := own_form o8
    simp only at hv8 o8
    rw [HLT.out] at hv8
    subst hv8
    have b8 : Below W7.heap.size W7 w8 := ⟨g8'.os, g8'.tape, g8'.output, g8'.size, fun j hj => g8'.block j hj (by simp [Value.ownBlock])⟩
    have bb8 : Below w.heap.size w w8 := belowCall HBW7.out b8 HBW7.out.size
    have HJ10 : Hid (Aj w8 g6 t1 t2 t3 t4 (.slice a7 Ln p7) tl) := HJg6.out.below b8
    have al : Below w8.heap.size w8 (w8.alloc (Obj.cells (D5 t1 t2 t3 t4 (.slice a8 Ln p8)) 31)) := (Below.refl _ _).alloc (Nat.le_refl _) _
    have HJg8 : Hid (Aj (w8.alloc (Obj.cells (D5 t1 t2 t3 t4 (.slice a8 Ln p8)) 31)) w8.heap.size t1 t2 t3 t4 (.slice a8 Ln p8) tl) := ⟨Blk.new _ _ _, o8.rd.below al⟩
    have HBW8 : Hid (Below w.heap.size w (w8.alloc (Obj.cells (D5 t1 t2 t3 t4 (.slice a8 Ln p8)) 31))) := belowCall (bb8) al (bb8).size
    have HALW8 : Hid (Below w8.heap.size w8 (w8.alloc (Obj.cells (D5 t1 t2 t3 t4 (.slice a8 Ln p8)) 31))) := al
    obtain ⟨W8, hW⟩ : ∃ W, (w8.alloc (Obj.cells (D5 t1 t2 t3 t4 (.slice a8 Ln p8)) 31)) = W := ⟨_, rfl⟩
    obtain ⟨g8, hg⟩ : ∃ k, w8.heap.size = k := ⟨_, rfl⟩
    have HWW8 : Hid ((w8.alloc (Obj.cells (D5 t1 t2 t3 t4 (.slice a8 Ln p8)) 31)) = W8) := hW
    have HGg8 : Hid (w8.heap.size = g8) := hg
    rw [hW] at HJg8 HBW8 HALW8
    rw [hg] at HJg8
    clear hW hg al
    have HJ11 : Hid (Aj W8 g6 t1 t2 t3 t4 (.slice a7 Ln p7) tl) := HJ10.out.below HALW8.out
    have hokk : (ok != ok) = false := by simp
    clear o8 g8' b8 bb8 k0 k1 k2 k3 k4 kl HJ8 HJ9 HJg6 HWW7 HGg6 HALW7 HBW7
    cases ok
    case false =>
      have HE : Hid (∀ W, Calls Try.prog 12 #[.agg (D5 0 0 0 0 (.slice none 0 0)), .agg (H2 1 0)] W (DuR W.heap.size W (.slice none 0 0) (1, 1, 0, 0, [(1, 1, 1)]) true)) := fun W => evI_t 0 0 0 0 (.slice none 0 0) [] 1 0 W (Ot.nil 0 W).rd (by simp) _ _ (fun _ => doE_zero.symm) (fun h => absurd hw_zero.1 h)
      go_wp2_with (fail)
      rw [HWW8.out]
      try rw [HGg8.out]
      refine (HE.out _).mono ?_
      rintro e w9 ⟨v9, rfl, o9, g9, -⟩
      obtain ⟨a9, p9, hv9, -⟩ := own_form o9
      simp only [List.length_cons, List.length_nil] at hv9
      subst hv9
      have b9 : Below W8.heap.size W8 w9 := ⟨g9.os, g9.tape, g9.output, g9.size, fun j hj => g9.block j hj (by simp [Value.ownBlock])⟩
      have HF : Hid (Below w.heap.size w (w9.alloc (Obj.cells (D5 1 1 0 0 (.slice a9 (0 + 1) p9)) 31))) := by
        have bb := belowCall HBW8.out b9 HBW8.out.size
        exact belowCall bb ((Below.refl _ _).alloc (Nat.le_refl _) _) bb.size
      clear o9 g9 b9
      go_wp2
      go_ret
      exact ⟨rfl, HF.out⟩
    have HCL := cl_clear (d := (s1, c1, s2, c2, l1)) (i := 1) (by decide) (by rw [HT.out])
    rw [HT.out] at HCL
    have HST : Hid (Calls Try.prog 15 #[.agg (D5 t1 t2 t3 t4 (.slice a7 Ln p7)), .int .i64 3] W8 (SeR (t1, t2, t3, t4, tl) 3 W8)) := setI_c t1 t2 t3 t4 (.slice a7 Ln p7) tl 3 W8 HJ11.out.rd HTL.out
    have k0 := HJ10.out.box.cell 0
    have k1 := HJ10.out.box.cell 1
    have k2 := HJ10.out.box.cell 2
    have k3 := HJ10.out.box.cell 3
    have k4 := HJ10.out.box.cell 4
    simp at k0 k1 k2 k3 k4
    have kl := HJ10.out.box.lt
    have HCC : Hid ((1 = 0 → ClI (t1, t2, t3, t4, tl)) ∧ (1 = 1 → t4 = t2 → ClI (t1, t2, t3, t4, tl))) := by
      refine ⟨fun e => ?_, fun e e' => ?_⟩
      · first | exact HCL.1 rfl | exact absurd e (by decide)
      · first | exact HCL.2 rfl e' | exact absurd e (by decide)
    clear HCL
    go_wp2_with (fail)
    rw [HWW8.out]
    try rw [HGg8.out]
    refine HST.out.mono ?_
    rintro e w9 ⟨d', hd1, -, hd3, v9, rfl, o9, g9, -⟩
    obtain ⟨d1, hs1, hs2⟩ := hd1 ⟨HD2.out, by decide, by decide⟩
    have hag := (settle_agrees (n := 2) HD2.out HW2.out hs1 hs2).1
    have hcl : ClI (t1, t2, t3, t4, tl) → d' = (0, t2, 0, t2, []) := fun hc => settle_cleared (n := 2) HD2.out HW2.out hc hs1 hs2
    simp only at hag
    have b9 : Below W8.heap.size W8 w9 := ⟨g9.os, g9.tape, g9.output, g9.size, fun j hj => g9.block j hj (by simp [Value.ownBlock])⟩
    have HB9 : Hid (Below w.heap.size w w9) := belowCall HBW8.out b9 HBW8.out.size
    clear hd1 hs1 hs2 g9 b9 k0 k1 k2 k3 k4 kl HST HJ10 HJ11 HJg8 HWW8 HGg8 HALW8 HBW8 hd3
    by_cases h42 : t4 = t2
    · have hdd := hcl (HCC.out.2 (by first | trivial | rfl) h42)
      subst hdd h42
      clear hag hcl
      simp only at o9
      obtain ⟨a9, p9, hv9, -⟩ := own_form o9
      simp only [List.length_nil] at hv9
      subst hv9
      have HO9 : Hid (Rt w9 (.slice a9 0 p9) []) := o9.rd
      have HBA : Hid (Below w.heap.size w (w9.alloc (Obj.cells (D5 0 t4 0 t4 (.slice a9 0 p9)) 31))) := belowCall HB9.out ((Below.refl _ _).alloc (Nat.le_refl _) _) HB9.out.size
      clear o9
      by_cases h1000 : 1000 ≤ t4
      · have q1 : (t4 < t4) = False := eq_false (by omega)
        go_wp2
        refine wp_loop_rounds 3 ?_
        rw [rounds_succ]
        go_wp2
        rw [rounds_succ]
        go_wp2
        rw [rounds_succ]
        go_wp2
        go_ret
        exact ⟨rfl, HBA.out⟩
      · have q1 : (t4 < t4) = False := eq_false (by omega)
        have hlt : t4 < 1000 := by omega
        have HEV : Hid (∀ W, Rt W (.slice a9 0 p9) [] → Calls Try.prog 12 #[.agg (D5 0 t4 0 t4 (.slice a9 0 p9)), .agg (H2 1 0)] W (DuR W.heap.size W (.slice none 0 0) (1, t4 + 1, 0, t4, [(1, 1, t4 + 1)]) true)) := fun W hW => evI_t 0 t4 0 t4 (.slice a9 0 p9) [] 1 0 W hW (by simp) _ _ (fun _ => (doE_start hlt).symm) (fun h => absurd (show DOk 0 t4 0 t4 [] from ⟨by omega, by omega, by omega, by omega, by omega, by omega, by simp, fun k hk => by simp at hk⟩) h)
        have HOA : Hid (Rt (w9.alloc (Obj.cells (D5 0 t4 0 t4 (.slice a9 0 p9)) 31)) (.slice a9 0 p9) []) := HO9.out.below ((Below.refl _ _).alloc (Nat.le_refl _) _)
        have hee : (t4 + 1 == t4 + 1) = true := by simp
        go_wp2
        refine wp_loop_rounds 3 ?_
        rw [rounds_succ]
        go_wp2
        rw [rounds_succ]
        go_wp2
        rw [rounds_succ]
        go_wp2_with (fail)
        refine (HEV.out _ HOA.out).mono ?_
        rintro e wz ⟨vz, rfl, oz, gz, -⟩
        obtain ⟨az, pz, hvz, -⟩ := own_form oz
        simp only [List.length_cons, List.length_nil] at hvz
        subst hvz
        have bz : Below (w9.alloc (Obj.cells (D5 0 t4 0 t4 (.slice a9 0 p9)) 31)).heap.size (w9.alloc (Obj.cells (D5 0 t4 0 t4 (.slice a9 0 p9)) 31)) wz := ⟨gz.os, gz.tape, gz.output, gz.size, fun j hj => gz.block j hj (by simp [Value.ownBlock])⟩
        have kz : Blk wz w9.heap.size (D5 0 t4 0 t4 (.slice a9 0 p9)) 31 := (Blk.new _ _ _).below bz (by simp)
        have z1 := kz.cell 1
        have zl := kz.lt
        simp at z1
        have HFZ : Hid (Below w.heap.size w (wz.alloc (Obj.cells (D5 1 (t4 + 1) 0 t4 (.slice az (0 + 1) pz)) 31))) := by
          have bb := belowCall HBA.out bz HBA.out.size
          exact belowCall bb ((Below.refl _ _).alloc (Nat.le_refl _) _) bb.size
        clear oz gz bz kz
        go_wp2
        go_ret
        exact ⟨rfl, HFZ.out⟩
    have hlt4 : t4 < t2 := by omega
    have h42b : (t2 == t4) = false := by simp; omega
    clear hcl
    rcases hag with hdd | hdd | hdd
    · subst hdd
      simp only at o9
      obtain ⟨a9, p9, hv9, -⟩ := own_form o9
      simp only [List.length_nil] at hv9
      subst hv9
      have HO9 : Hid (Rt w9 (.slice a9 0 p9) []) := o9.rd
      have HBA : Hid (Below w.heap.size w (w9.alloc (Obj.cells (D5 0 t2 0 t2 (.slice a9 0 p9)) 31))) := belowCall HB9.out ((Below.refl _ _).alloc (Nat.le_refl _) _) HB9.out.size
      clear o9
      by_cases h1000 : 1000 ≤ t2
      · have q1 : (t2 < t4) = False := eq_false (by omega)
        go_wp2
        refine wp_loop_rounds 3 ?_
        rw [rounds_succ]
        go_wp2
        rw [rounds_succ]
        go_wp2
        rw [rounds_succ]
        go_wp2
        go_ret
        exact ⟨rfl, HBA.out⟩
      · have q1 : (t2 < t4) = False := eq_false (by omega)
        have hlt : t2 < 1000 := by omega
        have HEV : Hid (∀ W, Rt W (.slice a9 0 p9) [] → Calls Try.prog 12 #[.agg (D5 0 t2 0 t2 (.slice a9 0 p9)), .agg (H2 1 0)] W (DuR W.heap.size W (.slice none 0 0) (1, t2 + 1, 0, t2, [(1, 1, t2 + 1)]) true)) := fun W hW => evI_t 0 t2 0 t2 (.slice a9 0 p9) [] 1 0 W hW (by simp) _ _ (fun _ => (doE_start hlt).symm) (fun h => absurd (show DOk 0 t2 0 t2 [] from ⟨by omega, by omega, by omega, by omega, by omega, by omega, by simp, fun k hk => by simp at hk⟩) h)
        have HOA : Hid (Rt (w9.alloc (Obj.cells (D5 0 t2 0 t2 (.slice a9 0 p9)) 31)) (.slice a9 0 p9) []) := HO9.out.below ((Below.refl _ _).alloc (Nat.le_refl _) _)
        have hee : (t2 + 1 == t2 + 1) = true := by simp
        go_wp2
        refine wp_loop_rounds 3 ?_
        rw [rounds_succ]
        go_wp2
        rw [rounds_succ]
        go_wp2
        rw [rounds_succ]
        go_wp2_with (fail)
        refine (HEV.out _ HOA.out).mono ?_
        rintro e wz ⟨vz, rfl, oz, gz, -⟩
        obtain ⟨az, pz, hvz, -⟩ := own_form oz
        simp only [List.length_cons, List.length_nil] at hvz
        subst hvz
        have bz : Below (w9.alloc (Obj.cells (D5 0 t2 0 t2 (.slice a9 0 p9)) 31)).heap.size (w9.alloc (Obj.cells (D5 0 t2 0 t2 (.slice a9 0 p9)) 31)) wz := ⟨gz.os, gz.tape, gz.output, gz.size, fun j hj => gz.block j hj (by simp [Value.ownBlock])⟩
        have kz : Blk wz w9.heap.size (D5 0 t2 0 t2 (.slice a9 0 p9)) 31 := (Blk.new _ _ _).below bz (by simp)
        have z1 := kz.cell 1
        have zl := kz.lt
        simp at z1
        have HFZ : Hid (Below w.heap.size w (wz.alloc (Obj.cells (D5 1 (t2 + 1) 0 t2 (.slice az (0 + 1) pz)) 31))) := by
          have bb := belowCall HBA.out bz HBA.out.size
          exact belowCall bb ((Below.refl _ _).alloc (Nat.le_refl _) _) bb.size
        clear oz gz bz kz
        go_wp2
        go_ret
        exact ⟨rfl, HFZ.out⟩
    · subst hdd
      simp only at o9
      obtain ⟨a9, p9, hv9, -⟩ := own_form o9
      simp only [List.length_nil] at hv9
      subst hv9
      have HBA : Hid (Below w.heap.size w (w9.alloc (Obj.cells (D5 1 t2 2 t2 (.slice a9 0 p9)) 31))) := belowCall HB9.out ((Below.refl _ _).alloc (Nat.le_refl _) _) HB9.out.size
      clear o9
      have q1 : (t2 < t4) = False := eq_false (by omega)
      have q2 : t4 < t2 := hlt4
      go_wp2
      refine wp_loop_rounds 3 ?_
      rw [rounds_succ]
      go_wp2
      rw [rounds_succ]
      go_wp2
      rw [rounds_succ]
      go_wp2
      go_ret
      exact ⟨rfl, HBA.out⟩
    · subst hdd
      simp only at o9
      obtain ⟨a9, p9, hv9, -⟩ := own_form o9
      simp only [List.length_nil] at hv9
      subst hv9
      have HBA : Hid (Below w.heap.size w (w9.alloc (Obj.cells (D5 3 t2 3 t2 (.slice a9 0 p9)) 31))) := belowCall HB9.out ((Below.refl _ _).alloc (Nat.le_refl _) _) HB9.out.size
      clear o9
      have q1 : (t2 < t4) = False := eq_false (by omega)
      have q2 : t4 < t2 := hlt4
      go_wp2
      refine wp_loop_rounds 3 ?_
      rw [rounds_succ]
      go_wp2
      rw [rounds_succ]
      go_wp2
      rw [rounds_succ]
      go_wp2
      go_ret
      exact ⟨rfl, HBA.out⟩
end Go.Proofs.Ytljejjfhlpjlfaa

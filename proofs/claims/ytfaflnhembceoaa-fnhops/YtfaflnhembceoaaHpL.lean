/- FnHops; no condition. -/
import Derived.Test.YtfaflnhembceoaaHpA
import Derived.Test.YtfaflnhembceoaaMixF
import Derived.Deep.DeepCutAuto
namespace Go.Proofs.Ytfaflnhembceoaa
open Go.RowKit Go.ChangeShapes Go.WideShapes Go.ChangeAt
set_option linter.unusedVariables false
set_option linter.unusedSimpArgs false
set_option maxRecDepth 8000
theorem fld29 (c a : Int) (v : Value) (w : World) : (Instr.field 29 (.agg (O3 c a v)) 0).run Try.prog w = .ok (.int .i64 c) w := by kernel_rfl
set_option maxHeartbeats 12800000 in
theorem hopsLaw (v : Value) (zs : List Int) (w : World) (h : Rd .u8 w v zs) (hwz : ∀ z ∈ zs, (Lit.int .u8 z).wf = true) : Calls Try.prog 3 #[v] w fun e w' => e = .returned (.bool true) ∧ Below w.heap.size w w' := by
  have HR : Hid (Rd .u8 w v zs) := h
  have HOK : Hid (∀ z ∈ zs, 0 ≤ z ∧ z ≤ 255) := fun z hm => bounds_u8 (hwz z hm)
  have HB0 : Hid (Below w.heap.size w w) := Below.refl _ _
  obtain ⟨a, cap, rfl, -, -, -⟩ := h
  clear hwz
  by_cases hbig : (1048576 : Int) < (zs.length : Int)
  · have hbd : decide ((1048576 : Int) < (zs.length : Int)) = true := by simp; omega
    go_enter Try.func3, Try.ntmps3
    go_wp2_with (fail)
    refine (big_c _ zs _ HR.out).mono ?_
    rintro e w1 ⟨rfl, hw⟩
    rw [hbd, hw]
    clear hw
    go_wp2
    go_ret
    exact ⟨rfl, HB0.out⟩
  have hbd : decide ((1048576 : Int) < (zs.length : Int)) = false := by simp; omega
  have HL : Hid (zs.length ≤ 1048576) := by show _ ≤ _; omega
  clear hbig
  go_enter Try.func3, Try.ntmps3
  go_wp2_with (fail)
  refine (big_c _ zs _ HR.out).mono ?_
  rintro e w1 ⟨rfl, hw⟩
  rw [hbd, hw]
  clear hw hbd
  go_wp2_with (fail)
  refine (drawRoute_c _ zs _ HR.out HOK.out HL.out).mono ?_
  rintro e w2 ⟨u, cs, f, t, rfl, hr, hl, hm, hf, ht, b2⟩
  have HRS : Hid (RdS w2 u cs) := hr
  have HCL : Hid (cs.length ≤ 1048576 ∧ ∀ c ∈ cs, c.2.2.length ≤ 1048576) := ⟨by omega, fun c hc => by have := hm c hc; omega⟩
  have HB2 : Hid (Below w.heap.size w w2) := b2
  obtain ⟨lv, e1, ⟨ua, uc, hu, hq⟩, e3⟩ := hr
  obtain ⟨N, hN⟩ : ∃ N, lv.length = N := ⟨_, rfl⟩
  rw [hN] at hu
  subst hu
  obtain ⟨f0, f17⟩ := hf
  obtain ⟨t0, t18⟩ := ht
  clear hl hm b2 e1 hq e3 hN
  obtain ⟨R, hR⟩ : ∃ R, rtF cs f t = R := ⟨_, rfl⟩
  have HP := rt_hops cs f t
  rw [hR] at HP
  have HRT : Hid (rtF cs f t = R) := hR
  clear hR
  obtain ⟨rc, ra, rh⟩ := R
  simp only at HP
  have HPP : Hid (((rc = 8 ∨ rc = 5) → rh = []) ∧ (¬ (rc = 8 ∨ rc = 5) → rh.Nodup ∧ ¬ f ∈ rh ∧ rh.length ≤ 6 ∧ ((rh = [] ∧ ra = t) ∨ ∃ tl, rh = t :: tl))) := HP
  clear HP
  go_wp2_with (fail)
  refine (routeI_c _ cs f t w2 HRS.out HCL.out.1 HCL.out.2).mono ?_
  rintro e w3 ⟨ov, rfl, oo, bb⟩
  rw [HRT.out]
  have oo2 : Ow .i64 3 w2.heap.size w3 ov rh := by have := oo; rw [HRT.out] at this; exact this
  obtain ⟨oa, oc, hov, -⟩ := own_form oo2
  obtain ⟨hl, hhl⟩ : ∃ q, rh.length = q := ⟨_, rfl⟩
  rw [hhl] at hov
  subst hov
  have HHL : Hid (rh.length = hl) := hhl
  clear hhl oo
  obtain ⟨W4, hW4⟩ : ∃ W, w3.alloc (Obj.cells (O3 rc ra (.slice oa hl oc)) 29) = W := ⟨_, rfl⟩
  obtain ⟨g4, hg4⟩ : ∃ k, w3.heap.size = k := ⟨_, rfl⟩
  have al : Below w3.heap.size w3 W4 := by rw [← hW4]; exact (Below.refl _ _).alloc (Nat.le_refl _) _
  have K4 : Hid (Blk W4 g4 (O3 rc ra (.slice oa hl oc)) 29 ∧ Rd .i64 W4 (.slice oa hl oc) rh) := ⟨by rw [← hW4, ← hg4]; exact Blk.new _ _ _, oo2.rd.below al⟩
  have HB4 : Hid (Below w.heap.size w W4) := belowCall HB2.out (belowCall bb al bb.size) HB2.out.size
  have HRS4 : Hid (RdS W4 (.slice ua N uc) cs) := HRS.out.below (belowCall bb al bb.size)
  have HW4 : Hid (w3.alloc (Obj.cells (O3 rc ra (.slice oa hl oc)) 29) = W4 ∧ w3.heap.size = g4) := ⟨hW4, hg4⟩
  clear al bb oo2 hW4 hg4 HRS HB2
  go_wp2_with (fail)
  rw [HW4.out.1, HW4.out.2]
  clear HW4
  refine (routeM_c _ cs f t W4 HRS4.out HCL.out.1).mono ?_
  rintro e w5 ⟨ov, rfl, oo, bb⟩
  rw [HRT.out]
  have oo2 : Ow .i64 3 W4.heap.size w5 ov rh := by have := oo; rw [HRT.out] at this; exact this
  obtain ⟨ma, mc, hov, -⟩ := own_form oo2
  rw [HHL.out] at hov
  subst hov
  clear oo
  obtain ⟨W6, hW6⟩ : ∃ W, w5.alloc (Obj.cells (O3 rc ra (.slice ma hl mc)) 29) = W := ⟨_, rfl⟩
  obtain ⟨g6, hg6⟩ : ∃ k, w5.heap.size = k := ⟨_, rfl⟩
  have al : Below w5.heap.size w5 W6 := by rw [← hW6]; exact (Below.refl _ _).alloc (Nat.le_refl _) _
  have bal : Below W4.heap.size W4 W6 := belowCall bb al bb.size
  have K6 : Hid (Blk W6 g6 (O3 rc ra (.slice ma hl mc)) 29 ∧ Rd .i64 W6 (.slice ma hl mc) rh) := ⟨by rw [← hW6, ← hg6]; exact Blk.new _ _ _, oo2.rd.below al⟩
  have K46 : Hid (Blk W6 g4 (O3 rc ra (.slice oa hl oc)) 29 ∧ Rd .i64 W6 (.slice oa hl oc) rh) := ⟨K4.out.1.below bal K4.out.1.lt, K4.out.2.below bal⟩
  have HB6 : Hid (Below w.heap.size w W6) := belowCall HB4.out bal HB4.out.size
  have HW6 : Hid (w5.alloc (Obj.cells (O3 rc ra (.slice ma hl mc)) 29) = W6 ∧ w5.heap.size = g6) := ⟨hW6, hg6⟩
  clear al bb bal oo2 hW6 hg6 HRS4 HB4 K4
  have x0 := K46.out.1.cell 0
  have x1 := K46.out.1.cell 1
  have x2 := K46.out.1.cell 2
  have xl := K46.out.1.lt
  have y0 := K6.out.1.cell 0
  have y1 := K6.out.1.cell 1
  have y2 := K6.out.1.cell 2
  have yl := K6.out.1.lt
  simp at x0 x1 x2 y0 y1 y2
  have q0 : (rc != rc) = false := by simp
  have q1 : (ra != ra) = false := by simp
  go_upto_region 6 with fail
  rw [HW6.out.1, HW6.out.2]
  clear HW6
  go_wp2_with (fail)
  refine (sameI_c _ _ rh rh W6 K46.out.2 K6.out.2).mono ?_
  rintro e w7 ⟨rfl, b7⟩
  have ed : decide (rh = rh) = true := by simp
  rw [ed]
  have K7 : Hid (Blk w7 g4 (O3 rc ra (.slice oa hl oc)) 29 ∧ Rd .i64 w7 (.slice oa hl oc) rh) := ⟨K46.out.1.below b7 K46.out.1.lt, K46.out.2.below b7⟩
  have M7 : Hid (Blk w7 g6 (O3 rc ra (.slice ma hl mc)) 29) := K6.out.1.below b7 K6.out.1.lt
  have HB7 : Hid (Below w.heap.size w w7) := belowCall HB6.out b7 HB6.out.size
  clear b7 x0 x1 x2 xl y0 y1 y2 yl K46 K6 HB6 ed q0 q1
  obtain ⟨i0, hi, hz0, hz1, hz2⟩ := info_parts infoSub
  go_wp2_with (at_make; refine wpList_make_full _ rfl _ _ 24 rfl w7.heap.size 35 i0 (.agg #[.bool false, .bool false, .slice none 0 0]) 3 Try.underlying24 hi hz0 hz1 .i64 .i64 _ _ 2 rfl rfl rfl rfl (by rw [hz2]; omega) (by unfold maxLen; omega) (Nat.le_refl _) ?_)
  intro w8 ho hg
  have hb8 : Below w7.heap.size w7 w8 := grown_below hg (Nat.le_refl _) (by simp)
  have HRS8 : Hid (RdS w8 (.slice (some ⟨w7.heap.size, 0, none⟩) 2 2) [sb0, sb0]) := by
    have e : (madeCells #[Value.bool false, .bool false, .slice none 0 0] (2 * 3)).toList = tq [zS, zS] := tq_replicate zS 2
    have ho' : Oq 35 w7.heap.size w8 (.slice (some ⟨w7.heap.size, 0, none⟩) 2 2) [zS, zS] := by unfold Oq; rw [← e]; exact ho
    refine ⟨[zS, zS], rfl, ho'.rd, fun i h1 h2 => ?_⟩
    have nl : Rp mf mg w8 (.slice none 0 0) [] := ⟨none, 0, rfl, by simp, by simp, .inl rfl⟩
    match i, h1 with
    | 0, _ => exact ⟨rfl, rfl, nl⟩
    | 1, _ => exact ⟨rfl, rfl, nl⟩
  have K8 : Hid (Blk w8 g4 (O3 rc ra (.slice oa hl oc)) 29 ∧ Rd .i64 w8 (.slice oa hl oc) rh) := ⟨K7.out.1.below hb8 K7.out.1.lt, K7.out.2.below hb8⟩
  have M8 : Hid (Blk w8 g6 (O3 rc ra (.slice ma hl mc)) 29) := M7.out.below hb8 M7.out.lt
  have HB8 : Hid (Below w.heap.size w w8) := belowCall HB7.out hb8 HB7.out.size
  clear ho hg hb8 K7 M7 HB7
  go_wp2_with (fail)
  refine (routeI_c _ [sb0, sb0] 0 1 w8 HRS8.out (by simp) (fun c hc => by simp at hc; subst hc; simp)).mono ?_
  rintro e w9 ⟨ov, rfl, -, b9⟩
  rw [rt_two]
  dsimp only
  have hfld : ∀ W : World, (Instr.field 29 (.agg (O3 1 1 ov)) 0).run Try.prog W = .ok (.int .i64 1) W := fun W => fld29 1 1 ov W
  have K9 : Hid (Blk w9 g4 (O3 rc ra (.slice oa hl oc)) 29 ∧ Rd .i64 w9 (.slice oa hl oc) rh) := ⟨K8.out.1.below b9 K8.out.1.lt, K8.out.2.below b9⟩
  have M9 : Hid (Blk w9 g6 (O3 rc ra (.slice ma hl mc)) 29) := M8.out.below b9 M8.out.lt
  have HB9 : Hid (Below w.heap.size w w9) := belowCall HB8.out b9 HB8.out.size
  clear b9 K8 M8 HB8 HRS8 hi hz0 hz1 hz2
  have x0 := K9.out.1.cell 0
  have x1 := K9.out.1.cell 1
  have x2 := K9.out.1.cell 2
  have xl := K9.out.1.lt
  have y0 := M9.out.cell 0
  have yl := M9.out.lt
  simp at x0 x1 x2 y0
  go_upto_region 10 with fail
  clear hfld
  by_cases hbad : rc = 8 ∨ rc = 5
  · have HE : Hid (hl = 0) := by have h1 := HPP.out.1 hbad; have h2 := HHL.out; rw [h1] at h2; exact h2.symm
    obtain ⟨he⟩ : Nonempty (hl = 0) := ⟨HE.out⟩
    have h0d : ((hl : Int) == 0) = true := by simp [he]
    clear he
    rcases hbad with hb | hb
    · have c8 : (rc == 8) = true := by simp [hb]
      clear hb
      go_wp2
      go_ret
      exact ⟨rfl, HB9.out⟩
    · have c8 : (rc == 8) = false := by simp [hb]
      have c5 : (rc == 5) = true := by simp [hb]
      clear hb
      go_wp2
      go_ret
      exact ⟨rfl, HB9.out⟩
  have c8 : (rc == 8) = false := by simp; omega
  have c5 : (rc == 5) = false := by simp; omega
  have HPN : Hid (rh.Nodup ∧ ¬ f ∈ rh ∧ rh.length ≤ 6 ∧ ((rh = [] ∧ ra = t) ∨ ∃ tl, rh = t :: tl)) := HPP.out.2 hbad
  clear hbad HPP
  go_wp2
  go_loopw [8] (fun i wr => ∃ j : Nat, i = .int .i64 j ∧ Hid (j ≤ hl) ∧ Hid (Blk wr g4 (O3 rc ra (.slice oa hl oc)) 29 ∧ Rd .i64 wr (.slice oa hl oc) rh) ∧ Hid (Below w.heap.size w wr)) (fun i _ => hl - (intOf i).toNat)
  case atStart => exact ⟨0, rfl, Nat.zero_le _, K9.out, HB9.out⟩
  case round =>
    obtain ⟨j, rfl, hj, KJ, HBJ⟩ := hrel
    clear K9 M9 HB9 x0 x1 x2 xl y0 yl c8 c5
    have x0 := KJ.out.1.cell 0
    have x1 := KJ.out.1.cell 1
    have x2 := KJ.out.1.cell 2
    have xl := KJ.out.1.lt
    simp at x0 x1 x2
    have hjl := hj.out
    have h6 : hl ≤ 6 := by have h1 := HPN.out.2.2.1; have h2 := HHL.out; omega
    by_cases hlt : j < hl
    case neg =>
      obtain rfl : hl = j := by omega
      rcases HPN.out.2.2.2 with ⟨he, hra⟩ | ⟨tl, htl⟩
      · have h0 : hl = 0 := by have h2 := HHL.out; rw [he] at h2; exact h2.symm
        have hd0 : ((hl : Int) == 0) = true := by simp [h0]
        have hd1 : (ra == t) = true := by simp [hra]
        have hd3 : decide ((hl : Int) ≤ 6) = true := by simp; omega
        clear h0 hra hlt hjl
        go_wp2
        go_ret
        exact ⟨rfl, HBJ.out⟩
      · have h0 : 0 < hl := by have h2 := HHL.out; rw [htl] at h2; simp at h2; omega
        have hd0 : ((hl : Int) == 0) = false := by simp; omega
        have hd3 : decide ((hl : Int) ≤ 6) = true := by simp; omega
        have hd4 : decide ((0 : Int) < (hl : Int)) = true := by simp; omega
        have hd5 : (t == t) = true := by simp
        obtain ⟨qa, qc, hqq, -, -, hq⟩ := KJ.out.2
        rcases hq with hq | ⟨qb, qo, hqa, hq⟩
        · rw [hq] at htl; cases htl
        rw [HHL.out] at hqq
        injection hqq with e1 e2 e3
        subst e1 e3
        subst hqa
        have hcz : wr.cell? ⟨qb, qo, none⟩ = some (.int .i64 t) := by
          have h1 := hq 0 (by have := HHL.out; omega)
          rw [htl] at h1
          simpa using h1
        have h0I : (0 : Int) < (hl : Int) := by omega
        clear hq e2 hlt hjl
        go_wp2
        go_ret
        exact ⟨rfl, HBJ.out⟩
    case pos =>
    obtain ⟨qa, qc, hqq, hq1, hq2, hq⟩ := KJ.out.2
    rcases hq with hq | ⟨qb, qo, hqa, hq⟩
    · have := HHL.out; rw [hq] at this; simp at this; omega
    rw [HHL.out] at hqq hq1
    injection hqq with e1 e2 e3
    subst e1 e3
    subst hqa
    have hjr : j < rh.length := by have := HHL.out; omega
    obtain ⟨z, hz⟩ : ∃ z, rh[j] = z := ⟨_, rfl⟩
    have hcz : wr.cell? ⟨qb, qo + j, none⟩ = some (.int .i64 z) := by
      have h1 := hq j hjr
      rw [h1]; simp [List.getElem?_eq_getElem hjr, hz]
    have HZN : Hid (decide (z ∈ rh.take j) = false ∧ (z == f) = false) := by
      constructor
      · rw [decide_eq_false_iff_not]
        intro hm
        obtain ⟨i, hi, e⟩ := List.getElem_of_mem hm
        have hi' : i < j := by simp at hi; omega
        rw [List.getElem_take] at e
        have hn := (List.pairwise_iff_getElem.1 HPN.out.1) i j (by omega) hjr hi'
        exact hn (by rw [e, hz])
      · have := HPN.out.2.1
        simp only [beq_eq_false_iff_ne, ne_eq]
        intro e
        exact this (by rw [← e, ← hz]; exact List.getElem_mem hjr)
    have HPR : Hid (∀ W : World, Rd .i64 W (.slice (some ⟨qb, qo, none⟩) hl oc) rh → Rd .i64 W (.slice (some ⟨qb, qo, none⟩) j oc) (rh.take j)) := by
      intro W hW
      obtain ⟨a1, c1, e1, l1, l2, l3⟩ := hW
      rw [HHL.out] at e1
      injection e1 with i1 i2 i3
      subst i1 i3
      refine ⟨_, _, by rw [List.length_take]; congr 1; omega, by rw [List.length_take]; omega, l2, ?_⟩
      rcases l3 with l3 | ⟨b', o', hb', h4⟩
      · exact .inl (by rw [l3]; simp)
      · refine .inr ⟨b', o', hb', fun i hi => ?_⟩
        have hi' : i < j ∧ i < rh.length := by rw [List.length_take] at hi; omega
        rw [h4 i hi'.2]
        congr 2
        rw [List.getD_eq_getElem?_getD, List.getD_eq_getElem?_getD, List.getElem?_take, if_pos hi'.1]
    clear hq hz hjr e2
    have hi0 : (0 : Int) ≤ (j : Int) := by omega
    have hi1 : (j : Int) < (hl : Int) := by omega
    have hi2 : (j : Int) ≤ (oc : Int) := by omega
    have hlt' : decide ((j : Int) < (hl : Int)) = true := by simp; omega
    have hcap : oc ≤ maxLen := hq2
    unfold maxLen at hcap
    clear hq2
    obtain ⟨S, hS⟩ : ∃ S : World → Prop, ∀ W, S W ↔ (Blk W g4 (O3 rc ra (.slice (some ⟨qb, qo, none⟩) hl oc)) 29 ∧ W.cell? ⟨qb, qo + j, none⟩ = some (.int .i64 z)) := ⟨_, fun _ => Iff.rfl⟩
    have t2 : ∀ W : At S, W.wd.cell? ⟨g4, 2, none⟩ = some (.slice (some ⟨qb, qo, none⟩) hl oc) := fun W => by have := ((hS _).1 W.ok).1.cell 2; simpa using this
    have t3 : ∀ W : At S, W.wd.cell? ⟨qb, qo + j, none⟩ = some (.int .i64 z) := fun W => ((hS _).1 W.ok).2
    have HS0 : Hid (S wr.drew) := (hS _).2 ⟨KJ.out.1, hcz⟩
    have ne1 : Nonempty (At S) := ⟨⟨wr.drew, HS0.out⟩⟩
    clear hS
    go_upto_region 15 with fail
    refine region_anyS S (by kernel_rfl) ?_
    refine anyS_quiet [true, true, true, true, true, true, true, true, true, false, false, false, false, false, false, false, false, false, false] 10 rfl (by kernel_rfl) (fun _ _ _ _ _ h => h) HS0.out ?_
    simp only [selT]
    repeat (go_big_quiet_step (fail))
    refine wpQuiet_nil ?_
    refine anyS_one 9 (by kernel_rfl) rfl ?_
    go_wp2_with (fail)
    refine (withinL_c _ (rh.take j) z wr.drew (HPR.out _ (KJ.out.2.below (Below.refl _ _).drew))).mono ?_
    rintro e wx ⟨rfl, hwx⟩
    rw [HZN.out.1, hwx]
    clear hwx
    go_wp2
    refine ⟨HS0.out, ?_⟩
    refine anyS_one 10 (by kernel_rfl) rfl ?_
    go_wp2
    refine ⟨HS0.out, ?_⟩
    have hzf := HZN.out.2
    refine anyS_quiet [false, false, false, false, false, false, false, false, false, false, false, true, true, true, true, true, true, true, false] 1 rfl (by kernel_rfl) (fun _ _ _ _ _ h => h) HS0.out ?_
    simp only [selT]
    repeat (go_big_quiet_step (fail))
    refine wpQuiet_nil ?_
    refine anyS_one 18 (by kernel_rfl) rfl ?_
    go_wp2
    refine ⟨HS0.out, ?_⟩
    refine anyS_end (by kernel_rfl) ?_
    have KN : Hid (Blk wr.drew g4 (O3 rc ra (.slice (some ⟨qb, qo, none⟩) hl oc)) 29 ∧ Rd .i64 wr.drew (.slice (some ⟨qb, qo, none⟩) hl oc) rh) := ⟨KJ.out.1, KJ.out.2.below (Below.refl _ _).drew⟩
    have HBN : Hid (Below w.heap.size w wr.drew) := HBJ.out.drew
    have HJN : Hid (j + 1 ≤ hl) := by show _ ≤ _; omega
    clear t2 t3 ne1 hzf
    go_wp2
    go_roundw
    case rel => exact ⟨j + 1, by go_num, HJN.out, KN.out, HBN.out⟩
    case measure => simp [intOf]; omega
end Go.Proofs.Ytfaflnhembceoaa

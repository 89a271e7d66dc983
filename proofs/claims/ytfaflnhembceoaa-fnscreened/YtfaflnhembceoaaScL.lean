/- FnScreened; no condition. -/
import Derived.Test.YtfaflnhembceoaaScA
import Derived.Test.YtfaflnhembceoaaSbM
import Derived.Test.YtfaflnhembceoaaMixF
import Derived.Deep.DeepCutAuto
namespace Go.Proofs.Ytfaflnhembceoaa
open Go.RowKit Go.ChangeShapes Go.WideShapes Go.ChangeAt
set_option linter.unusedVariables false
set_option linter.unusedSimpArgs false
set_option maxRecDepth 8000
set_option maxHeartbeats 12800000 in
theorem screenLaw (v : Value) (zs : List Int) (w : World) (h : Rd .u8 w v zs) (hwz : ∀ z ∈ zs, (Lit.int .u8 z).wf = true) : Calls Try.prog 4 #[v] w fun e w' => e = .returned (.bool true) ∧ Below w.heap.size w w' := by
  have HR : Hid (Rd .u8 w v zs) := h
  have HOK : Hid (∀ z ∈ zs, 0 ≤ z ∧ z ≤ 255) := fun z hm => bounds_u8 (hwz z hm)
  have HB0 : Hid (Below w.heap.size w w) := Below.refl _ _
  obtain ⟨a, cap, rfl, -, -, -⟩ := h
  clear hwz
  by_cases hbig : (1048576 : Int) < (zs.length : Int)
  · have hbd : decide ((1048576 : Int) < (zs.length : Int)) = true := by simp; omega
    go_enter Try.func4, Try.ntmps4
    go_wp2_with (fail)
    refine (big_c _ zs _ HR.out).mono ?_
    rintro e w1 ⟨rfl, hw⟩
    rw [hbd, hw]
    clear hw
    go_wp2
    go_ret
    exact ⟨rfl, HB0.out⟩
  have hbd : decide ((1048576 : Int) < (zs.length : Int)) = false := by simp; omega
  have HL : Hid (zs.length ≤ 1048576) := by show _ ≤ _; omega
  clear hbig
  go_enter Try.func4, Try.ntmps4
  go_wp2_with (fail)
  refine (big_c _ zs _ HR.out).mono ?_
  rintro e w1 ⟨rfl, hw⟩
  rw [hbd, hw]
  clear hw hbd
  go_wp2_with (fail)
  refine (drawRoute_c _ zs _ HR.out HOK.out HL.out).mono ?_
  rintro e w2 ⟨u, cs, f, t, rfl, hr, hl, hm, hf, ht, b2⟩
  have HRS : Hid (RdS w2 u cs) := hr
  have HCL : Hid (cs.length ≤ 1048576 ∧ ∀ c ∈ cs, c.2.2.length ≤ 1048576) := ⟨by omega, fun c hc => by have := hm c hc; omega⟩
  have HB2 : Hid (Below w.heap.size w w2) := b2
  obtain ⟨lv, e1, ⟨ua, uc, hu, hq⟩, e3⟩ := hr
  obtain ⟨N, hN⟩ : ∃ N, lv.length = N := ⟨_, rfl⟩
  rw [hN] at hu
  subst hu
  obtain ⟨f0, f17⟩ := hf
  obtain ⟨t0, t18⟩ := ht
  have HN : Hid (lv.length = N ∧ cs.length = N) := ⟨hN, by omega⟩
  have HQ : Hid (lv = [] ∨ ∃ b off, ua = some ⟨b, off, none⟩ ∧ ∀ i (h : i < lv.length), w2.cell? ⟨b, off + i * 3, none⟩ = some lv[i].1 ∧ w2.cell? ⟨b, off + i * 3 + 1, none⟩ = some lv[i].2.1 ∧ w2.cell? ⟨b, off + i * 3 + 2, none⟩ = some lv[i].2.2) := hq.2.2
  have HE3 : Hid (∀ i (h : i < cs.length) (h' : i < lv.length), Rp mf mg w2 lv[i].2.2 cs[i].2.2) := fun i h h' => (e3 i h h').2.2
  have hN17 : N ≤ 17 := by omega
  clear hl hm b2 e1 hq e3 hN
  obtain ⟨R, hR⟩ : ∃ R, rtF cs f t = R := ⟨_, rfl⟩
  have HP := rt_talk cs f t
  rw [hR] at HP
  have HRT : Hid (rtF cs f t = R) := hR
  clear hR
  obtain ⟨rc, ra, rh⟩ := R
  simp only at HP
  have HPP : Hid ((rc = 1 ∨ rc = 2 ∨ rc = 3) → (fsOf cs ra.toNat).any (scF (prvB cs f.toNat) f) = false) := HP
  clear HP
  go_wp2_with (fail)
  refine (routeI_c _ cs f t w2 HRS.out HCL.out.1 HCL.out.2).mono ?_
  rintro e w3 ⟨ov, rfl, oo, bb⟩
  rw [HRT.out]
  have oo2 : Ow .i64 3 w2.heap.size w3 ov rh := by have := oo; rw [HRT.out] at this; exact this
  obtain ⟨oa, oc, hov, -⟩ := own_form oo2
  obtain ⟨hl, hhl⟩ : ∃ q, rh.length = q := ⟨_, rfl⟩
  rw [hhl] at hov
  subst hov
  have HHL : Hid (rh.length = hl) := hhl
  clear hhl oo
  obtain ⟨W4, hW4⟩ : ∃ W, w3.alloc (Obj.cells (O3 rc ra (.slice oa hl oc)) 29) = W := ⟨_, rfl⟩
  obtain ⟨g4, hg4⟩ : ∃ k, w3.heap.size = k := ⟨_, rfl⟩
  have al : Below w3.heap.size w3 W4 := by rw [← hW4]; exact (Below.refl _ _).alloc (Nat.le_refl _) _
  have K4 : Hid (Blk W4 g4 (O3 rc ra (.slice oa hl oc)) 29) := by rw [← hW4, ← hg4]; exact Blk.new _ _ _
  have B24 : Hid (Below w2.heap.size w2 W4) := belowCall bb al bb.size
  have HW4 : Hid (w3.alloc (Obj.cells (O3 rc ra (.slice oa hl oc)) 29) = W4 ∧ w3.heap.size = g4) := ⟨hW4, hg4⟩
  clear al bb oo2 hW4 hg4
  go_upto_region 5 with fail
  rw [HW4.out.1, HW4.out.2]
  clear HW4
  obtain ⟨W5, hW5⟩ : ∃ W, (W4.alloc (Obj.cells (H2 5 0) 37)).alloc (Obj.cells #[.bool false, .bool false, .slice none 0 0, .bool false, .bool false, .slice (some ⟨W4.heap.size, 0, none⟩) 1 1] 35) = W := ⟨_, rfl⟩
  have al : Below W4.heap.size W4 W5 := by rw [← hW5]; exact ((Below.refl _ _).alloc (Nat.le_refl _) _).alloc (by simp) _
  have HRS5 : Hid (RdS W5 (.slice (some ⟨W4.heap.size + 1, 0, none⟩) 2 2) [(false, false, []), (false, false, [(5, 0)])]) := by
    have k1 : Blk W5 W4.heap.size (H2 5 0) 37 := by rw [← hW5]; exact (Blk.new _ _ _).alloc _
    have k2 : Blk W5 (W4.heap.size + 1) #[.bool false, .bool false, .slice none 0 0, .bool false, .bool false, .slice (some ⟨W4.heap.size, 0, none⟩) 1 1] 35 := by rw [← hW5]; exact Blk.newAt _ (W4.heap.size + 1) _ 35 (by simp)
    have nl : Rp mf mg W5 (.slice none 0 0) [] := ⟨none, 0, rfl, by simp, by simp, .inl rfl⟩
    refine ⟨[(.bool false, .bool false, .slice none 0 0), (.bool false, .bool false, .slice (some ⟨W4.heap.size, 0, none⟩) 1 1)], rfl, ⟨_, _, rfl, by simp, by simp [maxLen], .inr ⟨W4.heap.size + 1, 0, rfl, fun i hi => ?_⟩⟩, fun i h1 h2 => ?_⟩
    · match i, hi with
      | 0, _ => exact ⟨k2.cell 0, k2.cell 1, k2.cell 2⟩
      | 1, _ => exact ⟨k2.cell 3, k2.cell 4, k2.cell 5⟩
    · match i, h1 with
      | 0, _ => exact ⟨rfl, rfl, nl⟩
      | 1, _ => exact ⟨rfl, rfl, Rp.one7 k1⟩
  have B25 : Hid (Below w2.heap.size w2 W5) := belowCall B24.out al B24.out.size
  have K5 : Hid (Blk W5 g4 (O3 rc ra (.slice oa hl oc)) 29) := K4.out.below al K4.out.lt
  have HW5 : Hid ((W4.alloc (Obj.cells (H2 5 0) 37)).alloc (Obj.cells #[.bool false, .bool false, .slice none 0 0, .bool false, .bool false, .slice (some ⟨W4.heap.size, 0, none⟩) 1 1] 35) = W5) := hW5
  clear al hW5 K4 B24
  go_wp2_with (fail)
  rw [HW5.out]
  clear HW5
  refine (routeI_c _ [(false, false, []), (false, false, [(5, 0)])] 0 1 W5 HRS5.out (by simp) (fun c hc => by simp at hc; rcases hc with hc | hc <;> subst hc <;> simp)).mono ?_
  rintro e w6 ⟨ov, rfl, oo, bb⟩
  rw [rt_scr2]
  dsimp only
  obtain ⟨sa, sc, hov, -⟩ := own_form oo
  obtain ⟨sl, hsl⟩ : ∃ q, (rtF [(false, false, []), (false, false, [(5, 0)])] 0 1).2.2.length = q := ⟨_, rfl⟩
  rw [hsl] at hov
  subst hov
  clear hsl oo
  obtain ⟨W7, hW7⟩ : ∃ W, w6.alloc (Obj.cells (O3 6 1 (.slice sa sl sc)) 29) = W := ⟨_, rfl⟩
  obtain ⟨g7, hg7⟩ : ∃ k, w6.heap.size = k := ⟨_, rfl⟩
  have al : Below w6.heap.size w6 W7 := by rw [← hW7]; exact (Below.refl _ _).alloc (Nat.le_refl _) _
  have bal : Below W5.heap.size W5 W7 := belowCall bb al bb.size
  have S7 : Hid (Blk W7 g7 (O3 6 1 (.slice sa sl sc)) 29) := by rw [← hW7, ← hg7]; exact Blk.new _ _ _
  have K7 : Hid (Blk W7 g4 (O3 rc ra (.slice oa hl oc)) 29) := K5.out.below bal K5.out.lt
  have B27 : Hid (Below w2.heap.size w2 W7) := belowCall B25.out bal B25.out.size
  have HW7 : Hid (w6.alloc (Obj.cells (O3 6 1 (.slice sa sl sc)) 29) = W7 ∧ w6.heap.size = g7) := ⟨hW7, hg7⟩
  clear al bal bb hW7 hg7 K5 B25 HRS5
  have y0 := S7.out.cell 0
  have y1 := S7.out.cell 1
  have yl := S7.out.lt
  simp at y0 y1
  go_upto_region 6 with fail
  rw [HW7.out.1, HW7.out.2]
  clear HW7
  have x0 := K7.out.cell 0
  have x1 := K7.out.cell 1
  have xl := K7.out.lt
  simp at x0 x1
  go_wp2_with (fail)
  refine (subsM_c _ cs W7 (HRS.out.below B27.out) HCL.out.1).mono ?_
  rintro e w8 ⟨r, rfl, hr, b8⟩
  have K8 : Hid (Blk w8 g4 (O3 rc ra (.slice oa hl oc)) 29) := K7.out.below b8 K7.out.lt
  have B28 : Hid (Below w2.heap.size w2 w8) := belowCall B27.out b8 B27.out.size
  have HRR : Hid (r = true ↔ SbOk cs) := hr
  clear b8 hr x0 x1 xl y0 y1 yl K7 B27 S7
  have x0 := K8.out.cell 0
  have x1 := K8.out.cell 1
  have xl := K8.out.lt
  simp at x0 x1
  have hOUT : Hid (∀ (W : World), Below w2.heap.size w2 W → Below w.heap.size w W) := fun W h => belowCall HB2.out h HB2.out.size
  by_cases hin : r = true ∧ 0 ≤ ra ∧ ra < N ∧ f < N
  case neg =>
    have hfn : decide (f < 0) = false := by simp; omega
    cases r with
    | false =>
      go_upto_region 9 with fail
      obtain ⟨b8, hb8⟩ : ∃ q, (rc == 8) = q := ⟨_, rfl⟩
      have hbb : (b8 == b8) = true := by simp
      obtain ⟨S, hS⟩ : ∃ S : World → Prop, ∀ W, S W ↔ W.cell? ⟨g4, 0, none⟩ = some (.int .i64 rc) := ⟨_, fun _ => Iff.rfl⟩
      have t2 : ∀ W : At S, W.wd.cell? ⟨g4, 0, none⟩ = some (.int .i64 rc) := fun W => (hS _).1 W.ok
      have HSI : Hid (∀ W, Below w8.heap.size w8 W → S W) := fun W h => (hS W).2 (by rw [h.cell K8.out.lt]; exact x0)
      have HS0 : Hid (S w8.drew) := HSI.out _ (Below.refl _ _).drew
      have ne1 : Nonempty (At S) := ⟨⟨w8.drew, HS0.out⟩⟩
      clear hS
      refine region_anyS S (by kernel_rfl) ?_
      refine anyS_quiet [true, true, true, true, true, true, false, false, false, false, false] 5 rfl (by kernel_rfl) (fun _ _ _ _ _ h => h) HS0.out ?_
      simp only [selT]
      repeat (go_big_quiet_step (fail))
      refine wpQuiet_nil ?_
      clear t2 ne1
      refine anyS_one 6 (by kernel_rfl) rfl ?_
      go_wp2_with (fail)
      refine (routeM_c _ cs f t w8.drew (HRS.out.below (belowCall B28.out (Below.refl _ _).drew B28.out.size)) HCL.out.1).mono ?_
      rintro e wx ⟨ov, rfl, -, bx⟩
      rw [HRT.out]
      dsimp only
      have BX : Hid (Below w8.heap.size w8 wx) := (Below.refl _ _).drew.trans bx
      have SX : Hid (S wx) := HSI.out _ BX.out
      have hfld : ∀ W : World, (Instr.field 29 (.agg (O3 rc ra ov)) 0).run Try.prog W = .ok (.int .i64 rc) W := fun W => fld29 rc ra ov W
      have HBE : Hid (Below w.heap.size w wx) := hOUT.out _ (belowCall B28.out BX.out B28.out.size)
      clear bx BX
      go_wp2
      refine ⟨SX.out, ?_⟩
      refine anyS_one 7 (by kernel_rfl) rfl ?_
      go_wp2
      refine ⟨SX.out, ?_⟩
      refine anyS_one 8 (by kernel_rfl) rfl ?_
      go_wp2
      refine ⟨SX.out, ?_⟩
      refine anyS_one 9 (by kernel_rfl) rfl ?_
      go_wp2
      refine ⟨SX.out, ?_⟩
      refine anyS_one 10 (by kernel_rfl) rfl ?_
      go_wp2
      refine ⟨SX.out, ?_⟩
      refine anyS_end (by kernel_rfl) ?_
      go_wp2
      go_ret
      exact ⟨rfl, HBE.out⟩
    | true =>
      by_cases q1 : ra < 0
      · have q1d : decide (ra < 0) = true := by simp; omega
        go_upto_region 9 with fail
        obtain ⟨b8, hb8⟩ : ∃ q, (rc == 8) = q := ⟨_, rfl⟩
        have hbb : (b8 == b8) = true := by simp
        obtain ⟨S, hS⟩ : ∃ S : World → Prop, ∀ W, S W ↔ W.cell? ⟨g4, 0, none⟩ = some (.int .i64 rc) := ⟨_, fun _ => Iff.rfl⟩
        have t2 : ∀ W : At S, W.wd.cell? ⟨g4, 0, none⟩ = some (.int .i64 rc) := fun W => (hS _).1 W.ok
        have HSI : Hid (∀ W, Below w8.heap.size w8 W → S W) := fun W h => (hS W).2 (by rw [h.cell K8.out.lt]; exact x0)
        have HS0 : Hid (S w8.drew) := HSI.out _ (Below.refl _ _).drew
        have ne1 : Nonempty (At S) := ⟨⟨w8.drew, HS0.out⟩⟩
        clear hS
        refine region_anyS S (by kernel_rfl) ?_
        refine anyS_quiet [true, true, true, true, true, true, false, false, false, false, false] 5 rfl (by kernel_rfl) (fun _ _ _ _ _ h => h) HS0.out ?_
        simp only [selT]
        repeat (go_big_quiet_step (fail))
        refine wpQuiet_nil ?_
        clear t2 ne1
        refine anyS_one 6 (by kernel_rfl) rfl ?_
        go_wp2_with (fail)
        refine (routeM_c _ cs f t w8.drew (HRS.out.below (belowCall B28.out (Below.refl _ _).drew B28.out.size)) HCL.out.1).mono ?_
        rintro e wx ⟨ov, rfl, -, bx⟩
        rw [HRT.out]
        dsimp only
        have BX : Hid (Below w8.heap.size w8 wx) := (Below.refl _ _).drew.trans bx
        have SX : Hid (S wx) := HSI.out _ BX.out
        have hfld : ∀ W : World, (Instr.field 29 (.agg (O3 rc ra ov)) 0).run Try.prog W = .ok (.int .i64 rc) W := fun W => fld29 rc ra ov W
        have HBE : Hid (Below w.heap.size w wx) := hOUT.out _ (belowCall B28.out BX.out B28.out.size)
        clear bx BX
        go_wp2
        refine ⟨SX.out, ?_⟩
        refine anyS_one 7 (by kernel_rfl) rfl ?_
        go_wp2
        refine ⟨SX.out, ?_⟩
        refine anyS_one 8 (by kernel_rfl) rfl ?_
        go_wp2
        refine ⟨SX.out, ?_⟩
        refine anyS_one 9 (by kernel_rfl) rfl ?_
        go_wp2
        refine ⟨SX.out, ?_⟩
        refine anyS_one 10 (by kernel_rfl) rfl ?_
        go_wp2
        refine ⟨SX.out, ?_⟩
        refine anyS_end (by kernel_rfl) ?_
        go_wp2
        go_ret
        exact ⟨rfl, HBE.out⟩
      · have q1d : decide (ra < 0) = false := by simp; omega
        by_cases q2 : (N : Int) ≤ ra
        · have q2d : decide ((N : Int) ≤ ra) = true := by simp; omega
          clear q1
          go_upto_region 9 with fail
          obtain ⟨b8, hb8⟩ : ∃ q, (rc == 8) = q := ⟨_, rfl⟩
          have hbb : (b8 == b8) = true := by simp
          obtain ⟨S, hS⟩ : ∃ S : World → Prop, ∀ W, S W ↔ W.cell? ⟨g4, 0, none⟩ = some (.int .i64 rc) := ⟨_, fun _ => Iff.rfl⟩
          have t2 : ∀ W : At S, W.wd.cell? ⟨g4, 0, none⟩ = some (.int .i64 rc) := fun W => (hS _).1 W.ok
          have HSI : Hid (∀ W, Below w8.heap.size w8 W → S W) := fun W h => (hS W).2 (by rw [h.cell K8.out.lt]; exact x0)
          have HS0 : Hid (S w8.drew) := HSI.out _ (Below.refl _ _).drew
          have ne1 : Nonempty (At S) := ⟨⟨w8.drew, HS0.out⟩⟩
          clear hS
          refine region_anyS S (by kernel_rfl) ?_
          refine anyS_quiet [true, true, true, true, true, true, false, false, false, false, false] 5 rfl (by kernel_rfl) (fun _ _ _ _ _ h => h) HS0.out ?_
          simp only [selT]
          repeat (go_big_quiet_step (fail))
          refine wpQuiet_nil ?_
          clear t2 ne1
          refine anyS_one 6 (by kernel_rfl) rfl ?_
          go_wp2_with (fail)
          refine (routeM_c _ cs f t w8.drew (HRS.out.below (belowCall B28.out (Below.refl _ _).drew B28.out.size)) HCL.out.1).mono ?_
          rintro e wx ⟨ov, rfl, -, bx⟩
          rw [HRT.out]
          dsimp only
          have BX : Hid (Below w8.heap.size w8 wx) := (Below.refl _ _).drew.trans bx
          have SX : Hid (S wx) := HSI.out _ BX.out
          have hfld : ∀ W : World, (Instr.field 29 (.agg (O3 rc ra ov)) 0).run Try.prog W = .ok (.int .i64 rc) W := fun W => fld29 rc ra ov W
          have HBE : Hid (Below w.heap.size w wx) := hOUT.out _ (belowCall B28.out BX.out B28.out.size)
          clear bx BX
          go_wp2
          refine ⟨SX.out, ?_⟩
          refine anyS_one 7 (by kernel_rfl) rfl ?_
          go_wp2
          refine ⟨SX.out, ?_⟩
          refine anyS_one 8 (by kernel_rfl) rfl ?_
          go_wp2
          refine ⟨SX.out, ?_⟩
          refine anyS_one 9 (by kernel_rfl) rfl ?_
          go_wp2
          refine ⟨SX.out, ?_⟩
          refine anyS_one 10 (by kernel_rfl) rfl ?_
          go_wp2
          refine ⟨SX.out, ?_⟩
          refine anyS_end (by kernel_rfl) ?_
          go_wp2
          go_ret
          exact ⟨rfl, HBE.out⟩
        · have q2d : decide ((N : Int) ≤ ra) = false := by simp; omega
          have q3 : (N : Int) ≤ f := by
            by_cases q : (N : Int) ≤ f
            · exact q
            · exact absurd ⟨rfl, by omega, by omega, by omega⟩ hin
          have q3d : decide ((N : Int) ≤ f) = true := by simp; omega
          clear q1 q2
          go_upto_region 9 with fail
          obtain ⟨b8, hb8⟩ : ∃ q, (rc == 8) = q := ⟨_, rfl⟩
          have hbb : (b8 == b8) = true := by simp
          obtain ⟨S, hS⟩ : ∃ S : World → Prop, ∀ W, S W ↔ W.cell? ⟨g4, 0, none⟩ = some (.int .i64 rc) := ⟨_, fun _ => Iff.rfl⟩
          have t2 : ∀ W : At S, W.wd.cell? ⟨g4, 0, none⟩ = some (.int .i64 rc) := fun W => (hS _).1 W.ok
          have HSI : Hid (∀ W, Below w8.heap.size w8 W → S W) := fun W h => (hS W).2 (by rw [h.cell K8.out.lt]; exact x0)
          have HS0 : Hid (S w8.drew) := HSI.out _ (Below.refl _ _).drew
          have ne1 : Nonempty (At S) := ⟨⟨w8.drew, HS0.out⟩⟩
          clear hS
          refine region_anyS S (by kernel_rfl) ?_
          refine anyS_quiet [true, true, true, true, true, true, false, false, false, false, false] 5 rfl (by kernel_rfl) (fun _ _ _ _ _ h => h) HS0.out ?_
          simp only [selT]
          repeat (go_big_quiet_step (fail))
          refine wpQuiet_nil ?_
          clear t2 ne1
          refine anyS_one 6 (by kernel_rfl) rfl ?_
          go_wp2_with (fail)
          refine (routeM_c _ cs f t w8.drew (HRS.out.below (belowCall B28.out (Below.refl _ _).drew B28.out.size)) HCL.out.1).mono ?_
          rintro e wx ⟨ov, rfl, -, bx⟩
          rw [HRT.out]
          dsimp only
          have BX : Hid (Below w8.heap.size w8 wx) := (Below.refl _ _).drew.trans bx
          have SX : Hid (S wx) := HSI.out _ BX.out
          have hfld : ∀ W : World, (Instr.field 29 (.agg (O3 rc ra ov)) 0).run Try.prog W = .ok (.int .i64 rc) W := fun W => fld29 rc ra ov W
          have HBE : Hid (Below w.heap.size w wx) := hOUT.out _ (belowCall B28.out BX.out B28.out.size)
          clear bx BX
          go_wp2
          refine ⟨SX.out, ?_⟩
          refine anyS_one 7 (by kernel_rfl) rfl ?_
          go_wp2
          refine ⟨SX.out, ?_⟩
          refine anyS_one 8 (by kernel_rfl) rfl ?_
          go_wp2
          refine ⟨SX.out, ?_⟩
          refine anyS_one 9 (by kernel_rfl) rfl ?_
          go_wp2
          refine ⟨SX.out, ?_⟩
          refine anyS_one 10 (by kernel_rfl) rfl ?_
          go_wp2
          refine ⟨SX.out, ?_⟩
          refine anyS_end (by kernel_rfl) ?_
          go_wp2
          go_ret
          exact ⟨rfl, HBE.out⟩
  case pos =>
  obtain ⟨hr1, hr2, hr3, hr4⟩ := hin
  subst hr1
  have HSB : Hid (SbOk cs) := HRR.out.1 rfl
  obtain ⟨F, rfl⟩ := Int.eq_ofNat_of_zero_le f0
  obtain ⟨A, rfl⟩ := Int.eq_ofNat_of_zero_le hr2
  have hF : F < N := by omega
  have hA : A < N := by omega
  obtain ⟨b, off, hua, hcell⟩ : ∃ b off, ua = some ⟨b, off, none⟩ ∧ ∀ i (h : i < lv.length), w2.cell? ⟨b, off + i * 3, none⟩ = some lv[i].1 ∧ w2.cell? ⟨b, off + i * 3 + 1, none⟩ = some lv[i].2.1 ∧ w2.cell? ⟨b, off + i * 3 + 2, none⟩ = some lv[i].2.2 := by
    rcases HQ.out with q | q
    · have := HN.out.1; rw [q] at this; simp at this; omega
    · exact q
  subst hua
  have hFl : F < lv.length := by have := HN.out; omega
  have hFc : F < cs.length := by have := HN.out; omega
  have hAl : A < lv.length := by have := HN.out; omega
  have hAc : A < cs.length := by have := HN.out; omega
  have fv1 := (hcell F hFl).2.2
  have fv2 := (hcell A hAl).2.2
  have fr1 := HE3.out F hFc hFl
  have fr2 := HE3.out A hAc hAl
  obtain ⟨FS, hFS⟩ : ∃ x, cs[F].2.2 = x := ⟨_, rfl⟩
  obtain ⟨AS, hAS⟩ : ∃ x, cs[A].2.2 = x := ⟨_, rfl⟩
  obtain ⟨p1, p1c, hp1, -, p1m, p1r⟩ := fr1
  obtain ⟨p2, p2c, hp2, -, p2m, p2r⟩ := fr2
  rw [hFS] at hp1 p1r
  rw [hAS] at hp2 p2r
  obtain ⟨n1, hn1⟩ : ∃ q, FS.length = q := ⟨_, rfl⟩
  obtain ⟨n2, hn2⟩ : ∃ q, AS.length = q := ⟨_, rfl⟩
  rw [hn1] at hp1
  rw [hn2] at hp2
  rw [hp1] at fv1
  rw [hp2] at fv2
  have hbl : b < w2.heap.size := block_lt_of_cell fv1
  have HFV1 : Hid (∀ W, Below w2.heap.size w2 W → W.cell? ⟨b, off + F * 3 + 2, none⟩ = some (.slice p1 n1 p1c)) := fun W h => by rw [h.cell hbl]; exact fv1
  have HFV2 : Hid (∀ W, Below w2.heap.size w2 W → W.cell? ⟨b, off + A * 3 + 2, none⟩ = some (.slice p2 n2 p2c)) := fun W h => by rw [h.cell hbl]; exact fv2
  have HN1 : Hid (FS.length = n1 ∧ n1 ≤ 1048576) := ⟨hn1, by have := HCL.out.2 cs[F] (List.getElem_mem hFc); rw [hFS, hn1] at this; exact this⟩
  have HN2 : Hid (AS.length = n2 ∧ n2 ≤ 1048576) := ⟨hn2, by have := HCL.out.2 cs[A] (List.getElem_mem hAc); rw [hAS, hn2] at this; exact this⟩
  have HR1 : Hid (FS = [] ∨ ∃ b off, p1 = some ⟨b, off, none⟩ ∧ ∀ i (h : i < FS.length), w2.cell? ⟨b, off + i * 2, none⟩ = some (mf FS[i]) ∧ w2.cell? ⟨b, off + i * 2 + 1, none⟩ = some (mg FS[i])) := p1r
  have HR2 : Hid (AS = [] ∨ ∃ b off, p2 = some ⟨b, off, none⟩ ∧ ∀ i (h : i < AS.length), w2.cell? ⟨b, off + i * 2, none⟩ = some (mf AS[i]) ∧ w2.cell? ⟨b, off + i * 2 + 1, none⟩ = some (mg AS[i])) := p2r
  have HPV : Hid (prvB cs F = FS.any (fun x => x.1 == 7)) := by
    show _ = _
    unfold prvB fsOf
    have e1 : cs.getD F sb0 = cs[F] := by rw [List.getD_eq_getElem?_getD, List.getElem?_eq_getElem hFc]; rfl
    rw [e1, hFS]
    have := (HSB.out.at F hFc).all
    rw [e1, hFS] at this
    exact has7 FS this
  have HTK : Hid ((rc = 1 ∨ rc = 2 ∨ rc = 3) → AS.any (scF (prvB cs F) (F : Int)) = false) := by
    intro h
    have := HPP.out h
    unfold fsOf at this
    have e1 : cs.getD A sb0 = cs[A] := by rw [List.getD_eq_getElem?_getD, List.getElem?_eq_getElem hAc]; rfl
    simp only [Int.toNat_natCast] at this
    rw [e1, hAS] at this
    exact this
  have hd1 : decide ((A : Int) < 0) = false := by simp
  have hd2 : decide ((N : Int) ≤ (A : Int)) = false := by simp; omega
  have hd3 : decide ((F : Int) < 0) = false := by simp
  have hd4 : decide ((N : Int) ≤ (F : Int)) = false := by simp; omega
  have hFI : (F : Int) < (N : Int) := by omega
  have hAI : (A : Int) < (N : Int) := by omega
  have hFI0 : (0 : Int) ≤ (F : Int) := by omega
  have hAI0 : (0 : Int) ≤ (A : Int) := by omega
  clear hcell fv1 fv2 p1r p2r hp1 hp2 hn1 hn2 hFS hAS p1m p2m
  have h1m := HN1.out.2
  have h2m := HN2.out.2
  obtain ⟨PW, hPW⟩ : ∃ P : World → Prop, ∀ W, P W ↔ W = w8 := ⟨_, fun _ => Iff.rfl⟩
  have HPW : Hid (∀ W, PW W ↔ W = w8) := hPW
  clear hPW
  go_wp2
  go_loopw [8, 9] (fun pv i wr => ∃ (j : Nat) (p : Bool), i = .int .i64 j ∧ pv = .bool p ∧ Hid (p = (FS.take j).any (fun x => x.1 == 7) ∧ j ≤ n1) ∧ Hid (PW wr)) (fun _ i _ => n1 - (intOf i).toNat)
  case atStart => exact ⟨0, false, rfl, rfl, ⟨by simp, Nat.zero_le _⟩, (HPW.out _).2 rfl⟩
  case round =>
    obtain ⟨j, p, rfl, rfl, hjp, hw⟩ := hrel
    have hww := (HPW.out _).1 hw.out
    clear hw
    subst hww
    have cF := HFV1.out wr B28.out
    have hjn := hjp.out.2
    by_cases hlt : j < n1
    case pos =>
      obtain ⟨fb, fo, hp1, hfc⟩ : ∃ b off, p1 = some ⟨b, off, none⟩ ∧ ∀ i (h : i < FS.length), w2.cell? ⟨b, off + i * 2, none⟩ = some (mf FS[i]) ∧ w2.cell? ⟨b, off + i * 2 + 1, none⟩ = some (mg FS[i]) := by
        rcases HR1.out with q | q
        · have := HN1.out.1; rw [q] at this; simp at this; omega
        · exact q
      subst hp1
      have hjf : j < FS.length := by have := HN1.out.1; omega
      obtain ⟨kd, hkd⟩ : ∃ q, FS[j].1 = q := ⟨_, rfl⟩
      have hck : wr.cell? ⟨fb, fo + j * 2, none⟩ = some (.int .i64 kd) := by
        have h1 := (hfc j hjf).1
        rw [B28.out.cell (block_lt_of_cell h1), h1, ← hkd]
      have HNX : Hid ((FS.take (j + 1)).any (fun x => x.1 == 7) = (p || kd == 7)) := by
        show _ = _
        rw [List.take_succ_eq_append_getElem hjf, List.any_append, ← hjp.out.1]
        simp [hkd]
      have hi0 : (0 : Int) ≤ (j : Int) := by omega
      have hi1 : (j : Int) < (n1 : Int) := by omega
      clear hfc hkd
      cases p
      · by_cases q7 : kd = 7
        · have q7d : (kd == 7) = true := by simp [q7]
          have HNY : Hid (true = (FS.take (j + 1)).any (fun x => x.1 == 7) ∧ j + 1 ≤ n1) := ⟨by rw [HNX.out, q7d]; rfl, by omega⟩
          clear q7
          go_wp2
          go_roundw
          case rel => exact ⟨j + 1, true, by go_num, rfl, HNY.out, (HPW.out _).2 rfl⟩
          case measure => simp [intOf]; omega
        · have q7d : (kd == 7) = false := by simp [q7]
          have HNY : Hid (false = (FS.take (j + 1)).any (fun x => x.1 == 7) ∧ j + 1 ≤ n1) := ⟨by rw [HNX.out, q7d]; rfl, by omega⟩
          clear q7
          go_wp2
          go_roundw
          case rel => exact ⟨j + 1, false, by go_num, rfl, HNY.out, (HPW.out _).2 rfl⟩
          case measure => simp [intOf]; omega
      · have HNY : Hid (true = (FS.take (j + 1)).any (fun x => x.1 == 7) ∧ j + 1 ≤ n1) := ⟨by rw [HNX.out]; rfl, by omega⟩
        go_wp2
        go_roundw
        case rel => exact ⟨j + 1, true, by go_num, rfl, HNY.out, (HPW.out _).2 rfl⟩
        case measure => simp [intOf]; omega
    case neg =>
    obtain rfl : n1 = j := by omega
    have HPB : Hid (p = prvB cs F) := by
      show _ = _
      rw [HPV.out, hjp.out.1, List.take_of_length_le (by have := HN1.out.1; omega)]
    clear hlt hjn
    go_wp2
    go_loopw [10] (fun i wr' => ∃ j : Nat, i = .int .i64 j ∧ Hid (j ≤ n2) ∧ Hid (Below w2.heap.size w2 wr') ∧ Hid (Blk wr' g4 (O3 rc (A : Int) (.slice oa hl oc)) 29)) (fun i _ => n2 - (intOf i).toNat)
    case atStart => exact ⟨0, rfl, Nat.zero_le _, B28.out, K8.out⟩
    case round =>
      obtain ⟨j, rfl, hj, BR, KR⟩ := hrel
      clear x0 x1 xl cF K8 B28
      have x0 := KR.out.cell 0
      have x1 := KR.out.cell 1
      have xl := KR.out.lt
      simp at x0 x1
      have cA := HFV2.out _ BR.out
      have hjn := hj.out
      have HBE : Hid (Below w.heap.size w wr) := hOUT.out _ BR.out
      by_cases hlt : j < n2
      case neg =>
        obtain rfl : n2 = j := by omega
        clear hlt hjn
        go_wp2
        go_ret
        exact ⟨rfl, HBE.out⟩
      case pos =>
      obtain ⟨fb, fo, hp2, hfc⟩ : ∃ b off, p2 = some ⟨b, off, none⟩ ∧ ∀ i (h : i < AS.length), w2.cell? ⟨b, off + i * 2, none⟩ = some (mf AS[i]) ∧ w2.cell? ⟨b, off + i * 2 + 1, none⟩ = some (mg AS[i]) := by
        rcases HR2.out with q | q
        · have := HN2.out.1; rw [q] at this; simp at this; omega
        · exact q
      subst hp2
      have hjf : j < AS.length := by have := HN2.out.1; omega
      obtain ⟨kd, hkd⟩ : ∃ q, AS[j].1 = q := ⟨_, rfl⟩
      obtain ⟨ot, hot⟩ : ∃ q, AS[j].2 = q := ⟨_, rfl⟩
      have hck : wr.cell? ⟨fb, fo + j * 2, none⟩ = some (.int .i64 kd) := by
        have h1 := (hfc j hjf).1
        rw [BR.out.cell (block_lt_of_cell h1), h1, ← hkd]
      have hco : wr.cell? ⟨fb, fo + j * 2 + 1, none⟩ = some (.int .i64 ot) := by
        have h1 := (hfc j hjf).2
        rw [BR.out.cell (block_lt_of_cell h1), h1, ← hot]
      have HSC : Hid ((rc = 1 ∨ rc = 2 ∨ rc = 3) → (kd == 5 && (p || ot == (F : Int))) = false) := by
        intro h
        have h1 := HTK.out h
        rw [List.any_eq_false] at h1
        have h2 := h1 AS[j] (List.getElem_mem hjf)
        unfold scF at h2
        rw [hkd, hot, ← HPB.out] at h2
        simpa using h2
      have hi0 : (0 : Int) ≤ (j : Int) := by omega
      have hi1 : (j : Int) < (n2 : Int) := by omega
      obtain ⟨WN, hWN⟩ : ∃ W, wr.alloc (Obj.cells (H2 kd ot) 37) = W := ⟨_, rfl⟩
      have al : Below wr.heap.size wr WN := by rw [← hWN]; exact (Below.refl _ _).alloc (Nat.le_refl _) _
      have BN : Hid (Below w2.heap.size w2 WN) := belowCall BR.out al BR.out.size
      have KN : Hid (Blk WN g4 (O3 rc (A : Int) (.slice oa hl oc)) 29) := KR.out.below al KR.out.lt
      obtain ⟨gf, hgf⟩ : ∃ k, wr.heap.size = k := ⟨_, rfl⟩
      have KF : Hid (Blk WN gf (H2 kd ot) 37) := by rw [← hWN, ← hgf]; exact Blk.new _ _ _
      have HWN : Hid (wr.alloc (Obj.cells (H2 kd ot) 37) = WN ∧ wr.heap.size = gf) := ⟨hWN, hgf⟩
      clear al hWN hgf hfc hkd hot
      go_upto_region 19 with fail
      rw [HWN.out.1, HWN.out.2]
      clear HWN x0 x1 xl cA hck hco
      have x0 := KN.out.cell 0
      have xl := KN.out.lt
      have z0 := KF.out.cell 0
      have z1 := KF.out.cell 1
      have zl := KF.out.lt
      simp at x0 z0 z1
      have HJN : Hid (j + 1 ≤ n2) := by show _ ≤ _; omega
      by_cases q5 : kd = 5
      case neg =>
        have q5d : (kd == 5) = false := by simp [q5]
        clear q5
        go_wp2
        go_roundw
        case rel => exact ⟨j + 1, by go_num, HJN.out, BN.out, KN.out⟩
        case measure => simp [intOf]; omega
      case pos =>
      have q5d : (kd == 5) = true := by simp [q5]
      clear q5
      by_cases qc : rc = 1 ∨ rc = 2 ∨ rc = 3
      · have hs := HSC.out qc
        rw [q5d, Bool.true_and, Bool.or_eq_false_iff] at hs
        obtain ⟨hs1, hs2⟩ := hs
        subst hs1
        clear qc
        go_wp2
        go_roundw
        case rel => exact ⟨j + 1, by go_num, HJN.out, BN.out, KN.out⟩
        case measure => simp [intOf]; omega
      · have c1 : (rc == 1) = false := by simp; omega
        have c2 : (rc == 2) = false := by simp; omega
        have c3 : (rc == 3) = false := by simp; omega
        clear qc
        cases p
        · by_cases qo : ot = (F : Int)
          · have qod : (ot == (F : Int)) = true := by simp [qo]
            clear qo
            go_wp2
            go_roundw
            case rel => exact ⟨j + 1, by go_num, HJN.out, BN.out, KN.out⟩
            case measure => simp [intOf]; omega
          · have qod : (ot == (F : Int)) = false := by simp [qo]
            clear qo
            go_wp2
            go_roundw
            case rel => exact ⟨j + 1, by go_num, HJN.out, BN.out, KN.out⟩
            case measure => simp [intOf]; omega
        · go_wp2
          go_roundw
          case rel => exact ⟨j + 1, by go_num, HJN.out, BN.out, KN.out⟩
          case measure => simp [intOf]; omega
end Go.Proofs.Ytfaflnhembceoaa

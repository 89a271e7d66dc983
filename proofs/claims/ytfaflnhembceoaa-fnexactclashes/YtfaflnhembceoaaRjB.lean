/- The program's route; no condition. -/
import Derived.Test.YtfaflnhembceoaaRjA
import Derived.Deep.DeepCutAuto
namespace Go.Proofs.Ytfaflnhembceoaa
open Go.RowKit Go.ChangeShapes Go.WideShapes Go.ChangeAt
set_option linter.unusedVariables false
set_option linter.unusedSimpArgs false
set_option maxRecDepth 8000
theorem appI' {ops : Array Oper} {rest : List Oper} {o : Oper} {a : Act} {w : World} {Q : Exit → Act → World → Prop} (hgd : o.guard = none) (s x : Operand)
    (ho : o.op = .call { callee := .builtin .append, args := #[s, x], argTypes := #[27, 27] }) (base : Nat) (v : Value) (zs : List Int) (hs : a.eval s = v) (hown : Ow .i64 3 base w v zs)
    (g : Nat) (z : Int) (hx : a.eval x = .slice (some ⟨g, 0, none⟩) 1 1) (hc : w.cell? ⟨g, 0, none⟩ = some (.int .i64 z)) (hl : zs.length ≤ 1099511627776) (hbase : base ≤ w.heap.size)
    (h : ∀ v' w', Ow .i64 3 base w' v' (zs ++ [z]) → w.grownBy w' v.ownBlock → wpList Try.prog ops Q rest (a.put o.dst v') w') : wpList Try.prog ops Q (o :: rest) a w := by
  obtain ⟨i0, hi, hz0, hz1, hz2⟩ := info_parts toIInfo
  refine wpList_append_own w hgd s x 27 ho base 3 i0 (.int .i64 0) 1 8 Try.underlying27 hi hz0 hz1 hz2 rfl (by decide) v zs.length (zs.map (Value.int .i64)) hs hown ⟨g, 0, none⟩ 1 1 [.int .i64 z] hx rfl ?_ ?_ ?_ ?_ hbase ?_
  · intro j u hj
    match j, hj with
    | 0, hj => simp at hj; subst hj; simpa [Addr.add] using hc
  · intro u hu; simp at hu; subst hu; rfl
  · unfold maxLen; omega
  · omega
  · intro v' w' h1 h2 h3
    refine h v' w' ?_ h2
    simpa [Ow] using h1
set_option maxHeartbeats 25600000 in
theorem route_c (v : Value) (cs : Sbs) (F U : Nat) (w : World) (h : RdL w v cs) (hok : SbOk cs) (hF0 : F < cs.length) (hU0 : U < cs.length) : Calls Try.prog 42 #[v, .agg #[.int .i64 (F : Int), .int .i64 (U : Int)]] w (RtR (rgF cs F U) w) := by
  have HRD : Hid (RdL w v cs) := h
  have HOK : Hid (SbOk cs) := hok
  obtain ⟨a, cap, rfl, g1, g2⟩ := h.len
  unfold maxLen at g2
  obtain ⟨n, hnn⟩ : ∃ n, cs.length = n := ⟨_, rfl⟩
  have HN : Hid (cs.length = n) := hnn
  have hn16 : 1 ≤ n ∧ n ≤ 16 := by have := hok.1; have := hok.2.1; omega
  have hFl : F < cs.length := hF0
  have hF : F < n := by omega
  have hU : U < n := by omega
  have HFS : Hid (fsOf cs F = cs[F].2.2) := fsOf_at hFl
  have HAL : Hid (∀ x ∈ cs[F].2.2, ftB n x = true) := by
    have := (hok.at F hFl).all
    rw [show (cs.getD F sb0).2.2 = cs[F].2.2 from HFS.out, hnn] at this; exact this
  obtain ⟨b, off, v1, rfl, hcb, hRf, d0, d1, d2⟩ := h.at F hFl
  rw [hnn] at g1 HRD ⊢
  clear h hnn hok hF0 hU0
  obtain ⟨a1, cap1, rfl, -⟩ := id hRf
  obtain ⟨p, hp⟩ : ∃ p, cs[F].1 = p := ⟨_, rfl⟩
  obtain ⟨q, hq⟩ : ∃ q, cs[F].2.1 = q := ⟨_, rfl⟩
  obtain ⟨L1, hL1⟩ : ∃ L, cs[F].2.2.length = L := ⟨_, rfl⟩
  rw [hp] at d0
  rw [hq] at d1
  rw [hL1] at d2 hRf
  have HR1 : Hid (Rx w (.slice a1 L1 cap1) cs[F].2.2) := hRf
  obtain ⟨s0, hs0⟩ : ∃ s0, w.heap.size = s0 := ⟨_, rfl⟩
  have HS0 : Hid (w.heap.size = s0) := hs0
  obtain ⟨W0, hW0⟩ : ∃ W0, (w.alloc (Obj.cells #[.int .i64 (F : Int), .int .i64 (U : Int)] 68)).alloc (Obj.cells (O3 0 0 (.slice none 0 0)) 29) = W0 := ⟨_, rfl⟩
  have hb0 : Below w.heap.size w W0 := hW0 ▸ ((Below.refl _ _).alloc (Nat.le_refl _) _).alloc (by simp) _
  have B0 : Hid (Below w.heap.size w W0) := hb0
  have kp : Blk W0 s0 #[.int .i64 (F : Int), .int .i64 (U : Int)] 68 := hs0 ▸ hW0 ▸ (Blk.new _ _ _).alloc _
  have KP0 : Hid (Blk W0 s0 #[.int .i64 (F : Int), .int .i64 (U : Int)] 68) := kp
  have KR0 : Hid (Blk W0 (s0 + 1) (O3 0 0 (.slice none 0 0)) 29) := hs0 ▸ hW0 ▸ Blk.newAt _ (w.heap.size + 1) _ 29 (by simp)
  have FIN : Hid (∀ (W : World) (c a : Int) (v : Value) (hops : List Int) (cells : Array Value), Blk W (s0 + 1) cells 29 → cells.size = 3 → Ow .i64 3 (s0 + 2) W v hops → Below w.heap.size w W → rgF cs F U = (c, a, hops) → ∀ A : Act, A.tmps.getD 4 undef = .pointer (some ⟨s0 + 1, 0, none⟩) → A.defers = [] → bodyPost Try.prog Try.f42 (RtR (rgF cs F U) w) Exit.ret A (((W.setCell ⟨s0 + 1, 0, none⟩ (.int .i64 c)).setCell ⟨s0 + 1, 1, none⟩ (.int .i64 a)).setCell ⟨s0 + 1, 2, none⟩ v)) := by
    intro W c a v hops cells hk hc ho hb he A hA hD
    obtain ⟨q1, q2, q3⟩ := rt_finR (R := s0 + 1) c a (by omega) hk hc ho hb
    rw [he]
    exact bodyPost_ret (v := .agg (O3 c a v)) (results_cell_row rfl _ _ _ 29 _ (0, 0) _ hA q1 Try.underlying29 rfl size29) hD ⟨v, rfl, q2, q3⟩
  have x0 := kp.cell 0
  have x1 := kp.cell 1
  simp at x0 x1
  have c0 := (hb0.cell (p := ⟨b, off + F * 3, none⟩) hcb).trans d0
  have c1 := (hb0.cell (p := ⟨b, off + F * 3 + 1, none⟩) hcb).trans d1
  have c2 := (hb0.cell (p := ⟨b, off + F * 3 + 2, none⟩) hcb).trans d2
  have D0 : Hid (w.cell? ⟨b, off + F * 3, none⟩ = some (.bool p) ∧ w.cell? ⟨b, off + F * 3 + 1, none⟩ = some (.bool q) ∧ w.cell? ⟨b, off + F * 3 + 2, none⟩ = some (.slice a1 L1 cap1)) := ⟨d0, d1, d2⟩
  clear hp hq hL1 hb0 kp d0 d1 d2 hRf
  go_enter Try.func42, Try.ntmps42
  go_wp2_with (fail)
  clear hW0
  refine (marked_c p q _ cs[F].2.2 4 W0 (HR1.out.below B0.out)).mono ?_
  rintro e w1 ⟨rfl, b1⟩
  have B1 : Hid (Below w.heap.size w w1) := belowCall B0.out b1 B0.out.size
  have KP1 : Hid (Blk w1 s0 #[.int .i64 (F : Int), .int .i64 (U : Int)] 68) := KP0.out.below b1 KP0.out.lt
  have KR1 : Hid (Blk w1 (s0 + 1) (O3 0 0 (.slice none 0 0)) 29) := KR0.out.below b1 KR0.out.lt
  obtain ⟨m4, hm4⟩ : ∃ z, cs[F].2.2.any (fun x => x.1 == 4) = z := ⟨_, rfl⟩
  have H4 : Hid (decide (0 ≤ hasV (fsOf cs F) 4) = m4) := by
    show decide (0 ≤ hasV (fsOf cs F) 4) = m4
    rw [HFS.out, hasV_any _ 4 HAL.out]; exact hm4
  rw [hm4]
  clear hm4 b1 B0 KP0 KR0 x0 x1 c0 c1 c2
  have y0 := KP1.out.cell 0
  have y1 := KP1.out.cell 1
  simp at y0 y1
  cases m4 with
  | true =>
    have HY : Hid (rgF cs F U = (5, (F : Int), [])) := by
      show rgF cs F U = (5, (F : Int), [])
      rw [rgF, if_pos (of_decide_eq_true H4.out)]
    have r0 := KR1.out.cell 0
    have r1 := KR1.out.cell 1
    have r2 := KR1.out.cell 2
    have rz0 := KR1.out.frozen 0
    have rz1 := KR1.out.frozen 1
    have rz2 := KR1.out.frozen 2
    simp at r0 r1 r2
    go_wp2
    exact FIN.out _ 5 F _ [] _ KR1.out rfl (Ow.nil ..) B1.out HY.out _ rfl rfl
  | false =>
  have HGO : Hid (rgF cs F U = goR cs F 7 U []) := by
    show rgF cs F U = goR cs F 7 U []
    rw [rgF, if_neg (of_decide_eq_false H4.out)]
  have HPV : Hid (cs[F].2.2.any (fun x => x.1 == 7) = prvB cs F) := by
    show cs[F].2.2.any (fun x => x.1 == 7) = prvB cs F
    rw [prvB, HFS.out, hasV_any _ 7 HAL.out]
  obtain ⟨pv, hpv⟩ : ∃ z, prvB cs F = z := ⟨_, rfl⟩
  have HPQ : Hid (prvB cs F = pv) := hpv
  rw [hpv] at HPV
  obtain ⟨R, hR⟩ : ∃ R, rgF cs F U = R := ⟨_, rfl⟩
  have HRR : Hid (rgF cs F U = R) := hR
  rw [hR] at HGO
  clear H4 hpv hR y0 y1
  obtain ⟨S, hS⟩ : ∃ S : World → Prop, ∀ W, S W ↔ Below w1.heap.size w1 W := ⟨_, fun _ => Iff.rfl⟩
  have hb1 : b < w1.heap.size := by have := B1.out.size; omega
  have t0 : ∀ W : At S, W.wd.cell? ⟨b, off + F * 3, none⟩ = some (.bool p) := fun W => (((hS _).1 W.ok).cell hb1).trans ((B1.out.cell hcb).trans D0.out.1)
  have t1 : ∀ W : At S, W.wd.cell? ⟨b, off + F * 3 + 1, none⟩ = some (.bool q) := fun W => (((hS _).1 W.ok).cell hb1).trans ((B1.out.cell hcb).trans D0.out.2.1)
  have t2 : ∀ W : At S, W.wd.cell? ⟨b, off + F * 3 + 2, none⟩ = some (.slice a1 L1 cap1) := fun W => (((hS _).1 W.ok).cell hb1).trans ((B1.out.cell hcb).trans D0.out.2.2)
  have t3 : ∀ W : At S, W.wd.cell? ⟨s0, 0, none⟩ = some (.int .i64 (F : Int)) := fun W => (((hS _).1 W.ok).cell KP1.out.lt).trans (KP1.out.cell 0)
  have HSI : Hid (∀ W, Below w1.heap.size w1 W → S W) := fun W h => (hS W).2 h
  have HSD : Hid (S w1.drew) := HSI.out _ (Below.refl _ _).drew
  have ne1 : Nonempty (At S) := ⟨⟨_, HSD.out⟩⟩
  clear hS hb1
  go_upto_region 3 with fail
  go_cut [5] (fun t5 wx => ∃ gp : Nat, t5 = .pointer (some ⟨gp, 0, none⟩) ∧ w1.heap.size ≤ gp ∧ Hid (Below w1.heap.size w1 wx) ∧ Hid (Blk wx gp #[.int .i64 (F : Int), .bool pv] 107))
  case first =>
    refine region_anyS S (by kernel_rfl) ?_
    refine anyS_quiet [true, true, true, true, true, true, true, false, false, false, false] 4 rfl (by kernel_rfl) (fun _ _ _ _ _ h => h) HSD.out ?_
    simp only [selT]
    repeat (go_big_quiet_step (fail))
    refine wpQuiet_nil ?_
    clear t0 t1 t2 t3 HSD ne1
    have BD : Hid (Below w1.heap.size w1 w1.drew) := (Below.refl _ _).drew
    obtain ⟨u0, hu0⟩ : ∃ x, w1.drew = x := ⟨_, rfl⟩
    rw [hu0] at BD ⊢
    clear hu0
    refine anyS_two 7 9 (by kernel_rfl) rfl rfl ?_ ?_
    · refine ?_
      go_wp2_with (fail)
      refine (marked_c p q _ cs[F].2.2 7 u0 (HR1.out.below (belowCall B1.out BD.out B1.out.size))).mono ?_
      rintro e w2 ⟨rfl, b2⟩
      have BD2 : Hid (Below w1.heap.size w1 w2) := belowCall BD.out b2 BD.out.size
      have SB2 : Hid (S w2) := HSI.out _ BD2.out
      rw [HPV.out]
      clear b2
      go_wp2
      refine ⟨SB2.out, ?_⟩
      refine anyS_quiet [false, false, false, false, false, false, false, false, true, false, false] 2 rfl (by kernel_rfl) (fun _ _ _ _ _ h => h) SB2.out ?_
      simp only [selT]
      have ne3 : Nonempty (At S) := ⟨⟨_, SB2.out⟩⟩
      repeat (go_big_quiet_step (fail))
      refine wpQuiet_nil ?_
      clear ne3
      refine anyS_one 9 (by kernel_rfl) rfl ?_
      obtain ⟨w3, hw3⟩ : ∃ W, w2.alloc (Obj.cells #[.int .i64 0, .bool false] 107) = W := ⟨_, rfl⟩
      have bA : Below w2.heap.size w2 w3 := hw3 ▸ (Below.refl _ _).alloc (Nat.le_refl _) _
      have BDA : Hid (Below w1.heap.size w1 w3) := belowCall BD2.out bA BD2.out.size
      obtain ⟨gp, hgp⟩ : ∃ gp, w2.heap.size = gp := ⟨_, rfl⟩
      have KW : Hid (Blk w3 gp #[.int .i64 0, .bool false] 107) := hgp ▸ hw3 ▸ Blk.new _ _ _
      have hgw : w1.heap.size ≤ gp := by rw [← hgp]; exact BD2.out.size
      have SBA : Hid (S w3) := HSI.out _ BDA.out
      clear bA
      go_wp2
      clear hw3 hgp
      refine ⟨SBA.out, ?_⟩
      have KWW : Hid (Blk w3 gp #[.int .i64 0, .bool false] 107) := KW.out
      have BDW : Hid (Below w1.heap.size w1 w3) := BDA.out
      clear KW BDA SBA BD2 SB2
      refine anyS_one 10 (by kernel_rfl) rfl ?_
      have k0 := KWW.out.cell 0
      have k1 := KWW.out.cell 1
      have kz0 := KWW.out.frozen 0
      have kz1 := KWW.out.frozen 1
      simp at k0 k1
      obtain ⟨w4, hw4⟩ : ∃ W, (w3.setCell ⟨gp, 0, none⟩ (.int .i64 (F : Int))).setCell ⟨gp, 1, none⟩ (.bool pv) = W := ⟨_, rfl⟩
      have BD4 : Hid (Below w1.heap.size w1 w4) := hw4 ▸ (BDW.out.setCell (by exact hgw) _).setCell (by exact hgw) _
      have KW4 : Hid (Blk w4 gp #[.int .i64 (F : Int), .bool pv] 107) := hw4 ▸ (KWW.out.set 0 _).set 1 _
      have SB4 : Hid (S w4) := HSI.out _ BD4.out
      clear KWW BDW
      go_wp2
      clear hw4 k0 k1 kz0 kz1
      refine ⟨SB4.out, ?_⟩
      refine anyS_end (by kernel_rfl) ?_
      go_wp2_with fail
      go_meet
      case rel => exact ⟨gp, rfl, hgw, BD4.out, KW4.out⟩
    · refine ?_
      obtain ⟨u1, hu1⟩ : ∃ W, u0.alloc (Obj.cells #[.int .i64 0, .bool false] 107) = W := ⟨_, rfl⟩
      have bA : Below u0.heap.size u0 u1 := hu1 ▸ (Below.refl _ _).alloc (Nat.le_refl _) _
      have BDA : Hid (Below w1.heap.size w1 u1) := belowCall BD.out bA BD.out.size
      obtain ⟨gp, hgp⟩ : ∃ gp, u0.heap.size = gp := ⟨_, rfl⟩
      have KW : Hid (Blk u1 gp #[.int .i64 0, .bool false] 107) := hgp ▸ hu1 ▸ Blk.new _ _ _
      have hgw : w1.heap.size ≤ gp := by rw [← hgp]; exact BD.out.size
      have SBA : Hid (S u1) := HSI.out _ BDA.out
      clear bA
      go_wp2
      clear hu1 hgp
      refine ⟨SBA.out, ?_⟩
      refine anyS_one 7 (by kernel_rfl) rfl ?_
      go_wp2_with (fail)
      refine (marked_c p q _ cs[F].2.2 7 u1 (HR1.out.below (belowCall B1.out BDA.out B1.out.size))).mono ?_
      rintro e w2 ⟨rfl, b2⟩
      have BD2 : Hid (Below w1.heap.size w1 w2) := belowCall BDA.out b2 BDA.out.size
      have SB2 : Hid (S w2) := HSI.out _ BD2.out
      have KWW : Hid (Blk w2 gp #[.int .i64 0, .bool false] 107) := KW.out.below b2 KW.out.lt
      rw [HPV.out]
      clear b2 KW BDA SBA
      go_wp2
      refine ⟨SB2.out, ?_⟩
      refine anyS_quiet [false, false, false, false, false, false, false, false, true, false, false] 1 rfl (by kernel_rfl) (fun _ _ _ _ _ h => h) SB2.out ?_
      simp only [selT]
      have ne3 : Nonempty (At S) := ⟨⟨_, SB2.out⟩⟩
      repeat (go_big_quiet_step (fail))
      refine wpQuiet_nil ?_
      have BDW : Hid (Below w1.heap.size w1 w2) := BD2.out
      clear ne3 BD2 SB2
      refine anyS_one 10 (by kernel_rfl) rfl ?_
      have k0 := KWW.out.cell 0
      have k1 := KWW.out.cell 1
      have kz0 := KWW.out.frozen 0
      have kz1 := KWW.out.frozen 1
      simp at k0 k1
      obtain ⟨w4, hw4⟩ : ∃ W, (w2.setCell ⟨gp, 0, none⟩ (.int .i64 (F : Int))).setCell ⟨gp, 1, none⟩ (.bool pv) = W := ⟨_, rfl⟩
      have BD4 : Hid (Below w1.heap.size w1 w4) := hw4 ▸ (BDW.out.setCell (by exact hgw) _).setCell (by exact hgw) _
      have KW4 : Hid (Blk w4 gp #[.int .i64 (F : Int), .bool pv] 107) := hw4 ▸ (KWW.out.set 0 _).set 1 _
      have SB4 : Hid (S w4) := HSI.out _ BD4.out
      clear KWW BDW
      go_wp2
      clear hw4 k0 k1 kz0 kz1
      refine ⟨SB4.out, ?_⟩
      refine anyS_end (by kernel_rfl) ?_
      go_wp2_with fail
      go_meet
      case rel => exact ⟨gp, rfl, hgw, BD4.out, KW4.out⟩
  case rest =>
  obtain ⟨gp, rfl, hgw, HBC, HKC⟩ := hcut
  have BD4 : Hid (Below w1.heap.size w1 wc) := HBC
  have KW4 : Hid (Blk wc gp #[.int .i64 (F : Int), .bool pv] 107) := HKC
  have B4 : Hid (Below w.heap.size w wc) := belowCall B1.out BD4.out B1.out.size
  have KR4 : Hid (Blk wc (s0 + 1) (O3 0 0 (.slice none 0 0)) 29) := KR1.out.below BD4.out KR1.out.lt
  have hz4 : s0 + 2 ≤ gp := by have := KR1.out.lt; omega
  have kp4 := KP1.out.below BD4.out KP1.out.lt
  have yy1 := kp4.cell 1
  simp at yy1
  clear BD4 HSI kp4 HBC HKC HSD t0 t1 t2 t3 ne1
  go_wp2
  go_loopw [6, 7] (fun hv tv wr => ∃ (hops : List Int) (k m : Nat), tv = .int .i64 (k : Int) ∧ k < n ∧ hops.length ≤ 6 ∧ hops.length + m = 7 ∧ Hid (R = goR cs F m k hops) ∧ Hid (Ow .i64 3 (gp + 1) wr hv hops) ∧ Hid (Blk wr (s0 + 1) (O3 0 0 (.slice none 0 0)) 29) ∧ Hid (Blk wr gp #[.int .i64 (F : Int), .bool pv] 107) ∧ Hid (Below w.heap.size w wr)) (fun hv _ _ => 7 - lenV hv)
  case atStart => exact ⟨[], U, 7, rfl, hU, by simp, by simp, HGO.out, Ow.nil .., KR4.out, KW4.out, B4.out⟩
  case round =>
    obtain ⟨hops, k, m, rfl, hk, hl6, hlm, HGR, HO, KR, KW5, BR⟩ := hrel
    obtain ⟨ha, hcap, rfl, hc1, hc2, -⟩ := own_form HO.out
    clear HGO KR4 KW4 B4 yy1
    obtain ⟨m', rfl⟩ : ∃ m', m = m' + 1 := ⟨m - 1, by omega⟩
    have hkl : k < cs.length := by rw [HN.out]; exact hk
    obtain ⟨N, hNN⟩ : ∃ N, hops.length = N := ⟨_, rfl⟩
    have HNL : Hid (hops.length = N) := hNN
    rw [hNN] at hl6 hlm HO hc1 ⊢
    have HSTOP : Hid (stopB F k hops = (decide ((k : Int) = F) || (decide ((k : Int) ∈ hops) || decide (5 < N)))) := by
      show stopB F k hops = _
      rw [stopB, HNL.out]
    have x0 := KW5.out.cell 0
    simp at x0
    clear hNN
    by_cases hkF : (k : Int) = F
    case pos =>
      have y : ((k : Int) == (F : Int)) = true := by simp [hkF]
      have HST : Hid (stopB F k hops = true) := by
        show stopB F k hops = true
        rw [HSTOP.out]; simp [hkF]
      clear hkF HSTOP
      have HY : Hid (rgF cs F U = (7, (k : Int), hops)) := by
        show rgF cs F U = (7, (k : Int), hops)
        rw [HRR.out, HGR.out, goR_stop HST.out]
      have r0 := KR.out.cell 0
      have r1 := KR.out.cell 1
      have r2 := KR.out.cell 2
      have rz0 := KR.out.frozen 0
      have rz1 := KR.out.frozen 1
      have rz2 := KR.out.frozen 2
      simp at r0 r1 r2
      go_wp2
      exact FIN.out _ 7 k _ hops _ KR.out rfl (HO.out.mono (by omega)) BR.out HY.out _ rfl rfl
    have y : ((k : Int) == (F : Int)) = false := by simp; omega
    go_wp2_with (fail)
    refine (containsI_c _ hops k wr HO.out.rd).mono ?_
    rintro e wq ⟨rfl, hwq⟩
    rw [hwq]
    clear hwq wq
    by_cases hmem : (k : Int) ∈ hops
    case pos =>
      rw [decide_eq_true hmem]
      have HST : Hid (stopB F k hops = true) := by
        show stopB F k hops = true
        rw [HSTOP.out]; simp [hmem]
      clear hkF HSTOP hmem
      have HY : Hid (rgF cs F U = (7, (k : Int), hops)) := by
        show rgF cs F U = (7, (k : Int), hops)
        rw [HRR.out, HGR.out, goR_stop HST.out]
      have r0 := KR.out.cell 0
      have r1 := KR.out.cell 1
      have r2 := KR.out.cell 2
      have rz0 := KR.out.frozen 0
      have rz1 := KR.out.frozen 1
      have rz2 := KR.out.frozen 2
      simp at r0 r1 r2
      go_wp2
      exact FIN.out _ 7 k _ hops _ KR.out rfl (HO.out.mono (by omega)) BR.out HY.out _ rfl rfl
    rw [decide_eq_false hmem]
    by_cases h5 : 5 < N
    case pos =>
      have y5 : (5 : Int) < (N : Int) := by omega
      have HST : Hid (stopB F k hops = true) := by
        show stopB F k hops = true
        rw [HSTOP.out]; simp [h5]
      clear hkF HSTOP hmem
      have HY : Hid (rgF cs F U = (7, (k : Int), hops)) := by
        show rgF cs F U = (7, (k : Int), hops)
        rw [HRR.out, HGR.out, goR_stop HST.out]
      have r0 := KR.out.cell 0
      have r1 := KR.out.cell 1
      have r2 := KR.out.cell 2
      have rz0 := KR.out.frozen 0
      have rz1 := KR.out.frozen 1
      have rz2 := KR.out.frozen 2
      simp at r0 r1 r2
      go_wp2
      exact FIN.out _ 7 k _ hops _ KR.out rfl (HO.out.mono (by omega)) BR.out HY.out _ rfl rfl
    have y5 : ¬ ((5 : Int) < (N : Int)) := by omega
    have HST : Hid (stopB F k hops = false) := by
      show stopB F k hops = false
      rw [HSTOP.out]; simp [h5, hmem]; omega
    obtain ⟨b', off', v2, e, -, hRt, e0, e1, e2⟩ := HRD.out.at k hkl
    injection e with e
    injection e with ee1 ee2
    subst ee1 ee2
    obtain ⟨a2, cap2, rfl, -⟩ := id hRt
    obtain ⟨s, hs⟩ : ∃ s, cs[k] = s := ⟨_, rfl⟩
    have HSD2 : Hid (cs.getD k sb0 = s) := by
      show cs.getD k sb0 = s
      rw [← hs]; simp [List.getElem?_eq_getElem hkl]
    have HAK : Hid (∀ x ∈ s.2.2, ftB n x = true) := by
      have := (HOK.out.at k hkl).all
      rw [HSD2.out, HN.out] at this; exact this
    rw [hs] at hRt e0 e1 e2
    obtain ⟨p1, q1, fs⟩ := s
    dsimp only at hRt e0 e1 e2 HAK
    obtain ⟨L2, hL2⟩ : ∃ L, fs.length = L := ⟨_, rfl⟩
    rw [hL2] at hRt e2
    have HT : Hid (Rx w (.slice a2 L2 cap2) fs) := hRt
    have HTU : Hid (turnF (prvB cs F) F (cs.getD k sb0) = tuF p1 q1 fs pv F) := by
      show turnF (prvB cs F) F (cs.getD k sb0) = _
      rw [HSD2.out, HPQ.out, tu_eq HAK.out]
    obtain ⟨S2, hS2⟩ : ∃ S : World → Prop, ∀ W, S W ↔ Below wr.heap.size wr W := ⟨_, fun _ => Iff.rfl⟩
    have hb1 : b < wr.heap.size := by have := BR.out.size; omega
    have c0 : ∀ W : At S2, W.wd.cell? ⟨b, off + k * 3, none⟩ = some (.bool p1) := fun W => (((hS2 _).1 W.ok).cell hb1).trans ((BR.out.cell hcb).trans e0)
    have c1 : ∀ W : At S2, W.wd.cell? ⟨b, off + k * 3 + 1, none⟩ = some (.bool q1) := fun W => (((hS2 _).1 W.ok).cell hb1).trans ((BR.out.cell hcb).trans e1)
    have c2 : ∀ W : At S2, W.wd.cell? ⟨b, off + k * 3 + 2, none⟩ = some (.slice a2 L2 cap2) := fun W => (((hS2 _).1 W.ok).cell hb1).trans ((BR.out.cell hcb).trans e2)
    have c3 : ∀ W : At S2, W.wd.cell? ⟨gp, 0, none⟩ = some (.int .i64 (F : Int)) := fun W => (((hS2 _).1 W.ok).cell KW5.out.lt).trans (KW5.out.cell 0)
    have c4 : ∀ W : At S2, W.wd.cell? ⟨gp, 1, none⟩ = some (.bool pv) := fun W => (((hS2 _).1 W.ok).cell KW5.out.lt).trans (KW5.out.cell 1)
    have HSI2 : Hid (∀ W, Below wr.heap.size wr W → S2 W) := fun W h => (hS2 W).2 h
    have HSE : Hid (S2 wr.drew) := HSI2.out _ (Below.refl _ _).drew
    have ne2 : Nonempty (At S2) := ⟨⟨_, HSE.out⟩⟩
    have hklI : (k : Int) < (n : Int) := by omega
    clear hkF HSTOP hmem hS2 hb1 hs hL2 hRt e0 e1 e2 x0
    obtain ⟨tr, htr⟩ : ∃ tr, tuF p1 q1 fs pv F = tr := ⟨_, rfl⟩
    rw [htr] at HTU
    obtain ⟨t1, t2⟩ := tr
    have HTR : Hid (tuF p1 q1 fs pv F = (t1, t2)) := htr
    clear htr
    go_upto_region 8 with fail
    go_cut [8] from 29 to 65 (fun t8 wx => ∃ gt : Nat, t8 = .pointer (some ⟨gt, 0, none⟩) ∧ wr.heap.size ≤ gt ∧ Hid (Below wr.heap.size wr wx) ∧ Hid (Blk wx gt #[.int .i64 t1, .int .i64 t2] 109))
    case first =>
      refine region_anyS S2 (by kernel_rfl) ?_
      refine anyS_quiet [true, true, true, true, true, false, false, false] 3 rfl (by kernel_rfl) (fun _ _ _ _ _ h => h) HSE.out ?_
      simp only [selT]
      repeat (go_big_quiet_step (fail))
      refine wpQuiet_nil ?_
      clear c0 c1 c2 c3 c4 HSE ne2
      have BE : Hid (Below wr.heap.size wr wr.drew) := (Below.refl _ _).drew
      obtain ⟨x0, hx0⟩ : ∃ x, wr.drew = x := ⟨_, rfl⟩
      rw [hx0] at BE ⊢
      clear hx0
      refine anyS_two 5 6 (by kernel_rfl) rfl rfl ?_ ?_
      · go_wp2_with (fail)
        refine (turn_c p1 q1 _ fs F pv x0 (HT.out.below (belowCall BR.out BE.out BR.out.size))).mono ?_
        rintro e x1 ⟨rfl, b1⟩
        have BE1 : Hid (Below wr.heap.size wr x1) := belowCall BE.out b1 BE.out.size
        have SE1 : Hid (S2 x1) := HSI2.out _ BE1.out
        rw [HTR.out]
        clear b1
        go_wp2
        refine ⟨SE1.out, ?_⟩
        refine anyS_one 6 (by kernel_rfl) rfl ?_
        obtain ⟨x2, hx2⟩ : ∃ W, x1.alloc (Obj.cells #[.int .i64 0, .int .i64 0] 109) = W := ⟨_, rfl⟩
        have bA2 : Below x1.heap.size x1 x2 := hx2 ▸ (Below.refl _ _).alloc (Nat.le_refl _) _
        have BE2 : Hid (Below wr.heap.size wr x2) := belowCall BE1.out bA2 BE1.out.size
        obtain ⟨gt, hgt⟩ : ∃ g, x1.heap.size = g := ⟨_, rfl⟩
        have KT : Hid (Blk x2 gt #[.int .i64 0, .int .i64 0] 109) := hgt ▸ hx2 ▸ Blk.new _ _ _
        have hgt2 : wr.heap.size ≤ gt := by rw [← hgt]; exact BE1.out.size
        have SE2 : Hid (S2 x2) := HSI2.out _ BE2.out
        clear bA2
        go_wp2
        clear hx2 hgt
        refine ⟨SE2.out, ?_⟩
        refine anyS_one 7 (by kernel_rfl) rfl ?_
        have k0 := KT.out.cell 0
        have k1 := KT.out.cell 1
        have kz0 := KT.out.frozen 0
        have kz1 := KT.out.frozen 1
        simp at k0 k1
        obtain ⟨x4, hx4⟩ : ∃ W, (x2.setCell ⟨gt, 0, none⟩ (.int .i64 t1)).setCell ⟨gt, 1, none⟩ (.int .i64 t2) = W := ⟨_, rfl⟩
        have BE4 : Hid (Below wr.heap.size wr x4) := hx4 ▸ (BE2.out.setCell (by exact hgt2) _).setCell (by exact hgt2) _
        have kt4 : Blk x4 gt #[.int .i64 t1, .int .i64 t2] 109 := hx4 ▸ (KT.out.set 0 _).set 1 _
        have KT4 : Hid (Blk x4 gt #[.int .i64 t1, .int .i64 t2] 109) := kt4
        have SE4 : Hid (S2 x4) := HSI2.out _ BE4.out
        go_wp2
        clear hx4 k0 k1 kz0 kz1
        refine ⟨SE4.out, ?_⟩
        refine anyS_end (by kernel_rfl) ?_
        go_wp2_with fail
        go_meet
        case rel => exact ⟨gt, rfl, hgt2, BE4.out, KT4.out⟩
      · refine ?_
        obtain ⟨x2, hx2⟩ : ∃ W, x0.alloc (Obj.cells #[.int .i64 0, .int .i64 0] 109) = W := ⟨_, rfl⟩
        have bA2 : Below x0.heap.size x0 x2 := hx2 ▸ (Below.refl _ _).alloc (Nat.le_refl _) _
        have BE2 : Hid (Below wr.heap.size wr x2) := belowCall BE.out bA2 BE.out.size
        obtain ⟨gt, hgt⟩ : ∃ g, x0.heap.size = g := ⟨_, rfl⟩
        have KT : Hid (Blk x2 gt #[.int .i64 0, .int .i64 0] 109) := hgt ▸ hx2 ▸ Blk.new _ _ _
        have hgt2 : wr.heap.size ≤ gt := by rw [← hgt]; exact BE.out.size
        have SE2 : Hid (S2 x2) := HSI2.out _ BE2.out
        clear bA2
        go_wp2
        clear hx2 hgt
        refine ⟨SE2.out, ?_⟩
        refine anyS_one 5 (by kernel_rfl) rfl ?_
        go_wp2_with (fail)
        refine (turn_c p1 q1 _ fs F pv x2 (HT.out.below (belowCall BR.out BE2.out BR.out.size))).mono ?_
        rintro e x3 ⟨rfl, b3⟩
        have BE3 : Hid (Below wr.heap.size wr x3) := belowCall BE2.out b3 BE2.out.size
        have KT3 : Hid (Blk x3 gt #[.int .i64 0, .int .i64 0] 109) := KT.out.below b3 KT.out.lt
        have SE3 : Hid (S2 x3) := HSI2.out _ BE3.out
        rw [HTR.out]
        clear b3 KT BE2 SE2
        go_wp2
        refine ⟨SE3.out, ?_⟩
        refine anyS_one 7 (by kernel_rfl) rfl ?_
        have k0 := KT3.out.cell 0
        have k1 := KT3.out.cell 1
        have kz0 := KT3.out.frozen 0
        have kz1 := KT3.out.frozen 1
        simp at k0 k1
        obtain ⟨x4, hx4⟩ : ∃ W, (x3.setCell ⟨gt, 0, none⟩ (.int .i64 t1)).setCell ⟨gt, 1, none⟩ (.int .i64 t2) = W := ⟨_, rfl⟩
        have BE4 : Hid (Below wr.heap.size wr x4) := hx4 ▸ (BE3.out.setCell (by exact hgt2) _).setCell (by exact hgt2) _
        have kt4 : Blk x4 gt #[.int .i64 t1, .int .i64 t2] 109 := hx4 ▸ (KT3.out.set 0 _).set 1 _
        have KT4 : Hid (Blk x4 gt #[.int .i64 t1, .int .i64 t2] 109) := kt4
        have SE4 : Hid (S2 x4) := HSI2.out _ BE4.out
        go_wp2
        clear hx4 k0 k1 kz0 kz1
        refine ⟨SE4.out, ?_⟩
        refine anyS_end (by kernel_rfl) ?_
        go_wp2_with fail
        go_meet
        case rel => exact ⟨gt, rfl, hgt2, BE4.out, KT4.out⟩
    case rest =>
    obtain ⟨gt, rfl, hgt2, HBC, HKC⟩ := hcut
    obtain ⟨x4, hx4⟩ : ∃ x, wc = x := ⟨_, rfl⟩
    rw [hx4] at HBC HKC ⊢
    clear hx4
    have BE4 : Hid (Below wr.heap.size wr x4) := HBC
    have KT4 : Hid (Blk x4 gt #[.int .i64 t1, .int .i64 t2] 109) := HKC
    have kt4 := KT4.out
    clear HBC HKC c0 c1 c2 c3 c4 HSE ne2
    have B5 : Hid (Below w.heap.size w x4) := belowCall BR.out BE4.out BR.out.size
    have KR5 : Hid (Blk x4 (s0 + 1) (O3 0 0 (.slice none 0 0)) 29) := KR.out.below BE4.out KR.out.lt
    have KW6 : Hid (Blk x4 gp #[.int .i64 (F : Int), .bool pv] 107) := KW5.out.below BE4.out KW5.out.lt
    have O5 : Hid (Ow .i64 3 (gp + 1) x4 (.slice ha N hcap) hops) := HO.out.below BE4.out
    have z0 := kt4.cell 0
    have z1 := kt4.cell 1
    simp at z0 z1
    clear kt4 BE4 HSI2
    by_cases ht1 : t1 = 0
    case neg =>
      have hne : (t1 != 0) = true := by simp [ht1]
      have HY : Hid (rgF cs F U = (t1, (k : Int), hops)) := by
        show rgF cs F U = (t1, (k : Int), hops)
        rw [HRR.out, HGR.out, goR_end HST.out (by rw [HTU.out]; exact ht1), HTU.out]
      clear ht1
      have r0 := KR5.out.cell 0
      have r1 := KR5.out.cell 1
      have r2 := KR5.out.cell 2
      have rz0 := KR5.out.frozen 0
      have rz1 := KR5.out.frozen 1
      have rz2 := KR5.out.frozen 2
      simp at r0 r1 r2
      go_wp2
      exact FIN.out _ t1 k _ hops _ KR5.out rfl (O5.out.mono (by omega)) B5.out HY.out _ rfl rfl
    have hnx := turn_next HOK.out k hkl (pv := prvB cs F) (f := F) (by rw [HTU.out]; exact ht1)
    rw [HTU.out] at hnx
    dsimp only at hnx
    obtain ⟨Z, rfl⟩ : ∃ Z : Nat, t2 = (Z : Int) := ⟨t2.toNat, by have := hnx.1; omega⟩
    have hZn : Z < n := by
      have := hnx.2
      rw [HN.out, Int.toNat_natCast] at this; exact this
    have HGN : Hid (R = goR cs F m' Z (hops ++ [(k : Int)])) := by
      show R = goR cs F m' Z (hops ++ [(k : Int)])
      rw [HGR.out, goR_on HST.out (by rw [HTU.out]; exact ht1), HTU.out, Int.toNat_natCast]
    subst ht1
    obtain ⟨w9, hw9⟩ : ∃ w9, x4.alloc (.cells #[.int .i64 (k : Int)] 3) = w9 := ⟨_, rfl⟩
    have ba9 : Below x4.heap.size x4 w9 := hw9 ▸ (Below.refl _ _).alloc (Nat.le_refl _) _
    have B9 : Hid (Below w.heap.size w w9) := belowCall B5.out ba9 B5.out.size
    have K9 : Hid (Blk w9 (s0 + 1) (O3 0 0 (.slice none 0 0)) 29) := KR5.out.below ba9 KR5.out.lt
    have KW9 : Hid (Blk w9 gp #[.int .i64 (F : Int), .bool pv] 107) := KW6.out.below ba9 KW6.out.lt
    have KT9 : Hid (Blk w9 gt #[.int .i64 0, .int .i64 (Z : Int)] 109) := KT4.out.below ba9 KT4.out.lt
    have O9 : Hid (Ow .i64 3 (gp + 1) w9 (.slice ha N hcap) hops) := O5.out.below ba9
    have X9 : Hid (w9.cell? ⟨x4.heap.size, 0, none⟩ = some (.int .i64 (k : Int))) := hw9 ▸ (Blk.new x4 #[.int .i64 (k : Int)] 3).cell 0
    have hz9 : gp + 1 ≤ w9.heap.size := by have := KW9.out.lt; omega
    have HGT : Hid (∀ t, (Value.slice ha N hcap).ownBlock = some t → t ≠ gt) := fun t e h => by
      have h1 := (World.ownsRow.lt HO.out t e).2
      omega
    clear ba9 hnx z0 z1
    have z0 := KT4.out.cell 0
    simp at z0
    go_wp2_with (at_builtin; refine appI' rfl (.tmp 60) (.tmp 62) rfl (gp + 1) _ hops rfl O9.out x4.heap.size k rfl X9.out (by have := HNL.out; omega) hz9 ?_)
    intro v9 w10 o10 g10
    have O10 : Hid (Ow .i64 3 (gp + 1) w10 v9 (hops ++ [(k : Int)])) := o10
    have b10 : Below (gp + 1) w9 w10 := Ow.belowOf O9.out g10 hz9
    have B10 : Hid (Below w.heap.size w w10) := B9.out.trans (b10.mono (by have := HS0.out; omega))
    have K10 : Hid (Blk w10 (s0 + 1) (O3 0 0 (.slice none 0 0)) 29) := K9.out.below b10 (by omega)
    have KW10 : Hid (Blk w10 gp #[.int .i64 (F : Int), .bool pv] 107) := KW9.out.below b10 (by omega)
    have kt10 : Blk w10 gt #[.int .i64 0, .int .i64 (Z : Int)] 109 := by
      rw [Blk, g10.block gt KT9.out.lt (fun e => HGT.out gt e.symm rfl)]; exact KT9.out
    have zz1 := kt10.cell 1
    simp at zz1
    obtain ⟨a9, cap9, rfl, -⟩ := own_form o10
    have hl9 : (hops ++ [(k : Int)]).length = N + 1 := by simp [HNL.out]
    have HL9 : Hid ((hops ++ [(k : Int)]).length = N + 1) := hl9
    rw [hl9] at O10 ⊢
    clear o10 b10 g10 hl9 hw9 kt10
    go_wp2
    go_roundw
    case rel => exact ⟨hops ++ [(k : Int)], Z, m', rfl, hZn, by rw [HL9.out]; omega, by rw [HL9.out]; omega, HGN.out, O10.out, K10.out, KW10.out, B10.out⟩
    case measure => simp [lenV]; omega
end Go.Proofs.Ytfaflnhembceoaa

/- The first call at which two features clash; no condition. -/
import Derived.Test.YtfaflnhembceoaaClB
import Derived.Test.YtfaflnhembceoaaDet
namespace Go.Proofs.Ytfaflnhembceoaa
open Go.RowKit Go.ChangeShapes Go.WideShapes Go.ChangeAt
set_option linter.unusedVariables false
set_option linter.unusedSimpArgs false
set_option maxRecDepth 8000

theorem size82 : (Try.prog.info? 82).map (·.size) = some 5 := by kernel_rfl
theorem results_82 {fn : Func} {p u : Tmp} (h : fn.results = #[.cell p 82, .tmp u]) (tmps : Array Value) (w : World) (g : Nat) (a b c d e : Int) (x : Value)
    (hp : tmps.getD p undef = .pointer (some ⟨g, 0, none⟩)) (hx : tmps.getD u undef = x) (hg : Blk w g (C5 a b c d e) 82) :
    (results fn tmps).run Try.prog w = .ok (.tuple #[.agg (C5 a b c d e), x]) w := by
  have hp' : tmps[p]?.getD undef = .pointer (some ⟨g, 0, none⟩) := by simpa using hp
  have hx' : tmps[u]?.getD undef = x := by simpa using hx
  have hr := run_loadVar_row (P := Try.prog) w g 82 82 (C5 a b c d e) (0, 0) _ hg Try.underlying82 rfl size82
  simp [results, h, hp', hx', asAddr, hr]
def ClR (cs : Sbs) (t i k : Nat) (w : World) (e : Ending) (w' : World) : Prop := e = .returned (.tuple #[.agg (clV cs.length t i k (clF cs t i k)), .bool (clF cs t i k).isSome]) ∧ Below w.heap.size w w'
set_option maxHeartbeats 6400000 in
theorem clashM_c (v : Value) (cs : Sbs) (t i k : Nat) (w : World) (h : RdS w v cs) (hok : SbOk cs) (ht : t < cs.length) (hm : (cs.getD t sb0).2.2.length ≤ 1048576) (hi : i ≤ 1048576) (hk : k ≤ 1048576) :
   Calls Try.prog 55 #[v, .int .i64 (t : Int), .int .i64 (i : Int), .int .i64 (k : Int)] w (ClR cs t i k w) := by
  have HRD : Hid (RdS w v cs) := h
  have HOK : Hid (SbOk cs) := hok
  obtain ⟨a, cap, hv, g1, g2⟩ := h.len
  subst hv
  unfold maxLen at g2
  have HM : Hid ((cs.getD t sb0).2.2.length ≤ 1048576) := hm
  obtain ⟨n, hnn⟩ : ∃ n, cs.length = n := ⟨_, rfl⟩
  have HN : Hid (cs.length = n) := hnn
  have HT : Hid (t < cs.length) := ht
  have n16 : n ≤ 16 := by rw [← hnn]; exact hok.2.1
  rw [hnn] at g1 ht HRD ⊢
  obtain ⟨W0, hW0⟩ : ∃ W0, w.alloc (Obj.cells (C5 0 0 0 0 0) 82) = W0 := ⟨_, rfl⟩
  have B0 : Hid (Below w.heap.size w W0) := by show Below _ _ _; rw [← hW0]; exact (Below.refl _ _).alloc (Nat.le_refl _) _
  have K0 : Hid (Blk W0 w.heap.size (C5 0 0 0 0 0) 82) := by show Blk _ _ _ _; rw [← hW0]; exact Blk.new _ _ _
  clear h hok hm hnn
  go_enter Try.func55, Try.ntmps55
  go_wp2_with (fail)
  clear hW0
  have RD0 : Hid (RdS W0 (.slice a n cap) cs) := HRD.out.below B0.out
  refine (withoutM_c _ cs t i (-1) W0 RD0.out HT.out (by rw [HN.out]; omega) HM.out).mono ?_
  rintro e w1 ⟨v1, rfl, r1, b1⟩
  have B1 : Hid (Below w.heap.size w w1) := belowCall B0.out b1 B0.out.size
  have K1 : Hid (Blk w1 w.heap.size (C5 0 0 0 0 0) 82) := K0.out.below b1 K0.out.lt
  have RD1 : Hid (RdS w1 (.slice a n cap) cs) := RD0.out.below b1
  have RA1 : Hid (RdS w1 v1 (woS cs t i (-1))) := r1
  clear r1 b1 B0 K0 RD0
  go_wp2_with (fail)
  refine (withoutM_c _ cs t k (-1) w1 RD1.out HT.out (by rw [HN.out]; omega) HM.out).mono ?_
  rintro e w2 ⟨v2, rfl, r2, b2⟩
  have B2 : Hid (Below w.heap.size w w2) := belowCall B1.out b2 B1.out.size
  have K2 : Hid (Blk w2 w.heap.size (C5 0 0 0 0 0) 82) := K1.out.below b2 K1.out.lt
  have RD2 : Hid (RdS w2 (.slice a n cap) cs) := RD1.out.below b2
  have RA2 : Hid (RdS w2 v1 (woS cs t i (-1))) := RA1.out.below b2
  have RB2 : Hid (RdS w2 v2 (woS cs t k (-1))) := r2
  clear r2 b2 B1 K1 RD1 RA1
  go_wp2_with (fail)
  refine (withoutM_c _ cs t i k w2 RD2.out HT.out (by rw [HN.out]; omega) HM.out).mono ?_
  rintro e w3 ⟨v3, rfl, r3, b3⟩
  have B3 : Hid (Below w.heap.size w w3) := belowCall B2.out b3 B2.out.size
  have K3 : Hid (Blk w3 w.heap.size (C5 0 0 0 0 0) 82) := K2.out.below b3 K2.out.lt
  have RD3 : Hid (RdS w3 (.slice a n cap) cs) := RD2.out.below b3
  have RA3 : Hid (RdS w3 v1 (woS cs t i (-1))) := RA2.out.below b3
  have RB3 : Hid (RdS w3 v2 (woS cs t k (-1))) := RB2.out.below b3
  have RC3 : Hid (RdS w3 v3 (woS cs t i k)) := r3
  clear r3 b3 B2 K2 RD2 RA2 RB2
  obtain ⟨a1, c1, e1⟩ : ∃ a c, v1 = .slice a n c := by obtain ⟨a, c, e, -⟩ := RA3.out.len; rw [woS_len, HN.out] at e; exact ⟨a, c, e⟩
  obtain ⟨a2, c2, e2⟩ : ∃ a c, v2 = .slice a n c := by obtain ⟨a, c, e, -⟩ := RB3.out.len; rw [woS_len, HN.out] at e; exact ⟨a, c, e⟩
  obtain ⟨a3, c3, e3⟩ : ∃ a c, v3 = .slice a n c := by obtain ⟨a, c, e, -⟩ := RC3.out.len; rw [woS_len, HN.out] at e; exact ⟨a, c, e⟩
  subst e1 e2 e3
  go_wp2
  go_loopw [13] (fun q wr => ∃ f : Nat, f ≤ n ∧ q = .int .i64 f ∧ Hid (Below w3.heap.size w3 wr) ∧ Hid (∀ p, p < f * cs.length → clB cs t i k (p / cs.length) (p % cs.length) = false)) (fun q _ => n - (intOf q).toNat)
  case atStart => exact ⟨0, Nat.zero_le _, rfl, Below.refl _ _, fun p hp => by omega⟩
  case round =>
    obtain ⟨f, hf, rfl, BF, HF⟩ := hrel
    by_cases hlt : f < n
    case neg =>
      obtain rfl : n = f := by omega
      have kr := K3.out.below BF.out K3.out.lt
      have HE : Hid (clF cs t i k = none) := clF_none (fun p hp => HF.out p (by rw [HN.out] at hp ⊢; exact hp))
      have kf := ((((kr.set 0 (.int .i64 0)).set 1 (.int .i64 0)).set 2 (.int .i64 0)).set 3 (.int .i64 0)).set 4 (.int .i64 0)
      have KF : Hid (Blk (((((wr.setCell ⟨w.heap.size, 0, none⟩ (.int .i64 0)).setCell ⟨w.heap.size, 1, none⟩ (.int .i64 0)).setCell ⟨w.heap.size, 2, none⟩ (.int .i64 0)).setCell ⟨w.heap.size, 3, none⟩ (.int .i64 0)).setCell ⟨w.heap.size, 4, none⟩ (.int .i64 0)) w.heap.size (C5 0 0 0 0 0) 82) := kf
      have BE : Hid (Below w.heap.size w (((((wr.setCell ⟨w.heap.size, 0, none⟩ (.int .i64 0)).setCell ⟨w.heap.size, 1, none⟩ (.int .i64 0)).setCell ⟨w.heap.size, 2, none⟩ (.int .i64 0)).setCell ⟨w.heap.size, 3, none⟩ (.int .i64 0)).setCell ⟨w.heap.size, 4, none⟩ (.int .i64 0))) := (((((belowCall B3.out BF.out B3.out.size).setCell (Nat.le_refl _) _).setCell (Nat.le_refl _) _).setCell (Nat.le_refl _) _).setCell (Nat.le_refl _) _).setCell (Nat.le_refl _) _
      have c0 := kr.cell 0
      have c1 := kr.cell 1
      have c2 := kr.cell 2
      have c3 := kr.cell 3
      have c4 := kr.cell 4
      have f0 := kr.frozen 0
      have f1 := kr.frozen 1
      have f2 := kr.frozen 2
      have f3 := kr.frozen 3
      have f4 := kr.frozen 4
      simp at c0 c1 c2 c3 c4
      clear kr kf BF
      go_wp2
      exact bodyPost_ret (v := .tuple #[.agg (C5 0 0 0 0 0), .bool false]) (results_82 rfl _ _ w.heap.size _ _ _ _ _ _ rfl rfl KF.out) rfl ⟨by rw [HE.out]; rfl, BE.out⟩
    case pos =>
    go_wp2
    go_loopw [14] (fun q wq => ∃ u : Nat, u ≤ n ∧ q = .int .i64 u ∧ Hid (Below w3.heap.size w3 wq) ∧ Hid (∀ p, p < f * cs.length + u → clB cs t i k (p / cs.length) (p % cs.length) = false)) (fun q _ => n - (intOf q).toNat)
    case atStart => exact ⟨0, Nat.zero_le _, rfl, BF.out, fun p hp => HF.out p (by omega)⟩
    case round =>
      obtain ⟨u, hu, rfl, BU, HU⟩ := hrel
      by_cases hlu : u < n
      case neg =>
        obtain rfl : n = u := by omega
        have HNX : Hid (∀ p, p < (f + 1) * cs.length → clB cs t i k (p / cs.length) (p % cs.length) = false) := fun p hp => HU.out p (by rw [Nat.add_mul, Nat.one_mul, HN.out] at hp; rw [HN.out]; exact hp)
        go_wp2
        go_roundw
        case rel => exact ⟨f + 1, by omega, by go_num, BU.out, HNX.out⟩
        case measure => simp [intOf]; omega
      case pos =>
      have RDU : Hid (RdS wr (.slice a n cap) cs) := RD3.out.below BU.out
      go_wp2_with (fail)
      refine (routeM_c _ cs f u wr RDU.out (by rw [HN.out]; omega)).mono ?_
      rintro e w4 ⟨vo, rfl, ho, b4⟩
      have B4 : Hid (Below w3.heap.size w3 w4) := belowCall BU.out b4 BU.out.size
      obtain ⟨oa, ol, oc, hov⟩ : ∃ oa ol oc, vo = .slice oa ol oc := by obtain ⟨a, c, e, -⟩ := own_form ho; exact ⟨_, _, _, e⟩
      subst hov
      obtain ⟨r1, r2, rh, hr⟩ : ∃ r1 r2 rh, rtF cs f u = (r1, r2, rh) := ⟨_, _, _, rfl⟩
      have HR : Hid (rtF cs f u = (r1, r2, rh)) := hr
      rw [hr] at ho ⊢
      dsimp only at ho ⊢
      have HO : Hid (Ow .i64 3 wr.heap.size w4 (.slice oa ol oc) rh) := ho
      clear ho b4 hr
      obtain ⟨W5, hW5⟩ : ∃ W5, w4.alloc (Obj.cells (O3 r1 r2 (.slice oa ol oc)) 29) = W5 := ⟨_, rfl⟩
      have bA : Below w4.heap.size w4 W5 := by rw [← hW5]; exact (Below.refl _ _).alloc (Nat.le_refl _) _
      have B5 : Hid (Below w3.heap.size w3 W5) := belowCall B4.out bA B4.out.size
      have O5 : Hid (Rd .i64 W5 (.slice oa ol oc) rh) := (HO.out.below bA).rd
      have K5 : Hid (Blk W5 w4.heap.size (O3 r1 r2 (.slice oa ol oc)) 29) := by show Blk _ _ _ _; rw [← hW5]; exact Blk.new _ _ _
      clear bA B4 HO
      have q0 := K5.out.cell 0
      have q1 := K5.out.cell 1
      have q2 := K5.out.cell 2
      simp at q0 q1 q2
      by_cases cf : f = u
      · have HC : Hid (clB cs t i k f u = false) := by show _ = _; simp [clB, atB, cf]
        subst cf
        have cfd : ((f : Int) == (f : Int)) = true := by simp
        have u_ : Nat := 0
        have HNX : Hid (∀ p, p < f * cs.length + (f + 1) → clB cs t i k (p / cs.length) (p % cs.length) = false) := clB_next (by rw [HN.out]; exact hlu) HC.out HU.out
        go_wp2
        go_roundw
        case rel => exact ⟨f + 1, by omega, by go_num, B5.out, HNX.out⟩
        case measure => simp [intOf]; omega
      have cfd : ((f : Int) == (u : Int)) = false := by simp; omega
      by_cases cr : r2 = (t : Int)
      · have crd : (r2 != (t : Int)) = false := by simp [cr]
        have HAT : Hid (atB cs t f u = true) := by show _ = _; rw [atB, HR.out]; simp [cf, cr]
        have RA5 : Hid (RdS W5 (.slice a1 n c1) (woS cs t i (-1))) := RA3.out.below B5.out
        have RB5 : Hid (RdS W5 (.slice a2 n c2) (woS cs t k (-1))) := RB3.out.below B5.out
        have RC5 : Hid (RdS W5 (.slice a3 n c3) (woS cs t i k)) := RC3.out.below B5.out
        clear cr cf
        go_wp2_with (fail)
        clear q0 q1 q2 K5 O5 hW5
        refine (routeM_c _ (woS cs t i (-1)) f u W5 RA5.out (by rw [woS_len, HN.out]; omega)).mono ?_
        rintro e w6 ⟨vx, rfl, ho, b⟩
        have B6 : Hid (Below w3.heap.size w3 w6) := belowCall B5.out b B5.out.size
        have RB6 : Hid (RdS w6 (.slice a2 n c2) (woS cs t k (-1))) := RB5.out.below b
        have RC6 : Hid (RdS w6 (.slice a3 n c3) (woS cs t i k)) := RC5.out.below b
        obtain ⟨xa, xl, xc, hov⟩ : ∃ oa ol oc, vx = .slice oa ol oc := by obtain ⟨a, c, e, -⟩ := own_form ho; exact ⟨_, _, _, e⟩
        subst hov
        obtain ⟨x1, x2, xh, hr⟩ : ∃ r1 r2 rh, rtF (woS cs t i (-1)) f u = (r1, r2, rh) := ⟨_, _, _, rfl⟩
        have Hx : Hid (rtF (woS cs t i (-1)) f u = (x1, x2, xh)) := hr
        rw [hr]
        dsimp only
        clear ho b hr RA5 B5
        go_wp2_with (fail)
        refine (routeM_c _ (woS cs t k (-1)) f u w6 RB6.out (by rw [woS_len, HN.out]; omega)).mono ?_
        rintro e w7 ⟨vy, rfl, ho, b⟩
        have B7 : Hid (Below w3.heap.size w3 w7) := belowCall B6.out b B6.out.size
        have RC7 : Hid (RdS w7 (.slice a3 n c3) (woS cs t i k)) := RC6.out.below b
        obtain ⟨ya, yl, yc, hov⟩ : ∃ oa ol oc, vy = .slice oa ol oc := by obtain ⟨a, c, e, -⟩ := own_form ho; exact ⟨_, _, _, e⟩
        subst hov
        obtain ⟨y1, y2, yh, hr⟩ : ∃ r1 r2 rh, rtF (woS cs t k (-1)) f u = (r1, r2, rh) := ⟨_, _, _, rfl⟩
        have Hy : Hid (rtF (woS cs t k (-1)) f u = (y1, y2, yh)) := hr
        rw [hr]
        dsimp only
        clear ho b hr RB6 B6
        go_wp2_with (fail)
        refine (routeM_c _ (woS cs t i k) f u w7 RC7.out (by rw [woS_len, HN.out]; omega)).mono ?_
        rintro e w8 ⟨vz, rfl, ho, b⟩
        have B8 : Hid (Below w3.heap.size w3 w8) := belowCall B7.out b B7.out.size
        obtain ⟨za, zl, zc, hov⟩ : ∃ oa ol oc, vz = .slice oa ol oc := by obtain ⟨a, c, e, -⟩ := own_form ho; exact ⟨_, _, _, e⟩
        subst hov
        obtain ⟨z1, z2, zh, hr⟩ : ∃ r1 r2 rh, rtF (woS cs t i k) f u = (r1, r2, rh) := ⟨_, _, _, rfl⟩
        have Hz : Hid (rtF (woS cs t i k) f u = (z1, z2, zh)) := hr
        rw [hr]
        dsimp only
        clear ho b hr RC7 B7
        obtain ⟨U2, hU2⟩ : ∃ U, ((w8.alloc (Obj.cells (O3 x1 x2 (.slice xa xl xc)) 29)).alloc (Obj.cells (O3 y1 y2 (.slice ya yl yc)) 29)).alloc (Obj.cells (O3 z1 z2 (.slice za zl zc)) 29) = U := ⟨_, rfl⟩
        have bU2 : Below w8.heap.size w8 U2 := by rw [← hU2]; exact (((Below.refl _ _).alloc (Nat.le_refl _) _).alloc (by simp) _).alloc (by simp; omega) _
        have BZ : Hid (Below w3.heap.size w3 U2) := belowCall B8.out bU2 B8.out.size
        have kx : Blk U2 w8.heap.size (O3 x1 x2 (.slice xa xl xc)) 29 := by rw [← hU2]; exact ((Blk.new _ _ _).alloc _).alloc _
        have ky : Blk U2 (w8.heap.size + 1) (O3 y1 y2 (.slice ya yl yc)) 29 := by rw [← hU2]; exact (Blk.newAt _ (w8.heap.size + 1) _ _ (by simp)).alloc _
        have kz : Blk U2 (w8.heap.size + 1 + 1) (O3 z1 z2 (.slice za zl zc)) 29 := by rw [← hU2]; exact Blk.newAt _ (w8.heap.size + 1 + 1) _ _ (by simp)
        have HU2 : Hid (((w8.alloc (Obj.cells (O3 x1 x2 (.slice xa xl xc)) 29)).alloc (Obj.cells (O3 y1 y2 (.slice ya yl yc)) 29)).alloc (Obj.cells (O3 z1 z2 (.slice za zl zc)) 29) = U2) := hU2
        have KX : Hid (Blk U2 w8.heap.size (O3 x1 x2 (.slice xa xl xc)) 29 ∧ Blk U2 (w8.heap.size + 1) (O3 y1 y2 (.slice ya yl yc)) 29 ∧ Blk U2 (w8.heap.size + 1 + 1) (O3 z1 z2 (.slice za zl zc)) 29) := ⟨kx, ky, kz⟩
        obtain ⟨m1, hm1⟩ : ∃ m1, (x1 != y1 || x2 != y2) = m1 := ⟨_, rfl⟩
        obtain ⟨m2, hm2⟩ : ∃ m1, (y1 != z1 || y2 != z2) = m1 := ⟨_, rfl⟩
        obtain ⟨m3, hm3⟩ : ∃ m1, (x1 != z1 || x2 != z2) = m1 := ⟨_, rfl⟩
        have HC : Hid (clB cs t i k f u = (m1 && (m2 && m3))) := by show _ = _; rw [clB, HAT.out, Hx.out, Hy.out, Hz.out]; simp only [unl, hm1, hm2, hm3, Bool.true_and]
        have HM1 : Hid ((x1 != y1 || x2 != y2) = m1) := hm1
        have HM2 : Hid ((y1 != z1 || y2 != z2) = m2) := hm2
        have HM3 : Hid ((x1 != z1 || x2 != z2) = m3) := hm3
        clear kx ky kz bU2 hU2 hm1 hm2 hm3 B8 Hx Hy Hz HAT
        go_wp2_with (fail)
        rw [HU2.out]
        clear HU2
        refine (unlike_c x1 x2 y1 y2 xa ya xl yl xc yc U2 m1 HM1.out).mono ?_
        rintro e w9 ⟨rfl, b⟩
        have B9 : Hid (Below w3.heap.size w3 w9) := belowCall BZ.out b BZ.out.size
        have K9 : Hid (Blk w9 w8.heap.size (O3 x1 x2 (.slice xa xl xc)) 29 ∧ Blk w9 (w8.heap.size + 1) (O3 y1 y2 (.slice ya yl yc)) 29 ∧ Blk w9 (w8.heap.size + 1 + 1) (O3 z1 z2 (.slice za zl zc)) 29) := ⟨KX.out.1.below b KX.out.1.lt, KX.out.2.1.below b KX.out.2.1.lt, KX.out.2.2.below b KX.out.2.2.lt⟩
        clear b KX BZ
        cases m1 with
        | false =>
          have HNX : Hid (∀ p, p < f * cs.length + (u + 1) → clB cs t i k (p / cs.length) (p % cs.length) = false) := clB_next (by rw [HN.out]; exact hlu) (by rw [HC.out]; rfl) HU.out
          go_wp2
          go_roundw
          case rel => exact ⟨u + 1, by omega, by go_num, B9.out, HNX.out⟩
          case measure => simp [intOf]; omega
        | true =>
          have yk0 := K9.out.2.1.cell 0
          have yk1 := K9.out.2.1.cell 1
          have yk2 := K9.out.2.1.cell 2
          have zk0 := K9.out.2.2.cell 0
          have zk1 := K9.out.2.2.cell 1
          have zk2 := K9.out.2.2.cell 2
          simp at yk0 yk1 yk2 zk0 zk1 zk2
          go_wp2_with (fail)
          refine (unlike_c y1 y2 z1 z2 ya za yl zl yc zc w9 m2 HM2.out).mono ?_
          rintro e w10 ⟨rfl, b⟩
          have B10 : Hid (Below w3.heap.size w3 w10) := belowCall B9.out b B9.out.size
          have K10 : Hid (Blk w10 w8.heap.size (O3 x1 x2 (.slice xa xl xc)) 29 ∧ Blk w10 (w8.heap.size + 1 + 1) (O3 z1 z2 (.slice za zl zc)) 29) := ⟨K9.out.1.below b K9.out.1.lt, K9.out.2.2.below b K9.out.2.2.lt⟩
          clear b yk0 yk1 yk2 zk0 zk1 zk2 K9 B9
          cases m2 with
          | false =>
            have HNX : Hid (∀ p, p < f * cs.length + (u + 1) → clB cs t i k (p / cs.length) (p % cs.length) = false) := clB_next (by rw [HN.out]; exact hlu) (by rw [HC.out]; rfl) HU.out
            go_wp2
            go_roundw
            case rel => exact ⟨u + 1, by omega, by go_num, B10.out, HNX.out⟩
            case measure => simp [intOf]; omega
          | true =>
            have xk0 := K10.out.1.cell 0
            have xk1 := K10.out.1.cell 1
            have xk2 := K10.out.1.cell 2
            have zk0 := K10.out.2.cell 0
            have zk1 := K10.out.2.cell 1
            have zk2 := K10.out.2.cell 2
            simp at xk0 xk1 xk2 zk0 zk1 zk2
            go_wp2_with (fail)
            refine (unlike_c x1 x2 z1 z2 xa za xl zl xc zc w10 m3 HM3.out).mono ?_
            rintro e w11 ⟨rfl, b⟩
            have B11 : Hid (Below w3.heap.size w3 w11) := belowCall B10.out b B10.out.size
            clear b xk0 xk1 xk2 zk0 zk1 zk2 K10 B10
            cases m3 with
            | false =>
              have HNX : Hid (∀ p, p < f * cs.length + (u + 1) → clB cs t i k (p / cs.length) (p % cs.length) = false) := clB_next (by rw [HN.out]; exact hlu) (by rw [HC.out]; rfl) HU.out
              go_wp2
              go_roundw
              case rel => exact ⟨u + 1, by omega, by go_num, B11.out, HNX.out⟩
              case measure => simp [intOf]; omega
            | true =>
              have kr := K3.out.below B11.out K3.out.lt
              obtain ⟨z0, zd, zm⟩ := clF_some (by rw [HN.out]; exact hlt) (by rw [HN.out]; exact hlu) (by rw [HC.out]; rfl) HU.out
              have HE : Hid (clF cs t i k = some (f * cs.length + u) ∧ (f * cs.length + u) / cs.length = f ∧ (f * cs.length + u) % cs.length = u) := ⟨z0, zd, zm⟩
              have kf := ((((kr.set 0 (.int .i64 (t : Int))).set 1 (.int .i64 (i : Int))).set 2 (.int .i64 (k : Int))).set 3 (.int .i64 (f : Int))).set 4 (.int .i64 (u : Int))
              have KF : Hid (Blk (((((w11.setCell ⟨w.heap.size, 0, none⟩ (.int .i64 (t : Int))).setCell ⟨w.heap.size, 1, none⟩ (.int .i64 (i : Int))).setCell ⟨w.heap.size, 2, none⟩ (.int .i64 (k : Int))).setCell ⟨w.heap.size, 3, none⟩ (.int .i64 (f : Int))).setCell ⟨w.heap.size, 4, none⟩ (.int .i64 (u : Int))) w.heap.size (C5 t i k f u) 82) := kf
              have BE : Hid (Below w.heap.size w (((((w11.setCell ⟨w.heap.size, 0, none⟩ (.int .i64 (t : Int))).setCell ⟨w.heap.size, 1, none⟩ (.int .i64 (i : Int))).setCell ⟨w.heap.size, 2, none⟩ (.int .i64 (k : Int))).setCell ⟨w.heap.size, 3, none⟩ (.int .i64 (f : Int))).setCell ⟨w.heap.size, 4, none⟩ (.int .i64 (u : Int)))) := (((((belowCall B3.out B11.out B3.out.size).setCell (Nat.le_refl _) _).setCell (Nat.le_refl _) _).setCell (Nat.le_refl _) _).setCell (Nat.le_refl _) _).setCell (Nat.le_refl _) _
              have c0 := kr.cell 0
              have c1 := kr.cell 1
              have c2 := kr.cell 2
              have c3 := kr.cell 3
              have c4 := kr.cell 4
              have f0 := kr.frozen 0
              have f1 := kr.frozen 1
              have f2 := kr.frozen 2
              have f3 := kr.frozen 3
              have f4 := kr.frozen 4
              simp at c0 c1 c2 c3 c4
              clear kr kf z0 zd zm B11
              go_wp2
              exact bodyPost_ret (v := .tuple #[.agg (C5 t i k f u), .bool true]) (results_82 rfl _ _ w.heap.size _ _ _ _ _ _ rfl rfl KF.out) rfl ⟨by rw [HE.out.1]; simp only [clV, HE.out.2.1, HE.out.2.2, Option.isSome], BE.out⟩
      have crd : (r2 != (t : Int)) = true := by simp [cr]
      have HCR : Hid (¬ r2 = (t : Int) ∧ ¬ f = u) := ⟨cr, cf⟩
      clear cr cf
      go_wp2_with (fail)
      refine (within_c _ rh t W5 O5.out).mono ?_
      rintro e wz ⟨rfl, hwz⟩
      rw [hwz]
      clear hwz wz hW5
      by_cases ci : (t : Int) ∈ rh
      · rw [decide_eq_true ci]
        have HAT : Hid (atB cs t f u = true) := by show _ = _; rw [atB, HR.out]; simp [HCR.out.2, ci]
        have RA5 : Hid (RdS W5 (.slice a1 n c1) (woS cs t i (-1))) := RA3.out.below B5.out
        have RB5 : Hid (RdS W5 (.slice a2 n c2) (woS cs t k (-1))) := RB3.out.below B5.out
        have RC5 : Hid (RdS W5 (.slice a3 n c3) (woS cs t i k)) := RC3.out.below B5.out
        clear q0 q1 q2 K5 O5
        clear ci
        go_wp2_with (fail)
        refine (routeM_c _ (woS cs t i (-1)) f u W5 RA5.out (by rw [woS_len, HN.out]; omega)).mono ?_
        rintro e w6 ⟨vx, rfl, ho, b⟩
        have B6 : Hid (Below w3.heap.size w3 w6) := belowCall B5.out b B5.out.size
        have RB6 : Hid (RdS w6 (.slice a2 n c2) (woS cs t k (-1))) := RB5.out.below b
        have RC6 : Hid (RdS w6 (.slice a3 n c3) (woS cs t i k)) := RC5.out.below b
        obtain ⟨xa, xl, xc, hov⟩ : ∃ oa ol oc, vx = .slice oa ol oc := by obtain ⟨a, c, e, -⟩ := own_form ho; exact ⟨_, _, _, e⟩
        subst hov
        obtain ⟨x1, x2, xh, hr⟩ : ∃ r1 r2 rh, rtF (woS cs t i (-1)) f u = (r1, r2, rh) := ⟨_, _, _, rfl⟩
        have Hx : Hid (rtF (woS cs t i (-1)) f u = (x1, x2, xh)) := hr
        rw [hr]
        dsimp only
        clear ho b hr RA5 B5
        go_wp2_with (fail)
        refine (routeM_c _ (woS cs t k (-1)) f u w6 RB6.out (by rw [woS_len, HN.out]; omega)).mono ?_
        rintro e w7 ⟨vy, rfl, ho, b⟩
        have B7 : Hid (Below w3.heap.size w3 w7) := belowCall B6.out b B6.out.size
        have RC7 : Hid (RdS w7 (.slice a3 n c3) (woS cs t i k)) := RC6.out.below b
        obtain ⟨ya, yl, yc, hov⟩ : ∃ oa ol oc, vy = .slice oa ol oc := by obtain ⟨a, c, e, -⟩ := own_form ho; exact ⟨_, _, _, e⟩
        subst hov
        obtain ⟨y1, y2, yh, hr⟩ : ∃ r1 r2 rh, rtF (woS cs t k (-1)) f u = (r1, r2, rh) := ⟨_, _, _, rfl⟩
        have Hy : Hid (rtF (woS cs t k (-1)) f u = (y1, y2, yh)) := hr
        rw [hr]
        dsimp only
        clear ho b hr RB6 B6
        go_wp2_with (fail)
        refine (routeM_c _ (woS cs t i k) f u w7 RC7.out (by rw [woS_len, HN.out]; omega)).mono ?_
        rintro e w8 ⟨vz, rfl, ho, b⟩
        have B8 : Hid (Below w3.heap.size w3 w8) := belowCall B7.out b B7.out.size
        obtain ⟨za, zl, zc, hov⟩ : ∃ oa ol oc, vz = .slice oa ol oc := by obtain ⟨a, c, e, -⟩ := own_form ho; exact ⟨_, _, _, e⟩
        subst hov
        obtain ⟨z1, z2, zh, hr⟩ : ∃ r1 r2 rh, rtF (woS cs t i k) f u = (r1, r2, rh) := ⟨_, _, _, rfl⟩
        have Hz : Hid (rtF (woS cs t i k) f u = (z1, z2, zh)) := hr
        rw [hr]
        dsimp only
        clear ho b hr RC7 B7
        obtain ⟨U2, hU2⟩ : ∃ U, ((w8.alloc (Obj.cells (O3 x1 x2 (.slice xa xl xc)) 29)).alloc (Obj.cells (O3 y1 y2 (.slice ya yl yc)) 29)).alloc (Obj.cells (O3 z1 z2 (.slice za zl zc)) 29) = U := ⟨_, rfl⟩
        have bU2 : Below w8.heap.size w8 U2 := by rw [← hU2]; exact (((Below.refl _ _).alloc (Nat.le_refl _) _).alloc (by simp) _).alloc (by simp; omega) _
        have BZ : Hid (Below w3.heap.size w3 U2) := belowCall B8.out bU2 B8.out.size
        have kx : Blk U2 w8.heap.size (O3 x1 x2 (.slice xa xl xc)) 29 := by rw [← hU2]; exact ((Blk.new _ _ _).alloc _).alloc _
        have ky : Blk U2 (w8.heap.size + 1) (O3 y1 y2 (.slice ya yl yc)) 29 := by rw [← hU2]; exact (Blk.newAt _ (w8.heap.size + 1) _ _ (by simp)).alloc _
        have kz : Blk U2 (w8.heap.size + 1 + 1) (O3 z1 z2 (.slice za zl zc)) 29 := by rw [← hU2]; exact Blk.newAt _ (w8.heap.size + 1 + 1) _ _ (by simp)
        have HU2 : Hid (((w8.alloc (Obj.cells (O3 x1 x2 (.slice xa xl xc)) 29)).alloc (Obj.cells (O3 y1 y2 (.slice ya yl yc)) 29)).alloc (Obj.cells (O3 z1 z2 (.slice za zl zc)) 29) = U2) := hU2
        have KX : Hid (Blk U2 w8.heap.size (O3 x1 x2 (.slice xa xl xc)) 29 ∧ Blk U2 (w8.heap.size + 1) (O3 y1 y2 (.slice ya yl yc)) 29 ∧ Blk U2 (w8.heap.size + 1 + 1) (O3 z1 z2 (.slice za zl zc)) 29) := ⟨kx, ky, kz⟩
        obtain ⟨m1, hm1⟩ : ∃ m1, (x1 != y1 || x2 != y2) = m1 := ⟨_, rfl⟩
        obtain ⟨m2, hm2⟩ : ∃ m1, (y1 != z1 || y2 != z2) = m1 := ⟨_, rfl⟩
        obtain ⟨m3, hm3⟩ : ∃ m1, (x1 != z1 || x2 != z2) = m1 := ⟨_, rfl⟩
        have HC : Hid (clB cs t i k f u = (m1 && (m2 && m3))) := by show _ = _; rw [clB, HAT.out, Hx.out, Hy.out, Hz.out]; simp only [unl, hm1, hm2, hm3, Bool.true_and]
        have HM1 : Hid ((x1 != y1 || x2 != y2) = m1) := hm1
        have HM2 : Hid ((y1 != z1 || y2 != z2) = m2) := hm2
        have HM3 : Hid ((x1 != z1 || x2 != z2) = m3) := hm3
        clear kx ky kz bU2 hU2 hm1 hm2 hm3 B8 Hx Hy Hz HAT
        go_wp2_with (fail)
        rw [HU2.out]
        clear HU2
        refine (unlike_c x1 x2 y1 y2 xa ya xl yl xc yc U2 m1 HM1.out).mono ?_
        rintro e w9 ⟨rfl, b⟩
        have B9 : Hid (Below w3.heap.size w3 w9) := belowCall BZ.out b BZ.out.size
        have K9 : Hid (Blk w9 w8.heap.size (O3 x1 x2 (.slice xa xl xc)) 29 ∧ Blk w9 (w8.heap.size + 1) (O3 y1 y2 (.slice ya yl yc)) 29 ∧ Blk w9 (w8.heap.size + 1 + 1) (O3 z1 z2 (.slice za zl zc)) 29) := ⟨KX.out.1.below b KX.out.1.lt, KX.out.2.1.below b KX.out.2.1.lt, KX.out.2.2.below b KX.out.2.2.lt⟩
        clear b KX BZ
        cases m1 with
        | false =>
          have HNX : Hid (∀ p, p < f * cs.length + (u + 1) → clB cs t i k (p / cs.length) (p % cs.length) = false) := clB_next (by rw [HN.out]; exact hlu) (by rw [HC.out]; rfl) HU.out
          go_wp2
          go_roundw
          case rel => exact ⟨u + 1, by omega, by go_num, B9.out, HNX.out⟩
          case measure => simp [intOf]; omega
        | true =>
          have yk0 := K9.out.2.1.cell 0
          have yk1 := K9.out.2.1.cell 1
          have yk2 := K9.out.2.1.cell 2
          have zk0 := K9.out.2.2.cell 0
          have zk1 := K9.out.2.2.cell 1
          have zk2 := K9.out.2.2.cell 2
          simp at yk0 yk1 yk2 zk0 zk1 zk2
          go_wp2_with (fail)
          refine (unlike_c y1 y2 z1 z2 ya za yl zl yc zc w9 m2 HM2.out).mono ?_
          rintro e w10 ⟨rfl, b⟩
          have B10 : Hid (Below w3.heap.size w3 w10) := belowCall B9.out b B9.out.size
          have K10 : Hid (Blk w10 w8.heap.size (O3 x1 x2 (.slice xa xl xc)) 29 ∧ Blk w10 (w8.heap.size + 1 + 1) (O3 z1 z2 (.slice za zl zc)) 29) := ⟨K9.out.1.below b K9.out.1.lt, K9.out.2.2.below b K9.out.2.2.lt⟩
          clear b yk0 yk1 yk2 zk0 zk1 zk2 K9 B9
          cases m2 with
          | false =>
            have HNX : Hid (∀ p, p < f * cs.length + (u + 1) → clB cs t i k (p / cs.length) (p % cs.length) = false) := clB_next (by rw [HN.out]; exact hlu) (by rw [HC.out]; rfl) HU.out
            go_wp2
            go_roundw
            case rel => exact ⟨u + 1, by omega, by go_num, B10.out, HNX.out⟩
            case measure => simp [intOf]; omega
          | true =>
            have xk0 := K10.out.1.cell 0
            have xk1 := K10.out.1.cell 1
            have xk2 := K10.out.1.cell 2
            have zk0 := K10.out.2.cell 0
            have zk1 := K10.out.2.cell 1
            have zk2 := K10.out.2.cell 2
            simp at xk0 xk1 xk2 zk0 zk1 zk2
            go_wp2_with (fail)
            refine (unlike_c x1 x2 z1 z2 xa za xl zl xc zc w10 m3 HM3.out).mono ?_
            rintro e w11 ⟨rfl, b⟩
            have B11 : Hid (Below w3.heap.size w3 w11) := belowCall B10.out b B10.out.size
            clear b xk0 xk1 xk2 zk0 zk1 zk2 K10 B10
            cases m3 with
            | false =>
              have HNX : Hid (∀ p, p < f * cs.length + (u + 1) → clB cs t i k (p / cs.length) (p % cs.length) = false) := clB_next (by rw [HN.out]; exact hlu) (by rw [HC.out]; rfl) HU.out
              go_wp2
              go_roundw
              case rel => exact ⟨u + 1, by omega, by go_num, B11.out, HNX.out⟩
              case measure => simp [intOf]; omega
            | true =>
              have kr := K3.out.below B11.out K3.out.lt
              obtain ⟨z0, zd, zm⟩ := clF_some (by rw [HN.out]; exact hlt) (by rw [HN.out]; exact hlu) (by rw [HC.out]; rfl) HU.out
              have HE : Hid (clF cs t i k = some (f * cs.length + u) ∧ (f * cs.length + u) / cs.length = f ∧ (f * cs.length + u) % cs.length = u) := ⟨z0, zd, zm⟩
              have kf := ((((kr.set 0 (.int .i64 (t : Int))).set 1 (.int .i64 (i : Int))).set 2 (.int .i64 (k : Int))).set 3 (.int .i64 (f : Int))).set 4 (.int .i64 (u : Int))
              have KF : Hid (Blk (((((w11.setCell ⟨w.heap.size, 0, none⟩ (.int .i64 (t : Int))).setCell ⟨w.heap.size, 1, none⟩ (.int .i64 (i : Int))).setCell ⟨w.heap.size, 2, none⟩ (.int .i64 (k : Int))).setCell ⟨w.heap.size, 3, none⟩ (.int .i64 (f : Int))).setCell ⟨w.heap.size, 4, none⟩ (.int .i64 (u : Int))) w.heap.size (C5 t i k f u) 82) := kf
              have BE : Hid (Below w.heap.size w (((((w11.setCell ⟨w.heap.size, 0, none⟩ (.int .i64 (t : Int))).setCell ⟨w.heap.size, 1, none⟩ (.int .i64 (i : Int))).setCell ⟨w.heap.size, 2, none⟩ (.int .i64 (k : Int))).setCell ⟨w.heap.size, 3, none⟩ (.int .i64 (f : Int))).setCell ⟨w.heap.size, 4, none⟩ (.int .i64 (u : Int)))) := (((((belowCall B3.out B11.out B3.out.size).setCell (Nat.le_refl _) _).setCell (Nat.le_refl _) _).setCell (Nat.le_refl _) _).setCell (Nat.le_refl _) _).setCell (Nat.le_refl _) _
              have c0 := kr.cell 0
              have c1 := kr.cell 1
              have c2 := kr.cell 2
              have c3 := kr.cell 3
              have c4 := kr.cell 4
              have f0 := kr.frozen 0
              have f1 := kr.frozen 1
              have f2 := kr.frozen 2
              have f3 := kr.frozen 3
              have f4 := kr.frozen 4
              simp at c0 c1 c2 c3 c4
              clear kr kf z0 zd zm B11
              go_wp2
              exact bodyPost_ret (v := .tuple #[.agg (C5 t i k f u), .bool true]) (results_82 rfl _ _ w.heap.size _ _ _ _ _ _ rfl rfl KF.out) rfl ⟨by rw [HE.out.1]; simp only [clV, HE.out.2.1, HE.out.2.2, Option.isSome], BE.out⟩
      rw [decide_eq_false ci]
      have HC : Hid (clB cs t i k f u = false) := by show _ = _; rw [clB, atB, HR.out]; simp [HCR.out.1, ci]
      clear ci
      have HNX : Hid (∀ p, p < f * cs.length + (u + 1) → clB cs t i k (p / cs.length) (p % cs.length) = false) := clB_next (by rw [HN.out]; exact hlu) (HC.out) HU.out
      go_wp2
      go_roundw
      case rel => exact ⟨u + 1, by omega, by go_num, B5.out, HNX.out⟩
      case measure => simp [intOf]; omega
end Go.Proofs.Ytfaflnhembceoaa

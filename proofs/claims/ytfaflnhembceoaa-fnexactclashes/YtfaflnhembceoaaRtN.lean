/- The model's Route7; no condition. -/
import Derived.Test.YtfaflnhembceoaaRtM
import Derived.Test.YtfaflnhembceoaaApp
namespace Go.Proofs.Ytfaflnhembceoaa
open Go.RowKit Go.ChangeShapes Go.WideShapes Go.ChangeAt
set_option linter.unusedVariables false
set_option linter.unusedSimpArgs false
set_option maxRecDepth 8000
theorem size29 : (Try.prog.info? 29).map (·.size) = some 3 := by kernel_rfl
def lenV : Value → Nat
  | .slice _ n _ => n
  | _ => 0
theorem rt_fin {w W : World} {cells : Array Value} {v : Value} {hops : List Int} (c a : Int) (hk : Blk W w.heap.size cells 29) (hc : cells.size = 3) (ho : Ow .i64 3 (w.heap.size + 1) W v hops) (hb : Below w.heap.size w W) :
    Blk (((W.setCell ⟨w.heap.size, 0, none⟩ (.int .i64 c)).setCell ⟨w.heap.size, 1, none⟩ (.int .i64 a)).setCell ⟨w.heap.size, 2, none⟩ v) w.heap.size (O3 c a v) 29 ∧
    Ow .i64 3 w.heap.size (((W.setCell ⟨w.heap.size, 0, none⟩ (.int .i64 c)).setCell ⟨w.heap.size, 1, none⟩ (.int .i64 a)).setCell ⟨w.heap.size, 2, none⟩ v) v hops ∧
    Below w.heap.size w (((W.setCell ⟨w.heap.size, 0, none⟩ (.int .i64 c)).setCell ⟨w.heap.size, 1, none⟩ (.int .i64 a)).setCell ⟨w.heap.size, 2, none⟩ v) := by
  obtain ⟨l⟩ := cells
  match l, hc with
  | [x0, x1, x2], _ =>
    have hne : v.ownBlock = none ∨ v.ownBlock ≠ some w.heap.size := by
      rcases hq : v.ownBlock with _ | k
      · exact .inl rfl
      · exact .inr (fun h => by simp at h; have := (World.ownsRow.lt ho k hq).1; omega)
    have Q := ((hk.set 0 (.int .i64 c)).set 1 (.int .i64 a)).set 2 v
    have g1 := World.ownsRow.kept ho (grown_set W w.heap.size 0 (.int .i64 c)) hne
    have g2 := World.ownsRow.kept g1 (grown_set _ w.heap.size 1 (.int .i64 a)) hne
    have g3 := World.ownsRow.kept g2 (grown_set _ w.heap.size 2 v) hne
    exact ⟨Q, Ow.mono g3 (by omega), ((hb.setCell (by exact Nat.le_refl _) _).setCell (by exact Nat.le_refl _) _).setCell (by exact Nat.le_refl _) _⟩
theorem goR_stop {cs : Sbs} {f m t : Nat} {hops : List Int} (h : stopB f t hops = true) : goR cs f (m + 1) t hops = (7, (t : Int), hops) := by rw [goR, if_pos h]
theorem goR_end {cs : Sbs} {f m t : Nat} {hops : List Int} (h : stopB f t hops = false) (h0 : (turnF (prvB cs f) f (cs.getD t sb0)).1 ≠ 0) : goR cs f (m + 1) t hops = ((turnF (prvB cs f) f (cs.getD t sb0)).1, (t : Int), hops) := by
  rw [goR, if_neg (by rw [h]; simp), if_neg h0]
theorem goR_on {cs : Sbs} {f m t : Nat} {hops : List Int} (h : stopB f t hops = false) (h0 : (turnF (prvB cs f) f (cs.getD t sb0)).1 = 0) : goR cs f (m + 1) t hops = goR cs f m (turnF (prvB cs f) f (cs.getD t sb0)).2.toNat (hops ++ [(t : Int)]) := by
  rw [goR, if_neg (by rw [h]; simp), if_pos h0]
set_option maxHeartbeats 12800000 in
theorem routeM_c (v : Value) (cs : Sbs) (f t : Int) (w : World) (h : RdS w v cs) (hn : cs.length ≤ 1048576) : Calls Try.prog 13 #[v, .int .i64 f, .int .i64 t] w (RtR (rtF cs f t) w) := by
  have HRD : Hid (RdS w v cs) := h
  obtain ⟨a, cap, rfl, g1, g2⟩ := h.len
  unfold maxLen at g2
  obtain ⟨n, hnn⟩ : ∃ n, cs.length = n := ⟨_, rfl⟩
  have HN : Hid (cs.length = n) := hnn
  rw [hnn] at g1 hn HRD ⊢
  clear h hnn
  obtain ⟨W0, hW0⟩ : ∃ W0, w.alloc (Obj.cells (O3 0 0 (.slice none 0 0)) 29) = W0 := ⟨_, rfl⟩
  have hb0 : Below w.heap.size w W0 := hW0 ▸ (Below.refl _ _).alloc (Nat.le_refl _) _
  have B0 : Hid (Below w.heap.size w W0) := hb0
  have K0 : Hid (Blk W0 w.heap.size (O3 0 0 (.slice none 0 0)) 29) := hW0 ▸ Blk.new _ _ _
  have FIN : Hid (∀ (W : World) (c a : Int) (v : Value) (hops : List Int) (cells : Array Value), Blk W w.heap.size cells 29 → cells.size = 3 → Ow .i64 3 (w.heap.size + 1) W v hops → Below w.heap.size w W → rtF cs f t = (c, a, hops) → ∀ A : Act, A.tmps.getD 6 undef = .pointer (some ⟨w.heap.size, 0, none⟩) → A.defers = [] → bodyPost Try.prog Try.f13 (RtR (rtF cs f t) w) Exit.ret A (((W.setCell ⟨w.heap.size, 0, none⟩ (.int .i64 c)).setCell ⟨w.heap.size, 1, none⟩ (.int .i64 a)).setCell ⟨w.heap.size, 2, none⟩ v)) := by
    intro W c a v hops cells hk hc ho hb he A hA hD
    obtain ⟨q1, q2, q3⟩ := rt_fin c a hk hc ho hb
    rw [he]
    exact bodyPost_ret (v := .agg (O3 c a v)) (results_cell_row rfl _ _ _ 29 _ (0, 0) _ hA q1 Try.underlying29 rfl size29) hD ⟨v, rfl, q2, q3⟩
  clear hb0
  go_enter Try.func13, Try.ntmps13
  go_wp2_with (fail)
  clear hW0
  refine (subsM_c _ cs W0 (HRD.out.below B0.out) (by rw [HN.out]; exact hn)).mono ?_
  rintro e w1 ⟨r, rfl, hr, b1⟩
  have B1 : Hid (Below w.heap.size w w1) := belowCall B0.out b1 B0.out.size
  have K1 : Hid (Blk w1 w.heap.size (O3 0 0 (.slice none 0 0)) 29) := K0.out.below b1 K0.out.lt
  have HQ : Hid (r = true ↔ SbOk cs) := hr
  clear hr b1 B0 K0
  cases r with
  | false =>
    have HY : Hid (rtF cs f t = (8, -1, [])) := by
      show rtF cs f t = (8, -1, [])
      rw [rtF, if_neg (fun g => by have := HQ.out.2 g.1; cases this)]
    have r0 := K1.out.cell 0
    have r1 := K1.out.cell 1
    have r2 := K1.out.cell 2
    have rz0 := K1.out.frozen 0
    have rz1 := K1.out.frozen 1
    have rz2 := K1.out.frozen 2
    simp at r0 r1 r2
    go_wp2
    exact FIN.out _ 8 (-1) _ [] _ K1.out rfl (Ow.nil ..) B1.out HY.out _ rfl rfl
  | true =>
  have HOK : Hid (SbOk cs) := HQ.out.1 rfl
  have hn16 : 1 ≤ n ∧ n ≤ 16 := by have := HOK.out.1; have := HOK.out.2.1; have := HN.out; omega
  clear HQ
  go_wp2_with (fail)
  refine (in_c f 0 ((n : Int) - 1) w1).mono ?_
  rintro e wq ⟨rfl, hwq⟩
  rw [hwq]
  clear hwq wq
  by_cases hf : 0 ≤ f ∧ f ≤ (n : Int) - 1
  case neg =>
    rw [decide_eq_false hf]
    have HY : Hid (rtF cs f t = (8, -1, [])) := by
      show rtF cs f t = (8, -1, [])
      rw [rtF, if_neg (fun g => hf (by have := g.2.1; have := HN.out; omega))]
    have r0 := K1.out.cell 0
    have r1 := K1.out.cell 1
    have r2 := K1.out.cell 2
    have rz0 := K1.out.frozen 0
    have rz1 := K1.out.frozen 1
    have rz2 := K1.out.frozen 2
    simp at r0 r1 r2
    go_wp2
    exact FIN.out _ 8 (-1) _ [] _ K1.out rfl (Ow.nil ..) B1.out HY.out _ rfl rfl
  rw [decide_eq_true hf]
  go_wp2_with (fail)
  refine (in_c t 0 ((n : Int) - 1) w1).mono ?_
  rintro e wq ⟨rfl, hwq⟩
  rw [hwq]
  clear hwq wq
  by_cases ht : 0 ≤ t ∧ t ≤ (n : Int) - 1
  case neg =>
    rw [decide_eq_false ht]
    have HY : Hid (rtF cs f t = (8, -1, [])) := by
      show rtF cs f t = (8, -1, [])
      rw [rtF, if_neg (fun g => ht (by have := g.2.2.1; have := HN.out; omega))]
    have r0 := K1.out.cell 0
    have r1 := K1.out.cell 1
    have r2 := K1.out.cell 2
    have rz0 := K1.out.frozen 0
    have rz1 := K1.out.frozen 1
    have rz2 := K1.out.frozen 2
    simp at r0 r1 r2
    go_wp2
    exact FIN.out _ 8 (-1) _ [] _ K1.out rfl (Ow.nil ..) B1.out HY.out _ rfl rfl
  rw [decide_eq_true ht]
  by_cases hft : f = t
  case pos =>
    have y : (f == t) = true := by simp [hft]
    have HY : Hid (rtF cs f t = (8, -1, [])) := by
      show rtF cs f t = (8, -1, [])
      rw [rtF, if_neg (fun g => g.2.2.2 hft)]
    have r0 := K1.out.cell 0
    have r1 := K1.out.cell 1
    have r2 := K1.out.cell 2
    have rz0 := K1.out.frozen 0
    have rz1 := K1.out.frozen 1
    have rz2 := K1.out.frozen 2
    simp at r0 r1 r2
    go_wp2
    exact FIN.out _ 8 (-1) _ [] _ K1.out rfl (Ow.nil ..) B1.out HY.out _ rfl rfl
  have y : (f == t) = false := by simp [hft]
  have HG : Hid (goodB cs f t) := ⟨HOK.out, by rw [HN.out]; omega, by rw [HN.out]; omega, hft⟩
  obtain ⟨F, rfl⟩ : ∃ F : Nat, f = F := ⟨f.toNat, by omega⟩
  obtain ⟨U, rfl⟩ : ∃ U : Nat, t = U := ⟨t.toNat, by omega⟩
  have hF : F < n := by omega
  have hU : U < n := by omega
  have hFl : F < cs.length := by rw [HN.out]; exact hF
  clear hft hf ht
  obtain ⟨b, off, v1, rfl, hcb, hRf, d0, d1, d2⟩ := HRD.out.at F hFl
  have HFS : Hid (fsOf cs F = cs[F].2.2) := fsOf_at hFl
  obtain ⟨a1, cap1, rfl, -⟩ := id hRf
  obtain ⟨p, hp⟩ : ∃ p, cs[F].1 = p := ⟨_, rfl⟩
  obtain ⟨q, hq⟩ : ∃ q, cs[F].2.1 = q := ⟨_, rfl⟩
  obtain ⟨L1, hL1⟩ : ∃ L, cs[F].2.2.length = L := ⟨_, rfl⟩
  rw [hp] at d0
  rw [hq] at d1
  have HR1 : Hid (Rp mf mg w1 (.slice a1 L1 cap1) cs[F].2.2) := by rw [← hL1]; exact hRf.below B1.out
  rw [hL1] at d2
  have c0 := (B1.out.cell (p := ⟨b, off + F * 3, none⟩) hcb).trans d0
  have c1 := (B1.out.cell (p := ⟨b, off + F * 3 + 1, none⟩) hcb).trans d1
  have c2 := (B1.out.cell (p := ⟨b, off + F * 3 + 2, none⟩) hcb).trans d2
  clear d0 d1 d2 hp hq hL1 hRf
  go_wp2_with (fail)
  refine (has_c p q _ _ 4 w1 HR1.out).mono ?_
  rintro e w2 ⟨rfl, b2⟩
  have B2 : Hid (Below w.heap.size w w2) := belowCall B1.out b2 B1.out.size
  have K2 : Hid (Blk w2 w.heap.size (O3 0 0 (.slice none 0 0)) 29) := K1.out.below b2 K1.out.lt
  obtain ⟨z, hz⟩ : ∃ z, hasV cs[F].2.2 4 = z := ⟨_, rfl⟩
  rw [hz]
  have HZ : Hid (hasV (fsOf cs (F : Int).toNat) 4 = z) := by
    show hasV (fsOf cs (F : Int).toNat) 4 = z
    rw [Int.toNat_natCast, HFS.out]; exact hz
  clear c0 c1 c2 hz b2 HR1 B1 K1 HFS y
  by_cases hzz : 0 ≤ z
  case pos =>
    have HY : Hid (rtF cs F U = (5, (F : Int), [])) := by
      show rtF cs F U = (5, (F : Int), [])
      rw [rtF, if_pos HG.out, if_pos (by rw [HZ.out]; exact hzz)]
    have hge : decide (z ≥ 0) = true := decide_eq_true hzz
    have r0 := K2.out.cell 0
    have r1 := K2.out.cell 1
    have r2 := K2.out.cell 2
    have rz0 := K2.out.frozen 0
    have rz1 := K2.out.frozen 1
    have rz2 := K2.out.frozen 2
    simp at r0 r1 r2
    go_wp2
    exact FIN.out _ 5 F _ [] _ K2.out rfl (Ow.nil ..) B2.out HY.out _ rfl rfl
  have hge : decide (z ≥ 0) = false := decide_eq_false hzz
  have HGO : Hid (rtF cs F U = goR cs F 7 U []) := by
    show rtF cs F U = goR cs F 7 U []
    rw [rtF, if_pos HG.out, if_neg (by rw [HZ.out]; exact hzz), Int.toNat_natCast, Int.toNat_natCast]
  clear hzz HZ HG
  obtain ⟨R, hR⟩ : ∃ R, rtF cs F U = R := ⟨_, rfl⟩
  have HRR : Hid (rtF cs F U = R) := hR
  rw [hR] at HGO
  have hk2 := K2.out.lt
  have HO2 : Hid (Ow .i64 3 (w.heap.size + 1) (w2.alloc (.cells #[] 3)) (.slice (some ⟨w2.heap.size, 0, none⟩) 0 0) []) := Ow.empty .i64 3 _ w2 (by omega)
  have ba2 : Below w2.heap.size w2 (w2.alloc (.cells #[] 3)) := (Below.refl _ _).alloc (Nat.le_refl _) _
  have BL : Hid (Below w.heap.size w (w2.alloc (.cells #[] 3))) := belowCall B2.out ba2 B2.out.size
  have KL : Hid (Blk (w2.alloc (.cells #[] 3)) w.heap.size (O3 0 0 (.slice none 0 0)) 29) := K2.out.below ba2 K2.out.lt
  clear hR ba2 K2 B2 hk2
  go_wp2
  go_loopw [7, 8] (fun hv tv wr => ∃ (hops : List Int) (k m : Nat), tv = .int .i64 (k : Int) ∧ k < n ∧ hops.length ≤ 6 ∧ hops.length + m = 7 ∧ Hid (R = goR cs F m k hops) ∧ Hid (Ow .i64 3 (w.heap.size + 1) wr hv hops) ∧ Hid (Blk wr w.heap.size (O3 0 0 (.slice none 0 0)) 29) ∧ Hid (Below w.heap.size w wr)) (fun hv _ _ => 7 - lenV hv)
  case atStart => exact ⟨[], U, 7, rfl, hU, by simp, by simp, HGO.out, HO2.out, KL.out, BL.out⟩
  case round =>
    obtain ⟨hops, k, m, rfl, hk, hl6, hlm, HGR, HO, KR, BR⟩ := hrel
    obtain ⟨ha, hcap, rfl, hc1, hc2, -⟩ := own_form HO.out
    clear HGO HO2 KL BL
    obtain ⟨m', rfl⟩ : ∃ m', m = m' + 1 := ⟨m - 1, by omega⟩
    have hkl : k < cs.length := by rw [HN.out]; exact hk
    obtain ⟨b', off', v2, e, -, hRt, t0, t1, t2⟩ := HRD.out.at k hkl
    injection e with e
    injection e with e1 e2
    subst e1 e2
    obtain ⟨a2, cap2, rfl, -⟩ := id hRt
    obtain ⟨s, hs⟩ : ∃ s, cs[k] = s := ⟨_, rfl⟩
    have HSD : Hid (cs.getD k sb0 = s) := by
      show cs.getD k sb0 = s
      rw [← hs]; simp [List.getElem?_eq_getElem hkl]
    have HSF : Hid (fsOf cs k = s.2.2) := by
      show fsOf cs k = s.2.2
      rw [fsOf, HSD.out]
    rw [hs] at hRt t0 t1 t2
    obtain ⟨p1, q1, fs⟩ := s
    dsimp only at hRt t0 t1 t2 HSF
    obtain ⟨L2, hL2⟩ : ∃ L, fs.length = L := ⟨_, rfl⟩
    rw [hL2] at hRt t2
    have c0 := (BR.out.cell (p := ⟨b, off + k * 3, none⟩) hcb).trans t0
    have c1 := (BR.out.cell (p := ⟨b, off + k * 3 + 1, none⟩) hcb).trans t1
    have c2 := (BR.out.cell (p := ⟨b, off + k * 3 + 2, none⟩) hcb).trans t2
    have HT : Hid (Rp mf mg w (.slice a2 L2 cap2) fs) := hRt
    obtain ⟨W1, hW1⟩ : ∃ W1, wr.alloc (Obj.cells (S3 p1 q1 (.slice a2 L2 cap2)) 35) = W1 := ⟨_, rfl⟩
    have bA : Below wr.heap.size wr W1 := hW1 ▸ (Below.refl _ _).alloc (Nat.le_refl _) _
    have B3 : Hid (Below w.heap.size w W1) := belowCall BR.out bA BR.out.size
    have K3 : Hid (Blk W1 w.heap.size (O3 0 0 (.slice none 0 0)) 29) := KR.out.below bA KR.out.lt
    have O4 : Hid (Ow .i64 3 (w.heap.size + 1) W1 (.slice ha hops.length hcap) hops) := HO.out.below bA
    obtain ⟨gs, hgs⟩ : ∃ gs, wr.heap.size = gs := ⟨_, rfl⟩
    have S3b : Hid (Blk W1 gs (S3 p1 q1 (.slice a2 L2 cap2)) 35) := hgs ▸ hW1 ▸ Blk.new _ _ _
    obtain ⟨N, hNN⟩ : ∃ N, hops.length = N := ⟨_, rfl⟩
    have HNL : Hid (hops.length = N) := hNN
    rw [hNN] at hl6 hlm O4 hc1 ⊢
    have HSTOP : Hid (stopB F k hops = (decide ((k : Int) = F) || (decide ((k : Int) ∈ hops) || decide (5 < N)))) := by
      show stopB F k hops = _
      rw [stopB, HNL.out]
    clear hs hL2 hRt t0 t1 t2 bA hNN HO KR BR
    by_cases hkF : (k : Int) = F
    case pos =>
      have y : ((k : Int) == (F : Int)) = true := by simp [hkF]
      have HST : Hid (stopB F k hops = true) := by
        show stopB F k hops = true
        rw [HSTOP.out]; simp [hkF]
      clear hkF HSTOP
      have HY : Hid (rtF cs F U = (7, (k : Int), hops)) := by
        show rtF cs F U = (7, (k : Int), hops)
        rw [HRR.out, HGR.out, goR_stop (HST.out)]
      have r0 := K3.out.cell 0
      have r1 := K3.out.cell 1
      have r2 := K3.out.cell 2
      have rz0 := K3.out.frozen 0
      have rz1 := K3.out.frozen 1
      have rz2 := K3.out.frozen 2
      simp at r0 r1 r2
      go_wp2
      exact FIN.out _ 7 k _ hops _ K3.out rfl O4.out B3.out HY.out _ rfl rfl
    have y : ((k : Int) == (F : Int)) = false := by simp; omega
    go_wp2_with (fail)
    clear hW1 hgs c0 c1 c2
    refine (within_c _ hops k W1 O4.out.rd).mono ?_
    rintro e wq ⟨rfl, hwq⟩
    rw [hwq]
    clear hwq wq
    by_cases hmem : (k : Int) ∈ hops
    case pos =>
      rw [decide_eq_true hmem]
      have HST : Hid (stopB F k hops = true) := by
        show stopB F k hops = true
        rw [HSTOP.out]; simp [hmem]
      clear hkF HSTOP hmem
      have HY : Hid (rtF cs F U = (7, (k : Int), hops)) := by
        show rtF cs F U = (7, (k : Int), hops)
        rw [HRR.out, HGR.out, goR_stop (HST.out)]
      have r0 := K3.out.cell 0
      have r1 := K3.out.cell 1
      have r2 := K3.out.cell 2
      have rz0 := K3.out.frozen 0
      have rz1 := K3.out.frozen 1
      have rz2 := K3.out.frozen 2
      simp at r0 r1 r2
      go_wp2
      exact FIN.out _ 7 k _ hops _ K3.out rfl O4.out B3.out HY.out _ rfl rfl
    rw [decide_eq_false hmem]
    by_cases h5 : 5 < N
    case pos =>
      have y5 : (5 : Int) < (N : Int) := by omega
      have HST : Hid (stopB F k hops = true) := by
        show stopB F k hops = true
        rw [HSTOP.out]; simp [h5]
      clear hkF HSTOP hmem
      have HY : Hid (rtF cs F U = (7, (k : Int), hops)) := by
        show rtF cs F U = (7, (k : Int), hops)
        rw [HRR.out, HGR.out, goR_stop (HST.out)]
      have r0 := K3.out.cell 0
      have r1 := K3.out.cell 1
      have r2 := K3.out.cell 2
      have rz0 := K3.out.frozen 0
      have rz1 := K3.out.frozen 1
      have rz2 := K3.out.frozen 2
      simp at r0 r1 r2
      go_wp2
      exact FIN.out _ 7 k _ hops _ K3.out rfl O4.out B3.out HY.out _ rfl rfl
    have y5 : ¬ ((5 : Int) < (N : Int)) := by omega
    have HST : Hid (stopB F k hops = false) := by
      show stopB F k hops = false
      rw [HSTOP.out]; simp [h5, hmem]; omega
    clear hkF HSTOP hmem
    go_wp2_with (fail)
    refine (screened_c _ cs F k W1 (HRD.out.below B3.out) hFl hkl (by rw [HN.out]; omega)).mono ?_
    rintro e w3 ⟨rfl, b3⟩
    have B4 : Hid (Below w.heap.size w w3) := belowCall B3.out b3 B3.out.size
    have K4 : Hid (Blk w3 w.heap.size (O3 0 0 (.slice none 0 0)) 29) := K3.out.below b3 K3.out.lt
    have O5 : Hid (Ow .i64 3 (w.heap.size + 1) w3 (.slice ha N hcap) hops) := O4.out.below b3
    have S4 : Hid (Blk w3 gs (S3 p1 q1 (.slice a2 L2 cap2)) 35) := S3b.out.below b3 S3b.out.lt
    obtain ⟨pv, hpv⟩ : ∃ pv, prvB cs F = pv := ⟨_, rfl⟩
    obtain ⟨sc, hsc⟩ : ∃ sc, scrB cs F k = sc := ⟨_, rfl⟩
    have HSC : Hid (fs.any (scF pv F) = sc) := by
      show fs.any (scF pv F) = sc
      rw [← hsc, scrB, HSF.out, hpv]
    have HTU : Hid (turnF (prvB cs F) F (cs.getD k sb0) = turnF pv F (p1, q1, fs)) := by
      show turnF (prvB cs F) F (cs.getD k sb0) = _
      rw [HSD.out, hpv]
    rw [hsc]
    clear hsc hpv b3 B3 K3 O4 S3b
    cases sc with
    | true =>
      have HTQ : Hid (turnF pv F (p1, q1, fs) = (6, 0)) := by
        show turnF pv F (p1, q1, fs) = (6, 0)
        unfold turnF
        rw [if_pos HSC.out]
      have HY : Hid (rtF cs F U = (6, (k : Int), hops)) := by
        show rtF cs F U = (6, (k : Int), hops)
        rw [HRR.out, HGR.out, goR_end HST.out (by rw [HTU.out, HTQ.out]; decide), HTU.out, HTQ.out]
      have r0 := K4.out.cell 0
      have r1 := K4.out.cell 1
      have r2 := K4.out.cell 2
      have rz0 := K4.out.frozen 0
      have rz1 := K4.out.frozen 1
      have rz2 := K4.out.frozen 2
      simp at r0 r1 r2
      go_wp2
      exact FIN.out _ 6 k _ hops _ K4.out rfl O5.out B4.out HY.out _ rfl rfl
    | false =>
    have HS0 : Hid (¬ fs.any (scF pv F) = true) := fun h => by rw [HSC.out] at h; cases h
    clear HSC
    have x0 := S4.out.cell 0
    have x1 := S4.out.cell 1
    have x2 := S4.out.cell 2
    simp at x0 x1 x2
    go_wp2_with (fail)
    refine (has_c _ _ _ fs 1 _ (HT.out.below B4.out)).mono ?_
    rintro e w5 ⟨rfl, b5⟩
    have B5 : Hid (Below w.heap.size w w5) := belowCall B4.out b5 B4.out.size
    have K5 : Hid (Blk w5 w.heap.size (O3 0 0 (.slice none 0 0)) 29) := K4.out.below b5 K4.out.lt
    have O6 : Hid (Ow .i64 3 (w.heap.size + 1) w5 (.slice ha N hcap) hops) := O5.out.below b5
    have S5 : Hid (Blk w5 gs (S3 p1 q1 (.slice a2 L2 cap2)) 35) := S4.out.below b5 S4.out.lt
    clear x0 x1 x2 b5
    obtain ⟨u1, hv1⟩ : ∃ z, hasV fs 1 = z := ⟨_, rfl⟩
    have HV1 : Hid (hasV fs 1 = u1) := hv1
    rw [hv1]
    clear hv1
    by_cases z1 : 0 ≤ u1
    case pos =>
      have hge1 : decide (u1 ≥ 0) = true := decide_eq_true z1
      have x0 := S5.out.cell 0
      have x1 := S5.out.cell 1
      have x2 := S5.out.cell 2
      simp at x0 x1 x2
      go_wp2_with (fail)
      refine (has_c _ _ _ fs 1 _ (HT.out.below B5.out)).mono ?_
      rintro e w6 ⟨rfl, b6⟩
      have B6 : Hid (Below w.heap.size w w6) := belowCall B5.out b6 B5.out.size
      have K6 : Hid (Blk w6 w.heap.size (O3 0 0 (.slice none 0 0)) 29) := K5.out.below b6 K5.out.lt
      have O7 : Hid (Ow .i64 3 (w.heap.size + 1) w6 (.slice ha N hcap) hops) := O6.out.below b6
      have S6 : Hid (Blk w6 gs (S3 p1 q1 (.slice a2 L2 cap2)) 35) := S5.out.below b6 S5.out.lt
      clear x0 x1 x2 b6
      rw [HV1.out]
      have HTQ : Hid (turnF pv F (p1, q1, fs) = (0, u1)) := by
        show turnF pv F (p1, q1, fs) = (0, u1)
        unfold turnF
        rw [if_neg HS0.out, HV1.out, if_pos (show 0 ≤ u1 by omega)]
      have hnx := turn_next HOK.out k hkl (pv := prvB cs F) (f := F) (by rw [HTU.out, HTQ.out])
      rw [HTU.out, HTQ.out] at hnx
      obtain ⟨Z, hZ⟩ : ∃ Z : Nat, u1 = (Z : Int) := ⟨(u1).toNat, by have := hnx.1; dsimp only at this; omega⟩
      have hZn : Z < n := by
        have := hnx.2
        dsimp only at this
        rw [hZ, HN.out, Int.toNat_natCast] at this; exact this
      have HGN : Hid (R = goR cs F m' Z (hops ++ [(k : Int)])) := by
        show R = goR cs F m' Z (hops ++ [(k : Int)])
        rw [HGR.out, goR_on HST.out (by rw [HTU.out, HTQ.out]), HTU.out, HTQ.out, hZ, Int.toNat_natCast]
      rw [hZ]
      clear hnx hZ HTQ
      obtain ⟨w9, hw9⟩ : ∃ w9, w6.alloc (.cells #[.int .i64 (k : Int)] 3) = w9 := ⟨_, rfl⟩
      have ba9 : Below w6.heap.size w6 w9 := hw9 ▸ (Below.refl _ _).alloc (Nat.le_refl _) _
      have B9 : Hid (Below w.heap.size w w9) := belowCall B6.out ba9 B6.out.size
      have K9 : Hid (Blk w9 w.heap.size (O3 0 0 (.slice none 0 0)) 29) := K6.out.below ba9 K6.out.lt
      have O9 : Hid (Ow .i64 3 (w.heap.size + 1) w9 (.slice ha N hcap) hops) := O7.out.below ba9
      have x9 : w9.cell? ⟨w6.heap.size, 0, none⟩ = some (.int .i64 (k : Int)) := hw9 ▸ (Blk.new w6 #[.int .i64 (k : Int)] 3).cell 0
      have X9 : Hid (w9.cell? ⟨w6.heap.size, 0, none⟩ = some (.int .i64 (k : Int))) := x9
      have hz9 : w.heap.size + 1 ≤ w9.heap.size := by have := K9.out.lt; omega
      clear ba9 x9
      go_wp2_with (at_builtin; refine appI rfl (.tmp 116) (.tmp 118) rfl (w.heap.size + 1) _ hops rfl O9.out w6.heap.size k rfl X9.out (by have := HNL.out; omega) hz9 ?_)
      intro v9 w10 o10 b10
      have O10 : Hid (Ow .i64 3 (w.heap.size + 1) w10 v9 (hops ++ [(k : Int)])) := o10
      have B10 : Hid (Below w.heap.size w w10) := B9.out.trans (b10.mono (by omega))
      have K10 : Hid (Blk w10 w.heap.size (O3 0 0 (.slice none 0 0)) 29) := K9.out.below b10 (by omega)
      obtain ⟨a9, cap9, rfl, -⟩ := own_form o10
      have hl9 : (hops ++ [(k : Int)]).length = N + 1 := by simp [HNL.out]
      have HL9 : Hid ((hops ++ [(k : Int)]).length = N + 1) := hl9
      rw [hl9] at O10 ⊢
      clear o10 b10 hl9 hw9
      go_wp2
      go_roundw
      case rel => exact ⟨hops ++ [(k : Int)], Z, m', rfl, hZn, by rw [HL9.out]; omega, by rw [HL9.out]; omega, HGN.out, O10.out, K10.out, B10.out⟩
      case measure => simp [lenV]; omega
    have hge1 : decide (u1 ≥ 0) = false := decide_eq_false z1
    cases p1 with
    | true =>
      have x0 := S5.out.cell 0
      have x1 := S5.out.cell 1
      have x2 := S5.out.cell 2
      simp at x0 x1 x2
      go_wp2_with (fail)
      refine (has_c _ _ _ fs 6 _ (HT.out.below B5.out)).mono ?_
      rintro e w6 ⟨rfl, b6⟩
      have B6 : Hid (Below w.heap.size w w6) := belowCall B5.out b6 B5.out.size
      have K6 : Hid (Blk w6 w.heap.size (O3 0 0 (.slice none 0 0)) 29) := K5.out.below b6 K5.out.lt
      have O7 : Hid (Ow .i64 3 (w.heap.size + 1) w6 (.slice ha N hcap) hops) := O6.out.below b6
      have S6 : Hid (Blk w6 gs (S3 true q1 (.slice a2 L2 cap2)) 35) := S5.out.below b6 S5.out.lt
      clear x0 x1 x2 b6
      obtain ⟨u6, hv6⟩ : ∃ z, hasV fs 6 = z := ⟨_, rfl⟩
      have HV6 : Hid (hasV fs 6 = u6) := hv6
      rw [hv6]
      clear hv6
      by_cases z6 : 0 ≤ u6
      case pos =>
        have hge6 : decide (u6 ≥ 0) = true := decide_eq_true z6
        have HTQ : Hid (turnF pv F (true, q1, fs) = (2, 0)) := by
          show turnF pv F (true, q1, fs) = (2, 0)
          unfold turnF
          rw [if_neg HS0.out, HV1.out, if_neg (show ¬ 0 ≤ u1 by omega), if_pos rfl, HV6.out, if_pos (show 0 ≤ u6 by omega)]
        have HY : Hid (rtF cs F U = (2, (k : Int), hops)) := by
          show rtF cs F U = (2, (k : Int), hops)
          rw [HRR.out, HGR.out, goR_end HST.out (by rw [HTU.out, HTQ.out]; decide), HTU.out, HTQ.out]
        have r0 := K6.out.cell 0
        have r1 := K6.out.cell 1
        have r2 := K6.out.cell 2
        have rz0 := K6.out.frozen 0
        have rz1 := K6.out.frozen 1
        have rz2 := K6.out.frozen 2
        simp at r0 r1 r2
        go_wp2
        exact FIN.out _ 2 k _ hops _ K6.out rfl O7.out B6.out HY.out _ rfl rfl
      have hge6 : decide (u6 ≥ 0) = false := decide_eq_false z6
      have x0 := S6.out.cell 0
      have x1 := S6.out.cell 1
      have x2 := S6.out.cell 2
      simp at x0 x1 x2
      go_wp2_with (fail)
      refine (has_c _ _ _ fs 2 _ (HT.out.below B6.out)).mono ?_
      rintro e w7 ⟨rfl, b7⟩
      have B7 : Hid (Below w.heap.size w w7) := belowCall B6.out b7 B6.out.size
      have K7 : Hid (Blk w7 w.heap.size (O3 0 0 (.slice none 0 0)) 29) := K6.out.below b7 K6.out.lt
      have O8 : Hid (Ow .i64 3 (w.heap.size + 1) w7 (.slice ha N hcap) hops) := O7.out.below b7
      have S7 : Hid (Blk w7 gs (S3 true q1 (.slice a2 L2 cap2)) 35) := S6.out.below b7 S6.out.lt
      clear x0 x1 x2 b7
      obtain ⟨u2, hv2⟩ : ∃ z, hasV fs 2 = z := ⟨_, rfl⟩
      have HV2 : Hid (hasV fs 2 = u2) := hv2
      rw [hv2]
      clear hv2
      by_cases z2 : 0 ≤ u2
      case pos =>
        have hge2 : decide (u2 ≥ 0) = true := decide_eq_true z2
        have x0 := S7.out.cell 0
        have x1 := S7.out.cell 1
        have x2 := S7.out.cell 2
        simp at x0 x1 x2
        go_wp2_with (fail)
        refine (has_c _ _ _ fs 2 _ (HT.out.below B7.out)).mono ?_
        rintro e w8 ⟨rfl, b8⟩
        have B8 : Hid (Below w.heap.size w w8) := belowCall B7.out b8 B7.out.size
        have K8 : Hid (Blk w8 w.heap.size (O3 0 0 (.slice none 0 0)) 29) := K7.out.below b8 K7.out.lt
        have O9 : Hid (Ow .i64 3 (w.heap.size + 1) w8 (.slice ha N hcap) hops) := O8.out.below b8
        have S8 : Hid (Blk w8 gs (S3 true q1 (.slice a2 L2 cap2)) 35) := S7.out.below b8 S7.out.lt
        clear x0 x1 x2 b8
        rw [HV2.out]
        have HTQ : Hid (turnF pv F (true, q1, fs) = (0, u2)) := by
          show turnF pv F (true, q1, fs) = (0, u2)
          unfold turnF
          rw [if_neg HS0.out, HV1.out, if_neg (show ¬ 0 ≤ u1 by omega), if_pos rfl, HV6.out, if_neg (show ¬ 0 ≤ u6 by omega), HV2.out, if_pos (show 0 ≤ u2 by omega)]
        have hnx := turn_next HOK.out k hkl (pv := prvB cs F) (f := F) (by rw [HTU.out, HTQ.out])
        rw [HTU.out, HTQ.out] at hnx
        obtain ⟨Z, hZ⟩ : ∃ Z : Nat, u2 = (Z : Int) := ⟨(u2).toNat, by have := hnx.1; dsimp only at this; omega⟩
        have hZn : Z < n := by
          have := hnx.2
          dsimp only at this
          rw [hZ, HN.out, Int.toNat_natCast] at this; exact this
        have HGN : Hid (R = goR cs F m' Z (hops ++ [(k : Int)])) := by
          show R = goR cs F m' Z (hops ++ [(k : Int)])
          rw [HGR.out, goR_on HST.out (by rw [HTU.out, HTQ.out]), HTU.out, HTQ.out, hZ, Int.toNat_natCast]
        rw [hZ]
        clear hnx hZ HTQ
        obtain ⟨w9, hw9⟩ : ∃ w9, w8.alloc (.cells #[.int .i64 (k : Int)] 3) = w9 := ⟨_, rfl⟩
        have ba9 : Below w8.heap.size w8 w9 := hw9 ▸ (Below.refl _ _).alloc (Nat.le_refl _) _
        have B9 : Hid (Below w.heap.size w w9) := belowCall B8.out ba9 B8.out.size
        have K9 : Hid (Blk w9 w.heap.size (O3 0 0 (.slice none 0 0)) 29) := K8.out.below ba9 K8.out.lt
        have O9 : Hid (Ow .i64 3 (w.heap.size + 1) w9 (.slice ha N hcap) hops) := O9.out.below ba9
        have x9 : w9.cell? ⟨w8.heap.size, 0, none⟩ = some (.int .i64 (k : Int)) := hw9 ▸ (Blk.new w8 #[.int .i64 (k : Int)] 3).cell 0
        have X9 : Hid (w9.cell? ⟨w8.heap.size, 0, none⟩ = some (.int .i64 (k : Int))) := x9
        have hz9 : w.heap.size + 1 ≤ w9.heap.size := by have := K9.out.lt; omega
        clear ba9 x9
        go_wp2_with (at_builtin; refine appI rfl (.tmp 116) (.tmp 118) rfl (w.heap.size + 1) _ hops rfl O9.out w8.heap.size k rfl X9.out (by have := HNL.out; omega) hz9 ?_)
        intro v9 w10 o10 b10
        have O10 : Hid (Ow .i64 3 (w.heap.size + 1) w10 v9 (hops ++ [(k : Int)])) := o10
        have B10 : Hid (Below w.heap.size w w10) := B9.out.trans (b10.mono (by omega))
        have K10 : Hid (Blk w10 w.heap.size (O3 0 0 (.slice none 0 0)) 29) := K9.out.below b10 (by omega)
        obtain ⟨a9, cap9, rfl, -⟩ := own_form o10
        have hl9 : (hops ++ [(k : Int)]).length = N + 1 := by simp [HNL.out]
        have HL9 : Hid ((hops ++ [(k : Int)]).length = N + 1) := hl9
        rw [hl9] at O10 ⊢
        clear o10 b10 hl9 hw9
        go_wp2
        go_roundw
        case rel => exact ⟨hops ++ [(k : Int)], Z, m', rfl, hZn, by rw [HL9.out]; omega, by rw [HL9.out]; omega, HGN.out, O10.out, K10.out, B10.out⟩
        case measure => simp [lenV]; omega
      have hge2 : decide (u2 ≥ 0) = false := decide_eq_false z2
      have x0 := S7.out.cell 0
      have x1 := S7.out.cell 1
      have x2 := S7.out.cell 2
      simp at x0 x1 x2
      have HTQ : Hid (turnF pv F (true, q1, fs) = (3, 0)) := by
        show turnF pv F (true, q1, fs) = (3, 0)
        unfold turnF
        rw [if_neg HS0.out, HV1.out, if_neg (show ¬ 0 ≤ u1 by omega), if_pos rfl, HV6.out, if_neg (show ¬ 0 ≤ u6 by omega), HV2.out, if_neg (show ¬ 0 ≤ u2 by omega)]
      have HY : Hid (rtF cs F U = (3, (k : Int), hops)) := by
        show rtF cs F U = (3, (k : Int), hops)
        rw [HRR.out, HGR.out, goR_end HST.out (by rw [HTU.out, HTQ.out]; decide), HTU.out, HTQ.out]
      have r0 := K7.out.cell 0
      have r1 := K7.out.cell 1
      have r2 := K7.out.cell 2
      have rz0 := K7.out.frozen 0
      have rz1 := K7.out.frozen 1
      have rz2 := K7.out.frozen 2
      simp at r0 r1 r2
      go_wp2
      exact FIN.out _ 3 k _ hops _ K7.out rfl O8.out B7.out HY.out _ rfl rfl
    | false =>
    cases q1 with
    | true =>
      have x0 := S5.out.cell 0
      have x1 := S5.out.cell 1
      have x2 := S5.out.cell 2
      simp at x0 x1 x2
      go_wp2_with (fail)
      refine (has_c _ _ _ fs 3 _ (HT.out.below B5.out)).mono ?_
      rintro e w6 ⟨rfl, b6⟩
      have B6 : Hid (Below w.heap.size w w6) := belowCall B5.out b6 B5.out.size
      have K6 : Hid (Blk w6 w.heap.size (O3 0 0 (.slice none 0 0)) 29) := K5.out.below b6 K5.out.lt
      have O7 : Hid (Ow .i64 3 (w.heap.size + 1) w6 (.slice ha N hcap) hops) := O6.out.below b6
      have S6 : Hid (Blk w6 gs (S3 false true (.slice a2 L2 cap2)) 35) := S5.out.below b6 S5.out.lt
      clear x0 x1 x2 b6
      obtain ⟨u3, hv3⟩ : ∃ z, hasV fs 3 = z := ⟨_, rfl⟩
      have HV3 : Hid (hasV fs 3 = u3) := hv3
      rw [hv3]
      clear hv3
      by_cases z3 : 0 ≤ u3
      case pos =>
        have hge3 : decide (u3 ≥ 0) = true := decide_eq_true z3
        have x0 := S6.out.cell 0
        have x1 := S6.out.cell 1
        have x2 := S6.out.cell 2
        simp at x0 x1 x2
        go_wp2_with (fail)
        refine (has_c _ _ _ fs 3 _ (HT.out.below B6.out)).mono ?_
        rintro e w7 ⟨rfl, b7⟩
        have B7 : Hid (Below w.heap.size w w7) := belowCall B6.out b7 B6.out.size
        have K7 : Hid (Blk w7 w.heap.size (O3 0 0 (.slice none 0 0)) 29) := K6.out.below b7 K6.out.lt
        have O8 : Hid (Ow .i64 3 (w.heap.size + 1) w7 (.slice ha N hcap) hops) := O7.out.below b7
        have S7 : Hid (Blk w7 gs (S3 false true (.slice a2 L2 cap2)) 35) := S6.out.below b7 S6.out.lt
        clear x0 x1 x2 b7
        rw [HV3.out]
        have HTQ : Hid (turnF pv F (false, true, fs) = (0, u3)) := by
          show turnF pv F (false, true, fs) = (0, u3)
          unfold turnF
          rw [if_neg HS0.out, HV1.out, if_neg (show ¬ 0 ≤ u1 by omega), if_neg (by simp), if_pos rfl, HV3.out, if_pos (show 0 ≤ u3 by omega)]
        have hnx := turn_next HOK.out k hkl (pv := prvB cs F) (f := F) (by rw [HTU.out, HTQ.out])
        rw [HTU.out, HTQ.out] at hnx
        obtain ⟨Z, hZ⟩ : ∃ Z : Nat, u3 = (Z : Int) := ⟨(u3).toNat, by have := hnx.1; dsimp only at this; omega⟩
        have hZn : Z < n := by
          have := hnx.2
          dsimp only at this
          rw [hZ, HN.out, Int.toNat_natCast] at this; exact this
        have HGN : Hid (R = goR cs F m' Z (hops ++ [(k : Int)])) := by
          show R = goR cs F m' Z (hops ++ [(k : Int)])
          rw [HGR.out, goR_on HST.out (by rw [HTU.out, HTQ.out]), HTU.out, HTQ.out, hZ, Int.toNat_natCast]
        rw [hZ]
        clear hnx hZ HTQ
        obtain ⟨w9, hw9⟩ : ∃ w9, w7.alloc (.cells #[.int .i64 (k : Int)] 3) = w9 := ⟨_, rfl⟩
        have ba9 : Below w7.heap.size w7 w9 := hw9 ▸ (Below.refl _ _).alloc (Nat.le_refl _) _
        have B9 : Hid (Below w.heap.size w w9) := belowCall B7.out ba9 B7.out.size
        have K9 : Hid (Blk w9 w.heap.size (O3 0 0 (.slice none 0 0)) 29) := K7.out.below ba9 K7.out.lt
        have O9 : Hid (Ow .i64 3 (w.heap.size + 1) w9 (.slice ha N hcap) hops) := O8.out.below ba9
        have x9 : w9.cell? ⟨w7.heap.size, 0, none⟩ = some (.int .i64 (k : Int)) := hw9 ▸ (Blk.new w7 #[.int .i64 (k : Int)] 3).cell 0
        have X9 : Hid (w9.cell? ⟨w7.heap.size, 0, none⟩ = some (.int .i64 (k : Int))) := x9
        have hz9 : w.heap.size + 1 ≤ w9.heap.size := by have := K9.out.lt; omega
        clear ba9 x9
        go_wp2_with (at_builtin; refine appI rfl (.tmp 116) (.tmp 118) rfl (w.heap.size + 1) _ hops rfl O9.out w7.heap.size k rfl X9.out (by have := HNL.out; omega) hz9 ?_)
        intro v9 w10 o10 b10
        have O10 : Hid (Ow .i64 3 (w.heap.size + 1) w10 v9 (hops ++ [(k : Int)])) := o10
        have B10 : Hid (Below w.heap.size w w10) := B9.out.trans (b10.mono (by omega))
        have K10 : Hid (Blk w10 w.heap.size (O3 0 0 (.slice none 0 0)) 29) := K9.out.below b10 (by omega)
        obtain ⟨a9, cap9, rfl, -⟩ := own_form o10
        have hl9 : (hops ++ [(k : Int)]).length = N + 1 := by simp [HNL.out]
        have HL9 : Hid ((hops ++ [(k : Int)]).length = N + 1) := hl9
        rw [hl9] at O10 ⊢
        clear o10 b10 hl9 hw9
        go_wp2
        go_roundw
        case rel => exact ⟨hops ++ [(k : Int)], Z, m', rfl, hZn, by rw [HL9.out]; omega, by rw [HL9.out]; omega, HGN.out, O10.out, K10.out, B10.out⟩
        case measure => simp [lenV]; omega
      have hge3 : decide (u3 ≥ 0) = false := decide_eq_false z3
      have x0 := S6.out.cell 0
      have x1 := S6.out.cell 1
      have x2 := S6.out.cell 2
      simp at x0 x1 x2
      have HTQ : Hid (turnF pv F (false, true, fs) = (4, 0)) := by
        show turnF pv F (false, true, fs) = (4, 0)
        unfold turnF
        rw [if_neg HS0.out, HV1.out, if_neg (show ¬ 0 ≤ u1 by omega), if_neg (by simp), if_pos rfl, HV3.out, if_neg (show ¬ 0 ≤ u3 by omega)]
      have HY : Hid (rtF cs F U = (4, (k : Int), hops)) := by
        show rtF cs F U = (4, (k : Int), hops)
        rw [HRR.out, HGR.out, goR_end HST.out (by rw [HTU.out, HTQ.out]; decide), HTU.out, HTQ.out]
      have r0 := K6.out.cell 0
      have r1 := K6.out.cell 1
      have r2 := K6.out.cell 2
      have rz0 := K6.out.frozen 0
      have rz1 := K6.out.frozen 1
      have rz2 := K6.out.frozen 2
      simp at r0 r1 r2
      go_wp2
      exact FIN.out _ 4 k _ hops _ K6.out rfl O7.out B6.out HY.out _ rfl rfl
    | false =>
    have x0 := S5.out.cell 0
    have x1 := S5.out.cell 1
    have x2 := S5.out.cell 2
    simp at x0 x1 x2
    have HTQ : Hid (turnF pv F (false, false, fs) = (1, 0)) := by
      show turnF pv F (false, false, fs) = (1, 0)
      unfold turnF
      rw [if_neg HS0.out, HV1.out, if_neg (show ¬ 0 ≤ u1 by omega), if_neg (by simp), if_neg (by simp)]
    have HY : Hid (rtF cs F U = (1, (k : Int), hops)) := by
      show rtF cs F U = (1, (k : Int), hops)
      rw [HRR.out, HGR.out, goR_end HST.out (by rw [HTU.out, HTQ.out]; decide), HTU.out, HTQ.out]
    have r0 := K5.out.cell 0
    have r1 := K5.out.cell 1
    have r2 := K5.out.cell 2
    have rz0 := K5.out.frozen 0
    have rz1 := K5.out.frozen 1
    have rz2 := K5.out.frozen 2
    simp at r0 r1 r2
    go_wp2
    exact FIN.out _ 1 k _ hops _ K5.out rfl O6.out B5.out HY.out _ rfl rfl
end Go.Proofs.Ytfaflnhembceoaa

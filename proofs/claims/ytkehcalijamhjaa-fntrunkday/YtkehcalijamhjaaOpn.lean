/- The program's openTrunk; no condition. -/
import Derived.Test.YtkehcalijamhjaaDtC
import Derived.Test.YtkehcalijamhjaaCpy
import Derived.Test.YtkehcalijamhjaaTrC
namespace Go.Proofs.Ytkehcalijamhjaa
open Go.RowKit Go.ChangeShapes Go.WideShapes Go.ChangeAt
set_option linter.unusedVariables false
set_option linter.unusedSimpArgs false
set_option maxRecDepth 8000
open Go.Conc
theorem mk62 (w : World) : (Instr.makeChan 62 (.int .i64 60)).run Try.prog w = .ok (.chan (some w.heap.size)) (w.alloc (.chan 60 #[] false 0 0 false)) := by
  obtain ⟨i0, hi, hz0, hz1, hz2⟩ := info_parts infoEv
  exact run_makeChan (P := Try.prog) Try.underlying62 hi .i64 60 (by decide) (by rw [hz2]; decide)
theorem Chn.new (w : World) : Chn (w.alloc (.chan 60 #[] false 0 0 false)) w.heap.size [] := ⟨0, 0, by rw [heap_alloc_new]; rfl⟩
theorem Chn.drew {w : World} {g : Nat} {ns : Mvs} (h : Chn w g ns) : Chn w.drew g ns := h
theorem Fr.drew' {X : Nat → Prop} (w : World) : Fr X w w.drew := ⟨rfl, rfl, rfl, Nat.le_refl _, fun _ _ _ => rfl⟩
theorem Chn.push {w : World} {g : Nat} {ns : Mvs} {s r : Nat} (hl : g < w.heap.size) (x : Int × Int) : Chn (w.setChan g 60 ((ns.map fun x => Value.agg (H2 x.1 x.2)).toArray.push (.agg (H2 x.1 x.2))) false (s + 1) r false) g (ns ++ [x]) := by
  refine ⟨s + 1, r, ?_⟩
  rw [heap_setChan _ _ _ _ _ _ _ _ hl]
  simp
theorem mvs_take {ns : Mvs} {j : Nat} (h : j < ns.length) : ns.take j ++ [ns[j]] = ns.take (j + 1) := (List.take_succ_eq_append_getElem h).symm
theorem idx31 (u v : Value) (w : World) : (Instr.index 31 (.agg #[u, v]) (.int .i64 0)).run Try.prog w = .ok u w ∧ (Instr.index 31 (.agg #[u, v]) (.int .i64 1)).run Try.prog w = .ok v w := by
  have h5 : (sizeOf 30).run Try.prog w = .ok 1 w := rfl
  have ha : (isAgg 30).run Try.prog w = .ok false w := by
    unfold isAgg; rw [Sem.run_bind, run_underlying Try.underlying30 w]; rfl
  constructor <;> simp [Instr.index, asIntOf, run_underlying Try.underlying31, part, ha, h5]
/-- a trunk at work: its seen circuits, its ways -/
structure Lv (b : Nat) (W : World) (g : Nat) (c0 c1 : Value) (l0 l1 : Int) (k0 k1 : Nat) (z0 z1 : List Int) (n0 n1 : Mvs) : Prop where
  blk : Blk W g (L6 c0 c1 l0 l1 k0 k1) 65
  o0 : Ow .i64 3 b W c0 z0
  o1 : Ow .i64 3 b W c1 z1
  ch0 : Chn W k0 n0
  ch1 : Chn W k1 n1
  bg : b ≤ g
  bk0 : b ≤ k0
  bk1 : b ≤ k1
  gk0 : g ≠ k0
  gk1 : g ≠ k1
  kk : k0 ≠ k1
  d0 : ∀ k, c0.ownBlock = some k → k ≠ g ∧ k ≠ k0 ∧ k ≠ k1
  d1 : ∀ k, c1.ownBlock = some k → k ≠ g ∧ k ≠ k0 ∧ k ≠ k1
  ap : Apart c0 c1
def OpR (l0 l1 : Int) (z0 z1 : List Int) (n0 n1 : Mvs) (w : World) (e : Ending) (w' : World) : Prop := ∃ g c0 c1 k0 k1, e = .returned (.pointer (some ⟨g, 0, none⟩)) ∧ Lv w.heap.size w' g c0 c1 l0 l1 k0 k1 z0 z1 n0 n1 ∧ Below w.heap.size w w'
set_option maxHeartbeats 12800000 in
theorem open_c (c0 c1 w0 w1 : Value) (l0 l1 : Int) (z0 z1 : List Int) (n0 n1 : Mvs) (w : World) (h : Rk w c0 c1 w0 w1 z0 z1 n0 n1) (hz0 : z0.length ≤ 1048576) (hz1 : z1.length ≤ 1048576) (hn0 : n0.length ≤ 60) (hn1 : n1.length ≤ 60) :
    Calls Try.prog 39 #[.agg (T6 c0 c1 l0 l1 w0 w1)] w (OpR l0 l1 z0 z1 n0 n1 w) := by
  obtain ⟨W0, hW0⟩ : ∃ W0, (w.alloc (Obj.cells (T6 c0 c1 l0 l1 w0 w1) 33)).alloc (Obj.cells #[.slice none 0 0, .slice none 0 0, .int .i64 l0, .int .i64 l1, .chan none, .chan none] 65) = W0 := ⟨_, rfl⟩
  have hs0 : W0.heap.size = w.heap.size + 2 := by rw [← hW0]; simp
  have HS0 : Hid (W0.heap.size = w.heap.size + 2) := hs0
  have HB0 : Hid (Below w.heap.size w W0) := by rw [← hW0]; exact ((Below.refl _ _).alloc (Nat.le_refl _) _).alloc (by simp) _
  have KP0 : Hid (Blk W0 w.heap.size (T6 c0 c1 l0 l1 w0 w1) 33) := by rw [← hW0]; exact (Blk.new _ _ _).alloc _
  have KL0 : Hid (Blk W0 (w.heap.size + 1) #[.slice none 0 0, .slice none 0 0, .int .i64 l0, .int .i64 l1, .chan none, .chan none] 65) := by rw [← hW0]; exact Blk.newAt _ (w.heap.size + 1) _ 65 (by simp)
  have HR : Hid (Rk w c0 c1 w0 w1 z0 z1 n0 n1) := h
  have HLL : Hid (z0.length ≤ 1048576 ∧ z1.length ≤ 1048576 ∧ n0.length ≤ 60 ∧ n1.length ≤ 60) := ⟨hz0, hz1, hn0, hn1⟩
  obtain ⟨a0, p0, hv0, -⟩ := h.r0
  obtain ⟨a1, p1, hv1, -⟩ := h.r1
  obtain ⟨a2, p2, hv2, u2, v2, D2⟩ := h.r2
  obtain ⟨a3, p3, hv3, u3, v3, D3⟩ := h.r3
  subst hv0 hv1 hv2 hv3
  unfold maxLen at v2 v3
  have E0 : Hid (n0 = [] ∨ ∃ b off, a2 = some ⟨b, off, none⟩ ∧ ∀ i (h : i < n0.length), w.cell? ⟨b, off + i * 2, none⟩ = some (mf n0[i]) ∧ w.cell? ⟨b, off + i * 2 + 1, none⟩ = some (mg n0[i])) := D2
  have E1 : Hid (n1 = [] ∨ ∃ b off, a3 = some ⟨b, off, none⟩ ∧ ∀ i (h : i < n1.length), w.cell? ⟨b, off + i * 2, none⟩ = some (mf n1[i]) ∧ w.cell? ⟨b, off + i * 2 + 1, none⟩ = some (mg n1[i])) := D3
  clear h D2 D3 hz0 hz1 hs0
  have x2 := KP0.out.cell 2
  have x3 := KP0.out.cell 3
  have x4 := KP0.out.cell 4
  have x5 := KP0.out.cell 5
  simp at x2 x3 x4 x5
  have ix0 : ∀ W, (Instr.index 31 (.agg #[.slice a2 n0.length p2, .slice a3 n1.length p3]) (.int .i64 0)).run Try.prog W = .ok (.slice a2 n0.length p2) W := fun W => (idx31 _ _ W).1
  have ix1 : ∀ W, (Instr.index 31 (.agg #[.slice a2 n0.length p2, .slice a3 n1.length p3]) (.int .i64 1)).run Try.prog W = .ok (.slice a3 n1.length p3) W := fun W => (idx31 _ _ W).2
  go_enter Try.func39, Try.ntmps39
  go_wp2
  clear x2 x3 x4 x5 hW0
  refine wp_loop_rounds 3 ?_
  rw [rounds_succ]
  have y0 := KP0.out.cell 0
  simp at y0
  obtain ⟨S0, hS0⟩ : ∃ S : World → Prop, ∀ W, S W ↔ Blk W w.heap.size (T6 (.slice a0 z0.length p0) (.slice a1 z1.length p1) l0 l1 (.slice a2 n0.length p2) (.slice a3 n1.length p3)) 33 ∧ W0.heap.size ≤ W.heap.size := ⟨_, fun _ => Iff.rfl⟩
  have HSI : Hid (∀ W, S0 W ↔ Blk W w.heap.size (T6 (.slice a0 z0.length p0) (.slice a1 z1.length p1) l0 l1 (.slice a2 n0.length p2) (.slice a3 n1.length p3)) 33 ∧ W0.heap.size ≤ W.heap.size) := hS0
  have HSD : Hid (S0 W0.drew) := (hS0 _).2 ⟨KP0.out, Nat.le_refl _⟩
  have ne : Nonempty (At S0) := ⟨⟨_, HSD.out⟩⟩
  have r0 : ∀ W : At S0, W.wd.cell? ⟨w.heap.size, 0, none⟩ = some (.slice a0 z0.length p0) := fun W => by rw [((hS0 _).1 W.ok).1.cell 0]; rfl
  clear hS0
  go_wp2
  refine region_mixA [true, true, true, true, true, true, false, true, true, false, false] 11 3 S0 (by kernel_rfl) rfl (by kernel_rfl) (fun _ _ _ _ _ h => h) HSD.out ?_
  simp only [selT, selF]
  repeat (go_big_quiet_step (fail))
  refine wpQuiet_nil ?_
  refine tail_step ?_
  go_wp2_with (fail)
  refine (cloneI_c _ z0 W0.drew ((HR.out.r0.below HB0.out).below (Below.refl _ _).drew) HLL.out.1).mono ?_
  rintro e wa0 ⟨vc0, rfl, oo, bb⟩
  obtain ⟨e0, q0, hq0, -⟩ := own_form oo
  subst hq0
  have ba : Below W0.heap.size W0 wa0 := (Below.refl _ _).drew.trans bb
  have kp := KP0.out.below ba KP0.out.lt
  have kl := KL0.out.below ba KL0.out.lt
  have HSa : Hid (S0 wa0) := (HSI.out _).2 ⟨kp, ba.size⟩
  have la := kl.cell 0
  have lf := kl.frozen 0
  simp at la
  have oz : ∀ k, (Value.slice e0 z0.length q0).ownBlock = some k → W0.heap.size ≤ k ∧ k < wa0.heap.size := fun k e => World.ownsRow.lt oo k e
  obtain ⟨wb0, hwb0⟩ : ∃ W, wa0.setCell ⟨w.heap.size + 1, 0, none⟩ (.slice e0 z0.length q0) = W := ⟨_, rfl⟩
  have sb0 : wb0.heap.size = wa0.heap.size := by rw [← hwb0]; simp
  have fb : Fr (fun k => k = w.heap.size + 1) wa0 wb0 := by rw [← hwb0]; exact Fr.ofGrown (grown_set _ _ _ _) (fun k e => (Option.some.inj e).symm)
  have KPb0 : Hid (Blk wb0 w.heap.size (T6 (.slice a0 z0.length p0) (.slice a1 z1.length p1) l0 l1 (.slice a2 n0.length p2) (.slice a3 n1.length p3)) 33) := kp.fr fb (by omega)
  have KLb0 : Hid (Blk wb0 (w.heap.size + 1) #[.slice e0 z0.length q0, .slice none 0 0, .int .i64 l0, .int .i64 l1, .chan none, .chan none] 65) := by rw [← hwb0]; exact kl.set 0 _
  have hWz : w.heap.size + 2 ≤ W0.heap.size := by have := HB0.out.size; have := KL0.out.lt; omega
  have HOb0 : Hid (Ow .i64 3 W0.heap.size wb0 (.slice e0 z0.length q0) z0) := ownsRow_fr oo fb (fun k e h => by have := oz k e; omega)
  have HOZ0 : Hid ((∀ k, (Value.slice e0 z0.length q0).ownBlock = some k → W0.heap.size ≤ k ∧ k < wb0.heap.size) ∧ w.heap.size + 2 ≤ W0.heap.size) := ⟨fun k e => by have := oz k e; omega, hWz⟩
  have HBb0 : Hid (Below w.heap.size w wb0) := (belowCall HB0.out ba HB0.out.size).trans (fb.below (by have := HB0.out.size; have := ba.size; omega) (fun k e => by omega))
  have HSb : Hid (S0 wb0) := (HSI.out _).2 ⟨KPb0.out, by have := ba.size; omega⟩
  have SB0 : Hid (wb0.heap.size = wa0.heap.size) := sb0
  clear oo bb ba kp kl fb oz sb0 hWz KP0 KL0 HB0 
  go_wp2
  refine ⟨HSa.out, tail_step ?_⟩
  go_wp2
  refine ⟨HSa.out, tail_step ?_⟩
  go_wp2
  refine ⟨HSb.out, tail_end ?_⟩
  clear HSa HSb HSI HSD ne r0 la lf hwb0 y0
  obtain ⟨wc0, hwc0⟩ : ∃ W, wb0.drew.alloc (.chan 60 #[] false 0 0 false) = W := ⟨_, rfl⟩
  have bc : Below wb0.heap.size wb0 wc0 := by rw [← hwc0]; exact (Below.refl _ _).drew.alloc (Nat.le_refl _) _
  have cc : Chn wc0 wb0.heap.size [] := by rw [← hwc0]; exact Chn.new _
  have sc : wc0.heap.size = wb0.heap.size + 1 := by rw [← hwc0]; simp
  have kp := KPb0.out.below bc KPb0.out.lt
  have kl := KLb0.out.below bc KLb0.out.lt
  have la := kl.cell 4
  have lf := kl.frozen 4
  simp at la
  obtain ⟨wd0, hwd0⟩ : ∃ W, wc0.setCell ⟨w.heap.size + 1, 4, none⟩ (.chan (some wb0.heap.size)) = W := ⟨_, rfl⟩
  have sd0 : wd0.heap.size = wb0.heap.size + 1 := by rw [← hwd0]; simpa using sc
  have fd : Fr (fun k => k = w.heap.size + 1) wc0 wd0 := by rw [← hwd0]; exact Fr.ofGrown (grown_set _ _ _ _) (fun k e => (Option.some.inj e).symm)
  have hgb : w.heap.size + 1 < wb0.heap.size := KLb0.out.lt
  have HX0 : Hid (w.heap.size + 1 < wb0.heap.size) := hgb
  have HX : Hid (w.heap.size + 1 < wb0.heap.size) := hgb
  have HK0 : Hid (True) := trivial
  have KPd0 : Hid (Blk wd0 w.heap.size (T6 (.slice a0 z0.length p0) (.slice a1 z1.length p1) l0 l1 (.slice a2 n0.length p2) (.slice a3 n1.length p3)) 33) := kp.fr fd (by omega)
  have KLd0 : Hid (Blk wd0 (w.heap.size + 1) #[.slice e0 z0.length q0, .slice none 0 0, .int .i64 l0, .int .i64 l1, .chan (some wb0.heap.size), .chan none] 65) := by rw [← hwd0]; exact kl.set 4 _
  have HCd0 : Hid (Chn wd0 wb0.heap.size []) := cc.fr fd (by omega)
  have HBd0 : Hid (Below w.heap.size w wd0) := (belowCall HBb0.out bc HBb0.out.size).trans (fd.below (by have := HBb0.out.size; omega) (fun k e => by omega))
  have HOb0d : Hid (Ow .i64 3 W0.heap.size wd0 (.slice e0 z0.length q0) z0) := ownsRow_fr (HOb0.out.below bc) fd (fun k e h => by have := HOZ0.out.1 k e; have := HOZ0.out.2; have := HX.out; omega)
  have SD0 : Hid (wd0.heap.size = wb0.heap.size + 1) := sd0
  clear bc cc sc kp kl fd hgb sd0 KPb0 KLb0 HBb0 HOb0
  have mk := mk62 wb0.drew
  obtain ⟨S, hS⟩ : ∃ S : World → Prop, ∀ W, S W := ⟨fun _ => True, fun _ => trivial⟩
  have HS : Hid (∀ W, S W) := hS
  have ne : Nonempty (At S) := ⟨⟨wb0, hS _⟩⟩
  clear hS
  have hsz : wb0.drew.heap.size = wb0.heap.size := rfl
  go_wp2
  refine region_mixA [true, true, false, true, true, false, false] 7 3 S (by kernel_rfl) rfl (by kernel_rfl) (fun _ _ _ _ _ h => h) (HS.out _) ?_
  simp only [selT, selF]
  repeat (go_big_quiet_step (fail))
  refine wpQuiet_nil ?_
  refine tail_step ?_
  go_wp2
  refine ⟨HS.out _, tail_step ?_⟩
  go_wp2
  refine ⟨HS.out _, tail_step ?_⟩
  go_wp2
  refine ⟨HS.out _, tail_end ?_⟩
  clear mk ne HS S hsz la lf hwc0 hwd0 wc0
  go_wp2
  go_loopw [36] (fun i wr => ∃ t : Nat, t ≤ n0.length ∧ i = .int .i64 t ∧ Hid (Fr (fun k => k = wb0.heap.size) wd0 wr ∧ Chn wr wb0.heap.size (n0.take t))) (fun i _ => n0.length - (intOf i).toNat)
  case atStart => exact ⟨0, Nat.zero_le _, rfl, Fr.refl _ _, by simpa using HCd0.out⟩
  case round =>
    obtain ⟨t0, ht0, rfl, hI0⟩ := hrel
    have HBr0 : Hid (Below w.heap.size w wr) := HBd0.out.trans (hI0.out.1.below (by have := HBd0.out.size; omega) (fun k e => by have := HX0.out; omega))
    have KLr0 : Hid (Blk wr (w.heap.size + 1) #[.slice e0 z0.length q0, .slice none 0 0, .int .i64 l0, .int .i64 l1, .chan (some wb0.heap.size), .chan none] 65) := KLd0.out.fr hI0.out.1 (by have := HX0.out; omega)
    have KPr0 : Hid (Blk wr w.heap.size (T6 (.slice a0 z0.length p0) (.slice a1 z1.length p1) l0 l1 (.slice a2 n0.length p2) (.slice a3 n1.length p3)) 33) := KPd0.out.fr hI0.out.1 (by have := HX0.out; omega)
    by_cases hlt0 : t0 < n0.length
    case pos =>
      have hti : (t0 : Int) < (n0.length : Int) := by omega
      have ht0 : (0 : Int) ≤ (t0 : Int) := by omega
      rcases E0.out with h3 | ⟨b, off, rfl, h4⟩
      · subst h3; simp at hlt0
      obtain ⟨x, y, hxy⟩ : ∃ x y, n0[t0] = (x, y) := ⟨_, _, rfl⟩
      have HXY : Hid (n0[t0] = (x, y)) := hxy
      have hc := h4 t0 hlt0
      rw [hxy] at hc
      have hcb : b < w.heap.size := block_lt_of_cell hc.1
      have c0 : wr.cell? ⟨b, off + t0 * 2, none⟩ = some (.int .i64 x) := (HBr0.out.cell (p := ⟨b, off + t0 * 2, none⟩) hcb).trans hc.1
      have c1 : wr.cell? ⟨b, off + t0 * 2 + 1, none⟩ = some (.int .i64 y) := (HBr0.out.cell (p := ⟨b, off + t0 * 2 + 1, none⟩) hcb).trans hc.2
      obtain ⟨nb, hnb⟩ : ∃ k, wr.heap.size = k := ⟨_, rfl⟩
      have HNB : Hid (wr.heap.size = nb) := hnb
      obtain ⟨wn, hwn⟩ : ∃ W, wr.alloc (Obj.cells (H2 x y) 68) = W := ⟨_, rfl⟩
      have bn : Below wr.heap.size wr wn := by rw [← hwn]; exact (Below.refl _ _).alloc (Nat.le_refl _) _
      have kn : Blk wn nb (H2 x y) 68 := by rw [← hwn, ← hnb]; exact Blk.new _ _ _
      have kl := KLr0.out.below bn KLr0.out.lt
      have kg : wb0.heap.size < wr.heap.size := hI0.out.2.lt
      obtain ⟨s, r, hch⟩ := hI0.out.2
      have hch' : wn.drew.heap[wb0.heap.size]? = some (.chan 60 ((n0.take t0).map fun x => Value.agg (H2 x.1 x.2)).toArray false s r false) := (bn.block _ kg).trans hch
      obtain ⟨W1, hW1⟩ : ∃ W, wn.drew.setChan wb0.heap.size 60 (((n0.take t0).map fun x => Value.agg (H2 x.1 x.2)).toArray.push (.agg (H2 x y))) false (s + 1) r false = W := ⟨_, rfl⟩
      have f1 : Fr (fun k => k = wb0.heap.size) wn.drew W1 := by rw [← hW1]; exact fr_chan ..
      have kd : Blk wn.drew (w.heap.size + 1) #[.slice e0 z0.length q0, .slice none 0 0, .int .i64 l0, .int .i64 l1, .chan (some wb0.heap.size), .chan none] 65 := kl
      have nd : Blk wn.drew nb (H2 x y) 68 := kn
      have kd1 := kd.fr f1 (by have := HX0.out; omega)
      have nd1 := nd.fr f1 (by omega)
      have HF : Hid (Fr (fun k => k = wb0.heap.size) wd0 W1 ∧ Chn W1 wb0.heap.size (n0.take (t0 + 1))) := by
        refine ⟨(hI0.out.1.trans ((Fr.ofBelow bn).trans (Fr.drew' wn))).trans f1, ?_⟩
        rw [← hW1, ← mvs_take hlt0, hxy]
        exact Chn.push (by have := bn.size; show _ < wn.heap.size; omega) (x, y)
      have HRM : Hid ((((n0.take t0).map fun x => Value.agg (H2 x.1 x.2)).toArray).size < 60) := by have := HLL.out.2.2.1; simp [Hid]; omega
      have HCH : Hid (wn.drew.heap[wb0.heap.size]? = some (.chan 60 ((n0.take t0).map fun x => Value.agg (H2 x.1 x.2)).toArray false s r false)) := hch'
      have HW1 : Hid (wn.drew.setChan wb0.heap.size 60 (((n0.take t0).map fun x => Value.agg (H2 x.1 x.2)).toArray.push (.agg (H2 x y))) false (s + 1) r false = W1) := hW1
      have HG : Hid ((wn.drew.cell? ⟨w.heap.size + 1, 4, none⟩ = some (.chan (some wb0.heap.size)) ∧ wn.drew.cell? ⟨nb, 0, none⟩ = some (.int .i64 x) ∧ wn.drew.cell? ⟨nb, 1, none⟩ = some (.int .i64 y)) ∧ (W1.cell? ⟨w.heap.size + 1, 4, none⟩ = some (.chan (some wb0.heap.size)) ∧ W1.cell? ⟨nb, 0, none⟩ = some (.int .i64 x) ∧ W1.cell? ⟨nb, 1, none⟩ = some (.int .i64 y))) := ⟨⟨kd.cell 4, nd.cell 0, nd.cell 1⟩, ⟨kd1.cell 4, nd1.cell 0, nd1.cell 1⟩⟩
      clear h4 hc hxy bn kn kl kg hch hch' hW1 f1 kd nd kd1 nd1
      go_wp2
      clear hwn c0 c1
      refine region_detC [.pointer (some ⟨w.heap.size + 1, 0, none⟩), .int .i64 0, .pointer (some ⟨w.heap.size + 1, 0, none⟩), .pointer (some ⟨w.heap.size + 1, 4, none⟩), .pointer (some ⟨w.heap.size + 1, 4, none⟩), .chan (some (wb0.heap.size)), .agg (H2 x y), undef]
        (fun d W => (d 7 = false → W = wn.drew) ∧ (d 7 = true → W = W1)) (by kernel_rfl) (by kernel_rfl) (by kernel_rfl)
        (by simp only [putAll, Act.put, List.setIfInBounds_toArray, List.set_cons_succ, List.set_cons_zero]; exact rfl) ⟨fun _ => rfl, fun h => by cases h⟩ ⟨?_, ?_, ?_, ?_, ?_, ?_, ?_, ?_, trivial⟩ ?_
      case refine_9 =>
        rintro d W ⟨-, s1⟩ hall
        have hW := s1 (hall 7 (by decide))
        subst hW
        clear s1 hall HG HCH HW1
        go_wp2
        go_roundw
        case rel => exact ⟨t0 + 1, by omega, by go_num, HF.out⟩
        case measure => simp [intOf]; omega
      case refine_8 =>
        rintro d W ⟨s0, -⟩ hn hd
        have hW := s0 hn
        subst hW
        refine .inr ⟨#[scase (wb0.heap.size) (.agg (H2 x y)) (.tuple #[])], true, .send, undef, W1, ?_, fun cs fr es h => ?_, rfl, fun h => by simp [doneSet] at h, fun _ => rfl⟩
        · simp [execOp, scase, Act.eval]
        · have := step_lone_send_room h HCH.out HRM.out
          rw [HW1.out] at this
          exact this
      all_goals
        rintro d W ⟨s0, s1⟩ hn hd
        refine .inl ⟨rfl, ?_⟩
        cases h7 : d 7 with
        | false =>
          have hW := s0 h7
          subst hW
          obtain ⟨⟨m0, m1, m2⟩, -⟩ := HG.out
          clear s0 s1 HG
          go_wp2
          exact ⟨rfl, rfl, fun _ => rfl, fun h => by simp [doneSet, h7] at h⟩
        | true =>
          have hW := s1 h7
          subst hW
          obtain ⟨-, m0, m1, m2⟩ := HG.out
          clear s0 s1 HG
          go_wp2
          exact ⟨rfl, rfl, fun h => by simp [doneSet, h7] at h, fun _ => rfl⟩
    obtain rfl : t0 = n0.length := by omega
    have HCr0 : Hid (Chn wr wb0.heap.size n0) := by have := hI0.out.2; rw [List.take_length] at this; exact this
    have HFR : Hid (Fr (fun k => k = wb0.heap.size) wd0 wr) := hI0.out.1
    have HWK0 : Hid (wb0.heap.size < wr.heap.size) := HCr0.out.lt
    have HOb0dr : Hid (Ow .i64 3 W0.heap.size wr (.slice e0 z0.length q0) z0) := ownsRow_fr HOb0d.out HFR.out (fun k e h => by have := HOZ0.out.1 k e; have := HX0.out; have := HK0.out; omega)
    clear hI0 hlt0 HFR KPd0 KLd0 HBd0 HCd0 HOb0d
    obtain ⟨wr0, hwr0⟩ : ∃ W, wr = W := ⟨_, rfl⟩
    rw [hwr0] at HWK0 HBr0 KLr0 KPr0 HCr0 HOb0dr ⊢
    clear hwr0
    go_wp2
    rw [rounds_succ]
    have y1 := KPr0.out.cell 1
    simp at y1
    obtain ⟨S1, hS1⟩ : ∃ S : World → Prop, ∀ W, S W ↔ Blk W w.heap.size (T6 (.slice a0 z0.length p0) (.slice a1 z1.length p1) l0 l1 (.slice a2 n0.length p2) (.slice a3 n1.length p3)) 33 ∧ wr0.heap.size ≤ W.heap.size := ⟨_, fun _ => Iff.rfl⟩
    have HSI : Hid (∀ W, S1 W ↔ Blk W w.heap.size (T6 (.slice a0 z0.length p0) (.slice a1 z1.length p1) l0 l1 (.slice a2 n0.length p2) (.slice a3 n1.length p3)) 33 ∧ wr0.heap.size ≤ W.heap.size) := hS1
    have HSD : Hid (S1 wr0.drew) := (hS1 _).2 ⟨KPr0.out, Nat.le_refl _⟩
    have ne : Nonempty (At S1) := ⟨⟨_, HSD.out⟩⟩
    have r0 : ∀ W : At S1, W.wd.cell? ⟨w.heap.size, 1, none⟩ = some (.slice a1 z1.length p1) := fun W => by rw [((hS1 _).1 W.ok).1.cell 1]; rfl
    clear hS1
    go_wp2
    refine region_mixA [true, true, true, true, true, true, false, true, true, false, false] 11 3 S1 (by kernel_rfl) rfl (by kernel_rfl) (fun _ _ _ _ _ h => h) HSD.out ?_
    simp only [selT, selF]
    repeat (go_big_quiet_step (fail))
    refine wpQuiet_nil ?_
    refine tail_step ?_
    go_wp2_with (fail)
    refine (cloneI_c _ z1 wr0.drew ((HR.out.r1.below HBr0.out).below (Below.refl _ _).drew) HLL.out.2.1).mono ?_
    rintro e wa1 ⟨vc1, rfl, oo, bb⟩
    obtain ⟨e1, q1, hq1, -⟩ := own_form oo
    subst hq1
    have ba : Below wr0.heap.size wr0 wa1 := (Below.refl _ _).drew.trans bb
    have kp := KPr0.out.below ba KPr0.out.lt
    have kl := KLr0.out.below ba KLr0.out.lt
    have HSa : Hid (S1 wa1) := (HSI.out _).2 ⟨kp, ba.size⟩
    have la := kl.cell 1
    have lf := kl.frozen 1
    simp at la
    have oz : ∀ k, (Value.slice e1 z1.length q1).ownBlock = some k → wr0.heap.size ≤ k ∧ k < wa1.heap.size := fun k e => World.ownsRow.lt oo k e
    obtain ⟨wb1, hwb1⟩ : ∃ W, wa1.setCell ⟨w.heap.size + 1, 1, none⟩ (.slice e1 z1.length q1) = W := ⟨_, rfl⟩
    have sb1 : wb1.heap.size = wa1.heap.size := by rw [← hwb1]; simp
    have fb : Fr (fun k => k = w.heap.size + 1) wa1 wb1 := by rw [← hwb1]; exact Fr.ofGrown (grown_set _ _ _ _) (fun k e => (Option.some.inj e).symm)
    have KPb1 : Hid (Blk wb1 w.heap.size (T6 (.slice a0 z0.length p0) (.slice a1 z1.length p1) l0 l1 (.slice a2 n0.length p2) (.slice a3 n1.length p3)) 33) := kp.fr fb (by omega)
    have KLb1 : Hid (Blk wb1 (w.heap.size + 1) #[.slice e0 z0.length q0, .slice e1 z1.length q1, .int .i64 l0, .int .i64 l1, .chan (some wb0.heap.size), .chan none] 65) := by rw [← hwb1]; exact kl.set 1 _
    have hWz : w.heap.size + 2 ≤ wr0.heap.size := by have := HBr0.out.size; have := KLr0.out.lt; omega
    have HOb1 : Hid (Ow .i64 3 wr0.heap.size wb1 (.slice e1 z1.length q1) z1) := ownsRow_fr oo fb (fun k e h => by have := oz k e; omega)
    have HOZ1 : Hid ((∀ k, (Value.slice e1 z1.length q1).ownBlock = some k → wr0.heap.size ≤ k ∧ k < wb1.heap.size) ∧ w.heap.size + 2 ≤ wr0.heap.size) := ⟨fun k e => by have := oz k e; omega, hWz⟩
    have HBb1 : Hid (Below w.heap.size w wb1) := (belowCall HBr0.out ba HBr0.out.size).trans (fb.below (by have := HBr0.out.size; have := ba.size; omega) (fun k e => by omega))
    have HSb : Hid (S1 wb1) := (HSI.out _).2 ⟨KPb1.out, by have := ba.size; omega⟩
    have HOb0drb : Hid (Ow .i64 3 W0.heap.size wb1 (.slice e0 z0.length q0) z0) := ownsRow_fr (HOb0dr.out.below ba) fb (fun k e h => by have := HOZ0.out.1 k e; have := HOZ0.out.2; have := HX.out; omega)
    have HCr0b : Hid (Chn wb1 (wb0.heap.size) n0) := (HCr0.out.below ba).fr fb (by have := HX0.out; omega)
    have SB1 : Hid (wb1.heap.size = wa1.heap.size) := sb1
    have HKK : Hid (wb0.heap.size < wb1.heap.size) := by have h1 := HCr0.out.lt; have h2 := ba.size; show _ < _; omega
    clear oo bb ba kp kl fb oz sb1 hWz KPr0 KLr0 HBr0 HOb0dr HCr0
    go_wp2
    refine ⟨HSa.out, tail_step ?_⟩
    go_wp2
    refine ⟨HSa.out, tail_step ?_⟩
    go_wp2
    refine ⟨HSb.out, tail_end ?_⟩
    clear HSa HSb HSI HSD ne r0 la lf hwb1 y1
    obtain ⟨wc1, hwc1⟩ : ∃ W, wb1.drew.alloc (.chan 60 #[] false 0 0 false) = W := ⟨_, rfl⟩
    have bc : Below wb1.heap.size wb1 wc1 := by rw [← hwc1]; exact (Below.refl _ _).drew.alloc (Nat.le_refl _) _
    have cc : Chn wc1 wb1.heap.size [] := by rw [← hwc1]; exact Chn.new _
    have sc : wc1.heap.size = wb1.heap.size + 1 := by rw [← hwc1]; simp
    have kp := KPb1.out.below bc KPb1.out.lt
    have kl := KLb1.out.below bc KLb1.out.lt
    have la := kl.cell 5
    have lf := kl.frozen 5
    simp at la
    obtain ⟨wd1, hwd1⟩ : ∃ W, wc1.setCell ⟨w.heap.size + 1, 5, none⟩ (.chan (some wb1.heap.size)) = W := ⟨_, rfl⟩
    have sd1 : wd1.heap.size = wb1.heap.size + 1 := by rw [← hwd1]; simpa using sc
    have fd : Fr (fun k => k = w.heap.size + 1) wc1 wd1 := by rw [← hwd1]; exact Fr.ofGrown (grown_set _ _ _ _) (fun k e => (Option.some.inj e).symm)
    have hgb : w.heap.size + 1 < wb1.heap.size := KLb1.out.lt
    have HX1 : Hid (w.heap.size + 1 < wb1.heap.size) := hgb
    have HX : Hid (w.heap.size + 1 < wb1.heap.size) := hgb
    have HK1 : Hid (wb0.heap.size < wb1.heap.size) := HKK.out
    have KPd1 : Hid (Blk wd1 w.heap.size (T6 (.slice a0 z0.length p0) (.slice a1 z1.length p1) l0 l1 (.slice a2 n0.length p2) (.slice a3 n1.length p3)) 33) := kp.fr fd (by omega)
    have KLd1 : Hid (Blk wd1 (w.heap.size + 1) #[.slice e0 z0.length q0, .slice e1 z1.length q1, .int .i64 l0, .int .i64 l1, .chan (some wb0.heap.size), .chan (some wb1.heap.size)] 65) := by rw [← hwd1]; exact kl.set 5 _
    have HCd1 : Hid (Chn wd1 wb1.heap.size []) := cc.fr fd (by omega)
    have HBd1 : Hid (Below w.heap.size w wd1) := (belowCall HBb1.out bc HBb1.out.size).trans (fd.below (by have := HBb1.out.size; omega) (fun k e => by omega))
    have HOb0drbd : Hid (Ow .i64 3 W0.heap.size wd1 (.slice e0 z0.length q0) z0) := ownsRow_fr (HOb0drb.out.below bc) fd (fun k e h => by have := HOZ0.out.1 k e; have := HOZ0.out.2; have := HX.out; omega)
    have HCr0bd : Hid (Chn wd1 (wb0.heap.size) n0) := (HCr0b.out.below bc).fr fd (by have := HX0.out; omega)
    have HOb1d : Hid (Ow .i64 3 wr0.heap.size wd1 (.slice e1 z1.length q1) z1) := ownsRow_fr (HOb1.out.below bc) fd (fun k e h => by have := HOZ1.out.1 k e; have := HOZ1.out.2; have := HX.out; omega)
    have SD1 : Hid (wd1.heap.size = wb1.heap.size + 1) := sd1
    clear bc cc sc kp kl fd hgb sd1 KPb1 KLb1 HBb1 HOb0drb HCr0b HOb1
    have mk := mk62 wb1.drew
    obtain ⟨S, hS⟩ : ∃ S : World → Prop, ∀ W, S W := ⟨fun _ => True, fun _ => trivial⟩
    have HS : Hid (∀ W, S W) := hS
    have ne : Nonempty (At S) := ⟨⟨wb1, hS _⟩⟩
    clear hS
    have hsz : wb1.drew.heap.size = wb1.heap.size := rfl
    go_wp2
    refine region_mixA [true, true, false, true, true, false, false] 7 3 S (by kernel_rfl) rfl (by kernel_rfl) (fun _ _ _ _ _ h => h) (HS.out _) ?_
    simp only [selT, selF]
    repeat (go_big_quiet_step (fail))
    refine wpQuiet_nil ?_
    refine tail_step ?_
    go_wp2
    refine ⟨HS.out _, tail_step ?_⟩
    go_wp2
    refine ⟨HS.out _, tail_step ?_⟩
    go_wp2
    refine ⟨HS.out _, tail_end ?_⟩
    clear mk ne HS S hsz la lf hwc1 hwd1 wc1
    go_wp2
    go_loopw [36] (fun i wr => ∃ t : Nat, t ≤ n1.length ∧ i = .int .i64 t ∧ Hid (Fr (fun k => k = wb1.heap.size) wd1 wr ∧ Chn wr wb1.heap.size (n1.take t))) (fun i _ => n1.length - (intOf i).toNat)
    case atStart => exact ⟨0, Nat.zero_le _, rfl, Fr.refl _ _, by simpa using HCd1.out⟩
    case round =>
      obtain ⟨t1, ht1, rfl, hI1⟩ := hrel
      have HBr1 : Hid (Below w.heap.size w wr) := HBd1.out.trans (hI1.out.1.below (by have := HBd1.out.size; omega) (fun k e => by have := HX1.out; omega))
      have KLr1 : Hid (Blk wr (w.heap.size + 1) #[.slice e0 z0.length q0, .slice e1 z1.length q1, .int .i64 l0, .int .i64 l1, .chan (some wb0.heap.size), .chan (some wb1.heap.size)] 65) := KLd1.out.fr hI1.out.1 (by have := HX1.out; omega)
      have KPr1 : Hid (Blk wr w.heap.size (T6 (.slice a0 z0.length p0) (.slice a1 z1.length p1) l0 l1 (.slice a2 n0.length p2) (.slice a3 n1.length p3)) 33) := KPd1.out.fr hI1.out.1 (by have := HX1.out; omega)
      by_cases hlt1 : t1 < n1.length
      case pos =>
        have hti : (t1 : Int) < (n1.length : Int) := by omega
        have ht0 : (0 : Int) ≤ (t1 : Int) := by omega
        rcases E1.out with h3 | ⟨b, off, rfl, h4⟩
        · subst h3; simp at hlt1
        obtain ⟨x, y, hxy⟩ : ∃ x y, n1[t1] = (x, y) := ⟨_, _, rfl⟩
        have HXY : Hid (n1[t1] = (x, y)) := hxy
        have hc := h4 t1 hlt1
        rw [hxy] at hc
        have hcb : b < w.heap.size := block_lt_of_cell hc.1
        have c0 : wr.cell? ⟨b, off + t1 * 2, none⟩ = some (.int .i64 x) := (HBr1.out.cell (p := ⟨b, off + t1 * 2, none⟩) hcb).trans hc.1
        have c1 : wr.cell? ⟨b, off + t1 * 2 + 1, none⟩ = some (.int .i64 y) := (HBr1.out.cell (p := ⟨b, off + t1 * 2 + 1, none⟩) hcb).trans hc.2
        obtain ⟨nb, hnb⟩ : ∃ k, wr.heap.size = k := ⟨_, rfl⟩
        have HNB : Hid (wr.heap.size = nb) := hnb
        obtain ⟨wn, hwn⟩ : ∃ W, wr.alloc (Obj.cells (H2 x y) 68) = W := ⟨_, rfl⟩
        have bn : Below wr.heap.size wr wn := by rw [← hwn]; exact (Below.refl _ _).alloc (Nat.le_refl _) _
        have kn : Blk wn nb (H2 x y) 68 := by rw [← hwn, ← hnb]; exact Blk.new _ _ _
        have kl := KLr1.out.below bn KLr1.out.lt
        have kg : wb1.heap.size < wr.heap.size := hI1.out.2.lt
        obtain ⟨s, r, hch⟩ := hI1.out.2
        have hch' : wn.drew.heap[wb1.heap.size]? = some (.chan 60 ((n1.take t1).map fun x => Value.agg (H2 x.1 x.2)).toArray false s r false) := (bn.block _ kg).trans hch
        obtain ⟨W1, hW1⟩ : ∃ W, wn.drew.setChan wb1.heap.size 60 (((n1.take t1).map fun x => Value.agg (H2 x.1 x.2)).toArray.push (.agg (H2 x y))) false (s + 1) r false = W := ⟨_, rfl⟩
        have f1 : Fr (fun k => k = wb1.heap.size) wn.drew W1 := by rw [← hW1]; exact fr_chan ..
        have kd : Blk wn.drew (w.heap.size + 1) #[.slice e0 z0.length q0, .slice e1 z1.length q1, .int .i64 l0, .int .i64 l1, .chan (some wb0.heap.size), .chan (some wb1.heap.size)] 65 := kl
        have nd : Blk wn.drew nb (H2 x y) 68 := kn
        have kd1 := kd.fr f1 (by have := HX1.out; omega)
        have nd1 := nd.fr f1 (by omega)
        have HF : Hid (Fr (fun k => k = wb1.heap.size) wd1 W1 ∧ Chn W1 wb1.heap.size (n1.take (t1 + 1))) := by
          refine ⟨(hI1.out.1.trans ((Fr.ofBelow bn).trans (Fr.drew' wn))).trans f1, ?_⟩
          rw [← hW1, ← mvs_take hlt1, hxy]
          exact Chn.push (by have := bn.size; show _ < wn.heap.size; omega) (x, y)
        have HRM : Hid ((((n1.take t1).map fun x => Value.agg (H2 x.1 x.2)).toArray).size < 60) := by have := HLL.out.2.2.2; simp [Hid]; omega
        have HCH : Hid (wn.drew.heap[wb1.heap.size]? = some (.chan 60 ((n1.take t1).map fun x => Value.agg (H2 x.1 x.2)).toArray false s r false)) := hch'
        have HW1 : Hid (wn.drew.setChan wb1.heap.size 60 (((n1.take t1).map fun x => Value.agg (H2 x.1 x.2)).toArray.push (.agg (H2 x y))) false (s + 1) r false = W1) := hW1
        have HG : Hid ((wn.drew.cell? ⟨w.heap.size + 1, 5, none⟩ = some (.chan (some wb1.heap.size)) ∧ wn.drew.cell? ⟨nb, 0, none⟩ = some (.int .i64 x) ∧ wn.drew.cell? ⟨nb, 1, none⟩ = some (.int .i64 y)) ∧ (W1.cell? ⟨w.heap.size + 1, 5, none⟩ = some (.chan (some wb1.heap.size)) ∧ W1.cell? ⟨nb, 0, none⟩ = some (.int .i64 x) ∧ W1.cell? ⟨nb, 1, none⟩ = some (.int .i64 y))) := ⟨⟨kd.cell 5, nd.cell 0, nd.cell 1⟩, ⟨kd1.cell 5, nd1.cell 0, nd1.cell 1⟩⟩
        clear h4 hc hxy bn kn kl kg hch hch' hW1 f1 kd nd kd1 nd1
        go_wp2
        clear hwn c0 c1
        refine region_detC [.pointer (some ⟨w.heap.size + 1, 0, none⟩), .int .i64 1, .pointer (some ⟨w.heap.size + 1, 0, none⟩), .pointer (some ⟨w.heap.size + 1, 4, none⟩), .pointer (some ⟨w.heap.size + 1, 5, none⟩), .chan (some (wb1.heap.size)), .agg (H2 x y), undef]
          (fun d W => (d 7 = false → W = wn.drew) ∧ (d 7 = true → W = W1)) (by kernel_rfl) (by kernel_rfl) (by kernel_rfl)
          (by simp only [putAll, Act.put, List.setIfInBounds_toArray, List.set_cons_succ, List.set_cons_zero]; exact rfl) ⟨fun _ => rfl, fun h => by cases h⟩ ⟨?_, ?_, ?_, ?_, ?_, ?_, ?_, ?_, trivial⟩ ?_
        case refine_9 =>
          rintro d W ⟨-, s1⟩ hall
          have hW := s1 (hall 7 (by decide))
          subst hW
          clear s1 hall HG HCH HW1
          go_wp2
          go_roundw
          case rel => exact ⟨t1 + 1, by omega, by go_num, HF.out⟩
          case measure => simp [intOf]; omega
        case refine_8 =>
          rintro d W ⟨s0, -⟩ hn hd
          have hW := s0 hn
          subst hW
          refine .inr ⟨#[scase (wb1.heap.size) (.agg (H2 x y)) (.tuple #[])], true, .send, undef, W1, ?_, fun cs fr es h => ?_, rfl, fun h => by simp [doneSet] at h, fun _ => rfl⟩
          · simp [execOp, scase, Act.eval]
          · have := step_lone_send_room h HCH.out HRM.out
            rw [HW1.out] at this
            exact this
        all_goals
          rintro d W ⟨s0, s1⟩ hn hd
          refine .inl ⟨rfl, ?_⟩
          cases h7 : d 7 with
          | false =>
            have hW := s0 h7
            subst hW
            obtain ⟨⟨m0, m1, m2⟩, -⟩ := HG.out
            clear s0 s1 HG
            go_wp2
            exact ⟨rfl, rfl, fun _ => rfl, fun h => by simp [doneSet, h7] at h⟩
          | true =>
            have hW := s1 h7
            subst hW
            obtain ⟨-, m0, m1, m2⟩ := HG.out
            clear s0 s1 HG
            go_wp2
            exact ⟨rfl, rfl, fun h => by simp [doneSet, h7] at h, fun _ => rfl⟩
      obtain rfl : t1 = n1.length := by omega
      have HCr1 : Hid (Chn wr wb1.heap.size n1) := by have := hI1.out.2; rw [List.take_length] at this; exact this
      have HFR : Hid (Fr (fun k => k = wb1.heap.size) wd1 wr) := hI1.out.1
      have HWK1 : Hid (wb1.heap.size < wr.heap.size) := HCr1.out.lt
      have HOb0drbdr : Hid (Ow .i64 3 W0.heap.size wr (.slice e0 z0.length q0) z0) := ownsRow_fr HOb0drbd.out HFR.out (fun k e h => by have := HOZ0.out.1 k e; have := HX1.out; have := HK1.out; omega)
      have HCr0bdr : Hid (Chn wr (wb0.heap.size) n0) := HCr0bd.out.fr HFR.out (by have := HK1.out; omega)
      have HOb1dr : Hid (Ow .i64 3 wr0.heap.size wr (.slice e1 z1.length q1) z1) := ownsRow_fr HOb1d.out HFR.out (fun k e h => by have := HOZ1.out.1 k e; have := HX1.out; have := HK1.out; omega)
      clear hI1 hlt1 HFR KPd1 KLd1 HBd1 HCd1 HOb0drbd HCr0bd HOb1d
      obtain ⟨wr1, hwr1⟩ : ∃ W, wr = W := ⟨_, rfl⟩
      rw [hwr1] at HWK1 HBr1 KLr1 KPr1 HCr1 HOb0drbdr HCr0bdr HOb1dr ⊢
      clear hwr1
      go_wp2
      rw [rounds_succ]
      go_wp2
      go_ret
      refine ⟨w.heap.size + 1, .slice e0 z0.length q0, .slice e1 z1.length q1, wb0.heap.size, wb1.heap.size, rfl, ⟨KLr1.out, (HOb0drbdr.out).mono (by have := HOZ0.out.2; omega), (HOb1dr.out).mono (by have := HOZ1.out.2; omega), HCr0bdr.out, HCr1.out, by omega, by have := HX0.out; omega, by have := HX1.out; omega, by have := HX0.out; omega, by have := HX1.out; omega, by have := HK1.out; omega, fun k e => ?_, fun k e => ?_, fun k e e' => ?_⟩, HBr1.out⟩
      · have h1 := HOZ0.out.1 k e; have h2 := HOZ0.out.2; have h3 := HX0.out; have h4 := HK1.out; omega
      · have h1 := HOZ1.out.1 k e; have h2 := HOZ1.out.2; have h3 := HX0.out; have h4 := HWK0.out; omega
      · have h1 := HOZ0.out.1 k e; have h2 := HOZ1.out.1 k e'; have h4 := HWK0.out; omega
end Go.Proofs.Ytkehcalijamhjaa

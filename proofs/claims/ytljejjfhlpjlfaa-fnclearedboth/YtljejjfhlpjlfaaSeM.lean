/- The model's Settle; no condition. -/
import Derived.Test.YtljejjfhlpjlfaaSeA
namespace Go.Proofs.Ytljejjfhlpjlfaa
open Go.RowKit Go.ChangeShapes Go.WideShapes Go.ChangeAt
set_option linter.unusedVariables false
set_option linter.unusedSimpArgs false
set_option maxRecDepth 8000

set_option maxHeartbeats 12800000 in
theorem setM_c (s c s' c' : Int) (v : Value) (ls : Tri) (n : Int) (w : World) (h : Rt w v ls) (hn : ls.length ≤ 1048576) :
    Calls Try.prog 32 #[.agg (D5 s c s' c' v), .int .i64 n] w (SeR (s, c, s', c', ls) n w) := by
  obtain ⟨W0, hW0⟩ : ∃ W0, (w.alloc (Obj.cells (D5 s c s' c' v) 31)).alloc (Obj.cells (D5 0 0 0 0 (.slice none 0 0)) 31) = W0 := ⟨_, rfl⟩
  have kb : Below w.heap.size w W0 := by rw [← hW0]; exact ((Below.refl _ _).alloc (Nat.le_refl _) _).alloc (by simp) _
  have k0 : Blk W0 w.heap.size (D5 s c s' c' v) 31 := by rw [← hW0]; exact (Blk.new _ _ _).alloc _
  have k1 : Blk W0 (w.heap.size + 1) (D5 0 0 0 0 (.slice none 0 0)) 31 := by rw [← hW0]; exact Blk.newAt _ (w.heap.size + 1) _ 31 (by simp)
  have HR : Hid (∀ W, Below w.heap.size w W → Rt W v ls) := fun W hW => h.below hW
  have HK : Hid (Below w.heap.size w W0 ∧ Blk W0 w.heap.size (D5 s c s' c' v) 31 ∧ Blk W0 (w.heap.size + 1) (D5 0 0 0 0 (.slice none 0 0)) 31) := ⟨kb, k0, k1⟩
  have HL : Hid (ls.length ≤ 1048576) := hn
  obtain ⟨av, cap, rfl, -⟩ := h
  have c0 := k0.cell 0
  have c1 := k0.cell 1
  have c2 := k0.cell 2
  have c3 := k0.cell 3
  have c4 := k0.cell 4
  simp at c0 c1 c2 c3 c4
  clear k0 k1 kb hn
  go_enter Try.func32, Try.ntmps32
  go_wp2_with (fail)
  refine (okM_c s c s' c' _ ls W0 (HR.out _ HK.out.1)).mono ?_
  rintro e W1 ⟨q, rfl, hq, b1⟩
  have K1 : Hid (Below w.heap.size w W1 ∧ Blk W1 w.heap.size (D5 s c s' c' (.slice av ls.length cap)) 31 ∧ Blk W1 (w.heap.size + 1) (D5 0 0 0 0 (.slice none 0 0)) 31) := ⟨belowCall HK.out.1 b1 HK.out.1.size, HK.out.2.1.below b1 HK.out.2.1.lt, HK.out.2.2.below b1 HK.out.2.2.lt⟩
  clear b1 HK c0 c1 c2 c3 c4 hW0
  have c0 := K1.out.2.1.cell 0
  have c1 := K1.out.2.1.cell 1
  have c2 := K1.out.2.1.cell 2
  have c3 := K1.out.2.1.cell 3
  have c4 := K1.out.2.1.cell 4
  have cf4 := K1.out.2.1.frozen 4
  have r0 := K1.out.2.2.cell 0
  have rf0 := K1.out.2.2.frozen 0
  have r1 := K1.out.2.2.cell 1
  have rf1 := K1.out.2.2.frozen 1
  have r2 := K1.out.2.2.cell 2
  have rf2 := K1.out.2.2.frozen 2
  have r3 := K1.out.2.2.cell 3
  have rf3 := K1.out.2.2.frozen 3
  have r4 := K1.out.2.2.cell 4
  have rf4 := K1.out.2.2.frozen 4
  simp at r0 r1 r2 r3 r4
  simp at c0 c1 c2 c3 c4
  have cl := K1.out.2.1.lt
  by_cases hok : q = true ∧ 0 ≤ n ∧ n ≤ 20
  case neg =>
    have HNO : Hid (¬ (DOt (s, c, s', c', ls) ∧ 0 ≤ n ∧ n ≤ 20)) := fun h => hok ⟨hq.2 h.1, h.2⟩
    have HF : Hid _ := zeroD K1.out.1 K1.out.2.2 (by omega)
    clear K1 HR
    cases q with
    | false =>
      clear hok hq
      go_wp2
      exact bodyPost_ret (v := .agg (D5 0 0 0 0 (.slice none 0 0))) (results_cell_row rfl _ _ _ 31 _ (0, 0) _ rfl (HF.out _ rfl).1 Try.underlying31 rfl size31) rfl ⟨_, fun h => absurd h HNO.out, fun _ => rfl, rfl, (HF.out _ rfl).2⟩
    | true =>
      clear hq
      have QN : ¬ (0 ≤ n ∧ n ≤ 20) := fun h => hok ⟨rfl, h⟩
      have QIN : decide (0 ≤ n ∧ n ≤ 20) = false := decide_eq_false QN
      clear hok QN
      · go_wp2_with (first | (go_at_call 41; refine (l1In_b _ _ _ _ QIN _).mono ?_; rintro e w2 ⟨rfl, hw2⟩; obtain rfl := hw2.symm))
        exact bodyPost_ret (v := .agg (D5 0 0 0 0 (.slice none 0 0))) (results_cell_row rfl _ _ _ 31 _ (0, 0) _ rfl (HF.out _ rfl).1 Try.underlying31 rfl size31) rfl ⟨_, fun h => absurd h HNO.out, fun _ => rfl, rfl, (HF.out _ rfl).2⟩
  case pos =>
  obtain ⟨rfl, hn0, hn1⟩ := hok
  have HDK : Hid (DOk s c s' c' ls) := hq.1 rfl
  have HYE : Hid (DOt (s, c, s', c', ls) ∧ 0 ≤ n ∧ n ≤ 20) := ⟨HDK.out, hn0, hn1⟩
  clear hq

  have QIN : decide (0 ≤ n ∧ n ≤ 20) = true := decide_eq_true ⟨hn0, hn1⟩
  have HC : Hid (Calls Try.prog 39 #[.agg (D5 s c s' c' (.slice av ls.length cap))] W1 (DuS W1.heap.size W1 (.slice none 0 0) (s, c, s', c', ls))) := l5Copy_c s c s' c' _ ls W1 (HR.out _ K1.out.1) (by have := HL.out; omega)
  go_wp2_with (first | (go_at_call 41; refine (l1In_b _ _ _ _ QIN _).mono ?_; rintro e w2 ⟨rfl, hw2⟩; obtain rfl := hw2.symm))
  refine HC.out.mono ?_
  rintro e w2 ⟨v', rfl, o1, g1, -⟩
  have b1 : Below W1.heap.size W1 w2 := ⟨g1.os, g1.tape, g1.output, g1.size, fun j hj => g1.block j hj (by simp [Value.ownBlock])⟩
  have q0 := K1.out.2.1.below b1 K1.out.2.1.lt
  have q2 := K1.out.2.2.below b1 K1.out.2.2.lt
  have hvb : ∀ k, v'.ownBlock = some k → w.heap.size + 1 < k := fun k e => by have := (World.ownsRow.lt o1 k e).1; have := K1.out.2.2.lt; omega
  have bb : Below w.heap.size w w2 := belowCall K1.out.1 b1 K1.out.1.size
  have ho2 : Ot 66 w.heap.size w2 v' ls := o1.mono K1.out.1.size
  have hb2 : Bx w w.heap.size (.slice none 0 0) (st5 w2 w.heap.size s c s' c' v') w.heap.size (w.heap.size + 1) s c s' c' v' ls :=
    Bx.fresh (put5 q0 s c s' c' v') (q2.grown (grown_put5 ..) (by intro e; have := Option.some.inj e; omega)) (ho2.keepB (grown_put5 ..) (fun e => by have := hvb _ e; omega)) (bb.trans (grown_below (grown_put5 ..) (by have := bb.size; omega) (fun k e => by cases e; exact Nat.le_refl _))) (Nat.le_refl _) (by omega) (by omega) (fun e => by have := hvb _ e; omega) (fun e => by have := hvb _ e; omega)
  obtain ⟨a', cap', hv', -⟩ := own_form o1
  simp only at hv'
  subst hv'
  have HB : Hid (Bx w w.heap.size (.slice none 0 0) (st5 w2 w.heap.size s c s' c' (.slice a' ls.length cap')) w.heap.size (w.heap.size + 1) s c s' c' (.slice a' ls.length cap') ls) := hb2
  clear r0 r1 r2 r3 r4 rf0 rf1 rf2 rf3 rf4 c0 c1 c2 c3 c4 cf4 cl
  have m0 := q0.cell 0
  have mf0 := q0.frozen 0
  have m1 := q0.cell 1
  have mf1 := q0.frozen 1
  have m2 := q0.cell 2
  have mf2 := q0.frozen 2
  have m3 := q0.cell 3
  have mf3 := q0.frozen 3
  have m4 := q0.cell 4
  have mf4 := q0.frozen 4
  simp at m0 m1 m2 m3 m4
  obtain ⟨W2, hW2⟩ : ∃ W, st5 w2 w.heap.size s c s' c' (.slice a' ls.length cap') = W := ⟨_, rfl⟩
  rw [hW2] at HB
  unfold st5 at hW2
  clear q0 q2 hvb bb ho2 hb2 o1 b1 g1 HC K1 QIN HR
  obtain ⟨N, rfl⟩ : ∃ N : Nat, n = (N : Int) := ⟨n.toNat, by omega⟩
  go_wp2
  clear hW2 m0 m1 m2 m3 m4 mf0 mf1 mf2 mf3 mf4
  go_loopw [5] (fun i wr => ∃ j : Nat, j ≤ N ∧ i = .int .i64 j ∧ Hid (∃ s1 c1 s2 c2 v1 l1, Bx w w.heap.size (.slice none 0 0) wr w.heap.size (w.heap.size + 1) s1 c1 s2 c2 v1 l1 ∧ DOk s1 c1 s2 c2 l1 ∧ SetN j (s, c, s', c', ls) (s1, c1, s2, c2, l1))) (fun i _ => N - (intOf i).toNat)
  case atStart => exact ⟨0, Nat.zero_le _, rfl, s, c, s', c', _, ls, HB.out, HDK.out, rfl⟩
  case round =>
    obtain ⟨j, hj, rfl, hrest⟩ := hrel
    obtain ⟨s1, c1, s2, c2, v1, l1, hB, hdk, hset⟩ := hrest.out
    clear hrest HB
    have B1 : Hid (Bx w w.heap.size (.slice none 0 0) wr w.heap.size (w.heap.size + 1) s1 c1 s2 c2 v1 l1) := hB
    have HDo : Hid (DOk s1 c1 s2 c2 l1) := hdk
    have HSE : Hid (SetN j (s, c, s', c', ls) (s1, c1, s2, c2, l1)) := hset
    obtain ⟨a1, cap1, hv1, -⟩ := own_form hB.own
    obtain ⟨n1, hn1'⟩ : ∃ n, l1.length = n := ⟨_, rfl⟩
    rw [hn1'] at hv1
    subst hv1
    clear hB hdk hset hn1'
    have k0 := B1.out.box.cell 0
    have kf0 := B1.out.box.frozen 0
    have k1 := B1.out.box.cell 1
    have kf1 := B1.out.box.frozen 1
    have k2 := B1.out.box.cell 2
    have kf2 := B1.out.box.frozen 2
    have k3 := B1.out.box.cell 3
    have kf3 := B1.out.box.frozen 3
    have k4 := B1.out.box.cell 4
    have kf4 := B1.out.box.frozen 4
    have r0 := B1.out.res.cell 0
    have rf0 := B1.out.res.frozen 0
    have r1 := B1.out.res.cell 1
    have rf1 := B1.out.res.frozen 1
    have r2 := B1.out.res.cell 2
    have rf2 := B1.out.res.frozen 2
    have r3 := B1.out.res.cell 3
    have rf3 := B1.out.res.frozen 3
    have r4 := B1.out.res.cell 4
    have rf4 := B1.out.res.frozen 4
    simp at k0 k1 k2 k3 k4 r0 r1 r2 r3 r4
    have kl := B1.out.box.lt
    have rl := B1.out.res.lt
    have kn := B1.out.ne
    skip
    by_cases hlt : j < N
    case pos =>
      have hjI : (j : Int) < (N : Int) := by omega
      go_wp2_with (fail)
      refine (carM_c w.heap.size s1 c1 s2 c2 (.slice a1 n1 cap1) l1 wr B1.out.own B1.out.gr.size HDo.out).mono ?_
      rintro e Wd ⟨⟨ta1, ta2, ta3, ta4, tla⟩, hcar, hdk, v', rfl, ho, hg, hx⟩
      obtain rfl : tla = [] := hcar.1
      have HCAR : Hid (Car (s1, c1, s2, c2, l1) (ta1, ta2, ta3, ta4, [])) := hcar
      have HDo2 : Hid (DOk ta1 ta2 ta3 ta4 []) := hdk
      obtain ⟨q1, -⟩ := B1.out.after ho hg hx
      have hB3 := B1.out.put ho hg hx ta1 ta2 ta3 ta4
      obtain ⟨aa, capa, hv', -⟩ := own_form ho
      simp at hv'
      subst hv'
      have Ba : Hid (Bx w w.heap.size (.slice none 0 0) (st5 Wd w.heap.size ta1 ta2 ta3 ta4 (.slice aa 0 capa)) w.heap.size (w.heap.size + 1) ta1 ta2 ta3 ta4 (.slice aa 0 capa) []) := hB3
      have m0 := q1.cell 0
      have mf0 := q1.frozen 0
      have m1 := q1.cell 1
      have mf1 := q1.frozen 1
      have m2 := q1.cell 2
      have mf2 := q1.frozen 2
      have m3 := q1.cell 3
      have mf3 := q1.frozen 3
      have m4 := q1.cell 4
      have mf4 := q1.frozen 4
      simp at m0 m1 m2 m3 m4
      clear k0 k1 k2 k3 k4 kf0 kf1 kf2 kf3 kf4 r0 r1 r2 r3 r4 rf0 rf1 rf2 rf3 rf4 kl rl kn
      clear hB3 q1 ho hg hx hcar hdk B1 HDo
      obtain ⟨Wa, hWa⟩ : ∃ W, st5 Wd w.heap.size ta1 ta2 ta3 ta4 (.slice aa 0 capa) = W := ⟨_, rfl⟩
      rw [hWa] at Ba
      unfold st5 at hWa
      have HDo : Hid (DOk ta1 ta2 ta3 ta4 []) := HDo2.out
      clear HDo2
      have k0 := Ba.out.box.cell 0
      have kf0 := Ba.out.box.frozen 0
      have k1 := Ba.out.box.cell 1
      have kf1 := Ba.out.box.frozen 1
      have k2 := Ba.out.box.cell 2
      have kf2 := Ba.out.box.frozen 2
      have k3 := Ba.out.box.cell 3
      have kf3 := Ba.out.box.frozen 3
      have k4 := Ba.out.box.cell 4
      have kf4 := Ba.out.box.frozen 4
      have r0 := Ba.out.res.cell 0
      have rf0 := Ba.out.res.frozen 0
      have r1 := Ba.out.res.cell 1
      have rf1 := Ba.out.res.frozen 1
      have r2 := Ba.out.res.cell 2
      have rf2 := Ba.out.res.frozen 2
      have r3 := Ba.out.res.cell 3
      have rf3 := Ba.out.res.frozen 3
      have r4 := Ba.out.res.cell 4
      have rf4 := Ba.out.res.frozen 4
      simp at k0 k1 k2 k3 k4 r0 r1 r2 r3 r4
      have kl := Ba.out.box.lt
      have rl := Ba.out.res.lt
      have kn := Ba.out.ne
      skip
      have HLn : Hid (([] : Tri).length ≤ 0) := by show _ ≤ _; simp
      obtain ⟨⟨tb1, tb2, tb3, tb4, tlb⟩, hT⟩ : ∃ T, timM (ta1, ta2, ta3, ta4, []) 0 = T := ⟨_, rfl⟩
      have HTb : Hid (timM (ta1, ta2, ta3, ta4, []) 0 = (tb1, tb2, tb3, tb4, tlb)) := hT
      have hdt := dok_tim (d := (ta1, ta2, ta3, ta4, [])) HDo.out (by have := HLn.out; simp only; omega) 0 (by simp)
      rw [hT] at hdt
      have HDo2 : Hid (DOk tb1 tb2 tb3 tb4 tlb) := hdt.1
      have HLn2 : Hid (tlb.length ≤ 1) := by have := hdt.2; have := HLn.out; simp only at *; show _ ≤ _; omega
      have hc := tim0_c w.heap.size ta1 ta2 ta3 ta4 (.slice aa 0 capa) [] Wa Ba.out.own Ba.out.gr.size (by have := HLn.out; omega)
      rw [hT] at hc
      have HC : Hid (Calls Try.prog 55 #[.agg (D5 ta1 ta2 ta3 ta4 (.slice aa 0 capa)), .int .i64 0] Wa (DuS w.heap.size Wa (.slice aa 0 capa) (tb1, tb2, tb3, tb4, tlb))) := hc
      clear hc hT hdt
      go_wp2_with (fail)
      refine HC.out.mono ?_
      rintro e Wd ⟨v', rfl, ho, hg, hx⟩
      obtain ⟨q1, -⟩ := Ba.out.after ho hg hx
      have hB3 := Ba.out.put ho hg hx tb1 tb2 tb3 tb4
      obtain ⟨ab, capb, hv', -⟩ := own_form ho
      simp only at hv'
      subst hv'
      have Bb : Hid (Bx w w.heap.size (.slice none 0 0) (st5 Wd w.heap.size tb1 tb2 tb3 tb4 (.slice ab tlb.length capb)) w.heap.size (w.heap.size + 1) tb1 tb2 tb3 tb4 (.slice ab tlb.length capb) tlb) := hB3
      clear k0 k1 k2 k3 k4 kf0 kf1 kf2 kf3 kf4 r0 r1 r2 r3 r4 rf0 rf1 rf2 rf3 rf4 kl rl kn
      have m0 := q1.cell 0
      have mf0 := q1.frozen 0
      have m1 := q1.cell 1
      have mf1 := q1.frozen 1
      have m2 := q1.cell 2
      have mf2 := q1.frozen 2
      have m3 := q1.cell 3
      have mf3 := q1.frozen 3
      have m4 := q1.cell 4
      have mf4 := q1.frozen 4
      simp at m0 m1 m2 m3 m4
      clear hB3 q1 ho hg hx Ba HDo HLn HC
      obtain ⟨Wb, hWb⟩ : ∃ W, st5 Wd w.heap.size tb1 tb2 tb3 tb4 (.slice ab tlb.length capb) = W := ⟨_, rfl⟩
      rw [hWb] at Bb
      unfold st5 at hWb
      have HDo : Hid (DOk tb1 tb2 tb3 tb4 tlb) := HDo2.out
      have HLn : Hid (tlb.length ≤ 1) := HLn2.out
      clear HDo2 HLn2
      have k0 := Bb.out.box.cell 0
      have kf0 := Bb.out.box.frozen 0
      have k1 := Bb.out.box.cell 1
      have kf1 := Bb.out.box.frozen 1
      have k2 := Bb.out.box.cell 2
      have kf2 := Bb.out.box.frozen 2
      have k3 := Bb.out.box.cell 3
      have kf3 := Bb.out.box.frozen 3
      have k4 := Bb.out.box.cell 4
      have kf4 := Bb.out.box.frozen 4
      have r0 := Bb.out.res.cell 0
      have rf0 := Bb.out.res.frozen 0
      have r1 := Bb.out.res.cell 1
      have rf1 := Bb.out.res.frozen 1
      have r2 := Bb.out.res.cell 2
      have rf2 := Bb.out.res.frozen 2
      have r3 := Bb.out.res.cell 3
      have rf3 := Bb.out.res.frozen 3
      have r4 := Bb.out.res.cell 4
      have rf4 := Bb.out.res.frozen 4
      simp at k0 k1 k2 k3 k4 r0 r1 r2 r3 r4
      have kl := Bb.out.box.lt
      have rl := Bb.out.res.lt
      have kn := Bb.out.ne
      skip
      obtain ⟨⟨tc1, tc2, tc3, tc4, tlc⟩, hT⟩ : ∃ T, timM (tb1, tb2, tb3, tb4, tlb) 1 = T := ⟨_, rfl⟩
      have HTc : Hid (timM (tb1, tb2, tb3, tb4, tlb) 1 = (tc1, tc2, tc3, tc4, tlc)) := hT
      have hdt := dok_tim (d := (tb1, tb2, tb3, tb4, tlb)) HDo.out (by have := HLn.out; simp only; omega) 1 (by simp)
      rw [hT] at hdt
      have HDo2 : Hid (DOk tc1 tc2 tc3 tc4 tlc) := hdt.1
      have HLn2 : Hid (tlc.length ≤ 2) := by have := hdt.2; have := HLn.out; simp only at *; show _ ≤ _; omega
      have hc := tim1_c w.heap.size tb1 tb2 tb3 tb4 (.slice ab tlb.length capb) tlb Wb Bb.out.own Bb.out.gr.size (by have := HLn.out; omega)
      rw [hT] at hc
      have HC : Hid (Calls Try.prog 55 #[.agg (D5 tb1 tb2 tb3 tb4 (.slice ab tlb.length capb)), .int .i64 1] Wb (DuS w.heap.size Wb (.slice ab tlb.length capb) (tc1, tc2, tc3, tc4, tlc))) := hc
      clear hc hT hdt
      go_wp2_with (fail)
      refine HC.out.mono ?_
      rintro e Wd ⟨v', rfl, ho, hg, hx⟩
      obtain ⟨q1, -⟩ := Bb.out.after ho hg hx
      have hB3 := Bb.out.put ho hg hx tc1 tc2 tc3 tc4
      obtain ⟨ac, capc, hv', -⟩ := own_form ho
      simp only at hv'
      subst hv'
      have Bc : Hid (Bx w w.heap.size (.slice none 0 0) (st5 Wd w.heap.size tc1 tc2 tc3 tc4 (.slice ac tlc.length capc)) w.heap.size (w.heap.size + 1) tc1 tc2 tc3 tc4 (.slice ac tlc.length capc) tlc) := hB3
      clear k0 k1 k2 k3 k4 kf0 kf1 kf2 kf3 kf4 r0 r1 r2 r3 r4 rf0 rf1 rf2 rf3 rf4 kl rl kn
      have m0 := q1.cell 0
      have mf0 := q1.frozen 0
      have m1 := q1.cell 1
      have mf1 := q1.frozen 1
      have m2 := q1.cell 2
      have mf2 := q1.frozen 2
      have m3 := q1.cell 3
      have mf3 := q1.frozen 3
      have m4 := q1.cell 4
      have mf4 := q1.frozen 4
      simp at m0 m1 m2 m3 m4
      clear hB3 q1 ho hg hx Bb HDo HLn HC
      obtain ⟨Wc, hWc⟩ : ∃ W, st5 Wd w.heap.size tc1 tc2 tc3 tc4 (.slice ac tlc.length capc) = W := ⟨_, rfl⟩
      rw [hWc] at Bc
      unfold st5 at hWc
      have HDo : Hid (DOk tc1 tc2 tc3 tc4 tlc) := HDo2.out
      have HLn : Hid (tlc.length ≤ 2) := HLn2.out
      clear HDo2 HLn2
      have k0 := Bc.out.box.cell 0
      have kf0 := Bc.out.box.frozen 0
      have k1 := Bc.out.box.cell 1
      have kf1 := Bc.out.box.frozen 1
      have k2 := Bc.out.box.cell 2
      have kf2 := Bc.out.box.frozen 2
      have k3 := Bc.out.box.cell 3
      have kf3 := Bc.out.box.frozen 3
      have k4 := Bc.out.box.cell 4
      have kf4 := Bc.out.box.frozen 4
      have r0 := Bc.out.res.cell 0
      have rf0 := Bc.out.res.frozen 0
      have r1 := Bc.out.res.cell 1
      have rf1 := Bc.out.res.frozen 1
      have r2 := Bc.out.res.cell 2
      have rf2 := Bc.out.res.frozen 2
      have r3 := Bc.out.res.cell 3
      have rf3 := Bc.out.res.frozen 3
      have r4 := Bc.out.res.cell 4
      have rf4 := Bc.out.res.frozen 4
      simp at k0 k1 k2 k3 k4 r0 r1 r2 r3 r4
      have kl := Bc.out.box.lt
      have rl := Bc.out.res.lt
      have kn := Bc.out.ne
      skip
      have HSE2 : Hid (SetN (j + 1) (s, c, s', c', ls) (tc1, tc2, tc3, tc4, tlc)) := ⟨_, _, HSE.out, HCAR.out, by rw [HTb.out, HTc.out]⟩
      go_wp2
      go_roundw
      case rel => exact ⟨j + 1, by omega, by go_num, tc1, tc2, tc3, tc4, _, tlc, Bc.out, HDo.out, HSE2.out⟩
      case measure => simp [intOf]; omega
    case neg =>
      obtain rfl : j = N := by omega
      have hjI : ¬ ((j : Int) < (j : Int)) := by omega
      go_wp2_with (fail)
      refine (carM_c w.heap.size s1 c1 s2 c2 (.slice a1 n1 cap1) l1 wr B1.out.own B1.out.gr.size HDo.out).mono ?_
      rintro e Wd ⟨⟨t1, t2, t3, t4, tl⟩, hcar, hdk, v', rfl, ho, hg, hx⟩
      obtain rfl : tl = [] := hcar.1
      have HCAR : Hid (Car (s1, c1, s2, c2, l1) (t1, t2, t3, t4, [])) := hcar
      obtain ⟨k2, HF'⟩ := B1.out.hand ho hg hx t1 t2 t3 t4
      have HF : Hid _ := HF'
      obtain ⟨a2, cap2, hv', -⟩ := own_form ho
      simp at hv'
      subst hv'
      have m0 := k2.cell 0
      have mf0 := k2.frozen 0
      have m1 := k2.cell 1
      have mf1 := k2.frozen 1
      have m2 := k2.cell 2
      have mf2 := k2.frozen 2
      have m3 := k2.cell 3
      have mf3 := k2.frozen 3
      have m4 := k2.cell 4
      have mf4 := k2.frozen 4
      simp at m0 m1 m2 m3 m4
      clear k2 ho hg hx B1 HF' hcar hdk
      go_wp2
      exact bodyPost_ret (v := .agg (D5 t1 t2 t3 t4 (.slice a2 0 cap2))) (results_cell_row rfl _ _ _ 31 _ (0, 0) _ rfl (HF.out _ rfl).1 Try.underlying31 rfl size31) rfl ⟨_, fun _ => ⟨_, HSE.out, HCAR.out⟩, fun h => absurd HYE.out h, rfl, (HF.out _ rfl).2.2⟩
end Go.Proofs.Ytljejjfhlpjlfaa

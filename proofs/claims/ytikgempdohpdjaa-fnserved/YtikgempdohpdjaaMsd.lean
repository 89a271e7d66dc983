/- l16DrawMeasures; no condition. -/
import Derived.Test.YtikgempdohpdjaaMsa
import Derived.WalkSmall
import Derived.Deep.Cut
namespace Go.Proofs.Ytikgempdohpdjaa
open Go.RowKit Go.ChangeShapes Go.WideShapes Go.ChangeAt
set_option linter.unusedVariables false
set_option linter.unusedSimpArgs false
set_option maxRecDepth 8000

set_option maxHeartbeats 12800000 in
theorem drawMeas_c (g : Nat) (cv : Value) (code : List Int) (w : World) (h : Dr w g cv code) (hlen : code.length ≤ 2097152) :
   Calls Try.prog 44 #[.pointer (some ⟨g, 0, none⟩), cv] w fun e w' => ∃ v us ls, e = .returned v ∧ Gd w w' g cv code v us ls ∧ ls.length ≤ 40 ∧ ∀ i, i < ls.length → 1 ≤ (ls.getD i []).length ∧ (ls.getD i []).length ≤ 5 := by
  obtain ⟨W0, hW0⟩ : ∃ W, w.alloc (Obj.cells #[] 27) = W := ⟨_, rfl⟩
  obtain ⟨v0, hv0⟩ : ∃ v, Value.slice (some ⟨w.heap.size, 0, none⟩) 0 0 = v := ⟨_, rfl⟩
  have HG0 : Hid (Gd w W0 g cv code v0 [] []) := by rw [← hW0, ← hv0]; exact Gd.start (Dc.start h)
  have HV0 : Hid (v0.ownBlock = some w.heap.size ∧ w.heap.size < W0.heap.size) := by rw [← hv0, ← hW0]; exact ⟨rfl, by simp⟩
  have HW0 : Hid (w.alloc (Obj.cells #[] 27) = W0 ∧ Value.slice (some ⟨w.heap.size, 0, none⟩) 0 0 = v0) := ⟨hW0, hv0⟩
  have HLC : Hid (code.length ≤ 2097152) := hlen
  clear h hW0 hv0
  go_enter Try.func44, Try.ntmps44
  go_wp2_with (fail)
  rw [HW0.out.1, HW0.out.2]
  clear HW0
  refine (below_c g cv code 5 _ HG0.out.dc.dr (by omega)).mono ?_
  rintro e w1 ⟨r, rfl, r0, r1, -, d1, g1⟩
  have r2 := r1 (by omega)
  have HG1 : Hid (Gd w w1 g cv code v0 [] []) := HG0.out.draw d1 g1
  have HZ1 : Hid (w.heap.size < w1.heap.size) := Nat.lt_of_lt_of_le HV0.out.2 g1.size
  clear d1 g1 r1 HG0
  obtain ⟨n, hn⟩ : ∃ n : Nat, 1 + r = (n : Int) := ⟨(1 + r).toNat, by omega⟩
  have hn1 : 1 ≤ n := by omega
  have hn2 : n ≤ 5 := by omega
  clear r0 r2
  obtain ⟨B, hB⟩ : ∃ B, w1.heap.size = B := ⟨_, rfl⟩
  obtain ⟨W2, hW2⟩ : ∃ W, w1.alloc (Obj.cells #[] 3) = W := ⟨_, rfl⟩
  obtain ⟨q0, hq0⟩ : ∃ v, Value.slice (some ⟨w1.heap.size, 0, none⟩) 0 0 = v := ⟨_, rfl⟩
  have HG2 : Hid (Gd w W2 g cv code v0 [] []) := by rw [← hW2]; exact HG1.out.below ((Below.refl _ _).alloc (Nat.le_refl _) _)
  have HO2 : Hid (Ow .i64 3 B W2 q0 []) := by rw [← hW2, ← hq0, ← hB]; exact Ow.empty .i64 3 _ w1 (Nat.le_refl _)
  have HBB : Hid (w.heap.size < B ∧ B ≤ W2.heap.size) := by rw [← hB, ← hW2]; exact ⟨HZ1.out, by simp⟩
  have HW2 : Hid (w1.alloc (Obj.cells #[] 3) = W2 ∧ Value.slice (some ⟨w1.heap.size, 0, none⟩) 0 0 = q0) := ⟨hW2, hq0⟩
  clear hW2 hq0 hB HG1 HZ1
  go_wp2
  rw [HW2.out.1, HW2.out.2]
  clear HW2
  go_loopw [7, 8] (fun o i wr => ∃ (k : Nat) (q : Value) (rs : List Int), i = .int .i64 k ∧ q = o ∧ k ≤ n ∧ Hid (rs.length = k) ∧ Hid (Ow .i64 3 B wr q rs) ∧ Hid (Gd w wr g cv code v0 [] []) ∧ Hid (B ≤ wr.heap.size)) (fun _ i _ => n - (intOf i).toNat)
  case atStart => exact ⟨0, _, [], rfl, rfl, Nat.zero_le _, rfl, HO2.out, HG2.out, HBB.out.2⟩
  case round =>
    obtain ⟨k, q, rs, rfl, hq, hk, hL, hO, hG, hS⟩ := hrel
    subst hq
    clear HO2 HG2
    by_cases hkt : k < n
    case pos =>
      have hktI : (k : Int) < (n : Int) := by omega
      go_wp2_with (fail)
      refine (below_c g cv code 121 _ hG.out.dc.dr (by omega)).mono ?_
      rintro e w3 ⟨x, rfl, x0, x1, -, d1, g1⟩
      have HG3 : Hid (Gd w w3 g cv code v0 [] []) := hG.out.draw d1 g1
      have HO3 : Hid (Ow .i64 3 B w3 q rs) := hO.out.drawn g1 (by have := hG.out.dc.lt; have := HBB.out.1; omega)
      have HSZ : Hid (B ≤ w3.heap.size) := Nat.le_trans hS.out g1.size
      have HLN : Hid (rs.length ≤ 1000) := by show _ ≤ _; rw [hL.out]; omega
      have x2 := x1 (by omega)
      have e1 : wrap64 (-x) = -x := wrap64_in (by omega)
      clear d1 g1 x1 hG hO hS
      go_wp2_with (at_builtin; refine appI rfl (.tmp 23) (.tmp 27) rfl B _ rs rfl (HO3.out.alloc _) w3.heap.size (-x) rfl (by simp [e1]) (by have := HLN.out; omega) (by have := HSZ.out; simp; omega) ?_)
      intro v6 w6 ho hb
      have HO6 : Hid (Ow .i64 3 B w6 v6 (rs ++ [-x])) := ho
      have HG6 : Hid (Gd w w6 g cv code v0 [] []) := (HG3.out.below ((Below.refl _ _).alloc (Nat.le_refl _) _)).belowB hb (Nat.le_of_lt HBB.out.1) (fun k hk => by rw [HV0.out.1] at hk; cases hk; exact HBB.out.1) (fun i hi => by simp at hi)
      have HS6 : Hid (B ≤ w6.heap.size) := Nat.le_trans (by have := HSZ.out; simp; omega) hb.size
      have HL6 : Hid ((rs ++ [-x]).length = k + 1) := by show _ = _; simp [hL.out]
      clear ho hb HO3 HG3
      go_wp2
      go_roundw
      case rel => exact ⟨k + 1, _, _, by go_num, rfl, by omega, HL6.out, HO6.out, HG6.out, HS6.out⟩
      case measure => simp [intOf]; omega
    case neg =>
    obtain rfl : k = n := by omega
    clear hkt hk
    obtain ⟨ad, cap, hvq, -, -, hnb⟩ := own_form hO.out
    obtain ⟨bn, rfl⟩ : ∃ b, ad = some ⟨b, 0, none⟩ := by
      rcases hnb with h0 | h0
      · have := hL.out; omega
      · exact h0
    have HBN : Hid (B ≤ bn ∧ bn < wr.heap.size) := World.ownsRow.lt hO.out bn (by rw [hvq]; rfl)
    have HM : Hid (Gm w wr g cv code v0 [] [] bn cap rs) := by
      refine ⟨hG.out, ?_, ?_, fun i hi => by simp at hi⟩
      · have ho := hO.out
        rw [hvq] at ho
        refine ⟨ho.1, ?_⟩
        rcases ho.2 with q | ⟨g', c', cur, hv, hg', r⟩
        · exact .inl q
        · exact .inr ⟨g', c', cur, hv, by have := HBB.out.1; omega, r⟩
      · rw [HV0.out.1]; intro e; cases e; have := HBN.out.1; have := HBB.out.1; omega
    have HRL : Hid (rs.length = k) := hL.out
    rw [hvq, hL.out]
    have HSZ := hS
    have HRW : Hid (Rd .u8 wr cv code) := hG.out.dc.dr.rd
    clear hvq hnb hO hG hL hS HBB
    go_wp2_with (fail)
    refine (size_c cv code 20 wr HRW.out HLC.out (by omega) (by omega)).mono ?_
    rintro e w' ⟨x, rfl, x0, x1, hw⟩
    rw [hw]
    clear hw
    have e2 : wrap64 (2 * x) = 2 * x := wrap64_in (by omega)
    go_wp2_with (fail)
    refine (below_c g cv code (2 * x) _ HM.out.gd.dc.dr (by omega)).mono ?_
    rintro e w3 ⟨t, rfl, t0, t1, -, d1, g1⟩
    have t2 := t1 (by omega)
    have HM3 : Hid (Gm w w3 g cv code v0 [] [] bn cap rs) := HM.out.draw d1 g1
    obtain ⟨T, hT⟩ : ∃ T : Nat, t = (T : Int) := ⟨t.toNat, by omega⟩
    subst hT
    have hT40 : T ≤ 40 := by omega
    clear d1 g1 t1 HM x0 x1 t0 t2 e2 HRW
    go_wp2
    go_loopw [5, 9] (fun o i wr => ∃ (m : Nat) (o' : Value) (us : List Value) (ls : List (List Int)) (zs : List Int), i = .int .i64 m ∧ o' = o ∧ m ≤ T ∧ Hid (zs.length = k) ∧ Hid (ls.length + m = T ∧ ∀ i, i < ls.length → (ls.getD i []).length = k) ∧ Hid (Gm w wr g cv code o' us ls bn cap zs)) (fun _ i _ => (intOf i).toNat)
    case atStart => exact ⟨T, _, [], [], rs, rfl, rfl, Nat.le_refl _, HRL.out, ⟨by simp, fun i hi => by simp at hi⟩, HM3.out⟩
    case round =>
      obtain ⟨m, o', us, ls, zs, rfl, ho', hm, hZ, hY, hM⟩ := hrel
      subst ho'
      clear HM3
      cases m with
      | zero =>
        go_wp2
        go_ret
        exact ⟨_, us, ls, rfl, hM.out.gd, by have := hY.out.1; omega, fun i hi => by rw [hY.out.2 i hi]; exact ⟨hn1, hn2⟩⟩
      | succ m =>
      have hmI : (0 : Int) < ((m + 1 : Nat) : Int) := by omega
      obtain ⟨wz, hwz⟩ : ∃ W, W = wr := ⟨_, rfl⟩
      subst hwz
      obtain ⟨W1, hW1⟩ : ∃ W, wz.alloc (Obj.cells #[] 3) = W := ⟨_, rfl⟩
      obtain ⟨v1, hv1⟩ : ∃ v, Value.slice (some ⟨wz.heap.size, 0, none⟩) 0 0 = v := ⟨_, rfl⟩
      have HO1 : Hid (Ow .i64 3 wz.heap.size W1 v1 []) := by rw [← hW1, ← hv1]; exact Ow.empty .i64 3 _ wz (Nat.le_refl _)
      have HM1 : Hid (Gm w W1 g cv code o' us ls bn cap zs) := by rw [← hW1]; exact hM.out.below ((Below.refl _ _).alloc (Nat.le_refl _) _)
      have HZ1 : Hid (wz.heap.size ≤ W1.heap.size) := by rw [← hW1]; show _ ≤ _; simp
      have HW1 : Hid (wz.alloc (Obj.cells #[] 3) = W1 ∧ Value.slice (some ⟨wz.heap.size, 0, none⟩) 0 0 = v1) := ⟨hW1, hv1⟩
      have HBL : Hid ((∀ i, i < ls.length → ∀ k, (us.getD i vN).ownBlock = some k → k < wz.heap.size) ∧ (∀ k, o'.ownBlock = some k → k < wz.heap.size) ∧ bn < wz.heap.size ∧ w.heap.size ≤ wz.heap.size) := ⟨hM.out.gd.blt.1, hM.out.gd.blt.2, hM.out.lo.2, hM.out.gd.size⟩
      clear hW1 hv1
      go_wp2
      rw [HW1.out.1, HW1.out.2]
      clear HW1
      go_loopw [10, 11] (fun o i wr => ∃ (j : Nat) (q : Value) (rw' zs' : List Int), i = .int .i64 j ∧ q = o ∧ j ≤ k ∧ Hid (rw'.length = j) ∧ Hid (zs'.length = k) ∧ Hid (Ow .i64 3 wz.heap.size wr q rw') ∧ Hid (Gm w wr g cv code o' us ls bn cap zs') ∧ Hid (wz.heap.size ≤ wr.heap.size)) (fun _ i _ => k - (intOf i).toNat)
      case atStart => exact ⟨0, _, [], zs, rfl, rfl, Nat.zero_le _, rfl, hZ.out, HO1.out, HM1.out, HZ1.out⟩
      case round =>
        obtain ⟨j, q, rs2, zs2, rfl, hq, hj, hL2, hZ2, hO2, hM2, hS2⟩ := hrel
        subst hq
        clear HO1 HM1 HZ1
        by_cases hjt : j < k
        case pos =>
          have hjI : (j : Int) < (k : Int) := by omega
          obtain ⟨z, hz⟩ : ∃ z, zs2.getD j 0 = z := ⟨_, rfl⟩
          have HLT : Hid (j < zs2.length) := by show _ < _; rw [hZ2.out]; exact hjt
          obtain ⟨S, hS⟩ : ∃ S : World → Prop, S = fun W' => W'.cell? ⟨bn, j, none⟩ = some (.int .i64 z) := ⟨_, rfl⟩
          have HSF : Hid (∀ W', S W' → W'.cell? ⟨bn, j, none⟩ = some (.int .i64 z)) := fun W' h => by rw [hS] at h; exact h
          have HSC : Hid (∀ W, Gm w W g cv code o' us ls bn cap zs2 → S W ∧ W.frozen? ⟨bn, j, none⟩ = false) := fun W h => ⟨by
            rw [hS]
            show W.cell? _ = _
            rw [World.ownsRow.cellAt h.now j (by have := HLT.out; omega)]
            rw [← hz, List.getD_eq_getElem?_getD, List.getElem?_map, List.getElem?_eq_getElem HLT.out]; rfl, World.ownsRow.frozenAt h.now j⟩
          have HSD : Hid (S wr.drew) := (HSC.out _ (hM2.out.below (Below.refl _ _).drew)).1
          have y0 : ∀ V : At S, V.wd.cell? ⟨bn, j, none⟩ = some (.int .i64 z) := fun V => HSF.out _ V.ok
          have ne : Nonempty (At S) := ⟨⟨_, HSD.out⟩⟩
          clear hS hz
          go_wp2
          refine region_mixT [true, true, true, true, true, false, false, false, false] 6 1 S (by kernel_rfl) rfl (by kernel_rfl) (fun _ _ _ _ _ h => h) HSD.out ?_
          simp only [selT, selF]
          try simp only [Act.put]
          repeat (go_big_quiet_step (fail))
          refine wpQuiet_nil ?_
          have HM4 : Hid (Gm w wr.drew g cv code o' us ls bn cap zs2) := hM2.out.below (Below.refl _ _).drew
          have HO4 : Hid (Ow .i64 3 wz.heap.size wr.drew q rs2) := hO2.out.below (Below.refl _ _).drew
          have HS4 : Hid (wz.heap.size ≤ wr.drew.heap.size) := hS2.out
          obtain ⟨V, hV⟩ : ∃ V, wr.drew = V := ⟨_, rfl⟩
          rw [hV] at HM4 HO4 HS4 ⊢
          clear hV y0 ne HSD hM2 hO2 hS2
          refine tail_step ?_
          go_wp2_with (fail)
          refine (below_c g cv code 21 _ HM4.out.gd.dc.dr (by omega)).mono ?_
          rintro e w6 ⟨x6, rfl, -, -, -, d1, g1⟩
          have HM6 : Hid (Gm w w6 g cv code o' us ls bn cap zs2) := HM4.out.draw d1 g1
          have HO6 : Hid (Ow .i64 3 wz.heap.size w6 q rs2) := HO4.out.drawn g1 (by have := HM4.out.gd.dc.lt; have := HBL.out.2.2.2; omega)
          have HS6 : Hid (wz.heap.size ≤ w6.heap.size) := Nat.le_trans HS4.out g1.size
          have HSS : Hid (S w6) := (HSC.out _ HM6.out).1
          have c0 := HSF.out _ HSS.out
          have f0 := (HSC.out _ HM6.out).2
          clear d1 g1 HM4 HO4 HS4 HSF HSC
          go_wp2
          refine ⟨HSS.out, ?_⟩
          show wpList _ _ _ _ _ _
          clear HSS
          obtain ⟨y, hy⟩ : ∃ y, wrap64 (wrap64 (z + x6) - 10) = y := ⟨_, rfl⟩
          go_upto_region 16 with fail
          rw [hy]
          clear hy
          by_cases hp : 0 < y
          case pos =>
            have hn1 : ¬ ((0:Int) < -120) := by omega
            have HM7 : Hid (Gm w (w6.setCell ⟨bn, j, none⟩ (.int .i64 0)) g cv code o' us ls bn cap (zs2.set j 0)) := HM6.out.set j (by rw [hZ2.out]; exact hjt) 0
            have HO7 : Hid (Ow .i64 3 wz.heap.size (w6.setCell ⟨bn, j, none⟩ (.int .i64 0)) q rs2) := World.ownsRow.kept (row := some bn) HO6.out ⟨rfl, rfl, rfl, by simp [World.setCell], fun i _ hi => Below.heap_setCell _ _ _ _ (fun e => hi (by simp [e]))⟩ (.inr (fun e => by have := (World.ownsRow.lt HO6.out bn e).1; have := HBL.out.2.2.1; omega))
            have HS7 : Hid (wz.heap.size ≤ (w6.setCell ⟨bn, j, none⟩ (.int .i64 0)).heap.size) := by show _ ≤ _; simp [World.setCell]; exact HS6.out
            have HLN : Hid (rs2.length ≤ 1000) := by show _ ≤ _; rw [hL2.out]; omega
            obtain ⟨w7, hw7⟩ : ∃ W, w6.setCell ⟨bn, j, none⟩ (.int .i64 0) = W := ⟨_, rfl⟩
            rw [hw7] at HM7 HO7 HS7
            have HW7 : Hid (w6.setCell ⟨bn, j, none⟩ (.int .i64 0) = w7) := hw7
            have HZ7 : Hid (w7.heap.size = w6.heap.size) := by show _ = _; rw [← HW7.out]; simp [World.setCell]
            clear hw7 HM6 HO6 HS6
            go_wp2_with (at_builtin; rw [HW7.out]; refine appI rfl (.tmp 60) (.tmp 62) rfl wz.heap.size _ rs2 rfl (HO7.out.alloc _) w6.heap.size 0 rfl (by rw [← HZ7.out]; simp) (by have := HLN.out; omega) (by have := HS7.out; simp; omega) ?_)
            intro v8 w8 ho hb
            have HO8 : Hid (Ow .i64 3 wz.heap.size w8 v8 (rs2 ++ [0])) := ho
            have HM8 : Hid (Gm w w8 g cv code o' us ls bn cap (zs2.set j 0)) := (HM7.out.below ((Below.refl _ _).alloc (Nat.le_refl _) _)).belowB hb HBL.out.2.2.2 HBL.out.2.2.1 HBL.out.2.1 HBL.out.1
            have HS8 : Hid (wz.heap.size ≤ w8.heap.size) := Nat.le_trans (by have := HS7.out; simp; omega) hb.size
            have HL8 : Hid ((rs2 ++ [0]).length = j + 1) := by show _ = _; simp [hL2.out]
            have HZ8 : Hid ((zs2.set j 0).length = k) := by show _ = _; rw [List.length_set]; exact hZ2.out
            clear ho hb HO7 HM7
            go_wp2
            go_roundw
            case rel =>
              (repeat apply Exists.intro)
              exact ⟨⟨j + 1, _, _, _, by go_num, rfl, by omega, HL8.out, HZ8.out, HO8.out, HM8.out, HS8.out⟩, rfl⟩
            case measure => simp [intOf]; omega
          case neg =>
          by_cases hq2 : y < -120
          case pos =>
            have HM7 : Hid (Gm w (w6.setCell ⟨bn, j, none⟩ (.int .i64 (-120))) g cv code o' us ls bn cap (zs2.set j (-120))) := HM6.out.set j (by rw [hZ2.out]; exact hjt) (-120)
            have HO7 : Hid (Ow .i64 3 wz.heap.size (w6.setCell ⟨bn, j, none⟩ (.int .i64 (-120))) q rs2) := World.ownsRow.kept (row := some bn) HO6.out ⟨rfl, rfl, rfl, by simp [World.setCell], fun i _ hi => Below.heap_setCell _ _ _ _ (fun e => hi (by simp [e]))⟩ (.inr (fun e => by have := (World.ownsRow.lt HO6.out bn e).1; have := HBL.out.2.2.1; omega))
            have HS7 : Hid (wz.heap.size ≤ (w6.setCell ⟨bn, j, none⟩ (.int .i64 (-120))).heap.size) := by show _ ≤ _; simp [World.setCell]; exact HS6.out
            have HLN : Hid (rs2.length ≤ 1000) := by show _ ≤ _; rw [hL2.out]; omega
            obtain ⟨w7, hw7⟩ : ∃ W, w6.setCell ⟨bn, j, none⟩ (.int .i64 (-120)) = W := ⟨_, rfl⟩
            rw [hw7] at HM7 HO7 HS7
            have HW7 : Hid (w6.setCell ⟨bn, j, none⟩ (.int .i64 (-120)) = w7) := hw7
            have HZ7 : Hid (w7.heap.size = w6.heap.size) := by show _ = _; rw [← HW7.out]; simp [World.setCell]
            clear hw7 HM6 HO6 HS6
            go_wp2_with (at_builtin; rw [HW7.out]; refine appI rfl (.tmp 60) (.tmp 62) rfl wz.heap.size _ rs2 rfl (HO7.out.alloc _) w6.heap.size (-120) rfl (by rw [← HZ7.out]; simp) (by have := HLN.out; omega) (by have := HS7.out; simp; omega) ?_)
            intro v8 w8 ho hb
            have HO8 : Hid (Ow .i64 3 wz.heap.size w8 v8 (rs2 ++ [(-120)])) := ho
            have HM8 : Hid (Gm w w8 g cv code o' us ls bn cap (zs2.set j (-120))) := (HM7.out.below ((Below.refl _ _).alloc (Nat.le_refl _) _)).belowB hb HBL.out.2.2.2 HBL.out.2.2.1 HBL.out.2.1 HBL.out.1
            have HS8 : Hid (wz.heap.size ≤ w8.heap.size) := Nat.le_trans (by have := HS7.out; simp; omega) hb.size
            have HL8 : Hid ((rs2 ++ [(-120)]).length = j + 1) := by show _ = _; simp [hL2.out]
            have HZ8 : Hid ((zs2.set j (-120)).length = k) := by show _ = _; rw [List.length_set]; exact hZ2.out
            clear ho hb HO7 HM7
            go_wp2
            go_roundw
            case rel =>
              (repeat apply Exists.intro)
              exact ⟨⟨j + 1, _, _, _, by go_num, rfl, by omega, HL8.out, HZ8.out, HO8.out, HM8.out, HS8.out⟩, rfl⟩
            case measure => simp [intOf]; omega
          case neg =>
            have HM7 : Hid (Gm w (w6.setCell ⟨bn, j, none⟩ (.int .i64 y)) g cv code o' us ls bn cap (zs2.set j y)) := HM6.out.set j (by rw [hZ2.out]; exact hjt) y
            have HO7 : Hid (Ow .i64 3 wz.heap.size (w6.setCell ⟨bn, j, none⟩ (.int .i64 y)) q rs2) := World.ownsRow.kept (row := some bn) HO6.out ⟨rfl, rfl, rfl, by simp [World.setCell], fun i _ hi => Below.heap_setCell _ _ _ _ (fun e => hi (by simp [e]))⟩ (.inr (fun e => by have := (World.ownsRow.lt HO6.out bn e).1; have := HBL.out.2.2.1; omega))
            have HS7 : Hid (wz.heap.size ≤ (w6.setCell ⟨bn, j, none⟩ (.int .i64 y)).heap.size) := by show _ ≤ _; simp [World.setCell]; exact HS6.out
            have HLN : Hid (rs2.length ≤ 1000) := by show _ ≤ _; rw [hL2.out]; omega
            obtain ⟨w7, hw7⟩ : ∃ W, w6.setCell ⟨bn, j, none⟩ (.int .i64 y) = W := ⟨_, rfl⟩
            rw [hw7] at HM7 HO7 HS7
            have HW7 : Hid (w6.setCell ⟨bn, j, none⟩ (.int .i64 y) = w7) := hw7
            have HZ7 : Hid (w7.heap.size = w6.heap.size) := by show _ = _; rw [← HW7.out]; simp [World.setCell]
            clear hw7 HM6 HO6 HS6
            go_wp2_with (at_builtin; rw [HW7.out]; refine appI rfl (.tmp 60) (.tmp 62) rfl wz.heap.size _ rs2 rfl (HO7.out.alloc _) w6.heap.size y rfl (by rw [← HZ7.out]; simp) (by have := HLN.out; omega) (by have := HS7.out; simp; omega) ?_)
            intro v8 w8 ho hb
            have HO8 : Hid (Ow .i64 3 wz.heap.size w8 v8 (rs2 ++ [y])) := ho
            have HM8 : Hid (Gm w w8 g cv code o' us ls bn cap (zs2.set j y)) := (HM7.out.below ((Below.refl _ _).alloc (Nat.le_refl _) _)).belowB hb HBL.out.2.2.2 HBL.out.2.2.1 HBL.out.2.1 HBL.out.1
            have HS8 : Hid (wz.heap.size ≤ w8.heap.size) := Nat.le_trans (by have := HS7.out; simp; omega) hb.size
            have HL8 : Hid ((rs2 ++ [y]).length = j + 1) := by show _ = _; simp [hL2.out]
            have HZ8 : Hid ((zs2.set j y).length = k) := by show _ = _; rw [List.length_set]; exact hZ2.out
            clear ho hb HO7 HM7
            go_wp2
            go_roundw
            case rel =>
              (repeat apply Exists.intro)
              exact ⟨⟨j + 1, _, _, _, by go_num, rfl, by omega, HL8.out, HZ8.out, HO8.out, HM8.out, HS8.out⟩, rfl⟩
            case measure => simp [intOf]; omega
        case neg =>
        obtain rfl : j = k := by omega
        clear hjt hj
        obtain ⟨ad, cc, hvq, -⟩ := own_form hO2.out
        rw [hL2.out] at hvq
        have HUL : Hid (us.length ≤ 1000) := by show _ ≤ _; rw [hM2.out.gd.len]; have := hY.out.1; omega
        have HSZ : Hid (w.heap.size ≤ wr.heap.size) := hM2.out.gd.size
        have HQB : Hid (∀ k, q.ownBlock = some k → wz.heap.size ≤ k) := fun k hk => (World.ownsRow.lt hO2.out k hk).1
        have HY2 : Hid ((ls ++ [rs2]).length + m = T ∧ ∀ i, i < (ls ++ [rs2]).length → ((ls ++ [rs2]).getD i []).length = j) := ⟨by have := hY.out.1; simp; omega, fun i hi => by
          simp at hi
          rcases Nat.lt_or_ge i ls.length with hlt | hge
          · have e2 : (ls ++ [rs2]).getD i [] = ls.getD i [] := by simp [List.getElem?_append_left hlt]
            rw [e2]; exact hY.out.2 i hlt
          · obtain rfl : i = ls.length := by omega
            rw [List.getD_eq_getElem?_getD, List.getElem?_append_right (Nat.le_refl _)]; simpa using hL2.out⟩
        have HPU : Hid (∀ v' w', w'.ownsRow w.heap.size 27 1 v' (us ++ [q]).length (us ++ [q]) → (wr.alloc (Obj.cells #[q] 27)).grownBy w' o'.ownBlock → (v'.ownBlock = o'.ownBlock ∨ v'.ownBlock = some (wr.alloc (Obj.cells #[q] 27)).heap.size) → Gm w w' g cv code v' (us ++ [q]) (ls ++ [rs2]) bn cap zs2) := fun v' w' h1 h2 h3 => by
          refine ⟨hM2.out.gd.push HBL.out.2.2.2 HBL.out.1 HBL.out.2.1 hO2.out ((Below.refl _ _).alloc (Nat.le_refl _) _) h1 h2 h3, World.ownsRow.kept (hM2.out.now.alloc _) h2 (.inr (fun e => hM2.out.nv e.symm)), ?_, fun i hi => ?_⟩
          · rcases h3 with h3 | h3
            · rw [h3]; exact hM2.out.nv
            · rw [h3]; intro e; have := hM2.out.lo.2; cases e; simp at this; omega
          · simp at hi
            have hul := hM2.out.gd.len
            rcases Nat.lt_or_ge i ls.length with hlt | hge
            · have e2 : (us ++ [q]).getD i vN = us.getD i vN := by simp [List.getElem?_append_left (show i < us.length by omega)]
              rw [e2]; exact hM2.out.nu i hlt
            · obtain rfl : i = us.length := by omega
              have e2 : (us ++ [q]).getD us.length vN = q := by simp
              rw [e2]; intro e; have := HQB.out bn e; have := HBL.out.2.2.1; omega
        have HRW : Hid ((wr.alloc (Obj.cells #[q] 27)).ownsRow w.heap.size 27 1 o' us.length us) := World.ownsRow.alloc hM2.out.gd.row _
        rw [hvq] at HPU HRW ⊢
        clear hvq hO2 hM2 hM hY
        go_wp2_with (at_builtin; refine appRow rfl (.tmp 64) (.tmp 66) rfl w.heap.size _ us rfl HRW.out wr.heap.size ad j cc rfl (by simp) (by have := HUL.out; omega) (by have := HSZ.out; simp; omega) ?_)
        intro v6 w6 h1 h2 h3
        have HG6 := HPU.out v6 w6 (by simpa using h1) h2 (by simpa using h3)
        have HG6 : Hid (Gm w w6 g cv code v6 (us ++ [.slice ad j cc]) (ls ++ [rs2]) bn cap zs2) := HG6
        clear h1 h2 h3 HPU HRW
        go_wp2
        go_roundw
        case rel => exact ⟨m, _, _, ls ++ [rs2], _, rfl, rfl, by omega, hZ2.out, HY2.out, HG6.out⟩
        case measure => simp [intOf]

end Go.Proofs.Ytikgempdohpdjaa

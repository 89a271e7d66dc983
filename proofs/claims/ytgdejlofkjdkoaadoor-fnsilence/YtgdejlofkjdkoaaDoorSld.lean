/- Levels that are drawn; no condition. -/
import Derived.Test.YtgdejlofkjdkoaaDoorDrc
import Derived.Test.YtgdejlofkjdkoaaDoorTon
import Derived.Test.YtgdejlofkjdkoaaDoorFne
namespace Go.Proofs.YtgdejlofkjdkoaaDoor
open Go.RowKit Go.ChangeShapes Go.WideShapes Go.ChangeAt
set_option linter.unusedVariables false
set_option linter.unusedSimpArgs false
set_option maxRecDepth 8000

theorem at0_c (v : Value) (zs : List Int) (w : World) (h : Rd .u8 w v zs) (hok : ∀ z ∈ zs, 0 ≤ z ∧ z ≤ 255) (hlen : zs.length ≤ 1048576) :
   Calls Tryd.prog 9 #[v, .int .i64 0] w fun e w' => e = .returned (.int .i64 (zs.getD 0 0)) ∧ w' = w := by
  obtain ⟨a, cap, rfl, h1, h2, h3⟩ := h
  unfold maxLen at h2
  by_cases hlt : 0 < zs.length
  · rcases h3 with h3 | ⟨b, off, rfl, h4⟩
    · subst h3; simp at hlt
    have hc := h4 0 hlt
    rw [Nat.add_zero] at hc
    have hb := hok _ (List.getElem_mem hlt)
    have e : zs.getD 0 0 = zs[0] := by simp [List.getElem?_eq_getElem hlt]
    rw [e] at hc ⊢
    have hltI : (0 : Int) < (zs.length : Int) := by omega
    obtain ⟨x, hx⟩ : ∃ x, zs[0] = x := ⟨_, rfl⟩
    rw [hx] at hc hb ⊢
    clear h4 hok e hx
    go_enter Tryd.func9, Tryd.ntmps9
    go_wp2
    go_ret
    exact ⟨rfl, rfl⟩
  · obtain rfl : zs = [] := List.eq_nil_of_length_eq_zero (by omega)
    clear h3 hok
    go_enter Tryd.func9, Tryd.ntmps9
    go_wp2
    go_ret
    exact ⟨rfl, rfl⟩
set_option maxHeartbeats 6400000 in
theorem draw13_c (g : Nat) (cv : Value) (zs : List Int) (n : Int) (w : World) (h : Dr w g cv zs) (hn : 0 ≤ n) (hn2 : n ≤ 300) :
   Calls Tryd.prog 37 #[.pointer (some ⟨g, 0, none⟩), .int .i64 n] w fun e w' => ∃ v ys, e = .returned v ∧ Ow .i64 3 w.heap.size w' v ys ∧ Dc w w' g cv zs := by
  have HD0 : Hid (Dc w w g cv zs) := Dc.start h
  clear h
  go_enter Tryd.func37, Tryd.ntmps37
  go_wp2_with (fail)
  refine (once_c _ _ _ _ _ HD0.out.dr (by omega)).mono ?_
  rintro e w1 ⟨p, rfl, d1, g1⟩
  have HD1 : Hid (Dc w w1 g cv zs) := HD0.out.draw d1 g1
  clear d1 g1 HD0
  cases p
  case true =>
    go_wp2_with (fail)
    refine (ldraw_c g cv zs n w1 HD1.out.dr hn (by omega)).mono ?_
    rintro e w2 ⟨v, ys, rfl, o2, hl, d2⟩
    have HD2 : Hid (Dc w w2 g cv zs) := HD1.out.draw d2.dr d2.gr
    have HO2 : Hid (Ow .i64 3 w.heap.size w2 v ys) := o2.mono HD1.out.gr.size
    clear o2 d2
    go_wp2
    go_ret
    exact ⟨_, _, rfl, HO2.out, HD2.out⟩
  case false =>
  go_wp2_with (fail)
  refine (below_c g cv zs _ _ HD1.out.dr (by omega)).mono ?_
  rintro e w2 ⟨x, rfl, x0, x1, -, d1, g1⟩
  have x2 := x1 (by omega)
  have HD2 : Hid (Dc w w2 g cv zs) := HD1.out.draw d1 g1
  clear d1 g1 x1 HD1
  obtain ⟨Ww2, hWw2⟩ : ∃ W, w2.alloc (Obj.cells #[.int .i64 10, .int .i64 100, .int .i64 200, .int .i64 3000, .int .i64 16000, .int .i64 60] 3) = W := ⟨_, rfl⟩
  have al : Below w2.heap.size w2 Ww2 := by rw [← hWw2]; exact (Below.refl _ _).alloc (Nat.le_refl _) _
  have HRW : Hid (Rd .i64 Ww2 (.slice (some ⟨w2.heap.size, 0, none⟩) 6 6) [10, 100, 200, 3000, 16000, 60]) := by
    have := Rd.lit w2 [10, 100, 200, 3000, 16000, 60] (by simp)
    rw [← hWw2]; exact this
  have HDW : Hid (Dc w Ww2 g cv zs) := HD2.out.below al
  have HAP : Hid ((Value.slice (some ⟨w2.heap.size, 0, none⟩) 6 6).ownBlock = none ∨ (Value.slice (some ⟨w2.heap.size, 0, none⟩) 6 6).ownBlock ≠ some g) := by
    right; have := HD2.out.dr.lt; simp [Value.ownBlock]; omega
  clear al
  go_wp2_with (fail)
  refine (pickInt_c _ _ _ _ [10, 100, 200, 3000, 16000, 60] _ HDW.out.dr HRW.out HAP.out (by simp) (by simp)).mono ?_
  rintro e w3 ⟨sz, rfl, ⟨k, hk, hx⟩, d3, g3⟩
  have hsz : 0 ≤ sz ∧ sz ≤ 16000 := by rw [hx]; exact getD_bd _ k _ _ (by decide) hk
  have HD3 : Hid (Dc w w3 g cv zs) := HDW.out.draw d3 g3
  clear d3 g3 hx hk hWw2 HDW HRW HAP HD2
  go_wp2_with (fail)
  refine (below_c g cv zs _ _ HD3.out.dr (by omega)).mono ?_
  rintro e w4 ⟨ph, rfl, p0, p1, -, d1, g1⟩
  have p2 := p1 (by omega)
  have HD4 : Hid (Dc w w4 g cv zs) := HD3.out.draw d1 g1
  clear d1 g1 p1 HD3
  go_wp2_with (fail)
  refine (toneM_c x sz ph n w4).mono ?_
  rintro e w5 ⟨vl, rfl, o5, b5⟩
  have HD5 : Hid (Dc w w5 g cv zs) := HD4.out.below b5
  have HLT : Hid (g < w4.heap.size ∧ w.heap.size ≤ w4.heap.size) := ⟨HD4.out.dr.lt, HD4.out.gr.size⟩
  obtain ⟨L, hL⟩ : ∃ L, tnR x sz ph n = L := ⟨_, rfl⟩
  have HLB : Hid (L.length ≤ 1024 ∧ ∀ t, -32001 ≤ L.getD t 0 ∧ L.getD t 0 ≤ 32001) := by
    rw [← hL]
    unfold tnR
    split
    · rename_i hb
      unfold tnB at hb
      simp at hb
      refine ⟨by rw [tnL_len]; omega, fun t => ?_⟩
      by_cases ht : t < n.toNat
      · have h6 : (tnL x.toNat sz ph n.toNat).getD t 0 = tnF x.toNat sz ph t := by simp [tnL, ht]
        have := tnF_bd x.toNat sz ph (by omega) t
        rw [h6]; omega
      · simp [tnL, ht]
    · exact ⟨by simp, fun t => by simp⟩
  rw [hL] at o5
  have HO5 : Hid (Ow .i64 3 w4.heap.size w5 vl L) := o5
  clear o5 b5 HD4 hL
  obtain ⟨Ww5, hWw5⟩ : ∃ W, w5.alloc (Obj.cells #[.int .i64 0, .int .i64 1, .int .i64 10, .int .i64 200, .int .i64 2000] 3) = W := ⟨_, rfl⟩
  have al : Below w5.heap.size w5 Ww5 := by rw [← hWw5]; exact (Below.refl _ _).alloc (Nat.le_refl _) _
  have HRW : Hid (Rd .i64 Ww5 (.slice (some ⟨w5.heap.size, 0, none⟩) 5 5) [0, 1, 10, 200, 2000]) := by
    have := Rd.lit w5 [0, 1, 10, 200, 2000] (by simp)
    rw [← hWw5]; exact this
  have HDW : Hid (Dc w Ww5 g cv zs) := HD5.out.below al
  have HOW : Hid (Ow .i64 3 w4.heap.size Ww5 vl L) := HO5.out.below al
  have HAP : Hid ((Value.slice (some ⟨w5.heap.size, 0, none⟩) 5 5).ownBlock = none ∨ (Value.slice (some ⟨w5.heap.size, 0, none⟩) 5 5).ownBlock ≠ some g) := by
    right; have := HD5.out.dr.lt; simp [Value.ownBlock]; omega
  clear al
  go_wp2_with (fail)
  refine (pickInt_c _ _ _ _ [0, 1, 10, 200, 2000] _ HDW.out.dr HRW.out HAP.out (by simp) (by simp)).mono ?_
  rintro e w6 ⟨nz, rfl, ⟨k, hk, hx⟩, d3, g3⟩
  have hnz : 0 ≤ nz ∧ nz ≤ 2000 := by rw [hx]; exact getD_bd _ k _ _ (by decide) hk
  have HD6 : Hid (Dc w w6 g cv zs) := HDW.out.draw d3 g3
  have HO6 : Hid (Ow .i64 3 w4.heap.size w6 vl L) := HOW.out.drawn g3 HLT.out.1
  clear d3 g3 hx hk hWw5 HDW HRW HAP HD5 HOW HO5
  obtain ⟨al, cl, rfl, hc1, hc2, hz⟩ := own_form HO6.out
  have HQ6 : Hid (∃ ys, (ys.length = L.length ∧ ∀ t, -40000 ≤ ys.getD t 0 ∧ ys.getD t 0 ≤ 40000) ∧ Ow .i64 3 w4.heap.size w6 (.slice al L.length cl) ys) := ⟨L, ⟨rfl, fun t => by have := HLB.out.2 t; omega⟩, HO6.out⟩
  have hlb := HLB.out.1
  clear HO6
  go_wp2
  go_loopw [8] (fun i wr => ∃ j : Nat, j ≤ L.length ∧ i = .int .i64 j ∧ Hid (∃ ys, (ys.length = L.length ∧ ∀ t, -40000 ≤ ys.getD t 0 ∧ ys.getD t 0 ≤ 40000) ∧ Ow .i64 3 w4.heap.size wr (.slice al L.length cl) ys) ∧ Hid (Dc w wr g cv zs)) (fun i _ => L.length - (intOf i).toNat)
  case atStart => exact ⟨0, Nat.zero_le _, rfl, HQ6.out, HD6.out⟩
  case round =>
    obtain ⟨j, hj, rfl, hQ, hD⟩ := hrel
    clear HQ6 HD6
    obtain ⟨ys, ⟨hyl, hyb⟩, hO⟩ := hQ.out
    by_cases hlt : j < L.length
    case neg =>
      have HF : Hid (Ow .i64 3 w.heap.size wr (.slice al L.length cl) ys) := hO.mono HLT.out.2
      obtain rfl : j = L.length := by omega
      clear hO hyb hQ hz
      go_wp2
      go_ret
      exact ⟨_, _, rfl, HF.out, hD.out⟩
    case pos =>
    rcases hz with hz | ⟨gl, rfl⟩
    · omega
    have hgl : w4.heap.size ≤ gl := (World.ownsRow.lt hO gl rfl).1
    have hOd : Ow .i64 3 w4.heap.size wr.drew (.slice (some ⟨gl, 0, none⟩) L.length cl) ys := hO.below (Below.refl _ _).drew
    have HCE : Hid (∀ W, Ow .i64 3 w4.heap.size W (.slice (some ⟨gl, 0, none⟩) L.length cl) ys → W.cell? ⟨gl, j, none⟩ = some (.int .i64 (ys.getD j 0)) ∧ W.frozen? ⟨gl, j, none⟩ = false ∧ ∀ z : Int, Ow .i64 3 w4.heap.size (W.setCell ⟨gl, j, none⟩ (.int .i64 z)) (.slice (some ⟨gl, 0, none⟩) L.length cl) (ys.set j z)) := fun W oo => by
      unfold Ow at oo
      rw [hyl] at oo
      refine ⟨?_, oo.frozenAt j, fun z => ?_⟩
      · rw [oo.cellAt j (by omega), List.getElem?_map, List.getElem?_eq_getElem (by omega)]
        simp [List.getElem?_eq_getElem (show j < ys.length by omega)]
      · have := (oo.stored j (.int .i64 z)).1
        rw [← List.map_set] at this
        unfold Ow
        rw [List.length_set, hyl]
        exact this
    have HYS : Hid (∀ z : Int, -32767 ≤ z ∧ z ≤ 32767 → ((ys.set j z).length = L.length ∧ ∀ t, -40000 ≤ (ys.set j z).getD t 0 ∧ (ys.set j z).getD t 0 ≤ 40000)) := fun z hz => ⟨by simp [hyl], fun t => by
      by_cases e : t = j
      · subst e
        simp [hyl, hlt]; omega
      · have := hyb t
        simp [List.getElem?_set_ne (Ne.symm e)] at this ⊢
        exact this⟩
    have hyj := hyb j
    have HOD : Hid (Ow .i64 3 w4.heap.size wr.drew (.slice (some ⟨gl, 0, none⟩) L.length cl) ys) := hOd
    have HDD : Hid (Dc w wr.drew g cv zs) := hD.out.below (Below.refl _ _).drew
    have HGN : Hid (g < gl) := Nat.lt_of_lt_of_le HLT.out.1 hgl
    have HGW : Hid (w.heap.size ≤ gl) := Nat.le_trans HLT.out.2 hgl
    have hcj := (HCE.out _ hOd).1
    obtain ⟨y, hy⟩ : ∃ y, ys.getD j 0 = y := ⟨_, rfl⟩
    rw [hy] at hcj hyj HCE
    obtain ⟨S, hS⟩ : ∃ S : World → Prop, ∀ W, S W ↔ W.cell? ⟨gl, j, none⟩ = some (.int .i64 y) := ⟨_, fun _ => Iff.rfl⟩
    have y0 : ∀ W : At S, W.wd.cell? ⟨gl, j, none⟩ = some (.int .i64 y) := fun W => (hS _).1 W.ok
    have HS : Hid (∀ W, S W ↔ W.cell? ⟨gl, j, none⟩ = some (.int .i64 y)) := hS
    have HSD : Hid (S wr.drew) := (hS _).2 hcj
    have ne : Nonempty (At S) := ⟨⟨_, HSD.out⟩⟩
    have hi1 : (0 : Int) ≤ (j : Int) := by omega
    have hi2 : (j : Int) < (L.length : Int) := by omega
    clear hO hOd hyb hyl hQ hD hS hcj hy
    go_wp2
    refine region_mixT [true, true, true, true, true, true, true, true, true, true, false, false, true, false, false, false, false] 15 4 S (by kernel_rfl) rfl (by kernel_rfl) (fun _ _ _ _ _ h => h) HSD.out ?_
    simp only [selT, selF]
    try simp only [Act.put]
    repeat (go_big_quiet_step (fail))
    refine wpQuiet_nil ?_
    refine tail_step ?_
    clear y0 ne
    go_wp2_with (fail)
    refine (below_c g cv zs _ _ HDD.out.dr (by omega)).mono ?_
    rintro e w7 ⟨x', rfl, x'0, x'1, -, d1, g1⟩
    have x'2 := x'1 (by omega)
    have HD7 : Hid (Dc w w7 g cv zs) := HDD.out.draw d1 g1
    have HO7 : Hid (Ow .i64 3 w4.heap.size w7 (.slice (some ⟨gl, 0, none⟩) L.length cl) ys) := HOD.out.drawn g1 HLT.out.1
    have HS7 : Hid (S w7) := (HS.out _).2 (HCE.out _ HO7.out).1
    clear d1 g1 x'1 HDD HOD HSD
    go_wp2
    refine ⟨HS7.out, tail_step ?_⟩
    go_wp2
    refine ⟨HS7.out, tail_step ?_⟩
    go_wp2
    refine ⟨HS7.out, tail_step ?_⟩
    go_wp2_with (fail)
    refine (clip_c _ _).mono ?_
    rintro e w8 ⟨rfl, hw8⟩
    rw [hw8]
    clear hw8 w8
    have hcl := clip_bd (y + x' - nz)
    generalize clip (y + x' - nz) = z at hcl ⊢
    have c7 := (HCE.out _ HO7.out).1
    have f7 := (HCE.out _ HO7.out).2.1
    have HO8 : Hid (Ow .i64 3 w4.heap.size (w7.setCell ⟨gl, j, none⟩ (.int .i64 z)) (.slice (some ⟨gl, 0, none⟩) L.length cl) (ys.set j z)) := (HCE.out _ HO7.out).2.2 z
    have HY8 := HYS.out z hcl
    have HYH : Hid ((ys.set j z).length = L.length ∧ ∀ t, -40000 ≤ (ys.set j z).getD t 0 ∧ (ys.set j z).getD t 0 ≤ 40000) := HY8
    have HD8 : Hid (Dc w (w7.setCell ⟨gl, j, none⟩ (.int .i64 z)) g cv zs) := HD7.out.belowB ((Below.refl _ _).setCell (by dsimp only; exact HGW.out) _)
    clear HY8 HYS HCE HD7 HO7
    go_wp2
    refine ⟨HS7.out, tail_end ?_⟩
    go_wp2
    go_roundw
    case rel => exact ⟨j + 1, by omega, by go_num, ⟨_, HYH.out, HO8.out⟩, HD8.out⟩
    case measure => simp [intOf]; omega

end Go.Proofs.YtgdejlofkjdkoaaDoor

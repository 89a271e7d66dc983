/- Bits are drawn; no condition. -/
import Derived.Test.YtkgpnpgbadipjaaDrc
import Derived.Test.YtkgpnpgbadipjaaMixT
namespace Go.Proofs.Ytkgpnpgbadipjaa
open Go.RowKit Go.ChangeShapes Go.WideShapes Go.ChangeAt
set_option linter.unusedVariables false
set_option linter.unusedSimpArgs false
set_option maxRecDepth 8000

set_option maxHeartbeats 6400000 in
theorem drawBits_c (g : Nat) (cv : Value) (zs : List Int) (n : Nat) (w : World) (h : Dr w g cv zs) (hn : n ≤ 1000) :
   Calls Try.prog 31 #[.pointer (some ⟨g, 0, none⟩), .int .i64 n] w fun e w' => ∃ v ys, e = .returned v ∧ Ow .i64 3 w.heap.size w' v ys ∧ ys.length = n ∧ (∀ y ∈ ys, 0 ≤ y ∧ y ≤ 1) ∧ Dc w w' g cv zs := by
  have HD0 : Hid (Dc w w g cv zs) := Dc.start h
  obtain ⟨W0, hW0⟩ : ∃ W, w.alloc (Obj.cells #[] 3) = W := ⟨_, rfl⟩
  have HDA : Hid (Dc w W0 g cv zs) := by rw [← hW0]; exact HD0.out.below ((Below.refl _ _).alloc (Nat.le_refl _) _)
  obtain ⟨v0, hv0⟩ : ∃ v, Value.slice (some ⟨w.heap.size, 0, none⟩) 0 0 = v := ⟨_, rfl⟩
  have HOA : Hid (Ow .i64 3 w.heap.size W0 v0 []) := by rw [← hW0, ← hv0]; exact Ow.empty .i64 3 _ w (Nat.le_refl _)
  have HW0 : Hid (w.alloc (Obj.cells #[] 3) = W0 ∧ Value.slice (some ⟨w.heap.size, 0, none⟩) 0 0 = v0) := ⟨hW0, hv0⟩
  clear HD0 h hW0 hv0
  go_enter Try.func31, Try.ntmps31
  go_wp2
  rw [HW0.out.1, HW0.out.2]
  clear HW0
  go_loopw [5, 6] (fun o i wr => ∃ (j : Nat) (ys : List Int) (o' : Value), i = .int .i64 j ∧ o' = o ∧ j ≤ n ∧ Hid (ys.length = j ∧ ∀ y ∈ ys, 0 ≤ y ∧ y ≤ 1) ∧ Hid (Ow .i64 3 w.heap.size wr o' ys) ∧ Hid (Dc w wr g cv zs)) (fun _ i _ => n - (intOf i).toNat)
  case atStart => exact ⟨0, [], _, rfl, rfl, Nat.zero_le _, ⟨rfl, fun y hy => by cases hy⟩, HOA.out, HDA.out⟩
  case round =>
    obtain ⟨j, ys, o', rfl, ho', hj, hY, hO, hD⟩ := hrel
    subst ho'
    clear HOA HDA
    by_cases hlt : j < n
    case pos =>
      have hltI : (j : Int) < (n : Int) := by omega
      go_wp2_with (fail)
      refine (below_c _ _ _ _ _ hD.out.dr (by omega)).mono ?_
      rintro e wa ⟨x, rfl, x0, x1, -, d1, g1⟩
      have x2 := x1 (by omega)
      have HDa : Hid (Dc w wa g cv zs) := hD.out.draw d1 g1
      have HOa : Hid (Ow .i64 3 w.heap.size wa o' ys) := hO.out.drawn g1 hD.out.lt
      have HSZ : Hid (w.heap.size ≤ wa.heap.size) := HDa.out.gr.size
      have HLN : Hid (ys.length ≤ 1000) := by show _ ≤ _; have := hY.out.1; omega
      clear d1 g1 x1 hD hO
      go_wp2_with (at_builtin; refine appI rfl (.tmp 13) (.tmp 16) rfl w.heap.size _ ys rfl (HOa.out.alloc _) wa.heap.size x rfl (by simp) (by have := HLN.out; omega) (by have := HSZ.out; simp; omega) ?_)
      intro v6 w6 ho hb
      have HO6 : Hid (Ow .i64 3 w.heap.size w6 v6 (ys ++ [x])) := ho
      have HD6 : Hid (Dc w w6 g cv zs) := (HDa.out.below ((Below.refl _ _).alloc (Nat.le_refl _) _)).belowB hb
      clear ho hb HOa HDa HSZ
      have HYN : Hid ((ys ++ [x]).length = j + 1 ∧ ∀ y ∈ ys ++ [x], 0 ≤ y ∧ y ≤ 1) := ⟨by have := hY.out.1; simp; omega, fun y hy => by
        rcases List.mem_append.1 hy with h1 | h1
        · exact hY.out.2 y h1
        · simp at h1; subst h1; omega⟩
      clear hY
      go_wp2
      go_roundw
      case rel => exact ⟨j + 1, _, _, by go_num, rfl, by omega, HYN.out, HO6.out, HD6.out⟩
      case measure => simp [intOf]; omega
    case neg =>
    obtain rfl : j = n := by omega
    clear hj hlt
    go_wp2
    go_ret
    exact ⟨_, _, rfl, hO.out, hY.out.1, hY.out.2, hD.out⟩

/-- what was drawn, seen from ahead of the cursor -/
theorem Dc.ahead {w w1 W : World} {g : Nat} {cv : Value} {zs : List Int} (h : Dc w1 W g cv zs) (hb : Below w.heap.size w w1) (hg : w.heap.size ≤ g) : Below w.heap.size w W :=
  hb.trans (grown_below h.gr hb.size (fun k e => by cases e; exact hg))
/-- drawn behind what was drawn -/
theorem Dc.then {w w1 W : World} {g : Nat} {cv : Value} {zs : List Int} (h : Dc w w1 g cv zs) (h' : Dc w1 W g cv zs) : Dc w W g cv zs := h.draw h'.dr h'.gr
set_option maxHeartbeats 800000 in
theorem size_c (v : Value) (zs : List Int) (n : Int) (w : World) (h : Rd .u8 w v zs) (hlen : zs.length ≤ 2097152) (hn : 2 ≤ n) (hn2 : n ≤ 1000) :
   Calls Try.prog 32 #[v, .int .i64 n] w fun e w' => ∃ x : Int, e = .returned (.int .i64 x) ∧ 2 ≤ x ∧ x ≤ n ∧ w' = w := by
  obtain ⟨a, cap, rfl, -, h2, -⟩ := h
  unfold maxLen at h2
  by_cases hc : n < 2 + (zs.length : Int) / 20
  · go_enter Try.func32, Try.ntmps32
    go_wp2
    go_ret
    exact ⟨_, rfl, by omega, by omega, rfl⟩
  · go_enter Try.func32, Try.ntmps32
    go_wp2
    go_ret
    exact ⟨_, rfl, by omega, by omega, rfl⟩
theorem ow_slice {base : Nat} {w : World} {v : Value} {ys : List Int} (h : Ow .i64 3 base w v ys) : ∃ aa cc, v = .slice aa ys.length cc := by
  obtain ⟨a, cap, rfl, -⟩ := h.rd
  exact ⟨a, cap, rfl⟩

set_option maxHeartbeats 12800000 in
theorem drawAny_c (g : Nat) (cv : Value) (zs : List Int) (w : World) (h : Dr w g cv zs) :
   Calls Try.prog 23 #[.pointer (some ⟨g, 0, none⟩), cv] w fun e w' => ∃ v ys, e = .returned v ∧ Ow .i64 3 w.heap.size w' v ys ∧ ys.length ≤ 600 ∧ Dc w w' g cv zs := by
  have HD : Hid (Dc w w g cv zs) := Dc.start h
  clear h
  go_enter Try.func23, Try.ntmps23
  go_wp2_with (fail)
  refine (size_c cv zs 40 _ HD.out.dr.rd HD.out.dr.len (by omega) (by omega)).mono ?_
  rintro e w1 ⟨s, rfl, s0, s1, hw⟩
  rw [hw]
  clear hw w1
  go_wp2_with (fail)
  refine (below_c g cv zs _ _ HD.out.dr (by omega)).mono ?_
  rintro e w1 ⟨x, rfl, x0, x1, -, d1, g1⟩
  have x2 := x1 (by omega)
  have HD1 : Hid (Dc w w1 g cv zs) := HD.out.draw d1 g1
  clear d1 g1 x1 HD
  obtain ⟨n, rfl⟩ := Int.eq_ofNat_of_zero_le x0
  have hn : n ≤ 80 := by omega
  clear x0 x2 s0 s1
  go_wp2_with (fail)
  refine (drawBits_c g cv zs n _ HD1.out.dr (by omega)).mono ?_
  rintro e w2 ⟨o', ys, rfl, o2, l2, -, d2⟩
  have HOa : Hid (Ow .i64 3 w.heap.size w2 o' ys) := o2.mono HD1.out.gr.size
  have HDa : Hid (Dc w w2 g cv zs) := HD1.out.then d2
  have HL : Hid (ys.length ≤ 80) := by show _ ≤ _; omega
  clear o2 l2 d2 HD1 hn
  go_wp2_with (fail)
  refine (once_c g cv zs 3 _ HDa.out.dr (by omega)).mono ?_
  rintro e wb ⟨p, rfl, d1, g1⟩
  have HDb : Hid (Dc w wb g cv zs) := HDa.out.draw d1 g1
  have HOb : Hid (Ow .i64 3 w.heap.size wb o' ys) := HOa.out.drawn g1 HDa.out.lt
  clear d1 g1 HDa HOa
  have HDa : Hid (Dc w wb g cv zs) := HDb.out
  have HOa : Hid (Ow .i64 3 w.heap.size wb o' ys) := HOb.out
  clear HDb HOb
  obtain ⟨wa, hwa⟩ : ∃ W, wb = W := ⟨_, rfl⟩
  subst hwa
  obtain ⟨aa, cc, hov⟩ := ow_slice HOa.out
  cases p
  case false =>
    clear hov
    have HL2 : Hid (ys.length ≤ 300) := by show _ ≤ _; have := HL.out; omega
    clear HL
    have HL : Hid (ys.length ≤ 300) := HL2.out
    clear HL2
    go_wp2_with (fail)
    refine (once_c g cv zs 30 _ HDa.out.dr (by omega)).mono ?_
    rintro e wb ⟨p, rfl, d1, g1⟩
    have HDb : Hid (Dc w wb g cv zs) := HDa.out.draw d1 g1
    have HOb : Hid (Ow .i64 3 w.heap.size wb o' ys) := HOa.out.drawn g1 HDa.out.lt
    clear d1 g1 HDa HOa
    have HDa : Hid (Dc w wb g cv zs) := HDb.out
    have HOa : Hid (Ow .i64 3 w.heap.size wb o' ys) := HOb.out
    clear HDb HOb
    obtain ⟨wa, hwa⟩ : ∃ W, wb = W := ⟨_, rfl⟩
    subst hwa
    cases p
    case false =>
      go_wp2_with (fail)
      refine (once_c g cv zs 60 _ HDa.out.dr (by omega)).mono ?_
      rintro e wb ⟨p, rfl, d1, g1⟩
      have HDb : Hid (Dc w wb g cv zs) := HDa.out.draw d1 g1
      have HOb : Hid (Ow .i64 3 w.heap.size wb o' ys) := HOa.out.drawn g1 HDa.out.lt
      clear d1 g1 HDa HOa
      have HDa : Hid (Dc w wb g cv zs) := HDb.out
      have HOa : Hid (Ow .i64 3 w.heap.size wb o' ys) := HOb.out
      clear HDb HOb
      obtain ⟨wa, hwa⟩ : ∃ W, wb = W := ⟨_, rfl⟩
      subst hwa
      cases p
      case false =>
        go_wp2
        go_ret
        exact ⟨_, _, rfl, HOa.out, by have := HL.out; omega, HDa.out⟩
      case true =>
        go_wp2_with (fail)
        refine (below_c g cv zs 2 _ HDa.out.dr (by omega)).mono ?_
        rintro e wc ⟨y, rfl, y0, y1, -, d1, g1⟩
        have y2 := y1 (by omega)
        have HDc : Hid (Dc w wc g cv zs) := HDa.out.draw d1 g1
        clear d1 g1 y1 HDa HOa
        obtain ⟨m, hm⟩ : ∃ m : Nat, 320 + 2 * y = (m : Int) := ⟨(320 + 2 * y).toNat, by omega⟩
        have hm2 : m ≤ 322 := by omega
        obtain ⟨i0, hi, hz0, hz1, hz2⟩ := info_parts toIInfo
        go_wp2_with (at_make; refine wpList_make_full _ rfl _ _ 24 rfl wc.heap.size 3 i0 (.int .i64 0) 1 Try.underlying24 hi hz0 hz1 .i64 .i64 _ _ m rfl rfl (by first | rfl | (show Value.int .i64 _ = _; exact val_int (by omega))) (by first | rfl | (show Value.int .i64 _ = _; exact val_int (by omega))) (by rw [hz2]; omega) (by unfold maxLen; omega) (Nat.le_refl _) ?_)
        intro wd ho hg
        have HOd : Hid (Ow .i64 3 w.heap.size wd (.slice (some ⟨wc.heap.size, 0, none⟩) m m) (List.replicate m 0)) := by
          have e : (List.replicate m (0 : Int)).map (Value.int .i64) = (madeCells #[Value.int .i64 0] m).toList := by rw [toList_madeCells_one]; simp
          exact (show Ow .i64 3 wc.heap.size wd (.slice (some ⟨wc.heap.size, 0, none⟩) m m) (List.replicate m 0) by rw [Ow, List.length_replicate, e]; exact ho).mono HDc.out.gr.size
        have HDd : Hid (Dc w wd g cv zs) := HDc.out.below (grown_below hg (Nat.le_refl _) (by simp))
        have HLd : Hid ((List.replicate m (0 : Int)).length ≤ 400) := by show _ ≤ _; simp; omega
        clear ho hg HDc
        go_wp2
        go_ret
        exact ⟨_, _, rfl, HOd.out, by have := HLd.out; omega, HDd.out⟩
    case true =>
      obtain ⟨WL, hWL⟩ : ∃ W, wb.alloc (Obj.cells #[.int .i64 2, .int .i64 (-1)] 3) = W := ⟨_, rfl⟩
      have ba : Below wb.heap.size wb WL := by rw [← hWL]; exact (Below.refl _ _).alloc (Nat.le_refl _) _
      have HLR : Hid (Rd .i64 WL (.slice (some ⟨wb.heap.size, 0, none⟩) 2 2) [2, -1]) := by rw [← hWL]; exact Rd.lit wb [2, -1] (by decide)
      have HLN : Hid (g < wb.heap.size) := HDa.out.dr.lt
      have HDl : Hid (Dc w WL g cv zs) := HDa.out.below ba
      have HOl : Hid (Ow .i64 3 w.heap.size WL o' ys) := HOa.out.below ba
      have HWL : Hid (wb.alloc (Obj.cells #[.int .i64 2, .int .i64 (-1)] 3) = WL) := hWL
      clear ba hWL HDa HOa
      go_wp2_with (fail)
      rw [HWL.out]
      refine (pickInt_c g cv zs _ [2, -1] _ HDl.out.dr HLR.out (.inr (by have := HLN.out; simp [Value.ownBlock]; omega)) (by decide) (by decide)).mono ?_
      rintro e wc ⟨x, rfl, -, d1, g1⟩
      have HDa : Hid (Dc w wc g cv zs) := HDl.out.draw d1 g1
      have HOa : Hid (Ow .i64 3 w.heap.size wc o' ys) := HOl.out.drawn g1 HDl.out.lt
      clear d1 g1 HDl HOl HLR HWL HLN
      obtain ⟨wb', hwb⟩ : ∃ W, wc = W := ⟨_, rfl⟩
      subst hwb
      have HSZ : Hid (w.heap.size ≤ wc.heap.size) := HDa.out.gr.size
      go_wp2_with (at_builtin; refine appI rfl (.tmp 26) (.tmp 30) rfl w.heap.size _ ys rfl (HOa.out.alloc _) wc.heap.size x rfl (by simp) (by have := HL.out; omega) (by have := HSZ.out; simp; omega) ?_)
      intro v6 w6 ho hb
      have HO6 : Hid (Ow .i64 3 w.heap.size w6 v6 (ys ++ [x])) := ho
      have HD6 : Hid (Dc w w6 g cv zs) := (HDa.out.below ((Below.refl _ _).alloc (Nat.le_refl _) _)).belowB hb
      have HL6 : Hid ((ys ++ [x]).length ≤ 400) := by show _ ≤ _; have := HL.out; simp; omega
      obtain ⟨ys6, hys6⟩ : ∃ t, ys ++ [x] = t := ⟨_, rfl⟩
      rw [hys6] at HO6 HL6
      clear ho hb HOa HDa HSZ HL hys6
      obtain ⟨o', ho'⟩ : ∃ W, v6 = W := ⟨_, rfl⟩
      obtain ⟨ys, hys⟩ : ∃ W, ys6 = W := ⟨_, rfl⟩
      rw [ho', hys] at HO6
      rw [hys] at HL6
      rw [ho']
      have HOa : Hid (Ow .i64 3 w.heap.size w6 o' ys) := HO6.out
      have HDa : Hid (Dc w w6 g cv zs) := HD6.out
      have HL : Hid (ys.length ≤ 400) := HL6.out
      clear HO6 HD6 HL6 ho' hys v6
      go_wp2_with (fail)
      refine (once_c g cv zs 60 _ HDa.out.dr (by omega)).mono ?_
      rintro e wb ⟨p, rfl, d1, g1⟩
      have HDb : Hid (Dc w wb g cv zs) := HDa.out.draw d1 g1
      have HOb : Hid (Ow .i64 3 w.heap.size wb o' ys) := HOa.out.drawn g1 HDa.out.lt
      clear d1 g1 HDa HOa
      have HDa : Hid (Dc w wb g cv zs) := HDb.out
      have HOa : Hid (Ow .i64 3 w.heap.size wb o' ys) := HOb.out
      clear HDb HOb
      obtain ⟨wa, hwa⟩ : ∃ W, wb = W := ⟨_, rfl⟩
      subst hwa
      cases p
      case false =>
        go_wp2
        go_ret
        exact ⟨_, _, rfl, HOa.out, by have := HL.out; omega, HDa.out⟩
      case true =>
        go_wp2_with (fail)
        refine (below_c g cv zs 2 _ HDa.out.dr (by omega)).mono ?_
        rintro e wc ⟨y, rfl, y0, y1, -, d1, g1⟩
        have y2 := y1 (by omega)
        have HDc : Hid (Dc w wc g cv zs) := HDa.out.draw d1 g1
        clear d1 g1 y1 HDa HOa
        obtain ⟨m, hm⟩ : ∃ m : Nat, 320 + 2 * y = (m : Int) := ⟨(320 + 2 * y).toNat, by omega⟩
        have hm2 : m ≤ 322 := by omega
        obtain ⟨i0, hi, hz0, hz1, hz2⟩ := info_parts toIInfo
        go_wp2_with (at_make; refine wpList_make_full _ rfl _ _ 24 rfl wc.heap.size 3 i0 (.int .i64 0) 1 Try.underlying24 hi hz0 hz1 .i64 .i64 _ _ m rfl rfl (by first | rfl | (show Value.int .i64 _ = _; exact val_int (by omega))) (by first | rfl | (show Value.int .i64 _ = _; exact val_int (by omega))) (by rw [hz2]; omega) (by unfold maxLen; omega) (Nat.le_refl _) ?_)
        intro wd ho hg
        have HOd : Hid (Ow .i64 3 w.heap.size wd (.slice (some ⟨wc.heap.size, 0, none⟩) m m) (List.replicate m 0)) := by
          have e : (List.replicate m (0 : Int)).map (Value.int .i64) = (madeCells #[Value.int .i64 0] m).toList := by rw [toList_madeCells_one]; simp
          exact (show Ow .i64 3 wc.heap.size wd (.slice (some ⟨wc.heap.size, 0, none⟩) m m) (List.replicate m 0) by rw [Ow, List.length_replicate, e]; exact ho).mono HDc.out.gr.size
        have HDd : Hid (Dc w wd g cv zs) := HDc.out.below (grown_below hg (Nat.le_refl _) (by simp))
        have HLd : Hid ((List.replicate m (0 : Int)).length ≤ 400) := by show _ ≤ _; simp; omega
        clear ho hg HDc
        go_wp2
        go_ret
        exact ⟨_, _, rfl, HOd.out, by have := HLd.out; omega, HDd.out⟩
  case true =>
    by_cases hpar : ys.length % 2 = 1
    case neg =>
      have hmi : (ys.length : Int) % 2 = 0 := by omega
      have hnz : (((ys.length : Int) % 2) == 1) = false := by rw [hmi]; rfl
      have hm : ((ys.length : Int)).tmod 2 = (ys.length : Int) % 2 := Int.tmod_eq_emod_of_nonneg (by omega)
      rw [hov]
      have HV : Hid (o' = .slice aa ys.length cc) := hov
      clear hov hpar hmi
      go_wp2_with (fail)
      rw [← HV.out]
      clear HV hnz hm
      have HL2 : Hid (ys.length ≤ 300) := by show _ ≤ _; have := HL.out; omega
      clear HL
      have HL : Hid (ys.length ≤ 300) := HL2.out
      clear HL2
      refine (once_c g cv zs 30 _ HDa.out.dr (by omega)).mono ?_
      rintro e wb ⟨p, rfl, d1, g1⟩
      have HDb : Hid (Dc w wb g cv zs) := HDa.out.draw d1 g1
      have HOb : Hid (Ow .i64 3 w.heap.size wb o' ys) := HOa.out.drawn g1 HDa.out.lt
      clear d1 g1 HDa HOa
      have HDa : Hid (Dc w wb g cv zs) := HDb.out
      have HOa : Hid (Ow .i64 3 w.heap.size wb o' ys) := HOb.out
      clear HDb HOb
      obtain ⟨wa, hwa⟩ : ∃ W, wb = W := ⟨_, rfl⟩
      subst hwa
      cases p
      case false =>
        go_wp2_with (fail)
        refine (once_c g cv zs 60 _ HDa.out.dr (by omega)).mono ?_
        rintro e wb ⟨p, rfl, d1, g1⟩
        have HDb : Hid (Dc w wb g cv zs) := HDa.out.draw d1 g1
        have HOb : Hid (Ow .i64 3 w.heap.size wb o' ys) := HOa.out.drawn g1 HDa.out.lt
        clear d1 g1 HDa HOa
        have HDa : Hid (Dc w wb g cv zs) := HDb.out
        have HOa : Hid (Ow .i64 3 w.heap.size wb o' ys) := HOb.out
        clear HDb HOb
        obtain ⟨wa, hwa⟩ : ∃ W, wb = W := ⟨_, rfl⟩
        subst hwa
        cases p
        case false =>
          go_wp2
          go_ret
          exact ⟨_, _, rfl, HOa.out, by have := HL.out; omega, HDa.out⟩
        case true =>
          go_wp2_with (fail)
          refine (below_c g cv zs 2 _ HDa.out.dr (by omega)).mono ?_
          rintro e wc ⟨y, rfl, y0, y1, -, d1, g1⟩
          have y2 := y1 (by omega)
          have HDc : Hid (Dc w wc g cv zs) := HDa.out.draw d1 g1
          clear d1 g1 y1 HDa HOa
          obtain ⟨m, hm⟩ : ∃ m : Nat, 320 + 2 * y = (m : Int) := ⟨(320 + 2 * y).toNat, by omega⟩
          have hm2 : m ≤ 322 := by omega
          obtain ⟨i0, hi, hz0, hz1, hz2⟩ := info_parts toIInfo
          go_wp2_with (at_make; refine wpList_make_full _ rfl _ _ 24 rfl wc.heap.size 3 i0 (.int .i64 0) 1 Try.underlying24 hi hz0 hz1 .i64 .i64 _ _ m rfl rfl (by first | rfl | (show Value.int .i64 _ = _; exact val_int (by omega))) (by first | rfl | (show Value.int .i64 _ = _; exact val_int (by omega))) (by rw [hz2]; omega) (by unfold maxLen; omega) (Nat.le_refl _) ?_)
          intro wd ho hg
          have HOd : Hid (Ow .i64 3 w.heap.size wd (.slice (some ⟨wc.heap.size, 0, none⟩) m m) (List.replicate m 0)) := by
            have e : (List.replicate m (0 : Int)).map (Value.int .i64) = (madeCells #[Value.int .i64 0] m).toList := by rw [toList_madeCells_one]; simp
            exact (show Ow .i64 3 wc.heap.size wd (.slice (some ⟨wc.heap.size, 0, none⟩) m m) (List.replicate m 0) by rw [Ow, List.length_replicate, e]; exact ho).mono HDc.out.gr.size
          have HDd : Hid (Dc w wd g cv zs) := HDc.out.below (grown_below hg (Nat.le_refl _) (by simp))
          have HLd : Hid ((List.replicate m (0 : Int)).length ≤ 400) := by show _ ≤ _; simp; omega
          clear ho hg HDc
          go_wp2
          go_ret
          exact ⟨_, _, rfl, HOd.out, by have := HLd.out; omega, HDd.out⟩
      case true =>
        obtain ⟨WL, hWL⟩ : ∃ W, wb.alloc (Obj.cells #[.int .i64 2, .int .i64 (-1)] 3) = W := ⟨_, rfl⟩
        have ba : Below wb.heap.size wb WL := by rw [← hWL]; exact (Below.refl _ _).alloc (Nat.le_refl _) _
        have HLR : Hid (Rd .i64 WL (.slice (some ⟨wb.heap.size, 0, none⟩) 2 2) [2, -1]) := by rw [← hWL]; exact Rd.lit wb [2, -1] (by decide)
        have HLN : Hid (g < wb.heap.size) := HDa.out.dr.lt
        have HDl : Hid (Dc w WL g cv zs) := HDa.out.below ba
        have HOl : Hid (Ow .i64 3 w.heap.size WL o' ys) := HOa.out.below ba
        have HWL : Hid (wb.alloc (Obj.cells #[.int .i64 2, .int .i64 (-1)] 3) = WL) := hWL
        clear ba hWL HDa HOa
        go_wp2_with (fail)
        rw [HWL.out]
        refine (pickInt_c g cv zs _ [2, -1] _ HDl.out.dr HLR.out (.inr (by have := HLN.out; simp [Value.ownBlock]; omega)) (by decide) (by decide)).mono ?_
        rintro e wc ⟨x, rfl, -, d1, g1⟩
        have HDa : Hid (Dc w wc g cv zs) := HDl.out.draw d1 g1
        have HOa : Hid (Ow .i64 3 w.heap.size wc o' ys) := HOl.out.drawn g1 HDl.out.lt
        clear d1 g1 HDl HOl HLR HWL HLN
        obtain ⟨wb', hwb⟩ : ∃ W, wc = W := ⟨_, rfl⟩
        subst hwb
        have HSZ : Hid (w.heap.size ≤ wc.heap.size) := HDa.out.gr.size
        go_wp2_with (at_builtin; refine appI rfl (.tmp 26) (.tmp 30) rfl w.heap.size _ ys rfl (HOa.out.alloc _) wc.heap.size x rfl (by simp) (by have := HL.out; omega) (by have := HSZ.out; simp; omega) ?_)
        intro v6 w6 ho hb
        have HO6 : Hid (Ow .i64 3 w.heap.size w6 v6 (ys ++ [x])) := ho
        have HD6 : Hid (Dc w w6 g cv zs) := (HDa.out.below ((Below.refl _ _).alloc (Nat.le_refl _) _)).belowB hb
        have HL6 : Hid ((ys ++ [x]).length ≤ 400) := by show _ ≤ _; have := HL.out; simp; omega
        obtain ⟨ys6, hys6⟩ : ∃ t, ys ++ [x] = t := ⟨_, rfl⟩
        rw [hys6] at HO6 HL6
        clear ho hb HOa HDa HSZ HL hys6
        obtain ⟨o', ho'⟩ : ∃ W, v6 = W := ⟨_, rfl⟩
        obtain ⟨ys, hys⟩ : ∃ W, ys6 = W := ⟨_, rfl⟩
        rw [ho', hys] at HO6
        rw [hys] at HL6
        rw [ho']
        have HOa : Hid (Ow .i64 3 w.heap.size w6 o' ys) := HO6.out
        have HDa : Hid (Dc w w6 g cv zs) := HD6.out
        have HL : Hid (ys.length ≤ 400) := HL6.out
        clear HO6 HD6 HL6 ho' hys v6
        go_wp2_with (fail)
        refine (once_c g cv zs 60 _ HDa.out.dr (by omega)).mono ?_
        rintro e wb ⟨p, rfl, d1, g1⟩
        have HDb : Hid (Dc w wb g cv zs) := HDa.out.draw d1 g1
        have HOb : Hid (Ow .i64 3 w.heap.size wb o' ys) := HOa.out.drawn g1 HDa.out.lt
        clear d1 g1 HDa HOa
        have HDa : Hid (Dc w wb g cv zs) := HDb.out
        have HOa : Hid (Ow .i64 3 w.heap.size wb o' ys) := HOb.out
        clear HDb HOb
        obtain ⟨wa, hwa⟩ : ∃ W, wb = W := ⟨_, rfl⟩
        subst hwa
        cases p
        case false =>
          go_wp2
          go_ret
          exact ⟨_, _, rfl, HOa.out, by have := HL.out; omega, HDa.out⟩
        case true =>
          go_wp2_with (fail)
          refine (below_c g cv zs 2 _ HDa.out.dr (by omega)).mono ?_
          rintro e wc ⟨y, rfl, y0, y1, -, d1, g1⟩
          have y2 := y1 (by omega)
          have HDc : Hid (Dc w wc g cv zs) := HDa.out.draw d1 g1
          clear d1 g1 y1 HDa HOa
          obtain ⟨m, hm⟩ : ∃ m : Nat, 320 + 2 * y = (m : Int) := ⟨(320 + 2 * y).toNat, by omega⟩
          have hm2 : m ≤ 322 := by omega
          obtain ⟨i0, hi, hz0, hz1, hz2⟩ := info_parts toIInfo
          go_wp2_with (at_make; refine wpList_make_full _ rfl _ _ 24 rfl wc.heap.size 3 i0 (.int .i64 0) 1 Try.underlying24 hi hz0 hz1 .i64 .i64 _ _ m rfl rfl (by first | rfl | (show Value.int .i64 _ = _; exact val_int (by omega))) (by first | rfl | (show Value.int .i64 _ = _; exact val_int (by omega))) (by rw [hz2]; omega) (by unfold maxLen; omega) (Nat.le_refl _) ?_)
          intro wd ho hg
          have HOd : Hid (Ow .i64 3 w.heap.size wd (.slice (some ⟨wc.heap.size, 0, none⟩) m m) (List.replicate m 0)) := by
            have e : (List.replicate m (0 : Int)).map (Value.int .i64) = (madeCells #[Value.int .i64 0] m).toList := by rw [toList_madeCells_one]; simp
            exact (show Ow .i64 3 wc.heap.size wd (.slice (some ⟨wc.heap.size, 0, none⟩) m m) (List.replicate m 0) by rw [Ow, List.length_replicate, e]; exact ho).mono HDc.out.gr.size
          have HDd : Hid (Dc w wd g cv zs) := HDc.out.below (grown_below hg (Nat.le_refl _) (by simp))
          have HLd : Hid ((List.replicate m (0 : Int)).length ≤ 400) := by show _ ≤ _; simp; omega
          clear ho hg HDc
          go_wp2
          go_ret
          exact ⟨_, _, rfl, HOd.out, by have := HLd.out; omega, HDd.out⟩
    case pos =>
      have hmi : (ys.length : Int) % 2 = 1 := by omega
      have hnz : (((ys.length : Int) % 2) == 1) = true := by rw [hmi]; rfl
      have hm : ((ys.length : Int)).tmod 2 = (ys.length : Int) % 2 := Int.tmod_eq_emod_of_nonneg (by omega)
      rw [hov]
      rw [hov] at HOa
      clear hov hpar hmi
      have HSZ : Hid (w.heap.size ≤ wb.heap.size) := HDa.out.gr.size
      go_wp2_with (at_builtin; refine appI rfl (.tmp 21) (.tmp 22) rfl w.heap.size _ ys rfl (HOa.out.alloc _) wb.heap.size 1 rfl (by simp) (by have := HL.out; omega) (by have := HSZ.out; simp; omega) ?_)
      intro v6 w6 ho hb
      have HO6 : Hid (Ow .i64 3 w.heap.size w6 v6 (ys ++ [1])) := ho
      have HD6 : Hid (Dc w w6 g cv zs) := (HDa.out.below ((Below.refl _ _).alloc (Nat.le_refl _) _)).belowB hb
      have HL6 : Hid ((ys ++ [1]).length ≤ 400) := by show _ ≤ _; have := HL.out; simp; omega
      obtain ⟨ys6, hys6⟩ : ∃ t, ys ++ [1] = t := ⟨_, rfl⟩
      rw [hys6] at HO6 HL6
      clear ho hb HOa HDa HSZ HL hys6
      obtain ⟨o', ho'⟩ : ∃ W, v6 = W := ⟨_, rfl⟩
      obtain ⟨ys, hys⟩ : ∃ W, ys6 = W := ⟨_, rfl⟩
      rw [ho', hys] at HO6
      rw [hys] at HL6
      rw [ho']
      have HOa : Hid (Ow .i64 3 w.heap.size w6 o' ys) := HO6.out
      have HDa : Hid (Dc w w6 g cv zs) := HD6.out
      have HL : Hid (ys.length ≤ 400) := HL6.out
      clear HO6 HD6 HL6 ho' hys v6
      have HL2 : Hid (ys.length ≤ 400) := by show _ ≤ _; have := HL.out; omega
      clear HL
      have HL : Hid (ys.length ≤ 400) := HL2.out
      clear HL2
      go_wp2_with (fail)
      refine (once_c g cv zs 30 _ HDa.out.dr (by omega)).mono ?_
      rintro e wb ⟨p, rfl, d1, g1⟩
      have HDb : Hid (Dc w wb g cv zs) := HDa.out.draw d1 g1
      have HOb : Hid (Ow .i64 3 w.heap.size wb o' ys) := HOa.out.drawn g1 HDa.out.lt
      clear d1 g1 HDa HOa
      have HDa : Hid (Dc w wb g cv zs) := HDb.out
      have HOa : Hid (Ow .i64 3 w.heap.size wb o' ys) := HOb.out
      clear HDb HOb
      obtain ⟨wa, hwa⟩ : ∃ W, wb = W := ⟨_, rfl⟩
      subst hwa
      cases p
      case false =>
        go_wp2_with (fail)
        refine (once_c g cv zs 60 _ HDa.out.dr (by omega)).mono ?_
        rintro e wb ⟨p, rfl, d1, g1⟩
        have HDb : Hid (Dc w wb g cv zs) := HDa.out.draw d1 g1
        have HOb : Hid (Ow .i64 3 w.heap.size wb o' ys) := HOa.out.drawn g1 HDa.out.lt
        clear d1 g1 HDa HOa
        have HDa : Hid (Dc w wb g cv zs) := HDb.out
        have HOa : Hid (Ow .i64 3 w.heap.size wb o' ys) := HOb.out
        clear HDb HOb
        obtain ⟨wa, hwa⟩ : ∃ W, wb = W := ⟨_, rfl⟩
        subst hwa
        cases p
        case false =>
          go_wp2
          go_ret
          exact ⟨_, _, rfl, HOa.out, by have := HL.out; omega, HDa.out⟩
        case true =>
          go_wp2_with (fail)
          refine (below_c g cv zs 2 _ HDa.out.dr (by omega)).mono ?_
          rintro e wc ⟨y, rfl, y0, y1, -, d1, g1⟩
          have y2 := y1 (by omega)
          have HDc : Hid (Dc w wc g cv zs) := HDa.out.draw d1 g1
          clear d1 g1 y1 HDa HOa
          obtain ⟨m, hm⟩ : ∃ m : Nat, 320 + 2 * y = (m : Int) := ⟨(320 + 2 * y).toNat, by omega⟩
          have hm2 : m ≤ 322 := by omega
          obtain ⟨i0, hi, hz0, hz1, hz2⟩ := info_parts toIInfo
          go_wp2_with (at_make; refine wpList_make_full _ rfl _ _ 24 rfl wc.heap.size 3 i0 (.int .i64 0) 1 Try.underlying24 hi hz0 hz1 .i64 .i64 _ _ m rfl rfl (by first | rfl | (show Value.int .i64 _ = _; exact val_int (by omega))) (by first | rfl | (show Value.int .i64 _ = _; exact val_int (by omega))) (by rw [hz2]; omega) (by unfold maxLen; omega) (Nat.le_refl _) ?_)
          intro wd ho hg
          have HOd : Hid (Ow .i64 3 w.heap.size wd (.slice (some ⟨wc.heap.size, 0, none⟩) m m) (List.replicate m 0)) := by
            have e : (List.replicate m (0 : Int)).map (Value.int .i64) = (madeCells #[Value.int .i64 0] m).toList := by rw [toList_madeCells_one]; simp
            exact (show Ow .i64 3 wc.heap.size wd (.slice (some ⟨wc.heap.size, 0, none⟩) m m) (List.replicate m 0) by rw [Ow, List.length_replicate, e]; exact ho).mono HDc.out.gr.size
          have HDd : Hid (Dc w wd g cv zs) := HDc.out.below (grown_below hg (Nat.le_refl _) (by simp))
          have HLd : Hid ((List.replicate m (0 : Int)).length ≤ 500) := by show _ ≤ _; simp; omega
          clear ho hg HDc
          go_wp2
          go_ret
          exact ⟨_, _, rfl, HOd.out, by have := HLd.out; omega, HDd.out⟩
      case true =>
        obtain ⟨WL, hWL⟩ : ∃ W, wb.alloc (Obj.cells #[.int .i64 2, .int .i64 (-1)] 3) = W := ⟨_, rfl⟩
        have ba : Below wb.heap.size wb WL := by rw [← hWL]; exact (Below.refl _ _).alloc (Nat.le_refl _) _
        have HLR : Hid (Rd .i64 WL (.slice (some ⟨wb.heap.size, 0, none⟩) 2 2) [2, -1]) := by rw [← hWL]; exact Rd.lit wb [2, -1] (by decide)
        have HLN : Hid (g < wb.heap.size) := HDa.out.dr.lt
        have HDl : Hid (Dc w WL g cv zs) := HDa.out.below ba
        have HOl : Hid (Ow .i64 3 w.heap.size WL o' ys) := HOa.out.below ba
        have HWL : Hid (wb.alloc (Obj.cells #[.int .i64 2, .int .i64 (-1)] 3) = WL) := hWL
        clear ba hWL HDa HOa
        go_wp2_with (fail)
        rw [HWL.out]
        refine (pickInt_c g cv zs _ [2, -1] _ HDl.out.dr HLR.out (.inr (by have := HLN.out; simp [Value.ownBlock]; omega)) (by decide) (by decide)).mono ?_
        rintro e wc ⟨x, rfl, -, d1, g1⟩
        have HDa : Hid (Dc w wc g cv zs) := HDl.out.draw d1 g1
        have HOa : Hid (Ow .i64 3 w.heap.size wc o' ys) := HOl.out.drawn g1 HDl.out.lt
        clear d1 g1 HDl HOl HLR HWL HLN
        obtain ⟨wb', hwb⟩ : ∃ W, wc = W := ⟨_, rfl⟩
        subst hwb
        have HSZ : Hid (w.heap.size ≤ wc.heap.size) := HDa.out.gr.size
        go_wp2_with (at_builtin; refine appI rfl (.tmp 26) (.tmp 30) rfl w.heap.size _ ys rfl (HOa.out.alloc _) wc.heap.size x rfl (by simp) (by have := HL.out; omega) (by have := HSZ.out; simp; omega) ?_)
        intro v6 w6 ho hb
        have HO6 : Hid (Ow .i64 3 w.heap.size w6 v6 (ys ++ [x])) := ho
        have HD6 : Hid (Dc w w6 g cv zs) := (HDa.out.below ((Below.refl _ _).alloc (Nat.le_refl _) _)).belowB hb
        have HL6 : Hid ((ys ++ [x]).length ≤ 500) := by show _ ≤ _; have := HL.out; simp; omega
        obtain ⟨ys6, hys6⟩ : ∃ t, ys ++ [x] = t := ⟨_, rfl⟩
        rw [hys6] at HO6 HL6
        clear ho hb HOa HDa HSZ HL hys6
        obtain ⟨o', ho'⟩ : ∃ W, v6 = W := ⟨_, rfl⟩
        obtain ⟨ys, hys⟩ : ∃ W, ys6 = W := ⟨_, rfl⟩
        rw [ho', hys] at HO6
        rw [hys] at HL6
        rw [ho']
        have HOa : Hid (Ow .i64 3 w.heap.size w6 o' ys) := HO6.out
        have HDa : Hid (Dc w w6 g cv zs) := HD6.out
        have HL : Hid (ys.length ≤ 500) := HL6.out
        clear HO6 HD6 HL6 ho' hys v6
        go_wp2_with (fail)
        refine (once_c g cv zs 60 _ HDa.out.dr (by omega)).mono ?_
        rintro e wb ⟨p, rfl, d1, g1⟩
        have HDb : Hid (Dc w wb g cv zs) := HDa.out.draw d1 g1
        have HOb : Hid (Ow .i64 3 w.heap.size wb o' ys) := HOa.out.drawn g1 HDa.out.lt
        clear d1 g1 HDa HOa
        have HDa : Hid (Dc w wb g cv zs) := HDb.out
        have HOa : Hid (Ow .i64 3 w.heap.size wb o' ys) := HOb.out
        clear HDb HOb
        obtain ⟨wa, hwa⟩ : ∃ W, wb = W := ⟨_, rfl⟩
        subst hwa
        cases p
        case false =>
          go_wp2
          go_ret
          exact ⟨_, _, rfl, HOa.out, by have := HL.out; omega, HDa.out⟩
        case true =>
          go_wp2_with (fail)
          refine (below_c g cv zs 2 _ HDa.out.dr (by omega)).mono ?_
          rintro e wc ⟨y, rfl, y0, y1, -, d1, g1⟩
          have y2 := y1 (by omega)
          have HDc : Hid (Dc w wc g cv zs) := HDa.out.draw d1 g1
          clear d1 g1 y1 HDa HOa
          obtain ⟨m, hm⟩ : ∃ m : Nat, 320 + 2 * y = (m : Int) := ⟨(320 + 2 * y).toNat, by omega⟩
          have hm2 : m ≤ 322 := by omega
          obtain ⟨i0, hi, hz0, hz1, hz2⟩ := info_parts toIInfo
          go_wp2_with (at_make; refine wpList_make_full _ rfl _ _ 24 rfl wc.heap.size 3 i0 (.int .i64 0) 1 Try.underlying24 hi hz0 hz1 .i64 .i64 _ _ m rfl rfl (by first | rfl | (show Value.int .i64 _ = _; exact val_int (by omega))) (by first | rfl | (show Value.int .i64 _ = _; exact val_int (by omega))) (by rw [hz2]; omega) (by unfold maxLen; omega) (Nat.le_refl _) ?_)
          intro wd ho hg
          have HOd : Hid (Ow .i64 3 w.heap.size wd (.slice (some ⟨wc.heap.size, 0, none⟩) m m) (List.replicate m 0)) := by
            have e : (List.replicate m (0 : Int)).map (Value.int .i64) = (madeCells #[Value.int .i64 0] m).toList := by rw [toList_madeCells_one]; simp
            exact (show Ow .i64 3 wc.heap.size wd (.slice (some ⟨wc.heap.size, 0, none⟩) m m) (List.replicate m 0) by rw [Ow, List.length_replicate, e]; exact ho).mono HDc.out.gr.size
          have HDd : Hid (Dc w wd g cv zs) := HDc.out.below (grown_below hg (Nat.le_refl _) (by simp))
          have HLd : Hid ((List.replicate m (0 : Int)).length ≤ 500) := by show _ ≤ _; simp; omega
          clear ho hg HDc
          go_wp2
          go_ret
          exact ⟨_, _, rfl, HOd.out, by have := HLd.out; omega, HDd.out⟩

end Go.Proofs.Ytkgpnpgbadipjaa

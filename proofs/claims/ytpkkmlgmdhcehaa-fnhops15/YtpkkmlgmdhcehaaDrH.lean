/- Draws of Hop and Key15; no condition. -/
import Derived.Test.YtpkkmlgmdhcehaaDrc
import Derived.Test.YtpkkmlgmdhcehaaMixT
namespace Go.Proofs.Ytpkkmlgmdhcehaa
open Go.RowKit Go.ChangeShapes Go.WideShapes Go.ChangeAt
set_option linter.unusedVariables false
set_option linter.unusedSimpArgs false
set_option maxRecDepth 8000

/-- what was drawn, seen from ahead of the cursor -/
theorem Dc.ahead {w w1 W : World} {g : Nat} {cv : Value} {zs : List Int} (h : Dc w1 W g cv zs) (hb : Below w.heap.size w w1) (hg : w.heap.size ≤ g) : Below w.heap.size w W :=
  hb.trans (grown_below h.gr hb.size (fun k e => by cases e; exact hg))
set_option maxHeartbeats 1600000 in
theorem drawHop_c (v : Value) (zs : List Int) (w : World) (h : Rd .u8 w v zs) (hok : ∀ z ∈ zs, 0 ≤ z ∧ z ≤ 255) (hlen : zs.length ≤ 2097152) :
   Calls Try.prog 7 #[v] w fun e w' => ∃ s f c : Int, e = .returned (.tuple #[.int .i64 s, .int .i64 f, .int .i64 c]) ∧ Below w.heap.size w w' := by
  go_enter Try.func7, Try.ntmps7
  go_wp2_with (fail)
  refine (new_c v zs w h hok hlen).mono ?_
  rintro e w1 ⟨g, rfl, d1, hg, b1⟩
  have HB : Hid (Below w.heap.size w w1 ∧ w.heap.size ≤ g) := ⟨b1, hg⟩
  have HD : Hid (Dc w1 w1 g v zs) := Dc.start d1
  clear d1 hg b1 h hok
  go_wp2_with (fail)
  refine (below_c g v zs _ _ HD.out.dr (by omega)).mono ?_
  rintro e w2 ⟨x, rfl, x0, x1, -, d1, g1⟩
  have x2 := x1 (by omega)
  have HD2 : Hid (Dc w1 w2 g v zs) := HD.out.draw d1 g1
  clear d1 g1 x1 HD
  go_wp2_with (fail)
  refine (below_c g v zs _ _ HD2.out.dr (by omega)).mono ?_
  rintro e w3 ⟨y, rfl, y0, y1, -, d1, g1⟩
  have y2 := y1 (by omega)
  have HD3 : Hid (Dc w1 w3 g v zs) := HD2.out.draw d1 g1
  clear d1 g1 y1 HD2
  go_wp2_with (fail)
  refine (below_c g v zs _ _ HD3.out.dr (by omega)).mono ?_
  rintro e w4 ⟨z, rfl, z0, z1, -, d1, g1⟩
  have z2 := z1 (by omega)
  have HD4 : Hid (Dc w1 w4 g v zs) := HD3.out.draw d1 g1
  clear d1 g1 z1 HD3
  go_wp2
  go_ret3
  exact ⟨_, _, _, rfl, HD4.out.ahead HB.out.1 HB.out.2⟩
/-- numbers of a drawn book -/
def bkP (ys : List Int) : Prop := ∀ y ∈ ys, 0 ≤ y ∧ y ≤ 65536
theorem bkP_app {ys : List Int} {x : Int} (h : bkP ys) (hx : 0 ≤ x ∧ x ≤ 65536) : bkP (ys ++ [x]) := fun y hy => by
  rcases List.mem_append.1 hy with h1 | h1
  · exact h y h1
  · simp at h1; subst h1; exact hx

set_option maxHeartbeats 12800000 in
theorem drawKey_c (v : Value) (zs : List Int) (w : World) (h : Rd .u8 w v zs) (hok : ∀ z ∈ zs, 0 ≤ z ∧ z ≤ 255) (hlen : zs.length ≤ 2097152) :
   Calls Try.prog 11 #[v] w fun e w' => ∃ v' ys, ∃ f : Int, e = .returned (.tuple #[v', .int .i64 f]) ∧ Rd .i64 w' v' ys ∧ Below w.heap.size w w' := by
  go_enter Try.func11, Try.ntmps11
  go_wp2_with (fail)
  refine (new_c v zs w h hok hlen).mono ?_
  rintro e w1 ⟨g, rfl, d1, hg, b1⟩
  have HB : Hid (Below w.heap.size w w1 ∧ w.heap.size ≤ g) := ⟨b1, hg⟩
  have HD : Hid (Dc w1 w1 g v zs) := Dc.start d1
  clear d1 hg b1 h hok
  obtain ⟨W0, hW0⟩ : ∃ W, w1.alloc (Obj.cells #[] 3) = W := ⟨_, rfl⟩
  have HDA : Hid (Dc w1 W0 g v zs) := by rw [← hW0]; exact HD.out.below ((Below.refl _ _).alloc (Nat.le_refl _) _)
  obtain ⟨v0, hv0⟩ : ∃ v, Value.slice (some ⟨w1.heap.size, 0, none⟩) 0 0 = v := ⟨_, rfl⟩
  have HOA : Hid (Ow .i64 3 w1.heap.size W0 v0 []) := by rw [← hW0, ← hv0]; exact Ow.empty .i64 3 _ w1 (Nat.le_refl _)
  have HW0 : Hid (w1.alloc (Obj.cells #[] 3) = W0 ∧ Value.slice (some ⟨w1.heap.size, 0, none⟩) 0 0 = v0) := ⟨hW0, hv0⟩
  clear hW0 hv0 HD
  go_wp2_with (fail)
  rw [HW0.out.1, HW0.out.2]
  clear HW0
  refine (below_c g v zs _ _ HDA.out.dr (by omega)).mono ?_
  rintro e w2 ⟨x, rfl, x0, x1, -, d1, g1⟩
  have x2 := x1 (by omega)
  have HD1 : Hid (Dc w1 w2 g v zs) := HDA.out.draw d1 g1
  have HO1 : Hid (Ow .i64 3 w1.heap.size w2 v0 []) := HOA.out.drawn g1 HDA.out.lt
  clear d1 g1 x1 HDA HOA
  obtain ⟨n, rfl⟩ := Int.eq_ofNat_of_zero_le x0
  have hn : n ≤ 5 := by omega
  clear x0 x2
  go_wp2
  go_loopw [5, 6] (fun o i wr => ∃ (j : Nat) (ys : List Int) (o' : Value), i = .int .i64 j ∧ o' = o ∧ j ≤ n ∧ Hid (ys.length + j = n ∧ bkP ys) ∧ Hid (Ow .i64 3 w1.heap.size wr o' ys) ∧ Hid (Dc w1 wr g v zs)) (fun _ i _ => (intOf i).toNat)
  case atStart => exact ⟨n, [], _, rfl, rfl, Nat.le_refl _, ⟨by simp, fun y hy => by cases hy⟩, HO1.out, HD1.out⟩
  case round =>
    obtain ⟨j, ys, o', rfl, ho', hj, hY, hO, hD⟩ := hrel
    subst ho'
    clear HO1 HD1
    by_cases hlt : 0 < j
    case pos =>
      have hltI : (0 : Int) < (j : Int) := by omega
      go_wp2_with (fail)
      refine (below_c _ _ _ _ _ hD.out.dr (by omega)).mono ?_
      rintro e wa ⟨x, rfl, x0, x1, -, d1, g1⟩
      have x2 := x1 (by omega)
      have HDa : Hid (Dc w1 wa g v zs) := hD.out.draw d1 g1
      have HOa : Hid (Ow .i64 3 w1.heap.size wa o' ys) := hO.out.drawn g1 hD.out.lt
      clear d1 g1 x1 hD hO
      have HSZ : Hid (w1.heap.size ≤ wa.heap.size) := HDa.out.gr.size
      go_wp2_with (at_builtin; refine appI rfl (.tmp 17) (.tmp 21) rfl w1.heap.size _ ys rfl (HOa.out.alloc _) wa.heap.size (1 + x) rfl (by simp) (by have := hY.out.1; omega) (by have := HSZ.out; simp; omega) ?_)
      intro v6 w6 ho hb
      have HO6 : Hid (Ow .i64 3 w1.heap.size w6 v6 (ys ++ [(1 + x)])) := ho
      have HD6 : Hid (Dc w1 w6 g v zs) := (HDa.out.below ((Below.refl _ _).alloc (Nat.le_refl _) _)).belowB hb
      clear ho hb HOa HDa HSZ

      have HYN : Hid ((ys ++ [1 + x]).length + (j - 1) = n ∧ bkP (ys ++ [1 + x])) := ⟨by have := hY.out.1; simp; omega, bkP_app hY.out.2 (by omega)⟩
      go_wp2
      go_roundw
      case rel => exact ⟨j - 1, _, _, by go_num, rfl, by omega, HYN.out, HO6.out, HD6.out⟩
      case measure => simp [intOf]; omega
    case neg =>
    obtain rfl : j = 0 := by omega
    have HL : Hid (ys.length ≤ 5 ∧ bkP ys) := ⟨by have := hY.out.1; omega, hY.out.2⟩
    clear hY hj hlt hn
    go_wp2_with (fail)
    refine (once_c _ _ _ _ _ hD.out.dr (by omega)).mono ?_
    rintro e wa ⟨p, rfl, d1, g1⟩
    have HDa : Hid (Dc w1 wa g v zs) := hD.out.draw d1 g1
    have HOa : Hid (Ow .i64 3 w1.heap.size wa o' ys) := hO.out.drawn g1 hD.out.lt
    clear d1 g1 hD hO
    cases p
    case false =>
      obtain ⟨fz, hfz⟩ : ∃ z : Nat, z = 0 := ⟨_, rfl⟩
      clear hfz
      go_wp2_with (fail)
      refine (below_c _ _ _ _ _ HDa.out.dr (by omega)).mono ?_
      rintro e wa ⟨fr, rfl, f0, f1, -, d1, g1⟩
      have f2 := f1 (by omega)
      have HDb : Hid (Dc w1 wa g v zs) := HDa.out.draw d1 g1
      have HOb : Hid (Ow .i64 3 w1.heap.size wa o' ys) := HOa.out.drawn g1 HDa.out.lt
      clear d1 g1 f1 HDa HOa
      have HDa : Hid (Dc w1 wa g v zs) := HDb.out
      have HOa : Hid (Ow .i64 3 w1.heap.size wa o' ys) := HOb.out
      clear HDb HOb
      go_wp2_with (fail)
      refine (once_c _ _ _ _ _ HDa.out.dr (by omega)).mono ?_
      rintro e wa ⟨p, rfl, d1, g1⟩
      have HDb : Hid (Dc w1 wa g v zs) := HDa.out.draw d1 g1
      have HOb : Hid (Ow .i64 3 w1.heap.size wa o' ys) := HOa.out.drawn g1 HDa.out.lt
      clear d1 g1 HDa HOa
      have HDa : Hid (Dc w1 wa g v zs) := HDb.out
      have HOa : Hid (Ow .i64 3 w1.heap.size wa o' ys) := HOb.out
      clear HDb HOb
      have hlv : ∃ c : Nat, ∃ a, o' = .slice a ys.length c := by
        rcases (show World.ownsRow wa w1.heap.size 3 1 o' ys.length (ys.map (Value.int .i64)) from HOa.out).2 with ⟨rfl, h0⟩ | ⟨gg, cap, cur, hv, hb, -⟩
        · exact ⟨0, none, by rw [h0]⟩
        · exact ⟨cap, _, hv⟩
      cases p
      case false =>
        go_wp2_with (fail)
        refine (once_c _ _ _ _ _ HDa.out.dr (by omega)).mono ?_
        rintro e wa ⟨p, rfl, d1, g1⟩
        have HDb : Hid (Dc w1 wa g v zs) := HDa.out.draw d1 g1
        have HOb : Hid (Ow .i64 3 w1.heap.size wa o' ys) := HOa.out.drawn g1 HDa.out.lt
        clear d1 g1 HDa HOa
        have HDa : Hid (Dc w1 wa g v zs) := HDb.out
        have HOa : Hid (Ow .i64 3 w1.heap.size wa o' ys) := HOb.out
        clear HDb HOb
        cases p
        case false =>
          go_wp2
          go_ret2
          exact ⟨_, ys, _, rfl, HOa.out.rd, HDa.out.ahead HB.out.1 HB.out.2⟩
        case true =>
          obtain ⟨W, hW⟩ : ∃ W, wa.alloc (Obj.cells #[.int .i64 (-1), .int .i64 1000000, .int .i64 1000001] 3) = W := ⟨_, rfl⟩
          have al : Below wa.heap.size wa W := by rw [← hW]; exact (Below.refl _ _).alloc (Nat.le_refl _) _
          have HDW : Hid (Dc w1 W g v zs) := HDa.out.below al
          have HOW : Hid (Ow .i64 3 w1.heap.size W o' ys) := HOa.out.below al
          have HRW : Hid (Rd .i64 W (.slice (some ⟨wa.heap.size, 0, none⟩) 3 3) [-1, 1000000, 1000001]) := by
            have := Rd.lit wa [-1, 1000000, 1000001] (by simp)
            rw [← hW]; exact this
          have HAP : Hid ((Value.slice (some ⟨wa.heap.size, 0, none⟩) 3 3).ownBlock = none ∨ (Value.slice (some ⟨wa.heap.size, 0, none⟩) 3 3).ownBlock ≠ some g) := by
            right; have := HDa.out.dr.lt; simp [Value.ownBlock]; omega
          clear al HDa HOa
          go_wp2_with (fail)
          refine (pickInt_c _ _ _ _ [-1, 1000000, 1000001] _ HDW.out.dr HRW.out HAP.out (by simp) (by simp)).mono ?_
          rintro e wa ⟨y, rfl, ⟨k, hk, hx⟩, d3, g3⟩
          have hy : -1 ≤ y ∧ y ≤ 1000001 := by rw [hx]; exact getD_bd _ k _ _ (by decide) hk
          have HDa : Hid (Dc w1 wa g v zs) := HDW.out.draw d3 g3
          have HOa : Hid (Ow .i64 3 w1.heap.size wa o' ys) := HOW.out.drawn g3 HDW.out.lt
          clear d3 g3 hx hk hW HDW HOW HRW HAP
          go_wp2
          go_ret2
          exact ⟨_, ys, _, rfl, HOa.out.rd, HDa.out.ahead HB.out.1 HB.out.2⟩
      case true =>
        obtain ⟨cc, aa, hov⟩ := hlv
        by_cases h0 : 0 < ys.length
        case neg =>
          have h00 : ys = [] := List.eq_nil_of_length_eq_zero (by omega)
          subst h00
          subst hov
          clear h0
          go_wp2_with (fail)
          refine (once_c _ _ _ _ _ HDa.out.dr (by omega)).mono ?_
          rintro e wa ⟨p, rfl, d1, g1⟩
          have HDb : Hid (Dc w1 wa g v zs) := HDa.out.draw d1 g1
          have HOb : Hid (Ow .i64 3 w1.heap.size wa (Value.slice aa ([] : List Int).length cc) ([] : List Int)) := HOa.out.drawn g1 HDa.out.lt
          clear d1 g1 HDa HOa
          have HDa : Hid (Dc w1 wa g v zs) := HDb.out
          have HOa : Hid (Ow .i64 3 w1.heap.size wa (Value.slice aa ([] : List Int).length cc) ([] : List Int)) := HOb.out
          clear HDb HOb
          cases p
          case false =>
            go_wp2
            go_ret2
            exact ⟨_, ([] : List Int), _, rfl, HOa.out.rd, HDa.out.ahead HB.out.1 HB.out.2⟩
          case true =>
            obtain ⟨W, hW⟩ : ∃ W, wa.alloc (Obj.cells #[.int .i64 (-1), .int .i64 1000000, .int .i64 1000001] 3) = W := ⟨_, rfl⟩
            have al : Below wa.heap.size wa W := by rw [← hW]; exact (Below.refl _ _).alloc (Nat.le_refl _) _
            have HDW : Hid (Dc w1 W g v zs) := HDa.out.below al
            have HOW : Hid (Ow .i64 3 w1.heap.size W (Value.slice aa ([] : List Int).length cc) ([] : List Int)) := HOa.out.below al
            have HRW : Hid (Rd .i64 W (.slice (some ⟨wa.heap.size, 0, none⟩) 3 3) [-1, 1000000, 1000001]) := by
              have := Rd.lit wa [-1, 1000000, 1000001] (by simp)
              rw [← hW]; exact this
            have HAP : Hid ((Value.slice (some ⟨wa.heap.size, 0, none⟩) 3 3).ownBlock = none ∨ (Value.slice (some ⟨wa.heap.size, 0, none⟩) 3 3).ownBlock ≠ some g) := by
              right; have := HDa.out.dr.lt; simp [Value.ownBlock]; omega
            clear al HDa HOa
            go_wp2_with (fail)
            refine (pickInt_c _ _ _ _ [-1, 1000000, 1000001] _ HDW.out.dr HRW.out HAP.out (by simp) (by simp)).mono ?_
            rintro e wa ⟨y, rfl, ⟨k, hk, hx⟩, d3, g3⟩
            have hy : -1 ≤ y ∧ y ≤ 1000001 := by rw [hx]; exact getD_bd _ k _ _ (by decide) hk
            have HDa : Hid (Dc w1 wa g v zs) := HDW.out.draw d3 g3
            have HOa : Hid (Ow .i64 3 w1.heap.size wa (Value.slice aa ([] : List Int).length cc) ([] : List Int)) := HOW.out.drawn g3 HDW.out.lt
            clear d3 g3 hx hk hW HDW HOW HRW HAP
            go_wp2
            go_ret2
            exact ⟨_, ([] : List Int), _, rfl, HOa.out.rd, HDa.out.ahead HB.out.1 HB.out.2⟩
        case pos =>
          have hi3 : decide ((0 : Int) < (ys.length : Int)) = true := decide_eq_true (by omega)
          clear hov
          obtain ⟨gl, cl, hov, hgl⟩ : ∃ gl cl, o' = .slice (some ⟨gl, 0, none⟩) ys.length cl ∧ w1.heap.size ≤ gl := by
            rcases (show World.ownsRow wa w1.heap.size 3 1 o' ys.length (ys.map (Value.int .i64)) from HOa.out).2 with ⟨_, h0⟩ | ⟨gg, cap, cur, hv, hb, -⟩
            · omega
            · exact ⟨gg, cap, hv, hb⟩
          subst hov
          obtain ⟨z, hz⟩ : ∃ z, ys.getD 0 0 = z := ⟨_, rfl⟩
          have hzb : 0 ≤ z ∧ z ≤ 65536 := by rw [← hz]; exact getD_bd _ 0 _ _ HL.out.2 (by omega)
          have HCE : Hid (∀ W, Ow .i64 3 w1.heap.size W (.slice (some ⟨gl, 0, none⟩) ys.length cl) ys → W.cell? ⟨gl, 0, none⟩ = some (.int .i64 z)) := fun W oo => by
            unfold Ow at oo
            rw [oo.cellAt 0 (by omega), List.getElem?_map, List.getElem?_eq_getElem (by omega), ← hz]
            simp [List.getElem?_eq_getElem (show 0 < ys.length by omega)]
          obtain ⟨S, hS⟩ : ∃ S : World → Prop, ∀ W, S W ↔ W.cell? ⟨gl, 0, none⟩ = some (.int .i64 z) := ⟨_, fun _ => Iff.rfl⟩
          have y0 : ∀ W : At S, W.wd.cell? ⟨gl, 0, none⟩ = some (.int .i64 z) := fun W => (hS _).1 W.ok
          have HS : Hid (∀ W, S W ↔ W.cell? ⟨gl, 0, none⟩ = some (.int .i64 z)) := hS
          have HDD : Hid (Dc w1 wa.drew g v zs) := HDa.out.below (Below.refl _ _).drew
          have HOD : Hid (Ow .i64 3 w1.heap.size wa.drew (.slice (some ⟨gl, 0, none⟩) ys.length cl) ys) := HOa.out.below (Below.refl _ _).drew
          have HSD : Hid (S wa.drew) := (hS _).2 (HCE.out _ HOD.out)
          have ne : Nonempty (At S) := ⟨⟨_, HSD.out⟩⟩
          have hi2 : (0 : Int) < (ys.length : Int) := by omega
          clear hz hS HDa HOa
          go_wp2
          refine region_mixT [true, true, true, true, false, false, false] 7 3 S (by kernel_rfl) rfl (by kernel_rfl) (fun _ _ _ _ _ h => h) HSD.out ?_
          simp only [selT, selF]
          try simp only [Act.put]
          repeat (go_big_quiet_step (fail))
          refine wpQuiet_nil ?_
          refine tail_step ?_
          clear y0 ne
          go_wp2_with (fail)
          refine (below_c g v zs _ _ HDD.out.dr (by omega)).mono ?_
          rintro e wa ⟨x', rfl, x'0, x'1, -, d1, g1⟩
          have x'2 := x'1 (by omega)
          obtain ⟨o', ho'⟩ : ∃ o', Value.slice (some ⟨gl, 0, none⟩) ys.length cl = o' := ⟨_, rfl⟩
          have HDa : Hid (Dc w1 wa g v zs) := HDD.out.draw d1 g1
          have HOa0 : Hid (Ow .i64 3 w1.heap.size wa (.slice (some ⟨gl, 0, none⟩) ys.length cl) ys) := HOD.out.drawn g1 HDD.out.lt
          have HS7 : Hid (S wa) := (HS.out _).2 (HCE.out _ HOa0.out)
          have HOa : Hid (Ow .i64 3 w1.heap.size wa o' ys) := by rw [← ho']; exact HOa0.out
          have HHO : Hid (Value.slice (some ⟨gl, 0, none⟩) ys.length cl = o') := ho'
          clear d1 g1 x'1 HDD HOD HSD HOa0 HCE ho'
          have hpr : 0 ≤ z * x' ∧ z * x' ≤ 65536 := by
            rcases (show x' = 0 ∨ x' = 1 by omega) with e | e <;> subst e <;> simp <;> omega
          have hp0 := hpr.1
          have hp1 := hpr.2
          clear hpr
          rw [HHO.out]
          go_wp2
          refine ⟨HS7.out, tail_step ?_⟩
          go_wp2
          refine ⟨HS7.out, tail_step ?_⟩
          go_wp2
          refine ⟨HS7.out, tail_end ?_⟩
          go_wp2_with (fail)
          go_wp2_with (fail)
          refine (once_c _ _ _ _ _ HDa.out.dr (by omega)).mono ?_
          rintro e wa ⟨p, rfl, d1, g1⟩
          have HDb : Hid (Dc w1 wa g v zs) := HDa.out.draw d1 g1
          have HOb : Hid (Ow .i64 3 w1.heap.size wa o' ys) := HOa.out.drawn g1 HDa.out.lt
          clear d1 g1 HDa HOa
          have HDa : Hid (Dc w1 wa g v zs) := HDb.out
          have HOa : Hid (Ow .i64 3 w1.heap.size wa o' ys) := HOb.out
          clear HDb HOb
          cases p
          case false =>
            go_wp2
            go_ret2
            exact ⟨_, ys, _, rfl, HOa.out.rd, HDa.out.ahead HB.out.1 HB.out.2⟩
          case true =>
            obtain ⟨W, hW⟩ : ∃ W, wa.alloc (Obj.cells #[.int .i64 (-1), .int .i64 1000000, .int .i64 1000001] 3) = W := ⟨_, rfl⟩
            have al : Below wa.heap.size wa W := by rw [← hW]; exact (Below.refl _ _).alloc (Nat.le_refl _) _
            have HDW : Hid (Dc w1 W g v zs) := HDa.out.below al
            have HOW : Hid (Ow .i64 3 w1.heap.size W o' ys) := HOa.out.below al
            have HRW : Hid (Rd .i64 W (.slice (some ⟨wa.heap.size, 0, none⟩) 3 3) [-1, 1000000, 1000001]) := by
              have := Rd.lit wa [-1, 1000000, 1000001] (by simp)
              rw [← hW]; exact this
            have HAP : Hid ((Value.slice (some ⟨wa.heap.size, 0, none⟩) 3 3).ownBlock = none ∨ (Value.slice (some ⟨wa.heap.size, 0, none⟩) 3 3).ownBlock ≠ some g) := by
              right; have := HDa.out.dr.lt; simp [Value.ownBlock]; omega
            clear al HDa HOa
            go_wp2_with (fail)
            refine (pickInt_c _ _ _ _ [-1, 1000000, 1000001] _ HDW.out.dr HRW.out HAP.out (by simp) (by simp)).mono ?_
            rintro e wa ⟨y, rfl, ⟨k, hk, hx⟩, d3, g3⟩
            have hy : -1 ≤ y ∧ y ≤ 1000001 := by rw [hx]; exact getD_bd _ k _ _ (by decide) hk
            have HDa : Hid (Dc w1 wa g v zs) := HDW.out.draw d3 g3
            have HOa : Hid (Ow .i64 3 w1.heap.size wa o' ys) := HOW.out.drawn g3 HDW.out.lt
            clear d3 g3 hx hk hW HDW HOW HRW HAP
            go_wp2
            go_ret2
            exact ⟨_, ys, _, rfl, HOa.out.rd, HDa.out.ahead HB.out.1 HB.out.2⟩
    case true =>
      obtain ⟨W, hW⟩ : ∃ W, wa.alloc (Obj.cells #[.int .i64 0, .int .i64 65535, .int .i64 65536, .int .i64 7] 3) = W := ⟨_, rfl⟩
      have al : Below wa.heap.size wa W := by rw [← hW]; exact (Below.refl _ _).alloc (Nat.le_refl _) _
      have HDW : Hid (Dc w1 W g v zs) := HDa.out.below al
      have HOW : Hid (Ow .i64 3 w1.heap.size W o' ys) := HOa.out.below al
      have HRW : Hid (Rd .i64 W (.slice (some ⟨wa.heap.size, 0, none⟩) 4 4) [0, 65535, 65536, 7]) := by
        have := Rd.lit wa [0, 65535, 65536, 7] (by simp)
        rw [← hW]; exact this
      have HAP : Hid ((Value.slice (some ⟨wa.heap.size, 0, none⟩) 4 4).ownBlock = none ∨ (Value.slice (some ⟨wa.heap.size, 0, none⟩) 4 4).ownBlock ≠ some g) := by
        right; have := HDa.out.dr.lt; simp [Value.ownBlock]; omega
      clear al HDa HOa
      go_wp2_with (fail)
      refine (pickInt_c _ _ _ _ [0, 65535, 65536, 7] _ HDW.out.dr HRW.out HAP.out (by simp) (by simp)).mono ?_
      rintro e wa ⟨y, rfl, ⟨k, hk, hx⟩, d3, g3⟩
      have hy : 0 ≤ y ∧ y ≤ 65536 := by rw [hx]; exact getD_bd _ k _ _ (by decide) hk
      have HDa : Hid (Dc w1 wa g v zs) := HDW.out.draw d3 g3
      have HOa : Hid (Ow .i64 3 w1.heap.size wa o' ys) := HOW.out.drawn g3 HDW.out.lt
      clear d3 g3 hx hk hW HDW HOW HRW HAP
      have HSZ : Hid (w1.heap.size ≤ wa.heap.size) := HDa.out.gr.size
      go_wp2_with (at_builtin; refine appI rfl (.tmp 25) (.tmp 29) rfl w1.heap.size _ ys rfl (HOa.out.alloc _) wa.heap.size y rfl (by simp) (by have := HL.out.1; omega) (by have := HSZ.out; simp; omega) ?_)
      intro v6 w6 ho hb
      have HO6 : Hid (Ow .i64 3 w1.heap.size w6 v6 (ys ++ [y])) := ho
      have HD6 : Hid (Dc w1 w6 g v zs) := (HDa.out.below ((Below.refl _ _).alloc (Nat.le_refl _) _)).belowB hb
      clear ho hb HOa HDa HSZ
      obtain ⟨ys', hys⟩ : ∃ t, ys ++ [y] = t := ⟨_, rfl⟩
      rw [hys] at HO6
      have HL' : Hid (ys'.length ≤ 6 ∧ bkP ys') := by rw [← hys]; exact ⟨by have := HL.out.1; simp; omega, bkP_app HL.out.2 hy⟩
      clear HL hys
      have HL : Hid (ys'.length ≤ 6 ∧ bkP ys') := HL'.out
      clear HL'
      obtain ⟨wa, hwa⟩ : ∃ W, w6 = W := ⟨_, rfl⟩
      obtain ⟨o', ho'⟩ : ∃ W, v6 = W := ⟨_, rfl⟩
      subst hwa ho'
      have HDa : Hid (Dc w1 w6 g v zs) := HD6.out
      have HOa : Hid (Ow .i64 3 w1.heap.size w6 v6 ys') := HO6.out
      clear HD6 HO6
      go_wp2_with (fail)
      refine (below_c _ _ _ _ _ HDa.out.dr (by omega)).mono ?_
      rintro e wa ⟨fr, rfl, f0, f1, -, d1, g1⟩
      have f2 := f1 (by omega)
      have HDb : Hid (Dc w1 wa g v zs) := HDa.out.draw d1 g1
      have HOb : Hid (Ow .i64 3 w1.heap.size wa v6 ys') := HOa.out.drawn g1 HDa.out.lt
      clear d1 g1 f1 HDa HOa
      have HDa : Hid (Dc w1 wa g v zs) := HDb.out
      have HOa : Hid (Ow .i64 3 w1.heap.size wa v6 ys') := HOb.out
      clear HDb HOb
      go_wp2_with (fail)
      refine (once_c _ _ _ _ _ HDa.out.dr (by omega)).mono ?_
      rintro e wa ⟨p, rfl, d1, g1⟩
      have HDb : Hid (Dc w1 wa g v zs) := HDa.out.draw d1 g1
      have HOb : Hid (Ow .i64 3 w1.heap.size wa v6 ys') := HOa.out.drawn g1 HDa.out.lt
      clear d1 g1 HDa HOa
      have HDa : Hid (Dc w1 wa g v zs) := HDb.out
      have HOa : Hid (Ow .i64 3 w1.heap.size wa v6 ys') := HOb.out
      clear HDb HOb
      have hlv : ∃ c : Nat, ∃ a, v6 = .slice a ys'.length c := by
        rcases (show World.ownsRow wa w1.heap.size 3 1 v6 ys'.length (ys'.map (Value.int .i64)) from HOa.out).2 with ⟨rfl, h0⟩ | ⟨gg, cap, cur, hv, hb, -⟩
        · exact ⟨0, none, by rw [h0]⟩
        · exact ⟨cap, _, hv⟩
      cases p
      case false =>
        go_wp2_with (fail)
        refine (once_c _ _ _ _ _ HDa.out.dr (by omega)).mono ?_
        rintro e wa ⟨p, rfl, d1, g1⟩
        have HDb : Hid (Dc w1 wa g v zs) := HDa.out.draw d1 g1
        have HOb : Hid (Ow .i64 3 w1.heap.size wa v6 ys') := HOa.out.drawn g1 HDa.out.lt
        clear d1 g1 HDa HOa
        have HDa : Hid (Dc w1 wa g v zs) := HDb.out
        have HOa : Hid (Ow .i64 3 w1.heap.size wa v6 ys') := HOb.out
        clear HDb HOb
        cases p
        case false =>
          go_wp2
          go_ret2
          exact ⟨_, ys', _, rfl, HOa.out.rd, HDa.out.ahead HB.out.1 HB.out.2⟩
        case true =>
          obtain ⟨W, hW⟩ : ∃ W, wa.alloc (Obj.cells #[.int .i64 (-1), .int .i64 1000000, .int .i64 1000001] 3) = W := ⟨_, rfl⟩
          have al : Below wa.heap.size wa W := by rw [← hW]; exact (Below.refl _ _).alloc (Nat.le_refl _) _
          have HDW : Hid (Dc w1 W g v zs) := HDa.out.below al
          have HOW : Hid (Ow .i64 3 w1.heap.size W v6 ys') := HOa.out.below al
          have HRW : Hid (Rd .i64 W (.slice (some ⟨wa.heap.size, 0, none⟩) 3 3) [-1, 1000000, 1000001]) := by
            have := Rd.lit wa [-1, 1000000, 1000001] (by simp)
            rw [← hW]; exact this
          have HAP : Hid ((Value.slice (some ⟨wa.heap.size, 0, none⟩) 3 3).ownBlock = none ∨ (Value.slice (some ⟨wa.heap.size, 0, none⟩) 3 3).ownBlock ≠ some g) := by
            right; have := HDa.out.dr.lt; simp [Value.ownBlock]; omega
          clear al HDa HOa
          go_wp2_with (fail)
          refine (pickInt_c _ _ _ _ [-1, 1000000, 1000001] _ HDW.out.dr HRW.out HAP.out (by simp) (by simp)).mono ?_
          rintro e wa ⟨y, rfl, ⟨k, hk, hx⟩, d3, g3⟩
          have hy : -1 ≤ y ∧ y ≤ 1000001 := by rw [hx]; exact getD_bd _ k _ _ (by decide) hk
          have HDa : Hid (Dc w1 wa g v zs) := HDW.out.draw d3 g3
          have HOa : Hid (Ow .i64 3 w1.heap.size wa v6 ys') := HOW.out.drawn g3 HDW.out.lt
          clear d3 g3 hx hk hW HDW HOW HRW HAP
          go_wp2
          go_ret2
          exact ⟨_, ys', _, rfl, HOa.out.rd, HDa.out.ahead HB.out.1 HB.out.2⟩
      case true =>
        obtain ⟨cc, aa, hov⟩ := hlv
        by_cases h0 : 0 < ys'.length
        case neg =>
          have h00 : ys' = [] := List.eq_nil_of_length_eq_zero (by omega)
          subst h00
          subst hov
          clear h0
          go_wp2_with (fail)
          refine (once_c _ _ _ _ _ HDa.out.dr (by omega)).mono ?_
          rintro e wa ⟨p, rfl, d1, g1⟩
          have HDb : Hid (Dc w1 wa g v zs) := HDa.out.draw d1 g1
          have HOb : Hid (Ow .i64 3 w1.heap.size wa (Value.slice aa ([] : List Int).length cc) ([] : List Int)) := HOa.out.drawn g1 HDa.out.lt
          clear d1 g1 HDa HOa
          have HDa : Hid (Dc w1 wa g v zs) := HDb.out
          have HOa : Hid (Ow .i64 3 w1.heap.size wa (Value.slice aa ([] : List Int).length cc) ([] : List Int)) := HOb.out
          clear HDb HOb
          cases p
          case false =>
            go_wp2
            go_ret2
            exact ⟨_, ([] : List Int), _, rfl, HOa.out.rd, HDa.out.ahead HB.out.1 HB.out.2⟩
          case true =>
            obtain ⟨W, hW⟩ : ∃ W, wa.alloc (Obj.cells #[.int .i64 (-1), .int .i64 1000000, .int .i64 1000001] 3) = W := ⟨_, rfl⟩
            have al : Below wa.heap.size wa W := by rw [← hW]; exact (Below.refl _ _).alloc (Nat.le_refl _) _
            have HDW : Hid (Dc w1 W g v zs) := HDa.out.below al
            have HOW : Hid (Ow .i64 3 w1.heap.size W (Value.slice aa ([] : List Int).length cc) ([] : List Int)) := HOa.out.below al
            have HRW : Hid (Rd .i64 W (.slice (some ⟨wa.heap.size, 0, none⟩) 3 3) [-1, 1000000, 1000001]) := by
              have := Rd.lit wa [-1, 1000000, 1000001] (by simp)
              rw [← hW]; exact this
            have HAP : Hid ((Value.slice (some ⟨wa.heap.size, 0, none⟩) 3 3).ownBlock = none ∨ (Value.slice (some ⟨wa.heap.size, 0, none⟩) 3 3).ownBlock ≠ some g) := by
              right; have := HDa.out.dr.lt; simp [Value.ownBlock]; omega
            clear al HDa HOa
            go_wp2_with (fail)
            refine (pickInt_c _ _ _ _ [-1, 1000000, 1000001] _ HDW.out.dr HRW.out HAP.out (by simp) (by simp)).mono ?_
            rintro e wa ⟨y, rfl, ⟨k, hk, hx⟩, d3, g3⟩
            have hy : -1 ≤ y ∧ y ≤ 1000001 := by rw [hx]; exact getD_bd _ k _ _ (by decide) hk
            have HDa : Hid (Dc w1 wa g v zs) := HDW.out.draw d3 g3
            have HOa : Hid (Ow .i64 3 w1.heap.size wa (Value.slice aa ([] : List Int).length cc) ([] : List Int)) := HOW.out.drawn g3 HDW.out.lt
            clear d3 g3 hx hk hW HDW HOW HRW HAP
            go_wp2
            go_ret2
            exact ⟨_, ([] : List Int), _, rfl, HOa.out.rd, HDa.out.ahead HB.out.1 HB.out.2⟩
        case pos =>
          have hi3 : decide ((0 : Int) < (ys'.length : Int)) = true := decide_eq_true (by omega)
          clear hov
          obtain ⟨gl, cl, hov, hgl⟩ : ∃ gl cl, v6 = .slice (some ⟨gl, 0, none⟩) ys'.length cl ∧ w1.heap.size ≤ gl := by
            rcases (show World.ownsRow wa w1.heap.size 3 1 v6 ys'.length (ys'.map (Value.int .i64)) from HOa.out).2 with ⟨_, h0⟩ | ⟨gg, cap, cur, hv, hb, -⟩
            · omega
            · exact ⟨gg, cap, hv, hb⟩
          subst hov
          obtain ⟨z, hz⟩ : ∃ z, ys'.getD 0 0 = z := ⟨_, rfl⟩
          have hzb : 0 ≤ z ∧ z ≤ 65536 := by rw [← hz]; exact getD_bd _ 0 _ _ HL.out.2 (by omega)
          have HCE : Hid (∀ W, Ow .i64 3 w1.heap.size W (.slice (some ⟨gl, 0, none⟩) ys'.length cl) ys' → W.cell? ⟨gl, 0, none⟩ = some (.int .i64 z)) := fun W oo => by
            unfold Ow at oo
            rw [oo.cellAt 0 (by omega), List.getElem?_map, List.getElem?_eq_getElem (by omega), ← hz]
            simp [List.getElem?_eq_getElem (show 0 < ys'.length by omega)]
          obtain ⟨S, hS⟩ : ∃ S : World → Prop, ∀ W, S W ↔ W.cell? ⟨gl, 0, none⟩ = some (.int .i64 z) := ⟨_, fun _ => Iff.rfl⟩
          have y0 : ∀ W : At S, W.wd.cell? ⟨gl, 0, none⟩ = some (.int .i64 z) := fun W => (hS _).1 W.ok
          have HS : Hid (∀ W, S W ↔ W.cell? ⟨gl, 0, none⟩ = some (.int .i64 z)) := hS
          have HDD : Hid (Dc w1 wa.drew g v zs) := HDa.out.below (Below.refl _ _).drew
          have HOD : Hid (Ow .i64 3 w1.heap.size wa.drew (.slice (some ⟨gl, 0, none⟩) ys'.length cl) ys') := HOa.out.below (Below.refl _ _).drew
          have HSD : Hid (S wa.drew) := (hS _).2 (HCE.out _ HOD.out)
          have ne : Nonempty (At S) := ⟨⟨_, HSD.out⟩⟩
          have hi2 : (0 : Int) < (ys'.length : Int) := by omega
          clear hz hS HDa HOa
          go_wp2
          refine region_mixT [true, true, true, true, false, false, false] 7 3 S (by kernel_rfl) rfl (by kernel_rfl) (fun _ _ _ _ _ h => h) HSD.out ?_
          simp only [selT, selF]
          try simp only [Act.put]
          repeat (go_big_quiet_step (fail))
          refine wpQuiet_nil ?_
          refine tail_step ?_
          clear y0 ne
          go_wp2_with (fail)
          refine (below_c g v zs _ _ HDD.out.dr (by omega)).mono ?_
          rintro e wa ⟨x', rfl, x'0, x'1, -, d1, g1⟩
          have x'2 := x'1 (by omega)
          obtain ⟨v6, ho'⟩ : ∃ v6, Value.slice (some ⟨gl, 0, none⟩) ys'.length cl = v6 := ⟨_, rfl⟩
          have HDa : Hid (Dc w1 wa g v zs) := HDD.out.draw d1 g1
          have HOa0 : Hid (Ow .i64 3 w1.heap.size wa (.slice (some ⟨gl, 0, none⟩) ys'.length cl) ys') := HOD.out.drawn g1 HDD.out.lt
          have HS7 : Hid (S wa) := (HS.out _).2 (HCE.out _ HOa0.out)
          have HOa : Hid (Ow .i64 3 w1.heap.size wa v6 ys') := by rw [← ho']; exact HOa0.out
          have HHO : Hid (Value.slice (some ⟨gl, 0, none⟩) ys'.length cl = v6) := ho'
          clear d1 g1 x'1 HDD HOD HSD HOa0 HCE ho'
          have hpr : 0 ≤ z * x' ∧ z * x' ≤ 65536 := by
            rcases (show x' = 0 ∨ x' = 1 by omega) with e | e <;> subst e <;> simp <;> omega
          have hp0 := hpr.1
          have hp1 := hpr.2
          clear hpr
          rw [HHO.out]
          go_wp2
          refine ⟨HS7.out, tail_step ?_⟩
          go_wp2
          refine ⟨HS7.out, tail_step ?_⟩
          go_wp2
          refine ⟨HS7.out, tail_end ?_⟩
          go_wp2_with (fail)
          go_wp2_with (fail)
          refine (once_c _ _ _ _ _ HDa.out.dr (by omega)).mono ?_
          rintro e wa ⟨p, rfl, d1, g1⟩
          have HDb : Hid (Dc w1 wa g v zs) := HDa.out.draw d1 g1
          have HOb : Hid (Ow .i64 3 w1.heap.size wa v6 ys') := HOa.out.drawn g1 HDa.out.lt
          clear d1 g1 HDa HOa
          have HDa : Hid (Dc w1 wa g v zs) := HDb.out
          have HOa : Hid (Ow .i64 3 w1.heap.size wa v6 ys') := HOb.out
          clear HDb HOb
          cases p
          case false =>
            go_wp2
            go_ret2
            exact ⟨_, ys', _, rfl, HOa.out.rd, HDa.out.ahead HB.out.1 HB.out.2⟩
          case true =>
            obtain ⟨W, hW⟩ : ∃ W, wa.alloc (Obj.cells #[.int .i64 (-1), .int .i64 1000000, .int .i64 1000001] 3) = W := ⟨_, rfl⟩
            have al : Below wa.heap.size wa W := by rw [← hW]; exact (Below.refl _ _).alloc (Nat.le_refl _) _
            have HDW : Hid (Dc w1 W g v zs) := HDa.out.below al
            have HOW : Hid (Ow .i64 3 w1.heap.size W v6 ys') := HOa.out.below al
            have HRW : Hid (Rd .i64 W (.slice (some ⟨wa.heap.size, 0, none⟩) 3 3) [-1, 1000000, 1000001]) := by
              have := Rd.lit wa [-1, 1000000, 1000001] (by simp)
              rw [← hW]; exact this
            have HAP : Hid ((Value.slice (some ⟨wa.heap.size, 0, none⟩) 3 3).ownBlock = none ∨ (Value.slice (some ⟨wa.heap.size, 0, none⟩) 3 3).ownBlock ≠ some g) := by
              right; have := HDa.out.dr.lt; simp [Value.ownBlock]; omega
            clear al HDa HOa
            go_wp2_with (fail)
            refine (pickInt_c _ _ _ _ [-1, 1000000, 1000001] _ HDW.out.dr HRW.out HAP.out (by simp) (by simp)).mono ?_
            rintro e wa ⟨y, rfl, ⟨k, hk, hx⟩, d3, g3⟩
            have hy : -1 ≤ y ∧ y ≤ 1000001 := by rw [hx]; exact getD_bd _ k _ _ (by decide) hk
            have HDa : Hid (Dc w1 wa g v zs) := HDW.out.draw d3 g3
            have HOa : Hid (Ow .i64 3 w1.heap.size wa v6 ys') := HOW.out.drawn g3 HDW.out.lt
            clear d3 g3 hx hk hW HDW HOW HRW HAP
            go_wp2
            go_ret2
            exact ⟨_, ys', _, rfl, HOa.out.rd, HDa.out.ahead HB.out.1 HB.out.2⟩

end Go.Proofs.Ytpkkmlgmdhcehaa

/- DrawFair; no condition. -/
import Derived.Test.YtiadakponjpkmaaGnd
import Derived.Test.YtiadakponjpkmaaDrc
namespace Go.Proofs.Ytiadakponjpkmaa
open Go.RowKit Go.ChangeShapes Go.WideShapes Go.ChangeAt
set_option linter.unusedVariables false
set_option linter.unusedSimpArgs false
set_option maxRecDepth 8000

/-- rows of one's own that are still drawn beside -/
structure Gq (w1 W : World) (g : Nat) (cv : Value) (code : List Int) (v : Value) (us : List Value) (ls : List (List Int)) : Prop where
  len : us.length = ls.length
  row : W.ownsRow w1.heap.size 35 1 v us.length us
  own : ∀ i, i < ls.length → Ow .i64 3 w1.heap.size W (us.getD i vN) (ls.getD i [])
  dc : Dc w1 W g cv code
theorem Gd.gq {w1 W : World} {g : Nat} {cv : Value} {code : List Int} {v : Value} {us : List Value} {ls : List (List Int)} (h : Gd w1 W g cv code v us ls) : Gq w1 W g cv code v us ls := ⟨h.len, h.row, h.own, h.dc⟩
theorem Gq.below {w1 W W' : World} {g : Nat} {cv : Value} {code : List Int} {v : Value} {us : List Value} {ls : List (List Int)} (h : Gq w1 W g cv code v us ls) (hb : Below W.heap.size W W') : Gq w1 W' g cv code v us ls :=
  ⟨h.len, World.ownsRow.kept (row := none) h.row ⟨hb.os, hb.tape, hb.output, hb.size, fun j hj _ => hb.block j hj⟩ (by cases v.ownBlock <;> simp), fun i hi => (h.own i hi).below hb, h.dc.below hb⟩
def LsB (ls : List (List Int)) : Prop := ls.length ≤ 9 ∧ ∀ i, i < ls.length → (ls.getD i []).length ≤ 61
set_option maxHeartbeats 12800000 in
/-- the end of DrawFair: the turns are picked -/
theorem fair_end {w1 W W2 : World} {g : Nat} {cv : Value} {code : List Int} {v : Value} {us : List Value} {ls : List (List Int)} (h : Gq w1 W g cv code v us ls) (hg : W.grownBy W2 (some g)) : Rn W2 v ls := rows_keep h.len h.row h.own hg h.dc.lt
set_option maxHeartbeats 12800000 in
theorem drawFair_c (v : Value) (code : List Int) (w : World) (h : Rd .u8 w v code) (hok : ∀ z ∈ code, 0 ≤ z ∧ z ≤ 255) (hlen : code.length ≤ 2097152) :
   Calls Try.prog 26 #[v] w fun e w' => ∃ (u : Value) (t : Int) (ls : List (List Int)), e = .returned (.tuple #[u, .int .i64 t]) ∧ Rn w' u ls ∧ LsB ls ∧ (-1 ≤ t ∧ t ≤ 501) ∧ Below w.heap.size w w' := by
  go_enter Try.func26, Try.ntmps26
  go_wp2_with (fail)
  refine (new_c v code w h hok hlen).mono ?_
  rintro e w1 ⟨g, rfl, d1, hg, b1⟩
  have HB : Hid (Below w.heap.size w w1 ∧ w.heap.size ≤ g) := ⟨b1, hg⟩
  have HD1 : Hid (Dc w1 w1 g v code) := Dc.start d1
  obtain ⟨W0, hW0⟩ : ∃ W, w1.alloc (Obj.cells #[] 35) = W := ⟨_, rfl⟩
  obtain ⟨v0, hv0⟩ : ∃ v, Value.slice (some ⟨w1.heap.size, 0, none⟩) 0 0 = v := ⟨_, rfl⟩
  have HG0 : Hid (Gd w1 W0 g v code v0 [] []) := by rw [← hW0, ← hv0]; exact Gd.start HD1.out
  have HW0 : Hid (w1.alloc (Obj.cells #[] 35) = W0 ∧ Value.slice (some ⟨w1.heap.size, 0, none⟩) 0 0 = v0) := ⟨hW0, hv0⟩
  clear d1 hg b1 h hok hW0 hv0 HD1
  go_wp2_with (fail)
  rw [HW0.out.1, HW0.out.2]
  clear HW0
  refine (below_c g v code 5 _ HG0.out.dc.dr (by omega)).mono ?_
  rintro e w2 ⟨r, rfl, r0, r1, -, d1, g1⟩
  have r2 := r1 (by omega)
  have HG2 : Hid (Gd w1 w2 g v code v0 [] []) := HG0.out.draw d1 g1
  clear d1 g1 r1 HG0
  obtain ⟨n, rfl⟩ := Int.eq_ofNat_of_zero_le r0
  go_wp2
  go_loopw [5, 6] (fun o i wr => ∃ (j : Nat) (o' : Value) (us : List Value) (ls : List (List Int)), i = .int .i64 j ∧ o' = o ∧ j ≤ 5 ∧ Hid (ls.length + j ≤ 5 ∧ ∀ i, i < ls.length → (ls.getD i []).length ≤ 61) ∧ Hid (Gd w1 wr g v code o' us ls)) (fun _ i _ => (intOf i).toNat)
  case atStart => exact ⟨n, _, [], [], rfl, rfl, by omega, ⟨by simp; omega, fun i hi => by simp at hi⟩, HG2.out⟩
  case round =>
    obtain ⟨j, o', us, ls, rfl, ho', hj, hY, hG⟩ := hrel
    subst ho'
    clear HG2 r0 r2
    by_cases hlt : 0 < j
    case pos =>
      have hltI : (0 : Int) < (j : Int) := by omega
      have hltD : decide ((0 : Int) < (j : Int)) = true := decide_eq_true hltI
      obtain ⟨wz, hwz⟩ : ∃ W, W = wr := ⟨_, rfl⟩
      subst hwz
      obtain ⟨W1, hW1⟩ : ∃ W, wz.alloc (Obj.cells #[] 3) = W := ⟨_, rfl⟩
      obtain ⟨v1, hv1⟩ : ∃ v, Value.slice (some ⟨wz.heap.size, 0, none⟩) 0 0 = v := ⟨_, rfl⟩
      have HO1 : Hid (Ow .i64 3 wz.heap.size W1 v1 []) := by rw [← hW1, ← hv1]; exact Ow.empty .i64 3 _ wz (Nat.le_refl _)
      have HC1 : Hid (Dc wz W1 g v code) := by rw [← hW1]; exact (Dc.start hG.out.dc.dr).below ((Below.refl _ _).alloc (Nat.le_refl _) _)
      have HW1 : Hid (wz.alloc (Obj.cells #[] 3) = W1 ∧ Value.slice (some ⟨wz.heap.size, 0, none⟩) 0 0 = v1) := ⟨hW1, hv1⟩
      clear hW1 hv1
      go_wp2_with (fail)
      rw [HW1.out.1, HW1.out.2]
      clear HW1
      refine (below_c g v code 8 _ HC1.out.dr (by omega)).mono ?_
      rintro e w3 ⟨x, rfl, x0, x1, -, d1, g1⟩
      have x2 := x1 (by omega)
      have HC3 : Hid (Dc wz w3 g v code) := HC1.out.draw d1 g1
      have HO3 : Hid (Ow .i64 3 wz.heap.size w3 v1 []) := HO1.out.drawn g1 HC1.out.lt
      clear d1 g1 x1 HC1 HO1
      obtain ⟨m, rfl⟩ := Int.eq_ofNat_of_zero_le x0
      go_wp2
      go_loopw [7, 8] (fun o i wr => ∃ (k : Nat) (q' : Value) (rs : List Int), i = .int .i64 k ∧ q' = o ∧ k ≤ 8 ∧ Hid (rs.length + k ≤ 8) ∧ Hid (Ow .i64 3 wz.heap.size wr q' rs) ∧ Hid (Dc wz wr g v code)) (fun _ i _ => (intOf i).toNat)
      case atStart => exact ⟨m, _, [], rfl, rfl, by omega, by show _ ≤ _; simp; omega, HO3.out, HC3.out⟩
      case round =>
        obtain ⟨k, q', rs, rfl, hq', hk, hL, hO, hC⟩ := hrel
        subst hq'
        clear HO3 HC3 x0 x2
        by_cases hkt : 0 < k
        case pos =>
          have hktI : (0 : Int) < (k : Int) := by omega
          have hktD : decide ((0 : Int) < (k : Int)) = true := decide_eq_true hktI
          go_wp2_with (fail)
          refine (below_c g v code 100 _ hC.out.dr (by omega)).mono ?_
          rintro e w4 ⟨y, rfl, y0, y1, -, d1, g1⟩
          have HC4 : Hid (Dc wz w4 g v code) := hC.out.draw d1 g1
          have HO4 : Hid (Ow .i64 3 wz.heap.size w4 q' rs) := hO.out.drawn g1 hC.out.lt
          have HSZ : Hid (wz.heap.size ≤ w4.heap.size) := HC4.out.gr.size
          have HLN : Hid (rs.length ≤ 1000) := by show _ ≤ _; have := hL.out; omega
          clear d1 g1 y1 hC hO
          go_wp2_with (at_builtin; refine appI rfl (.tmp 25) (.tmp 28) rfl wz.heap.size _ rs rfl (HO4.out.alloc _) w4.heap.size y rfl (by simp) (by have := HLN.out; omega) (by have := HSZ.out; simp; omega) ?_)
          intro v6 w6 ho hb
          have HO6 : Hid (Ow .i64 3 wz.heap.size w6 v6 (rs ++ [y])) := ho
          have HC6 : Hid (Dc wz w6 g v code) := (HC4.out.below ((Below.refl _ _).alloc (Nat.le_refl _) _)).belowB hb
          have HL6 : Hid ((rs ++ [y]).length + (k - 1) ≤ 8) := by show _ ≤ _; have := hL.out; simp; omega
          clear ho hb HO4 HC4
          go_wp2
          go_roundw
          case rel => exact ⟨k - 1, _, _, by go_num, rfl, by omega, HL6.out, HO6.out, HC6.out⟩
          case measure => simp [intOf]; omega
        case neg =>
        obtain rfl : k = 0 := by omega
        clear hkt hk
        obtain ⟨ad, cc, hvq, -⟩ := own_form hO.out
        have HG2 : Hid (Gd w1 wr g v code o' us ls) := hG.out.grown hC.out
        have HBL := hG.out.blt
        have HUL : Hid (us.length ≤ 1000) := by show _ ≤ _; rw [hG.out.len]; have := hY.out.1; omega
        have HSZ : Hid (w1.heap.size ≤ wr.heap.size) := HG2.out.size
        have HSW : Hid (w1.heap.size ≤ wz.heap.size) := hG.out.size
        have HY2 : Hid ((ls ++ [rs]).length + (j - 1) ≤ 5 ∧ ∀ i, i < (ls ++ [rs]).length → ((ls ++ [rs]).getD i []).length ≤ 61) := ⟨by have := hY.out.1; simp; omega, fun i hi => by
          simp at hi
          rcases Nat.lt_or_ge i ls.length with hlt | hge
          · have e2 : (ls ++ [rs]).getD i [] = ls.getD i [] := by simp [List.getElem?_append_left hlt]
            rw [e2]; exact hY.out.2 i hlt
          · obtain rfl : i = ls.length := by omega
            rw [List.getD_eq_getElem?_getD, List.getElem?_append_right (Nat.le_refl _)]; have := hL.out; simp; omega⟩
        have HPU : Hid (∀ v' w', w'.ownsRow w1.heap.size 35 1 v' (us ++ [q']).length (us ++ [q']) → (wr.alloc (Obj.cells #[q'] 35)).grownBy w' o'.ownBlock → (v'.ownBlock = o'.ownBlock ∨ v'.ownBlock = some (wr.alloc (Obj.cells #[q'] 35)).heap.size) → Gd w1 w' g v code v' (us ++ [q']) (ls ++ [rs])) := fun v' w' h1 h2 h3 => HG2.out.push HSW.out HBL.1 HBL.2 hO.out ((Below.refl _ _).alloc (Nat.le_refl _) _) h1 h2 h3
        have HRW : Hid ((wr.alloc (Obj.cells #[q'] 35)).ownsRow w1.heap.size 35 1 o' us.length us) := World.ownsRow.alloc HG2.out.row _
        rw [hvq] at HPU HRW ⊢
        clear hvq HBL hO hC hG HG2 hY
        go_wp2_with (at_builtin; refine appRow rfl (.tmp 30) (.tmp 32) rfl w1.heap.size _ us rfl HRW.out wr.heap.size ad rs.length cc rfl (by simp) (by have := HUL.out; omega) (by have := HSZ.out; simp; omega) ?_)
        intro v6 w6 h1 h2 h3
        have HG6 := HPU.out v6 w6 (by simpa using h1) h2 (by simpa using h3)
        have HG6 : Hid (Gd w1 w6 g v code v6 (us ++ [.slice ad rs.length cc]) (ls ++ [rs])) := HG6
        clear h1 h2 h3 HPU HRW
        go_wp2
        go_roundw
        case rel => exact ⟨j - 1, _, _, ls ++ [rs], by go_num, rfl, by omega, HY2.out, HG6.out⟩
        case measure => simp [intOf]; omega
    case neg =>
    obtain rfl : j = 0 := by omega
    clear hlt hj
    have HLS : Hid (ls.length ≤ 5 ∧ ∀ i, i < ls.length → (ls.getD i []).length ≤ 61) := ⟨by have := hY.out.1; omega, hY.out.2⟩
    clear hY
    go_wp2_with (fail)
    refine (below_c g v code 30 _ hG.out.dc.dr (by omega)).mono ?_
    rintro e w3 ⟨r, rfl, r0, r1, -, d1, g1⟩
    have r2 := r1 (by omega)
    have HG3 : Hid (Gd w1 w3 g v code o' us ls) := hG.out.draw d1 g1
    clear d1 g1 r1 hG
    by_cases hr : r = 0
    case pos =>
      subst hr
      go_wp2_with (fail)
      refine (below_c g v code 2 _ HG3.out.dc.dr (by omega)).mono ?_
      rintro e w4 ⟨x, rfl, x0, x1, -, d1, g1⟩
      have x2 := x1 (by omega)
      have HG4 : Hid (Gd w1 w4 g v code o' us ls) := HG3.out.draw d1 g1
      clear d1 g1 x1 HG3 r0 r2
      obtain ⟨m, rfl⟩ := Int.eq_ofNat_of_zero_le x0
      obtain ⟨MM, hM⟩ : ∃ M : Nat, 60 + m = M := ⟨_, rfl⟩
      have hM2 : 60 + m ≤ 61 := by omega
      have HM : Hid (60 + m = MM) := hM
      clear hM
      obtain ⟨i0, hi, hz0, hz1, hz2⟩ := info_parts toIInfo
      go_wp2_with (at_make; refine wpList_make_full _ rfl _ _ 35 rfl w4.heap.size 3 i0 (.int .i64 0) 1 Try.underlying35 hi hz0 hz1 .i64 .i64 _ _ (60 + m) rfl rfl rfl rfl (by rw [hz2]; omega) (by unfold maxLen; omega) (Nat.le_refl _) ?_)
      intro w5 ho hg
      obtain ⟨M, hMM⟩ : ∃ M, MM = M := ⟨_, rfl⟩
      rw [HM.out, hMM] at ho hM2 ⊢
      clear HM hMM
      have bM : Below w4.heap.size w4 w5 := grown_below hg (Nat.le_refl _) (by simp)
      have HO5 : Hid (Ow .i64 3 w4.heap.size w5 (.slice (some ⟨w4.heap.size, 0, none⟩) M M) (List.replicate M 0)) := by
        show Ow _ _ _ _ _ _
        rw [Ow]
        rw [toList_madeCells_one] at ho
        simpa using ho
      have HG5 : Hid (Gd w1 w5 g v code o' us ls) := HG4.out.below bM
      have HBL := HG4.out.blt
      have HUL : Hid (us.length ≤ 1000) := by show _ ≤ _; rw [HG4.out.len]; have := HLS.out.1; omega
      have HSZ : Hid (w1.heap.size ≤ w5.heap.size) := HG5.out.size
      have HSW : Hid (w1.heap.size ≤ w4.heap.size) := HG4.out.size
      have HY2 : Hid (LsB (ls ++ [List.replicate M 0])) := ⟨by have := HLS.out.1; simp; omega, fun i hi => by
        simp at hi
        rcases Nat.lt_or_ge i ls.length with hlt | hge
        · have e2 : (ls ++ [List.replicate M 0]).getD i [] = ls.getD i [] := by simp [List.getElem?_append_left hlt]
          rw [e2]; exact HLS.out.2 i hlt
        · obtain rfl : i = ls.length := by omega
          rw [List.getD_eq_getElem?_getD, List.getElem?_append_right (Nat.le_refl _)]; simp; omega⟩
      obtain ⟨q', hq'⟩ : ∃ q, Value.slice (some ⟨w4.heap.size, 0, none⟩) M M = q := ⟨_, rfl⟩
      have HPU : Hid (∀ v' w', w'.ownsRow w1.heap.size 35 1 v' (us ++ [Value.slice (some ⟨w4.heap.size, 0, none⟩) M M]).length (us ++ [Value.slice (some ⟨w4.heap.size, 0, none⟩) M M]) → (w5.alloc (Obj.cells #[Value.slice (some ⟨w4.heap.size, 0, none⟩) M M] 35)).grownBy w' o'.ownBlock → (v'.ownBlock = o'.ownBlock ∨ v'.ownBlock = some (w5.alloc (Obj.cells #[Value.slice (some ⟨w4.heap.size, 0, none⟩) M M] 35)).heap.size) → Gd w1 w' g v code v' (us ++ [Value.slice (some ⟨w4.heap.size, 0, none⟩) M M]) (ls ++ [List.replicate M 0])) := fun v' w' h1 h2 h3 => HG5.out.push HSW.out HBL.1 HBL.2 HO5.out ((Below.refl _ _).alloc (Nat.le_refl _) _) h1 h2 h3
      have HRW : Hid ((w5.alloc (Obj.cells #[Value.slice (some ⟨w4.heap.size, 0, none⟩) M M] 35)).ownsRow w1.heap.size 35 1 o' us.length us) := World.ownsRow.alloc HG5.out.row _
      obtain ⟨z4, hz4⟩ : ∃ z, w4.heap.size = z := ⟨_, rfl⟩
      rw [hz4] at HPU HRW ⊢
      clear ho hg bM hq' HBL HG4 HG5 HO5 hz4 hi hz0 hz1 hz2
      go_wp2_with (at_builtin; refine appRow rfl (.tmp 38) (.tmp 43) rfl w1.heap.size _ us rfl HRW.out w5.heap.size (some ⟨z4, 0, none⟩) M M rfl (by simp) (by have := HUL.out; omega) (by have := HSZ.out; simp; omega) ?_)
      intro v6 w6 h1 h2 h3
      have HG6 : Hid (Gq w1 w6 g v code v6 (us ++ [.slice (some ⟨z4, 0, none⟩) M M]) (ls ++ [List.replicate M 0])) := (HPU.out v6 w6 (by simpa using h1) h2 (by simpa using h3)).gq
      clear h1 h2 h3 HPU HRW
      obtain ⟨WL, hWL⟩ : ∃ W, w6.alloc (Obj.cells #[.int .i64 0, .int .i64 1, .int .i64 5, .int .i64 12, .int .i64 500, .int .i64 501, .int .i64 (-1), .int .i64 9] 3) = W := ⟨_, rfl⟩
      have ba : Below w6.heap.size w6 WL := by rw [← hWL]; exact (Below.refl _ _).alloc (Nat.le_refl _) _
      have HLR : Hid (Rd .i64 WL (.slice (some ⟨w6.heap.size, 0, none⟩) 8 8) [0, 1, 5, 12, 500, 501, -1, 9]) := by rw [← hWL]; exact Rd.lit w6 [0, 1, 5, 12, 500, 501, -1, 9] (by decide)
      have HLN : Hid (g < w6.heap.size) := HG6.out.dc.dr.lt
      have HG7 : Hid (Gq w1 WL g v code v6 _ _) := HG6.out.below ba
      have HWL : Hid (w6.alloc (Obj.cells #[.int .i64 0, .int .i64 1, .int .i64 5, .int .i64 12, .int .i64 500, .int .i64 501, .int .i64 (-1), .int .i64 9] 3) = WL) := hWL
      clear ba hWL HG6
      go_wp2_with (fail)
      rw [HWL.out]
      refine (pickInt_c g v code _ [0, 1, 5, 12, 500, 501, -1, 9] _ HG7.out.dc.dr HLR.out (.inr (by have := HLN.out; simp [Value.ownBlock]; omega)) (by decide) (by decide)).mono ?_
      rintro e w9 ⟨t, rfl, ht, d1, g1⟩
      have htb : -1 ≤ t ∧ t ≤ 501 := by
        obtain ⟨k, hk, rfl⟩ := ht
        rcases (show k = 0 ∨ k = 1 ∨ k = 2 ∨ k = 3 ∨ k = 4 ∨ k = 5 ∨ k = 6 ∨ k = 7 by simp at hk; omega) with rfl | rfl | rfl | rfl | rfl | rfl | rfl | rfl <;> simp
      have HR9 : Hid (Rn w9 v6 _) := fair_end HG7.out g1
      have HB9 : Hid (Below w.heap.size w w9) := (HG7.out.dc.draw d1 g1).ahead HB.out.1 HB.out.2
      clear d1 g1 HG7 HLR HWL HLN ht
      go_wp2
      go_ret2
      exact ⟨_, _, _, rfl, HR9.out, HY2.out, htb, HB9.out⟩
    case neg =>
    by_cases hr1 : r = 1
    case pos =>
      subst hr1
      go_wp2_with (fail)
      refine (below_c g v code 2 _ HG3.out.dc.dr (by omega)).mono ?_
      rintro e w4 ⟨x, rfl, x0, x1, -, d1, g1⟩
      have x2 := x1 (by omega)
      have HD4 : Hid (Dc w1 w4 g v code) := HG3.out.dc.draw d1 g1
      clear d1 g1 x1 HG3 r0 r2 hr
      obtain ⟨m, rfl⟩ := Int.eq_ofNat_of_zero_le x0
      obtain ⟨MM, hM⟩ : ∃ M : Nat, 8 + m = M := ⟨_, rfl⟩
      have hM2 : 8 + m ≤ 9 := by omega
      have HM : Hid (8 + m = MM) := hM
      clear hM
      obtain ⟨i0, hi, hz0, hz1, hz2⟩ := info_parts toSInfo
      have HSW : Hid (w1.heap.size ≤ w4.heap.size) := HD4.out.gr.size
      go_wp2_with (at_make; refine wpList_make_full _ rfl _ _ 49 rfl w1.heap.size 35 i0 (.slice none 0 0) 1 Try.underlying49 hi hz0 hz1 .i64 .i64 _ _ (8 + m) rfl rfl rfl rfl (by rw [hz2]; omega) (by unfold maxLen; omega) HSW.out ?_)
      intro w5 ho hg
      obtain ⟨M, hMM⟩ : ∃ M, MM = M := ⟨_, rfl⟩
      rw [HM.out, hMM] at ho hM2 ⊢
      clear HM hMM
      have bM : Below w4.heap.size w4 w5 := grown_below hg (Nat.le_refl _) (by simp)
      have HG6 : Hid (Gq w1 w5 g v code (.slice (some ⟨w4.heap.size, 0, none⟩) M M) (List.replicate M (.slice none 0 0)) (List.replicate M [])) := by
        refine ⟨by simp, ?_, fun i hi => ?_, HD4.out.below bM⟩
        · rw [toList_madeCells_one] at ho
          simpa using ho
        · simp at hi
          have e1 : (List.replicate M (Value.slice none 0 0)).getD i vN = .slice none 0 0 := by simp [List.getElem?_replicate, hi]
          have e2 : (List.replicate M ([] : List Int)).getD i [] = [] := by simp [List.getElem?_replicate, hi]
          rw [e1, e2]; exact Ow.nil _ _ _ _
      have HY2 : Hid (LsB (List.replicate M [])) := ⟨by simp; omega, fun i hi => by simp at hi; simp [List.getElem?_replicate, hi]⟩
      obtain ⟨v6, hv6⟩ : ∃ v, Value.slice (some ⟨w4.heap.size, 0, none⟩) M M = v := ⟨_, rfl⟩
      rw [hv6] at HG6 ⊢
      clear ho hg bM hv6 hi hz0 hz1 hz2
      obtain ⟨WL, hWL⟩ : ∃ W, w5.alloc (Obj.cells #[.int .i64 0, .int .i64 1, .int .i64 5, .int .i64 12, .int .i64 500, .int .i64 501, .int .i64 (-1), .int .i64 9] 3) = W := ⟨_, rfl⟩
      have ba : Below w5.heap.size w5 WL := by rw [← hWL]; exact (Below.refl _ _).alloc (Nat.le_refl _) _
      have HLR : Hid (Rd .i64 WL (.slice (some ⟨w5.heap.size, 0, none⟩) 8 8) [0, 1, 5, 12, 500, 501, -1, 9]) := by rw [← hWL]; exact Rd.lit w5 [0, 1, 5, 12, 500, 501, -1, 9] (by decide)
      have HLN : Hid (g < w5.heap.size) := HG6.out.dc.dr.lt
      have HG7 : Hid (Gq w1 WL g v code v6 _ _) := HG6.out.below ba
      have HWL : Hid (w5.alloc (Obj.cells #[.int .i64 0, .int .i64 1, .int .i64 5, .int .i64 12, .int .i64 500, .int .i64 501, .int .i64 (-1), .int .i64 9] 3) = WL) := hWL
      clear ba hWL HG6
      go_wp2_with (fail)
      rw [HWL.out]
      refine (pickInt_c g v code _ [0, 1, 5, 12, 500, 501, -1, 9] _ HG7.out.dc.dr HLR.out (.inr (by have := HLN.out; simp [Value.ownBlock]; omega)) (by decide) (by decide)).mono ?_
      rintro e w9 ⟨t, rfl, ht, d1, g1⟩
      have htb : -1 ≤ t ∧ t ≤ 501 := by
        obtain ⟨k, hk, rfl⟩ := ht
        rcases (show k = 0 ∨ k = 1 ∨ k = 2 ∨ k = 3 ∨ k = 4 ∨ k = 5 ∨ k = 6 ∨ k = 7 by simp at hk; omega) with rfl | rfl | rfl | rfl | rfl | rfl | rfl | rfl <;> simp
      have HR9 : Hid (Rn w9 v6 _) := fair_end HG7.out g1
      have HB9 : Hid (Below w.heap.size w w9) := (HG7.out.dc.draw d1 g1).ahead HB.out.1 HB.out.2
      clear d1 g1 HG7 HLR HWL HLN ht
      go_wp2
      go_ret2
      exact ⟨_, _, _, rfl, HR9.out, HY2.out, htb, HB9.out⟩
    case neg =>
    have HG6 : Hid (Gq w1 w3 g v code o' us ls) := HG3.out.gq
    have HY2 : Hid (LsB ls) := ⟨by have := HLS.out.1; omega, HLS.out.2⟩
    have hr0' : (r == 0) = false := by simpa using hr
    have hr1' : (r == 1) = false := by simpa using hr1
    clear HG3 r0 r2
    obtain ⟨WL, hWL⟩ : ∃ W, w3.alloc (Obj.cells #[.int .i64 0, .int .i64 1, .int .i64 5, .int .i64 12, .int .i64 500, .int .i64 501, .int .i64 (-1), .int .i64 9] 3) = W := ⟨_, rfl⟩
    have ba : Below w3.heap.size w3 WL := by rw [← hWL]; exact (Below.refl _ _).alloc (Nat.le_refl _) _
    have HLR : Hid (Rd .i64 WL (.slice (some ⟨w3.heap.size, 0, none⟩) 8 8) [0, 1, 5, 12, 500, 501, -1, 9]) := by rw [← hWL]; exact Rd.lit w3 [0, 1, 5, 12, 500, 501, -1, 9] (by decide)
    have HLN : Hid (g < w3.heap.size) := HG6.out.dc.dr.lt
    have HG7 : Hid (Gq w1 WL g v code o' _ _) := HG6.out.below ba
    have HWL : Hid (w3.alloc (Obj.cells #[.int .i64 0, .int .i64 1, .int .i64 5, .int .i64 12, .int .i64 500, .int .i64 501, .int .i64 (-1), .int .i64 9] 3) = WL) := hWL
    clear ba hWL HG6
    go_wp2_with (fail)
    rw [HWL.out]
    refine (pickInt_c g v code _ [0, 1, 5, 12, 500, 501, -1, 9] _ HG7.out.dc.dr HLR.out (.inr (by have := HLN.out; simp [Value.ownBlock]; omega)) (by decide) (by decide)).mono ?_
    rintro e w9 ⟨t, rfl, ht, d1, g1⟩
    have htb : -1 ≤ t ∧ t ≤ 501 := by
      obtain ⟨k, hk, rfl⟩ := ht
      rcases (show k = 0 ∨ k = 1 ∨ k = 2 ∨ k = 3 ∨ k = 4 ∨ k = 5 ∨ k = 6 ∨ k = 7 by simp at hk; omega) with rfl | rfl | rfl | rfl | rfl | rfl | rfl | rfl <;> simp
    have HR9 : Hid (Rn w9 o' _) := fair_end HG7.out g1
    have HB9 : Hid (Below w.heap.size w w9) := (HG7.out.dc.draw d1 g1).ahead HB.out.1 HB.out.2
    clear d1 g1 HG7 HLR HWL HLN ht
    go_wp2
    go_ret2
    exact ⟨_, _, _, rfl, HR9.out, HY2.out, htb, HB9.out⟩

end Go.Proofs.Ytiadakponjpkmaa

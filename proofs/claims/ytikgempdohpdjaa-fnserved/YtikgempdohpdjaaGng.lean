/- l16DrawGains; no condition. -/
import Derived.Test.YtikgempdohpdjaaGnd
namespace Go.Proofs.Ytikgempdohpdjaa
open Go.RowKit Go.ChangeShapes Go.WideShapes Go.ChangeAt
set_option linter.unusedVariables false
set_option linter.unusedSimpArgs false
set_option maxRecDepth 8000

set_option maxHeartbeats 12800000 in
theorem drawGains_c (g : Nat) (cv : Value) (code : List Int) (w : World) (h : Dr w g cv code) :
   Calls Try.prog 58 #[.pointer (some ⟨g, 0, none⟩)] w fun e w' => ∃ v us ls, e = .returned v ∧ Gd w w' g cv code v us ls ∧ 1 ≤ ls.length ∧ ls.length ≤ 6 ∧ ∀ i, i < ls.length → (ls.getD i []).length = ls.length := by
  have HD0 : Hid (Dc w w g cv code) := Dc.start h
  clear h
  go_enter Try.func58, Try.ntmps58
  go_wp2_with (fail)
  refine (below_c g cv code 5 _ HD0.out.dr (by omega)).mono ?_
  rintro e w1 ⟨r, rfl, r0, r1, -, d1, g1⟩
  have r2 := r1 (by omega)
  have HD1 : Hid (Dc w w1 g cv code) := HD0.out.draw d1 g1
  clear d1 g1 r1 HD0
  obtain ⟨n, hn⟩ : ∃ n : Nat, 1 + r = (n : Int) := ⟨(1 + r).toNat, by omega⟩
  have hn1 : 1 ≤ n := by omega
  have hn2 : n ≤ 5 := by omega
  obtain ⟨W0, hW0⟩ : ∃ W, w1.alloc (Obj.cells #[] 27) = W := ⟨_, rfl⟩
  obtain ⟨v0, hv0⟩ : ∃ v, Value.slice (some ⟨w1.heap.size, 0, none⟩) 0 0 = v := ⟨_, rfl⟩
  have HG0 : Hid (Gd w W0 g cv code v0 [] []) := by rw [← hW0, ← hv0]; exact Gd.start HD1.out
  have HW0 : Hid (w1.alloc (Obj.cells #[] 27) = W0 ∧ Value.slice (some ⟨w1.heap.size, 0, none⟩) 0 0 = v0) := ⟨hW0, hv0⟩
  clear hW0 hv0 HD1 r0 r2
  go_wp2
  rw [HW0.out.1, HW0.out.2]
  clear HW0
  go_loopw [4, 5] (fun o i wr => ∃ (j : Nat) (o' : Value) (us : List Value) (ls : List (List Int)), i = .int .i64 j ∧ o' = o ∧ j ≤ n ∧ Hid (ls.length = j ∧ ∀ i, i < ls.length → (ls.getD i []).length = n) ∧ Hid (Gd w wr g cv code o' us ls)) (fun _ i _ => n - (intOf i).toNat)
  case atStart => exact ⟨0, _, [], [], rfl, rfl, Nat.zero_le _, ⟨rfl, fun i hi => by simp at hi⟩, HG0.out⟩
  case round =>
    obtain ⟨j, o', us, ls, rfl, ho', hj, hY, hG⟩ := hrel
    subst ho'
    clear HG0
    by_cases hlt : j < n
    case neg =>
      obtain rfl : j = n := by omega
      have HE : Hid (ls.length = j) := hY.out.1
      clear hj hlt
      go_wp2
      go_ret
      exact ⟨_, us, ls, rfl, hG.out, by rw [HE.out]; exact hn1, by rw [HE.out]; omega, fun i hi => by rw [HE.out]; exact hY.out.2 i hi⟩
    case pos =>
    have hltI : (j : Int) < (n : Int) := by omega
    obtain ⟨wz, hwz⟩ : ∃ W, W = wr := ⟨_, rfl⟩
    subst hwz
    obtain ⟨W1, hW1⟩ : ∃ W, wz.alloc (Obj.cells #[] 3) = W := ⟨_, rfl⟩
    obtain ⟨v1, hv1⟩ : ∃ v, Value.slice (some ⟨wz.heap.size, 0, none⟩) 0 0 = v := ⟨_, rfl⟩
    have HO1 : Hid (Ow .i64 3 wz.heap.size W1 v1 []) := by rw [← hW1, ← hv1]; exact Ow.empty .i64 3 _ wz (Nat.le_refl _)
    have HC1 : Hid (Dc wz W1 g cv code) := by rw [← hW1]; exact (Dc.start hG.out.dc.dr).below ((Below.refl _ _).alloc (Nat.le_refl _) _)
    have HW1 : Hid (wz.alloc (Obj.cells #[] 3) = W1 ∧ Value.slice (some ⟨wz.heap.size, 0, none⟩) 0 0 = v1) := ⟨hW1, hv1⟩
    clear hW1 hv1
    go_wp2
    rw [HW1.out.1, HW1.out.2]
    clear HW1
    go_loopw [6, 7] (fun o i wr => ∃ (k : Nat) (q' : Value) (rs : List Int), i = .int .i64 k ∧ q' = o ∧ k ≤ n ∧ Hid (rs.length = k) ∧ Hid (Ow .i64 3 wz.heap.size wr q' rs) ∧ Hid (Dc wz wr g cv code)) (fun _ i _ => n - (intOf i).toNat)
    case atStart => exact ⟨0, _, [], rfl, rfl, Nat.zero_le _, rfl, HO1.out, HC1.out⟩
    case round =>
      obtain ⟨k, q', rs, rfl, hq', hk, hL, hO, hC⟩ := hrel
      subst hq'
      clear HO1 HC1
      by_cases hkt : k < n
      case pos =>
        have hktI : (k : Int) < (n : Int) := by omega
        go_wp2_with (fail)
        refine (below_c g cv code 12 _ hC.out.dr (by omega)).mono ?_
        rintro e w3 ⟨x, rfl, x0, x1, -, d1, g1⟩
        have HC3 : Hid (Dc wz w3 g cv code) := hC.out.draw d1 g1
        have HO3 : Hid (Ow .i64 3 wz.heap.size w3 q' rs) := hO.out.drawn g1 hC.out.lt
        have HSZ : Hid (wz.heap.size ≤ w3.heap.size) := HC3.out.gr.size
        have HLN : Hid (rs.length ≤ 1000) := by show _ ≤ _; rw [hL.out]; omega
        have x2 := x1 (by omega)
        clear d1 g1 x1 hC hO
        by_cases hkj : k = j
        case neg =>
          have hq : ((k : Int) == (j : Int)) = false := by simp; omega
          go_wp2_with (at_builtin; refine appI rfl (.tmp 32) (.tmp 34) rfl wz.heap.size _ rs rfl (HO3.out.alloc _) w3.heap.size x rfl (by simp) (by have := HLN.out; omega) (by have := HSZ.out; simp; omega) ?_)
          intro v6 w6 ho hb
          have HO6 : Hid (Ow .i64 3 wz.heap.size w6 v6 (rs ++ [x])) := ho
          have HC6 : Hid (Dc wz w6 g cv code) := (HC3.out.below ((Below.refl _ _).alloc (Nat.le_refl _) _)).belowB hb
          have HL6 : Hid ((rs ++ [x]).length = k + 1) := by show _ = _; simp [hL.out]
          clear ho hb HO3 HC3
          go_wp2
          go_roundw
          case rel => exact ⟨k + 1, _, _, by go_num, rfl, by omega, HL6.out, HO6.out, HC6.out⟩
          case measure => simp [intOf]; omega
        case pos =>
        have hq : ((k : Int) == (j : Int)) = true := by simp; omega
        have HKJ : Hid (k = j) := hkj
        clear hkj
        go_wp2_with (fail)
        refine (below_c g cv code 901 _ HC3.out.dr (by omega)).mono ?_
        rintro e w4 ⟨y, rfl, y0, y1, -, d1, g1⟩
        have y2 := y1 (by omega)
        have HC4 : Hid (Dc wz w4 g cv code) := HC3.out.draw d1 g1
        have HO4 : Hid (Ow .i64 3 wz.heap.size w4 q' rs) := HO3.out.drawn g1 HC3.out.lt
        have HSZ4 : Hid (wz.heap.size ≤ w4.heap.size) := HC4.out.gr.size
        clear d1 g1 y1 HC3 HO3 HSZ
        go_wp2_with (at_builtin; refine appI rfl (.tmp 32) (.tmp 34) rfl wz.heap.size _ rs rfl (HO4.out.alloc _) w4.heap.size (100 + y) rfl (by simp) (by have := HLN.out; omega) (by have := HSZ4.out; simp; omega) ?_)
        intro v6 w6 ho hb
        have HO6 : Hid (Ow .i64 3 wz.heap.size w6 v6 (rs ++ [(100 + y)])) := ho
        have HC6 : Hid (Dc wz w6 g cv code) := (HC4.out.below ((Below.refl _ _).alloc (Nat.le_refl _) _)).belowB hb
        have HL6 : Hid ((rs ++ [(100 + y)]).length = k + 1) := by show _ = _; simp [hL.out]
        clear ho hb HO4 HC4
        go_wp2
        go_roundw
        case rel => exact ⟨k + 1, _, _, by go_num, rfl, by omega, HL6.out, HO6.out, HC6.out⟩
        case measure => simp [intOf]; omega
      case neg =>
      obtain rfl : k = n := by omega
      clear hkt hk
      obtain ⟨ad, cc, hvq, -⟩ := own_form hO.out
      rw [hL.out] at hvq
      have HG2 : Hid (Gd w wr g cv code o' us ls) := hG.out.grown hC.out
      have HBL := hG.out.blt
      have HUL : Hid (us.length ≤ 1000) := by show _ ≤ _; rw [hG.out.len, hY.out.1]; omega
      have HSZ : Hid (w.heap.size ≤ wr.heap.size) := HG2.out.size
      have HSW : Hid (w.heap.size ≤ wz.heap.size) := hG.out.size
      have HY2 : Hid ((ls ++ [rs]).length = j + 1 ∧ ∀ i, i < (ls ++ [rs]).length → ((ls ++ [rs]).getD i []).length = k) := ⟨by simp [hY.out.1], fun i hi => by
        simp at hi
        rcases Nat.lt_or_ge i ls.length with hlt | hge
        · have e2 : (ls ++ [rs]).getD i [] = ls.getD i [] := by simp [List.getElem?_append_left hlt]
          rw [e2]; exact hY.out.2 i hlt
        · obtain rfl : i = ls.length := by omega
          rw [List.getD_eq_getElem?_getD, List.getElem?_append_right (Nat.le_refl _)]; simpa using hL.out⟩
      have HPU : Hid (∀ v' w', w'.ownsRow w.heap.size 27 1 v' (us ++ [q']).length (us ++ [q']) → (wr.alloc (Obj.cells #[q'] 27)).grownBy w' o'.ownBlock → (v'.ownBlock = o'.ownBlock ∨ v'.ownBlock = some (wr.alloc (Obj.cells #[q'] 27)).heap.size) → Gd w w' g cv code v' (us ++ [q']) (ls ++ [rs])) := fun v' w' h1 h2 h3 => HG2.out.push HSW.out HBL.1 HBL.2 hO.out ((Below.refl _ _).alloc (Nat.le_refl _) _) h1 h2 h3
      have HRW : Hid ((wr.alloc (Obj.cells #[q'] 27)).ownsRow w.heap.size 27 1 o' us.length us) := World.ownsRow.alloc HG2.out.row _
      rw [hvq] at HPU HRW ⊢
      clear hvq HBL hO hC hG HG2 hY
      go_wp2_with (at_builtin; refine appRow rfl (.tmp 36) (.tmp 38) rfl w.heap.size _ us rfl HRW.out wr.heap.size ad k cc rfl (by simp) (by have := HUL.out; omega) (by have := HSZ.out; simp; omega) ?_)
      intro v6 w6 h1 h2 h3
      have HG6 := HPU.out v6 w6 (by simpa using h1) h2 (by simpa using h3)
      have HG6 : Hid (Gd w w6 g cv code v6 (us ++ [.slice ad k cc]) (ls ++ [rs])) := HG6
      clear h1 h2 h3 HPU HRW
      go_wp2
      go_roundw
      case rel => exact ⟨j + 1, _, _, ls ++ [rs], by go_num, rfl, by omega, HY2.out, HG6.out⟩
      case measure => simp [intOf]; omega

end Go.Proofs.Ytikgempdohpdjaa

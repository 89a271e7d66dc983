/- DrawAdmit; no condition. -/
import Derived.Test.YtikgempdohpdjaaGrw
namespace Go.Proofs.Ytikgempdohpdjaa
open Go.RowKit Go.ChangeShapes Go.WideShapes Go.ChangeAt
set_option linter.unusedVariables false
set_option linter.unusedSimpArgs false
set_option maxRecDepth 8000

set_option maxHeartbeats 12800000 in
theorem drawAdmit_c (v : Value) (code : List Int) (w : World) (h : Rd .u8 w v code) (hok : ∀ z ∈ code, 0 ≤ z ∧ z ≤ 255) (hlen : code.length ≤ 2097152) :
   Calls Try.prog 24 #[v] w fun e w' => ∃ v' ys x u' zs, e = .returned (.tuple #[v', .int .i64 x, u']) ∧ Rd .i64 w' v' ys ∧ Rd .i64 w' u' zs ∧ ys.length ≤ 100 ∧ zs.length ≤ 100 ∧ (∀ y ∈ ys, 0 ≤ y ∧ y ≤ 1001) ∧ Below w.heap.size w w' := by
  go_enter Try.func24, Try.ntmps24
  go_wp2_with (fail)
  refine (new_c v code w h hok hlen).mono ?_
  rintro e w1 ⟨g, rfl, d1, hg, b1⟩
  have HB : Hid (Below w.heap.size w w1 ∧ w.heap.size ≤ g) := ⟨b1, hg⟩
  obtain ⟨W1, hW1⟩ : ∃ W, (w1.alloc (Obj.cells #[] 3)).alloc (Obj.cells #[] 3) = W := ⟨_, rfl⟩
  have p0 := P2.start d1 hW1
  have HP : Hid (P2 w1 W1 g v code (.slice (some ⟨w1.heap.size, 0, none⟩) 0 0) (.slice (some ⟨w1.heap.size + 1, 0, none⟩) 0 0) [] []) := p0
  obtain ⟨va, hva⟩ : ∃ x, Value.slice (some ⟨w1.heap.size, 0, none⟩) 0 0 = x := ⟨_, rfl⟩
  obtain ⟨vb, hvb⟩ : ∃ x, Value.slice (some ⟨w1.heap.size + 1, 0, none⟩) 0 0 = x := ⟨_, rfl⟩
  rw [hva, hvb] at HP
  have HWN : Hid ((w1.alloc (Obj.cells #[] 3)).alloc (Obj.cells #[] 3) = W1 ∧ Value.slice (some ⟨w1.heap.size, 0, none⟩) 0 0 = va ∧ Value.slice (some ⟨w1.heap.size + 1, 0, none⟩) 0 0 = vb) := ⟨hW1, hva, hvb⟩
  clear d1 hg b1 h hok p0 hW1 hva hvb
  go_wp2_with (fail)
  rw [HWN.out.1, HWN.out.2.1, HWN.out.2.2]
  clear HWN
  refine (below_c g v code 5 _ HP.out.dc.dr (by omega)).mono ?_
  rintro e w2 ⟨r, rfl, r0, r1, -, d1, g1⟩
  have r2 := r1 (by omega)
  have HP2 : Hid (P2 w1 w2 g v code va vb [] []) := HP.out.draw d1 g1
  clear d1 g1 r1 HP
  obtain ⟨n, rfl⟩ := Int.eq_ofNat_of_zero_le r0
  go_wp2
  go_loopw [6, 8] (fun u i wr => ∃ (j : Nat) (vv : Value) (ls : List Int), i = .int .i64 j ∧ vv = u ∧ j ≤ 5 ∧ Hid (ls.length + j ≤ 5 ∧ ∀ y ∈ ls, 0 ≤ y ∧ y ≤ 1001) ∧ Hid (P2 w1 wr g v code vv vb ls [])) (fun _ i _ => (intOf i).toNat)
  case atStart => exact ⟨n, va, [], rfl, rfl, by omega, ⟨by simp; omega, fun y hy => by cases hy⟩, HP2.out⟩
  case round =>
    obtain ⟨j, vv, ls, rfl, hvv, hj, hY, hP⟩ := hrel
    subst hvv
    clear HP2 r0 r2
    by_cases hlt : 0 < j
    case pos =>
      have hltI : (0 : Int) < (j : Int) := by omega
      have hltD : decide ((0 : Int) < (j : Int)) = true := decide_eq_true hltI
      go_wp2_with (fail)
      refine (below_c g v code 50 _ hP.out.dc.dr (by omega)).mono ?_
      rintro e w3 ⟨x, rfl, x0, x1, -, d1, g1⟩
      have x2 := x1 (by omega)
      have HP3 : Hid (P2 w1 w3 g v code vv vb ls []) := hP.out.draw d1 g1
      have HSZ : Hid (w1.heap.size ≤ w3.heap.size) := HP3.out.lens
      have HPA : Hid (P2 w1 (w3.alloc (Obj.cells #[.int .i64 (1 + x)] 3)) g v code vv vb ls []) := HP3.out.below ((Below.refl _ _).alloc (Nat.le_refl _) _)
      have HLN : Hid (ls.length ≤ 1000) := by show _ ≤ _; have := hY.out.1; omega
      clear d1 g1 x1 hP
      go_wp2_with (at_builtin; refine appN rfl (.tmp 20) (.tmp 24) rfl w1.heap.size _ ls rfl HPA.out.oa w3.heap.size (1 + x) rfl (by simp) (by have := HLN.out; omega) (by have := HSZ.out; simp; omega) ?_)
      intro v6 w6 ho hg6 hb6
      have HP6 : Hid (P2 w1 w6 g v code v6 vb (ls ++ [1 + x]) []) := HPA.out.grow ho hg6 (by simpa using hb6)
      have HY6 : Hid ((ls ++ [1 + x]).length + (j - 1) ≤ 5 ∧ ∀ y ∈ ls ++ [1 + x], 0 ≤ y ∧ y ≤ 1001) := ⟨by have := hY.out.1; simp; omega, fun y hy => by
        rcases List.mem_append.1 hy with h1 | h1
        · exact hY.out.2 y h1
        · simp at h1; subst h1; omega⟩
      clear ho hg6 hb6 HP3 HPA hY HSZ
      go_wp2
      go_roundw
      case rel => exact ⟨j - 1, _, _, by go_num, rfl, by omega, HY6.out, HP6.out⟩
      case measure => simp [intOf]; omega
    case neg =>
    obtain rfl : j = 0 := by omega
    have HY2 : Hid (ls.length ≤ 5 ∧ ∀ y ∈ ls, 0 ≤ y ∧ y ≤ 1001) := ⟨by have := hY.out.1; omega, hY.out.2⟩
    clear hlt hj hY
    go_wp2_with (fail)
    refine (below_c g v code 10 _ hP.out.dc.dr (by omega)).mono ?_
    rintro e w3 ⟨r, rfl, r0, r1, -, d1, g1⟩
    have r2 := r1 (by omega)
    have HP3 : Hid (P2 w1 w3 g v code vv vb ls []) := hP.out.draw d1 g1
    clear d1 g1 r1 hP
    obtain ⟨m, rfl⟩ := Int.eq_ofNat_of_zero_le r0
    go_wp2
    go_loopw [7, 9] (fun u i wr => ∃ (j : Nat) (uu : Value) (ks : List Int), i = .int .i64 j ∧ uu = u ∧ j ≤ 10 ∧ Hid (ks.length + j ≤ 10) ∧ Hid (P2 w1 wr g v code vv uu ls ks)) (fun _ i _ => (intOf i).toNat)
    case atStart => exact ⟨m, vb, [], rfl, rfl, by omega, by show _ ≤ _; simp; omega, HP3.out⟩
    case round =>
      obtain ⟨j, uu, ks, rfl, huu, hj, hY, hP⟩ := hrel
      subst huu
      clear HP3 r0 r2
      by_cases hlt : 0 < j
      case pos =>
        have hltI : (0 : Int) < (j : Int) := by omega
        have hltD : decide ((0 : Int) < (j : Int)) = true := decide_eq_true hltI
        go_wp2_with (fail)
        refine (below_c g v code 60 _ hP.out.dc.dr (by omega)).mono ?_
        rintro e w4 ⟨x, rfl, x0, x1, -, d1, g1⟩
        have x2 := x1 (by omega)
        have HP4 : Hid (P2 w1 w4 g v code vv uu ls ks) := hP.out.draw d1 g1
        have HSZ : Hid (w1.heap.size ≤ w4.heap.size) := HP4.out.lens
        have HPA : Hid (P2 w1 (w4.alloc (Obj.cells #[.int .i64 (1 + x)] 3)) g v code vv uu ls ks) := HP4.out.below ((Below.refl _ _).alloc (Nat.le_refl _) _)
        have HLN : Hid (ks.length ≤ 1000) := by show _ ≤ _; have := hY.out; omega
        clear d1 g1 x1 hP
        go_wp2_with (at_builtin; refine appN rfl (.tmp 32) (.tmp 36) rfl w1.heap.size _ ks rfl HPA.out.ob w4.heap.size (1 + x) rfl (by simp) (by have := HLN.out; omega) (by have := HSZ.out; simp; omega) ?_)
        intro v6 w6 ho hg6 hb6
        have HP6 : Hid (P2 w1 w6 g v code vv v6 ls (ks ++ [1 + x])) := (HPA.out.swap.grow ho hg6 (by simpa using hb6)).swap
        have HY6 : Hid ((ks ++ [1 + x]).length + (j - 1) ≤ 10) := by show _ ≤ _; have := hY.out; simp; omega
        clear ho hg6 hb6 HP4 HPA hY HSZ
        go_wp2
        go_roundw
        case rel => exact ⟨j - 1, _, _, by go_num, rfl, by omega, HY6.out, HP6.out⟩
        case measure => simp [intOf]; omega
      case neg =>
      obtain rfl : j = 0 := by omega
      have HZ2 : Hid (ks.length ≤ 10) := by show _ ≤ _; have := hY.out; omega
      clear hlt hj hY
      go_wp2_with (fail)
      refine (below_c g v code 25 _ hP.out.dc.dr (by omega)).mono ?_
      rintro e w4 ⟨r, rfl, r0, r1, -, d1, g1⟩
      have r2 := r1 (by omega)
      have HP4 : Hid (P2 w1 w4 g v code vv uu ls ks) := hP.out.draw d1 g1
      clear d1 g1 r1 hP
      by_cases hr : r = 0
      case pos =>
        subst hr
        obtain ⟨WL, hWL⟩ : ∃ W, w4.alloc (Obj.cells #[.int .i64 0, .int .i64 1000, .int .i64 1001] 3) = W := ⟨_, rfl⟩
        have ba : Below w4.heap.size w4 WL := by rw [← hWL]; exact (Below.refl _ _).alloc (Nat.le_refl _) _
        have HLR : Hid (Rd .i64 WL (.slice (some ⟨w4.heap.size, 0, none⟩) 3 3) [0, 1000, 1001]) := by rw [← hWL]; exact Rd.lit w4 [0, 1000, 1001] (by decide)
        have HLN : Hid (g < w4.heap.size) := HP4.out.dc.dr.lt
        have HPl : Hid (P2 w1 WL g v code vv uu ls ks) := HP4.out.below ba
        have HWL : Hid (w4.alloc (Obj.cells #[.int .i64 0, .int .i64 1000, .int .i64 1001] 3) = WL) := hWL
        clear ba hWL HP4
        go_wp2_with (fail)
        rw [HWL.out]
        refine (pickInt_c g v code _ [0, 1000, 1001] _ HPl.out.dc.dr HLR.out (.inr (by have := HLN.out; simp [Value.ownBlock]; omega)) (by decide) (by decide)).mono ?_
        rintro e w5 ⟨x, rfl, hx, d1, g1⟩
        have hxb : 0 ≤ x ∧ x ≤ 1001 := by
          obtain ⟨k, hk, rfl⟩ := hx
          rcases (show k = 0 ∨ k = 1 ∨ k = 2 by simp at hk; omega) with rfl | rfl | rfl <;> simp
        have HP5 : Hid (P2 w1 w5 g v code vv uu ls ks) := HPl.out.draw d1 g1
        have HSZ : Hid (w1.heap.size ≤ w5.heap.size) := HP5.out.lens
        have HPA : Hid (P2 w1 (w5.alloc (Obj.cells #[.int .i64 x] 3)) g v code vv uu ls ks) := HP5.out.below ((Below.refl _ _).alloc (Nat.le_refl _) _)
        clear d1 g1 HPl HLR HWL HLN hx
        go_wp2_with (at_builtin; refine appN rfl (.tmp 42) (.tmp 46) rfl w1.heap.size _ ls rfl HPA.out.oa w5.heap.size x rfl (by simp) (by have := HY2.out.1; omega) (by have := HSZ.out; simp; omega) ?_)
        intro v6 w6 ho hg6 hb6
        have HP6 : Hid (P2 w1 w6 g v code v6 uu (ls ++ [x]) ks) := HPA.out.grow ho hg6 (by simpa using hb6)
        have HY6 : Hid ((ls ++ [x]).length ≤ 100 ∧ ∀ y ∈ ls ++ [x], 0 ≤ y ∧ y ≤ 1001) := ⟨by have := HY2.out.1; simp; omega, fun y hy => by
          rcases List.mem_append.1 hy with h1 | h1
          · exact HY2.out.2 y h1
          · simp at h1; subst h1; exact hxb⟩
        clear ho hg6 hb6 HP5 HPA HY2 HSZ
        obtain ⟨xs, hxs⟩ : ∃ xs, ls ++ [x] = xs := ⟨_, rfl⟩
        rw [hxs] at HP6 HY6
        have HZ6 : Hid (ks.length ≤ 100) := by show _ ≤ _; have := HZ2.out; omega
        obtain ⟨WL, hWL⟩ : ∃ W, w6.alloc (Obj.cells #[.int .i64 0, .int .i64 50, .int .i64 100, .int .i64 200, .int .i64 100000, .int .i64 100001, .int .i64 (-1), .int .i64 150] 3) = W := ⟨_, rfl⟩
        have ba : Below w6.heap.size w6 WL := by rw [← hWL]; exact (Below.refl _ _).alloc (Nat.le_refl _) _
        have HLR : Hid (Rd .i64 WL (.slice (some ⟨w6.heap.size, 0, none⟩) 8 8) [0, 50, 100, 200, 100000, 100001, -1, 150]) := by rw [← hWL]; exact Rd.lit w6 [0, 50, 100, 200, 100000, 100001, -1, 150] (by decide)
        have HLN : Hid (g < w6.heap.size) := HP6.out.dc.dr.lt
        have HPl : Hid (P2 w1 WL g v code v6 uu xs ks) := HP6.out.below ba
        have HWL : Hid (w6.alloc (Obj.cells #[.int .i64 0, .int .i64 50, .int .i64 100, .int .i64 200, .int .i64 100000, .int .i64 100001, .int .i64 (-1), .int .i64 150] 3) = WL) := hWL
        clear ba hWL HP6
        go_wp2_with (fail)
        rw [HWL.out]
        refine (pickInt_c g v code _ [0, 50, 100, 200, 100000, 100001, -1, 150] _ HPl.out.dc.dr HLR.out (.inr (by have := HLN.out; simp [Value.ownBlock]; omega)) (by decide) (by decide)).mono ?_
        rintro e w7 ⟨xr, rfl, -, d1, g1⟩
        have HP7 : Hid (P2 w1 w7 g v code v6 uu xs ks) := HPl.out.draw d1 g1
        clear d1 g1 HPl HLR HWL HLN
        go_wp2
        go_ret3
        exact ⟨_, xs, _, _, ks, rfl, HP7.out.oa.rd, HP7.out.ob.rd, HY6.out.1, HZ6.out, HY6.out.2, HP7.out.dc.ahead HB.out.1 HB.out.2⟩
      case neg =>
      have hr1 : (r == 0) = false := by simp [hr]
      have HY6 : Hid (ls.length ≤ 100 ∧ ∀ y ∈ ls, 0 ≤ y ∧ y ≤ 1001) := ⟨by have := HY2.out.1; omega, HY2.out.2⟩
      by_cases hr3 : r = 1
      case pos =>
        subst hr3
        obtain ⟨i0, hi, hz0, hz1, hz2⟩ := info_parts toIInfo
        clear hr1 hr
        go_wp2_with (at_make; refine wpList_make_full _ rfl _ _ 27 rfl w4.heap.size 3 i0 (.int .i64 0) 1 Try.underlying27 hi hz0 hz1 .i64 .i64 _ _ 61 rfl rfl rfl rfl (by rw [hz2]; decide) (by unfold maxLen; decide) (Nat.le_refl _) ?_)
        intro w6 ho hgm
        have HO6 : Hid (Ow .i64 3 w4.heap.size w6 (.slice (some ⟨w4.heap.size, 0, none⟩) 61 61) (List.replicate 61 0)) := by
          rw [toList_madeCells_one] at ho
          show World.ownsRow _ _ _ _ _ _ _
          simpa using ho
        have HP5 : Hid (P2 w1 w6 g v code vv uu ls ks) := HP4.out.below (grown_below hgm (Nat.le_refl _) (by simp))
        obtain ⟨u6, hu6⟩ : ∃ u, Value.slice (some ⟨w4.heap.size, 0, none⟩) 61 61 = u := ⟨_, rfl⟩
        rw [hu6] at HO6 ⊢
        have HP6 : Hid (P2 w1 w6 g v code vv u6 ls (List.replicate 61 0)) := ⟨HP5.out.oa, HO6.out.mono HP4.out.lens, fun k e e' => by
          have h1 := (World.ownsRow.lt HP4.out.oa k e).2
          have h2 := (World.ownsRow.lt HO6.out k e').1
          omega, HP5.out.dc⟩
        have HZ6 : Hid ((List.replicate 61 (0 : Int)).length ≤ 100) := by show _ ≤ _; simp
        obtain ⟨kz, hkz⟩ : ∃ kz, List.replicate 61 (0 : Int) = kz := ⟨_, rfl⟩
        rw [hkz] at HP6 HZ6
        clear hkz ho hgm HO6 HP5 HP4 hu6 hi hz0 hz1 hz2 HY2 HZ2
        obtain ⟨WL, hWL⟩ : ∃ W, w6.alloc (Obj.cells #[.int .i64 0, .int .i64 50, .int .i64 100, .int .i64 200, .int .i64 100000, .int .i64 100001, .int .i64 (-1), .int .i64 150] 3) = W := ⟨_, rfl⟩
        have ba : Below w6.heap.size w6 WL := by rw [← hWL]; exact (Below.refl _ _).alloc (Nat.le_refl _) _
        have HLR : Hid (Rd .i64 WL (.slice (some ⟨w6.heap.size, 0, none⟩) 8 8) [0, 50, 100, 200, 100000, 100001, -1, 150]) := by rw [← hWL]; exact Rd.lit w6 [0, 50, 100, 200, 100000, 100001, -1, 150] (by decide)
        have HLN : Hid (g < w6.heap.size) := HP6.out.dc.dr.lt
        have HPl : Hid (P2 w1 WL g v code vv u6 ls kz) := HP6.out.below ba
        have HWL : Hid (w6.alloc (Obj.cells #[.int .i64 0, .int .i64 50, .int .i64 100, .int .i64 200, .int .i64 100000, .int .i64 100001, .int .i64 (-1), .int .i64 150] 3) = WL) := hWL
        clear ba hWL HP6
        go_wp2_with (fail)
        rw [HWL.out]
        refine (pickInt_c g v code _ [0, 50, 100, 200, 100000, 100001, -1, 150] _ HPl.out.dc.dr HLR.out (.inr (by have := HLN.out; simp [Value.ownBlock]; omega)) (by decide) (by decide)).mono ?_
        rintro e w7 ⟨xr, rfl, -, d1, g1⟩
        have HP7 : Hid (P2 w1 w7 g v code vv u6 ls kz) := HPl.out.draw d1 g1
        clear d1 g1 HPl HLR HWL HLN
        go_wp2
        go_ret3
        exact ⟨_, ls, _, _, kz, rfl, HP7.out.oa.rd, HP7.out.ob.rd, HY6.out.1, HZ6.out, HY6.out.2, HP7.out.dc.ahead HB.out.1 HB.out.2⟩
      case neg =>
      have hr4 : (r == 1) = false := by simp [hr3]
      have HZ6 : Hid (ks.length ≤ 100) := by show _ ≤ _; have := HZ2.out; omega
      have HP6 : Hid (P2 w1 w4 g v code vv uu ls ks) := HP4.out
      clear hr hr3 r0 r2 HP4 HY2 HZ2
      obtain ⟨WL, hWL⟩ : ∃ W, w4.alloc (Obj.cells #[.int .i64 0, .int .i64 50, .int .i64 100, .int .i64 200, .int .i64 100000, .int .i64 100001, .int .i64 (-1), .int .i64 150] 3) = W := ⟨_, rfl⟩
      have ba : Below w4.heap.size w4 WL := by rw [← hWL]; exact (Below.refl _ _).alloc (Nat.le_refl _) _
      have HLR : Hid (Rd .i64 WL (.slice (some ⟨w4.heap.size, 0, none⟩) 8 8) [0, 50, 100, 200, 100000, 100001, -1, 150]) := by rw [← hWL]; exact Rd.lit w4 [0, 50, 100, 200, 100000, 100001, -1, 150] (by decide)
      have HLN : Hid (g < w4.heap.size) := HP6.out.dc.dr.lt
      have HPl : Hid (P2 w1 WL g v code vv uu ls ks) := HP6.out.below ba
      have HWL : Hid (w4.alloc (Obj.cells #[.int .i64 0, .int .i64 50, .int .i64 100, .int .i64 200, .int .i64 100000, .int .i64 100001, .int .i64 (-1), .int .i64 150] 3) = WL) := hWL
      clear ba hWL HP6
      go_wp2_with (fail)
      rw [HWL.out]
      refine (pickInt_c g v code _ [0, 50, 100, 200, 100000, 100001, -1, 150] _ HPl.out.dc.dr HLR.out (.inr (by have := HLN.out; simp [Value.ownBlock]; omega)) (by decide) (by decide)).mono ?_
      rintro e w7 ⟨xr, rfl, -, d1, g1⟩
      have HP7 : Hid (P2 w1 w7 g v code vv uu ls ks) := HPl.out.draw d1 g1
      clear d1 g1 HPl HLR HWL HLN
      go_wp2
      go_ret3
      exact ⟨_, ls, _, _, ks, rfl, HP7.out.oa.rd, HP7.out.ob.rd, HY6.out.1, HZ6.out, HY6.out.2, HP7.out.dc.ahead HB.out.1 HB.out.2⟩

end Go.Proofs.Ytikgempdohpdjaa

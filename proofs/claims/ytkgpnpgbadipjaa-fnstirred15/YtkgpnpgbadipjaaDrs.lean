/- DrawStir15 and DrawWeave15; no condition. -/
import Derived.Test.YtkgpnpgbadipjaaDrb
namespace Go.Proofs.Ytkgpnpgbadipjaa
open Go.RowKit Go.ChangeShapes Go.WideShapes Go.ChangeAt
set_option linter.unusedVariables false
set_option linter.unusedSimpArgs false
set_option maxRecDepth 8000

set_option maxHeartbeats 6400000 in
theorem drawStir_c (v : Value) (zs : List Int) (w : World) (h : Rd .u8 w v zs) (hok : ∀ z ∈ zs, 0 ≤ z ∧ z ≤ 255) (hlen : zs.length ≤ 2097152) :
   Calls Try.prog 8 #[v] w fun e w' => ∃ v' ys, ∃ f : Int, e = .returned (.tuple #[v', .int .i64 f]) ∧ Rd .i64 w' v' ys ∧ ys.length ≤ 600 ∧ Below w.heap.size w w' := by
  go_enter Try.func8, Try.ntmps8
  go_wp2_with (fail)
  refine (new_c v zs w h hok hlen).mono ?_
  rintro e w1 ⟨g, rfl, d1, hg, b1⟩
  have HB : Hid (Below w.heap.size w w1 ∧ w.heap.size ≤ g) := ⟨b1, hg⟩
  have HD : Hid (Dc w1 w1 g v zs) := Dc.start d1
  clear d1 hg b1 h hok
  go_wp2_with (fail)
  refine (drawAny_c g v zs _ HD.out.dr).mono ?_
  rintro e w2 ⟨o', ys, rfl, o2, l2, d2⟩
  have HOa : Hid (Ow .i64 3 w1.heap.size w2 o' ys) := o2
  have HDa : Hid (Dc w1 w2 g v zs) := d2
  have HL : Hid (ys.length ≤ 600) := l2
  clear o2 l2 d2 HD
  obtain ⟨WL, hWL⟩ : ∃ W, w2.alloc (Obj.cells #[.int .i64 1, .int .i64 2, .int .i64 44257, .int .i64 65535, .int .i64 0, .int .i64 65536, .int .i64 777] 3) = W := ⟨_, rfl⟩
  have ba : Below w2.heap.size w2 WL := by rw [← hWL]; exact (Below.refl _ _).alloc (Nat.le_refl _) _
  have HLR : Hid (Rd .i64 WL (.slice (some ⟨w2.heap.size, 0, none⟩) 7 7) [1, 2, 44257, 65535, 0, 65536, 777]) := by rw [← hWL]; exact Rd.lit w2 [1, 2, 44257, 65535, 0, 65536, 777] (by decide)
  have HLN : Hid (g < w2.heap.size) := HDa.out.dr.lt
  have HDl : Hid (Dc w1 WL g v zs) := HDa.out.below ba
  have HOl : Hid (Ow .i64 3 w1.heap.size WL o' ys) := HOa.out.below ba
  have HWL : Hid (w2.alloc (Obj.cells #[.int .i64 1, .int .i64 2, .int .i64 44257, .int .i64 65535, .int .i64 0, .int .i64 65536, .int .i64 777] 3) = WL) := hWL
  clear ba hWL HDa HOa
  go_wp2_with (fail)
  rw [HWL.out]
  refine (pickInt_c g v zs _ [1, 2, 44257, 65535, 0, 65536, 777] _ HDl.out.dr HLR.out (.inr (by have := HLN.out; simp [Value.ownBlock]; omega)) (by decide) (by decide)).mono ?_
  rintro e wc ⟨x, rfl, -, d1, g1⟩
  have HDa : Hid (Dc w1 wc g v zs) := HDl.out.draw d1 g1
  have HOa : Hid (Ow .i64 3 w1.heap.size wc o' ys) := HOl.out.drawn g1 HDl.out.lt
  clear d1 g1 HDl HOl HLR HWL HLN
  go_wp2
  go_ret2
  exact ⟨_, _, _, rfl, HOa.out.rd, by have := HL.out; omega, HDa.out.ahead HB.out.1 HB.out.2⟩

set_option maxHeartbeats 6400000 in
theorem drawWeave_c (v : Value) (zs : List Int) (w : World) (h : Rd .u8 w v zs) (hok : ∀ z ∈ zs, 0 ≤ z ∧ z ≤ 255) (hlen : zs.length ≤ 2097152) :
   Calls Try.prog 13 #[v] w fun e w' => ∃ v' ys, ∃ f : Int, e = .returned (.tuple #[v', .int .i64 f]) ∧ Rd .i64 w' v' ys ∧ ys.length ≤ 600 ∧ Below w.heap.size w w' := by
  go_enter Try.func13, Try.ntmps13
  go_wp2_with (fail)
  refine (new_c v zs w h hok hlen).mono ?_
  rintro e w1 ⟨g, rfl, d1, hg, b1⟩
  have HB : Hid (Below w.heap.size w w1 ∧ w.heap.size ≤ g) := ⟨b1, hg⟩
  have HD : Hid (Dc w1 w1 g v zs) := Dc.start d1
  clear d1 hg b1 h hok
  go_wp2_with (fail)
  refine (below_c g v zs _ _ HD.out.dr (by omega)).mono ?_
  rintro e w2 ⟨r, rfl, r0, r1, -, d1, g1⟩
  have r2 := r1 (by omega)
  have HD2 : Hid (Dc w1 w2 g v zs) := HD.out.draw d1 g1
  clear d1 g1 r1 HD
  go_wp2_with (fail)
  refine (size_c v zs 20 _ HD2.out.dr.rd HD2.out.dr.len (by omega) (by omega)).mono ?_
  rintro e w3 ⟨s, rfl, s0, s1, hw⟩
  rw [hw]
  clear hw w3
  go_wp2_with (fail)
  refine (below_c g v zs _ _ HD2.out.dr (by omega)).mono ?_
  rintro e w3 ⟨x, rfl, x0, x1, -, d1, g1⟩
  have x2 := x1 (by omega)
  have HD3 : Hid (Dc w1 w3 g v zs) := HD2.out.draw d1 g1
  clear d1 g1 x1 HD2
  have hp0 : 0 ≤ (1 + r) * x := Int.mul_nonneg (by omega) x0
  have hp1 : (1 + r) * x ≤ 8 * 20 := Int.mul_le_mul (by omega) (by omega) x0 (by omega)
  obtain ⟨n, hn⟩ : ∃ n : Nat, (1 + r) * x = (n : Int) := ⟨((1 + r) * x).toNat, by omega⟩
  have hn2 : n ≤ 160 := by omega
  clear s0 s1
  go_wp2_with (fail)
  refine (drawBits_c g v zs n _ HD3.out.dr (by omega)).mono ?_
  rintro e w4 ⟨o', ys, rfl, o2, l2, -, d2⟩
  have HOa : Hid (Ow .i64 3 w1.heap.size w4 o' ys) := o2.mono HD3.out.gr.size
  have HDa : Hid (Dc w1 w4 g v zs) := HD3.out.then d2
  have HL : Hid (ys.length ≤ 160) := by show _ ≤ _; omega
  clear o2 l2 d2 HD3 hn2 hn hp0 hp1 x0 x2
  go_wp2_with (fail)
  refine (below_c g v zs _ _ HDa.out.dr (by omega)).mono ?_
  rintro e w5 ⟨q, rfl, q0, q1, -, d1, g1⟩
  have HDb : Hid (Dc w1 w5 g v zs) := HDa.out.draw d1 g1
  have HOb : Hid (Ow .i64 3 w1.heap.size w5 o' ys) := HOa.out.drawn g1 HDa.out.lt
  clear d1 g1 q1 HDa HOa
  have HDa : Hid (Dc w1 w5 g v zs) := HDb.out
  have HOa : Hid (Ow .i64 3 w1.heap.size w5 o' ys) := HOb.out
  clear HDb HOb
  by_cases e0 : q = 0
  case pos =>
    have d0 : (q == 0) = true := by simp [e0]
    clear e0 q0
    obtain ⟨WL, hWL⟩ : ∃ W, w5.alloc (Obj.cells #[.int .i64 0, .int .i64 16, .int .i64 17] 3) = W := ⟨_, rfl⟩
    have ba : Below w5.heap.size w5 WL := by rw [← hWL]; exact (Below.refl _ _).alloc (Nat.le_refl _) _
    have HLR : Hid (Rd .i64 WL (.slice (some ⟨w5.heap.size, 0, none⟩) 3 3) [0, 16, 17]) := by rw [← hWL]; exact Rd.lit w5 [0, 16, 17] (by decide)
    have HLN : Hid (g < w5.heap.size) := HDa.out.dr.lt
    have HDl : Hid (Dc w1 WL g v zs) := HDa.out.below ba
    have HOl : Hid (Ow .i64 3 w1.heap.size WL o' ys) := HOa.out.below ba
    have HWL : Hid (w5.alloc (Obj.cells #[.int .i64 0, .int .i64 16, .int .i64 17] 3) = WL) := hWL
    clear ba hWL HDa HOa
    go_wp2_with (fail)
    rw [HWL.out]
    refine (pickInt_c g v zs _ [0, 16, 17] _ HDl.out.dr HLR.out (.inr (by have := HLN.out; simp [Value.ownBlock]; omega)) (by decide) (by decide)).mono ?_
    rintro e wc ⟨y, rfl, -, d1, g1⟩
    have HDa : Hid (Dc w1 wc g v zs) := HDl.out.draw d1 g1
    have HOa : Hid (Ow .i64 3 w1.heap.size wc o' ys) := HOl.out.drawn g1 HDl.out.lt
    clear d1 g1 HDl HOl HLR HWL HLN
    go_wp2
    go_ret2
    exact ⟨_, _, _, rfl, HOa.out.rd, by have := HL.out; omega, HDa.out.ahead HB.out.1 HB.out.2⟩
  have d0 : (q == 0) = false := by simp [e0]
  by_cases e1 : q = 1
  case neg =>
    have d1 : (q == 1) = false := by simp [e1]
    clear e0 e1 q0
    go_wp2
    go_ret2
    exact ⟨_, _, _, rfl, HOa.out.rd, by have := HL.out; omega, HDa.out.ahead HB.out.1 HB.out.2⟩
  have d1 : (q == 1) = true := by simp [e1]
  clear e0 e1 q0
  go_wp2_with (fail)
  refine (below_c g v zs _ _ HDa.out.dr (by omega)).mono ?_
  rintro e w6 ⟨y, rfl, y0, y1, -, d2, g1⟩
  have HDb : Hid (Dc w1 w6 g v zs) := HDa.out.draw d2 g1
  have HOb : Hid (Ow .i64 3 w1.heap.size w6 o' ys) := HOa.out.drawn g1 HDa.out.lt
  have HSZ : Hid (w1.heap.size ≤ w6.heap.size) := HDb.out.gr.size
  clear d2 g1 y1 HDa HOa
  go_wp2_with (at_builtin; refine appI rfl (.tmp 29) (.tmp 32) rfl w1.heap.size _ ys rfl (HOb.out.alloc _) w6.heap.size y rfl (by simp) (by have := HL.out; omega) (by have := HSZ.out; simp; omega) ?_)
  intro v7 w7 ho hb
  have HO7 : Hid (Ow .i64 3 w1.heap.size w7 v7 (ys ++ [y])) := ho
  have HD7 : Hid (Dc w1 w7 g v zs) := (HDb.out.below ((Below.refl _ _).alloc (Nat.le_refl _) _)).belowB hb
  clear ho hb HOb HDb HSZ
  go_wp2
  go_ret2
  exact ⟨_, _, _, rfl, HO7.out.rd, by have := HL.out; simp; omega, HD7.out.ahead HB.out.1 HB.out.2⟩

end Go.Proofs.Ytkgpnpgbadipjaa

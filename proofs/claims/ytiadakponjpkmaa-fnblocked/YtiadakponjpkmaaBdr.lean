/- DrawBlocking, DrawNeeded17; no condition. -/
import Derived.Test.YtiadakponjpkmaaNdb
import Derived.Test.YtiadakponjpkmaaDrc
import Derived.Test.YtiadakponjpkmaaGrw
namespace Go.Proofs.Ytiadakponjpkmaa
open Go.RowKit Go.ChangeShapes Go.WideShapes Go.ChangeAt
set_option linter.unusedVariables false
set_option linter.unusedSimpArgs false
set_option maxRecDepth 8000
theorem results_T3 {fn : Func} {u s p : Tmp} (h : fn.results = #[.tmp u, .tmp s, .cell p 27]) (tmps : Array Value) (w : World) (g : Nat) (x y a b : Value)
    (hu : tmps.getD u undef = a) (hs : tmps.getD s undef = b) (hp : tmps.getD p undef = .pointer (some ⟨g, 0, none⟩)) (hg : Blk w g #[x, y] 27) :
    (results fn tmps).run Try.prog w = .ok (.tuple #[a, b, .agg #[x, y]]) w := by
  have hp' : tmps[p]?.getD undef = .pointer (some ⟨g, 0, none⟩) := by simpa using hp
  have hu' : tmps[u]?.getD undef = a := by simpa using hu
  have hs' : tmps[s]?.getD undef = b := by simpa using hs
  have hr := run_loadVar_row (P := Try.prog) w g 27 27 #[x, y] (0, 0) _ hg Try.underlying27 rfl szF
  simp [results, h, hp', hu', hs', asAddr, hr]
set_option maxHeartbeats 3200000 in
theorem drawBl_c (v : Value) (code : List Int) (w : World) (h : Rd .u8 w v code) (hok : ∀ z ∈ code, 0 ≤ z ∧ z ≤ 255) (hlen : code.length ≤ 2097152) :
   Calls Try.prog 13 #[v] w fun e w' => ∃ n x y : Int, e = .returned (.tuple #[.int .i64 n, .int .i64 x, .int .i64 y]) ∧ (-1 ≤ n ∧ n ≤ 10) ∧ (-1 ≤ x ∧ x ≤ 21) ∧ (0 ≤ y ∧ y ≤ 11) ∧ Below w.heap.size w w' := by
  go_enter Try.func13, Try.ntmps13
  go_wp2_with (fail)
  refine (new_c v code w h hok hlen).mono ?_
  rintro e w1 ⟨g, rfl, d1, hg, b1⟩
  have HB : Hid (Below w.heap.size w w1 ∧ w.heap.size ≤ g) := ⟨b1, hg⟩
  have HD1 : Hid (Dc w1 w1 g v code) := Dc.start d1
  clear d1 hg b1 h hok
  go_wp2_with (fail)
  refine (below_c g v code 12 _ HD1.out.dr (by omega)).mono ?_
  rintro e w2 ⟨x, rfl, x0, x1, -, d1, g1⟩
  have x2 := x1 (by omega)
  have HD2 : Hid (Dc w1 w2 g v code) := HD1.out.draw d1 g1
  clear d1 g1 x1 HD1
  go_wp2_with (fail)
  refine (below_c g v code 23 _ HD2.out.dr (by omega)).mono ?_
  rintro e w3 ⟨y, rfl, y0, y1, -, d1, g1⟩
  have y2 := y1 (by omega)
  have HD3 : Hid (Dc w1 w3 g v code) := HD2.out.draw d1 g1
  clear d1 g1 y1 HD2
  go_wp2_with (fail)
  refine (below_c g v code 12 _ HD3.out.dr (by omega)).mono ?_
  rintro e w4 ⟨z, rfl, z0, z1, -, d1, g1⟩
  have z2 := z1 (by omega)
  have HD4 : Hid (Dc w1 w4 g v code) := HD3.out.draw d1 g1
  clear d1 g1 z1 HD3
  go_wp2
  refine bodyPost_ret (results_tmp3 rfl _ _ _) rfl ?_
  exact ⟨_, _, _, rfl, by omega, by omega, by omega, HD4.out.ahead HB.out.1 HB.out.2⟩
set_option maxHeartbeats 3200000 in
theorem drawNd_c (v : Value) (code : List Int) (w : World) (h : Rd .u8 w v code) (hok : ∀ z ∈ code, 0 ≤ z ∧ z ≤ 255) (hlen : code.length ≤ 2097152) :
   Calls Try.prog 16 #[v] w fun e w' => ∃ x y a b : Int, e = .returned (.tuple #[.int .i64 x, .int .i64 y, .agg #[.int .i64 a, .int .i64 b]]) ∧ Below w.heap.size w w' := by
  have HR : Hid (Rd .u8 w v code) := h
  have H0 : Hid (Blk (w.alloc (.cells #[.int .i64 0, .int .i64 0] 27)) w.heap.size #[.int .i64 0, .int .i64 0] 27 ∧ Below w.heap.size w (w.alloc (.cells #[.int .i64 0, .int .i64 0] 27))) := ⟨Blk.new _ _ _, (Below.refl _ _).alloc (Nat.le_refl _) _⟩
  clear h
  go_enter Try.func16, Try.ntmps16
  go_wp2_with (fail)
  obtain ⟨W, hW⟩ : ∃ W, w.alloc (.cells #[.int .i64 0, .int .i64 0] 27) = W := ⟨_, rfl⟩
  have HRW : Hid (Rd .u8 W v code) := by rw [← hW]; exact HR.out.below ((Below.refl _ _).alloc (Nat.le_refl _) _)
  rw [hW] at H0 ⊢
  obtain ⟨b, hb⟩ : ∃ g, w.heap.size = g := ⟨_, rfl⟩
  have HBE : Hid (w.heap.size = b) := hb
  rw [hb] at H0 ⊢
  clear hW hb
  refine (new_c v code _ HRW.out hok hlen).mono ?_
  rintro e w1 ⟨g, rfl, d1, hg, b1⟩
  have HK1 : Hid (Blk w1 b #[.int .i64 0, .int .i64 0] 27 ∧ Below b w w1 ∧ b < g) := ⟨H0.out.1.below b1 H0.out.1.lt, belowCall H0.out.2 b1 (by have := H0.out.1.lt; omega), by have := H0.out.1.lt; omega⟩
  have HD1 : Hid (Dr w1 g v code) := d1
  have HR1 : Hid (Rd .u8 w1 v code) := HRW.out.below b1
  clear d1 hg b1 H0 HRW
  go_wp2_with (fail)
  refine (drawBl_c v code _ HR1.out hok hlen).mono ?_
  rintro e w2 ⟨n, x, y, rfl, -, -, -, b2⟩
  have HK2 : Hid (Blk w2 b #[.int .i64 0, .int .i64 0] 27 ∧ Below b w w2 ∧ b < g) := ⟨HK1.out.1.below b2 HK1.out.1.lt, belowCall HK1.out.2.1 b2 (by have := HK1.out.1.lt; omega), HK1.out.2.2⟩
  have HD2 : Hid (Dr w2 g v code) := HD1.out.below b2
  clear b2 HK1 HD1 HR1 hok
  obtain ⟨WL4, hWL⟩ : ∃ W, w2.alloc (Obj.cells #[.int .i64 0, .int .i64 1, .int .i64 5, .int .i64 50, .int .i64 1000, .int .i64 1001, .int .i64 (-1), .int .i64 10] 3) = W := ⟨_, rfl⟩
  have ba : Below w2.heap.size w2 WL4 := by rw [← hWL]; exact (Below.refl _ _).alloc (Nat.le_refl _) _
  have HLR : Hid (Rd .i64 WL4 (.slice (some ⟨w2.heap.size, 0, none⟩) 8 8) [0, 1, 5, 50, 1000, 1001, -1, 10]) := by rw [← hWL]; exact Rd.lit w2 [0, 1, 5, 50, 1000, 1001, -1, 10] (by decide)
  have HLN : Hid (g < w2.heap.size) := HD2.out.lt
  have HDl : Hid (Dr WL4 g v code) := HD2.out.below ba
  have HKl : Hid (Blk WL4 b #[.int .i64 0, .int .i64 0] 27 ∧ Below b w WL4 ∧ b < g) := ⟨HK2.out.1.below ba HK2.out.1.lt, belowCall HK2.out.2.1 ba (by have := HK2.out.1.lt; omega), HK2.out.2.2⟩
  have HWL : Hid (w2.alloc (Obj.cells #[.int .i64 0, .int .i64 1, .int .i64 5, .int .i64 50, .int .i64 1000, .int .i64 1001, .int .i64 (-1), .int .i64 10] 3) = WL4) := hWL
  clear ba hWL HK2 HD2
  go_wp2_with (fail)
  rw [HWL.out]
  refine (pickInt_c g v code _ [0, 1, 5, 50, 1000, 1001, -1, 10] _ HDl.out HLR.out (.inr (by have := HLN.out; simp [Value.ownBlock]; omega)) (by decide) (by decide)).mono ?_
  rintro e w4 ⟨k4, rfl, -, d1, g1⟩
  have HD4 : Hid (Dr w4 g v code) := d1
  have HK4 : Hid (Blk w4 b #[.int .i64 0, .int .i64 0] 27 ∧ Below b w w4 ∧ b < g) := ⟨HKl.out.1.grown g1 (by have := HKl.out.2.2; simp; omega), HKl.out.2.1.trans (grown_below g1 (by have := HKl.out.1.lt; omega) (fun k e => by cases e; have := HKl.out.2.2; omega)), HKl.out.2.2⟩
  clear d1 g1 HDl HKl HLR HWL HLN
  obtain ⟨WL6, hWL⟩ : ∃ W, w4.alloc (Obj.cells #[.int .i64 1, .int .i64 2, .int .i64 100, .int .i64 1000, .int .i64 1001, .int .i64 0, .int .i64 10, .int .i64 50] 3) = W := ⟨_, rfl⟩
  have ba : Below w4.heap.size w4 WL6 := by rw [← hWL]; exact (Below.refl _ _).alloc (Nat.le_refl _) _
  have HLR : Hid (Rd .i64 WL6 (.slice (some ⟨w4.heap.size, 0, none⟩) 8 8) [1, 2, 100, 1000, 1001, 0, 10, 50]) := by rw [← hWL]; exact Rd.lit w4 [1, 2, 100, 1000, 1001, 0, 10, 50] (by decide)
  have HLN : Hid (g < w4.heap.size) := HD4.out.lt
  have HDl : Hid (Dr WL6 g v code) := HD4.out.below ba
  have HKl : Hid (Blk WL6 b #[.int .i64 0, .int .i64 0] 27 ∧ Below b w WL6 ∧ b < g) := ⟨HK4.out.1.below ba HK4.out.1.lt, belowCall HK4.out.2.1 ba (by have := HK4.out.1.lt; omega), HK4.out.2.2⟩
  have HWL : Hid (w4.alloc (Obj.cells #[.int .i64 1, .int .i64 2, .int .i64 100, .int .i64 1000, .int .i64 1001, .int .i64 0, .int .i64 10, .int .i64 50] 3) = WL6) := hWL
  clear ba hWL HK4 HD4
  go_wp2_with (fail)
  rw [HWL.out]
  refine (pickInt_c g v code _ [1, 2, 100, 1000, 1001, 0, 10, 50] _ HDl.out HLR.out (.inr (by have := HLN.out; simp [Value.ownBlock]; omega)) (by decide) (by decide)).mono ?_
  rintro e w6 ⟨k6, rfl, -, d1, g1⟩
  have HD6 : Hid (Dr w6 g v code) := d1
  have HK6 : Hid (Blk w6 b #[.int .i64 0, .int .i64 0] 27 ∧ Below b w w6 ∧ b < g) := ⟨HKl.out.1.grown g1 (by have := HKl.out.2.2; simp; omega), HKl.out.2.1.trans (grown_below g1 (by have := HKl.out.1.lt; omega) (fun k e => by cases e; have := HKl.out.2.2; omega)), HKl.out.2.2⟩
  clear d1 g1 HDl HKl HLR HWL HLN
  have c0 : w6.cell? ⟨b, 0, none⟩ = some (.int .i64 0) := HK6.out.1.cell 0
  have c1 : w6.cell? ⟨b, 1, none⟩ = some (.int .i64 0) := HK6.out.1.cell 1
  have z0 : w6.frozen? ⟨b, 0, none⟩ = false := HK6.out.1.frozen 0
  have z1 : w6.frozen? ⟨b, 1, none⟩ = false := HK6.out.1.frozen 1
  have HST : Hid (∀ p q, Blk ((w6.setCell ⟨b, 0, none⟩ p).setCell ⟨b, 1, none⟩ q) b #[p, q] 27 ∧ Below b w ((w6.setCell ⟨b, 0, none⟩ p).setCell ⟨b, 1, none⟩ q)) := fun p q => ⟨HK6.out.1.set2 p q, below_set2 HK6.out.2.1 _ (Nat.le_refl _) _ _⟩
  clear HK6
  go_wp2
  exact bodyPost_ret (results_T3 rfl _ _ _ _ _ (.int .i64 x) (.int .i64 y) rfl rfl rfl (HST.out _ _).1) rfl ⟨_, _, _, _, rfl, by rw [HBE.out]; exact (HST.out _ _).2⟩

end Go.Proofs.Ytiadakponjpkmaa

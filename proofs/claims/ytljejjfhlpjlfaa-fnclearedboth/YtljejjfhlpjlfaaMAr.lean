/- The model's l5Arrive; no condition. -/
import Derived.Test.YtljejjfhlpjlfaaMSe
namespace Go.Proofs.Ytljejjfhlpjlfaa
open Go.RowKit Go.ChangeShapes Go.WideShapes Go.ChangeAt
set_option linter.unusedVariables false
set_option linter.unusedSimpArgs false
set_option maxRecDepth 8000

/-- a signal arrives, as the model has it -/
def arrM (d : Dt) (p q r : Int) : Dt :=
  if q = 1 then seizM d p r
  else if q = 2 then (if (p = 0 ∧ d.2.1 = r) ∧ d.1 = 1 then (3, d.2.1, d.2.2.1, d.2.2.2.1, d.2.2.2.2) else d)
  else if q = 3 then (if p = 0 then (if d.2.1 ≤ r then (0, r, d.2.2.1, d.2.2.2.1, d.2.2.2.2 ++ [(1 - 0, 4, r)]) else (d.1, d.2.1, d.2.2.1, d.2.2.2.1, d.2.2.2.2 ++ [(1 - 0, 4, r)]))
    else (if d.2.2.2.1 ≤ r then (d.1, d.2.1, 0, r, d.2.2.2.2 ++ [(1 - 1, 4, r)]) else (d.1, d.2.1, d.2.2.1, d.2.2.2.1, d.2.2.2.2 ++ [(1 - 1, 4, r)])))
  else if p = 0 then (if d.2.1 = r ∧ d.1 = 4 then (0, d.2.1, d.2.2.1, d.2.2.2.1, d.2.2.2.2) else d)
  else (if d.2.2.2.1 = r ∧ d.2.2.1 = 4 then (d.1, d.2.1, 0, d.2.2.2.1, d.2.2.2.2) else d)


set_option maxHeartbeats 6400000 in
theorem arr0_c (base : Nat) (s c s' c' : Int) (v : Value) (ls : Tri) (q r : Int) (w : World) (h : Ot 66 base w v ls) (hbs : base ≤ w.heap.size) (hl : ls.length ≤ 1048576) (hq0 : 1 ≤ q) (hq1 : q ≤ 4) :
    Calls Try.prog 71 #[.agg (D5 s c s' c' v), .agg (P3 0 q r)] w (DuS base w v (arrM (s, c, s', c', ls) 0 q r)) := by
  obtain ⟨W0, hW0⟩ : ∃ W0, (((w.alloc (Obj.cells (D5 s c s' c' v) 31)).alloc (Obj.cells (P3 0 q r) 66)).alloc (Obj.cells (D5 0 0 0 0 (.slice none 0 0)) 31)) = W0 := ⟨_, rfl⟩
  have HB : Hid (Bx w base v W0 w.heap.size (w.heap.size + 1 + 1) s c s' c' v ls) := Bx.start h (by rw [← hW0]; exact (((Below.refl _ _).alloc (Nat.le_refl _) _).alloc (by simp) _).alloc (by simp; omega) _) (by rw [← hW0]; exact ((Blk.new _ _ _).alloc _).alloc _) (by rw [← hW0]; exact Blk.newAt _ (w.heap.size + 1 + 1) _ 31 (by simp)) (Nat.le_refl _) (by omega) (by omega)
  have HZ0 : Hid (W0.heap.size = w.heap.size + 1 + 1 + 1) := by rw [← hW0]; simp [Hid]
  have HX : Hid (Blk W0 (w.heap.size + 1) (P3 0 q r) 66) := by rw [← hW0]; exact (Blk.newAt _ (w.heap.size + 1) _ 66 (by simp)).alloc _
  obtain ⟨a, cap, hv, -⟩ := own_form h
  obtain ⟨n, hn⟩ : ∃ n, ls.length = n := ⟨_, rfl⟩
  rw [hn] at hv
  subst hv
  have HN : Hid (ls.length = n) := hn
  have HL : Hid (ls.length ≤ 4194304) := by show ls.length ≤ _; omega
  have HL1 : Hid (ls.length ≤ 1048576) := hl
  have HBS : Hid (base ≤ w.heap.size) := hbs
  clear h hn hl hbs
  have c0 := HB.out.box.cell 0
  have cf0 := HB.out.box.frozen 0
  have c1 := HB.out.box.cell 1
  have cf1 := HB.out.box.frozen 1
  have c2 := HB.out.box.cell 2
  have cf2 := HB.out.box.frozen 2
  have c3 := HB.out.box.cell 3
  have cf3 := HB.out.box.frozen 3
  have c4 := HB.out.box.cell 4
  have cf4 := HB.out.box.frozen 4
  have r0 := HB.out.res.cell 0
  have rf0 := HB.out.res.frozen 0
  have r1 := HB.out.res.cell 1
  have rf1 := HB.out.res.frozen 1
  have r2 := HB.out.res.cell 2
  have rf2 := HB.out.res.frozen 2
  have r3 := HB.out.res.cell 3
  have rf3 := HB.out.res.frozen 3
  have r4 := HB.out.res.cell 4
  have rf4 := HB.out.res.frozen 4
  simp at c0 c1 c2 c3 c4 r0 r1 r2 r3 r4
  have cl := HB.out.box.lt
  have rl := HB.out.res.lt
  have cn := HB.out.ne
  skip
  obtain ⟨W1, hW1⟩ : ∃ W, W0.alloc (Obj.cells (H2 s c) 27) = W := ⟨_, rfl⟩
  have B1 : Hid (Bx w base (.slice a n cap) W1 w.heap.size (w.heap.size + 1 + 1) s c s' c' (.slice a n cap) ls) := hW1 ▸ HB.out.alloc _
  have HH : Hid (Blk W1 (w.heap.size + 1 + 1 + 1) (H2 s c) 27) := by rw [← hW1, ← HZ0.out]; exact Blk.new _ _ _
  have zz : W0.heap.size = w.heap.size + 1 + 1 + 1 := HZ0.out
  have HBW : Hid (base ≤ W1.heap.size) := by have := B1.out.gr.size; have := HBS.out; show base ≤ _; omega
  have HX1 : Hid (Blk W1 (w.heap.size + 1) (P3 0 q r) 66) := hW1 ▸ HX.out.alloc _
  have y0 := HX1.out.cell 0
  have y1 := HX1.out.cell 1
  have y2 := HX1.out.cell 2
  have yv0 := HX.out.cell 0
  have yl := HX.out.lt
  simp at y0 y1 y2 yv0
  have u0 := HH.out.cell 0
  have u1 := HH.out.cell 1
  simp at u0 u1
  have e0 := B1.out.box.cell 0
  have ef0 := B1.out.box.frozen 0
  have e1 := B1.out.box.cell 1
  have ef1 := B1.out.box.frozen 1
  have e2 := B1.out.box.cell 2
  have ef2 := B1.out.box.frozen 2
  have e3 := B1.out.box.cell 3
  have ef3 := B1.out.box.frozen 3
  have e4 := B1.out.box.cell 4
  have ef4 := B1.out.box.frozen 4
  have f0 := B1.out.res.cell 0
  have ff0 := B1.out.res.frozen 0
  have f1 := B1.out.res.cell 1
  have ff1 := B1.out.res.frozen 1
  have f2 := B1.out.res.cell 2
  have ff2 := B1.out.res.frozen 2
  have f3 := B1.out.res.cell 3
  have ff3 := B1.out.res.frozen 3
  have f4 := B1.out.res.cell 4
  have ff4 := B1.out.res.frozen 4
  simp at e0 e1 e2 e3 e4 f0 f1 f2 f3 f4
  have el := B1.out.box.lt
  have fl := B1.out.res.lt
  have en := B1.out.ne
  skip
  clear HB
  have HB61 : Hid (base ≤ W1.heap.size) := HBW.out
  by_cases v1 : q = 1
  case pos =>
    subst v1
    obtain ⟨⟨t1, t2, t3, t4, tl⟩, hT⟩ : ∃ T, seizM (s, c, s', c', ls) 0 r = T := ⟨_, rfl⟩
    have HP : Hid (arrM (s, c, s', c', ls) 0 1 r = (t1, t2, t3, t4, tl)) := by show arrM (s, c, s', c', ls) 0 1 r = _; simp [arrM, hT]
    have hc := seiz_c base s c s' c' (.slice a n cap) ls 0 1 r W1 B1.out.own HBW.out HL1.out (by decide) (by decide)
    rw [hT] at hc
    have HC : Hid (Calls Try.prog 72 #[.agg (D5 s c s' c' (.slice a n cap)), .agg (P3 0 1 r)] W1 (DuS base W1 (.slice a n cap) (t1, t2, t3, t4, tl))) := hc
    clear hc hT
    go_enter Try.func71, Try.ntmps71
    go_wp2_with (fail)
    refine HC.out.mono ?_
    rintro e Wd ⟨v', rfl, ho, hg, hx⟩
    obtain ⟨k2, HF'⟩ := B1.out.hand ho hg hx t1 t2 t3 t4
    have HF : Hid _ := HF'
    obtain ⟨a', cap', hv', -⟩ := own_form ho
    subst hv'
    have m0 := k2.cell 0
    have mf0 := k2.frozen 0
    have m1 := k2.cell 1
    have mf1 := k2.frozen 1
    have m2 := k2.cell 2
    have mf2 := k2.frozen 2
    have m3 := k2.cell 3
    have mf3 := k2.frozen 3
    have m4 := k2.cell 4
    have mf4 := k2.frozen 4
    simp at m0 m1 m2 m3 m4
    clear k2 ho hg hx B1 HF' HC
    go_wp2
    rw [HP.out]
    exact bodyPost_ret (v := .agg (D5 t1 t2 t3 t4 (.slice a' tl.length cap'))) (results_cell_row rfl _ _ _ 31 _ (0, 0) _ rfl (HF.out _ rfl).1 Try.underlying31 rfl size31) rfl (HF.out _ rfl).2.2
  by_cases v2 : q = 2
  case pos =>
    subst v2
    by_cases zc : c = r
    case pos =>
      subst zc
      by_cases s1 : s = 1
      case pos =>
        subst s1
        have HP : Hid (arrM (1, c, s', c', ls) 0 2 c = (3, c, s', c', ls)) := by show arrM (1, c, s', c', ls) 0 2 c = _; simp [arrM]
        have B2 : Hid (Bx w base (.slice a n cap) (W1.setCell ⟨w.heap.size, 0, none⟩ (.int .i64 3)) w.heap.size (w.heap.size + 1 + 1) 3 c s' c' (.slice a n cap) ls) := B1.out.set0 3
        obtain ⟨W2, hW2⟩ : ∃ W, W1.setCell ⟨w.heap.size, 0, none⟩ (.int .i64 3) = W := ⟨_, rfl⟩
        rw [hW2] at B2
        have g0 := B2.out.box.cell 0
        have gf0 := B2.out.box.frozen 0
        have g1 := B2.out.box.cell 1
        have gf1 := B2.out.box.frozen 1
        have g2 := B2.out.box.cell 2
        have gf2 := B2.out.box.frozen 2
        have g3 := B2.out.box.cell 3
        have gf3 := B2.out.box.frozen 3
        have g4 := B2.out.box.cell 4
        have gf4 := B2.out.box.frozen 4
        have j0 := B2.out.res.cell 0
        have jf0 := B2.out.res.frozen 0
        have j1 := B2.out.res.cell 1
        have jf1 := B2.out.res.frozen 1
        have j2 := B2.out.res.cell 2
        have jf2 := B2.out.res.frozen 2
        have j3 := B2.out.res.cell 3
        have jf3 := B2.out.res.frozen 3
        have j4 := B2.out.res.cell 4
        have jf4 := B2.out.res.frozen 4
        simp at g0 g1 g2 g3 g4 j0 j1 j2 j3 j4
        have gl := B2.out.box.lt
        have jl := B2.out.res.lt
        have gn := B2.out.ne
        skip
        have HF : Hid _ := B2.out.ret
        clear B1 B2
        go_enter Try.func71, Try.ntmps71
        go_wp2
        rw [HP.out]
        exact bodyPost_ret (v := .agg (D5 3 c s' c' (.slice a n cap))) (results_cell_row rfl _ _ _ 31 _ (0, 0) _ rfl (HF.out _ rfl).1 Try.underlying31 rfl size31) rfl (HF.out _ rfl).2.2
      have s1F : (s = 1) = False := eq_false s1
      have s1b : (s == 1) = false := by simpa using s1
      have HP : Hid (arrM (s, c, s', c', ls) 0 2 c = (s, c, s', c', ls)) := by show arrM (s, c, s', c', ls) 0 2 c = _; simp [arrM, s1]
      have HF : Hid _ := B1.out.ret
      clear B1
      go_enter Try.func71, Try.ntmps71
      go_wp2
      rw [HP.out]
      exact bodyPost_ret (v := .agg (D5 s c s' c' (.slice a n cap))) (results_cell_row rfl _ _ _ 31 _ (0, 0) _ rfl (HF.out _ rfl).1 Try.underlying31 rfl size31) rfl (HF.out _ rfl).2.2
    have zcF : (c = r) = False := eq_false zc
    have zcb : (c == r) = false := by simpa using zc
    have zdF : (r = c) = False := eq_false fun h => zc h.symm
    have zdb : (r == c) = false := by simpa using fun h => zc (Eq.symm h)
    have HP : Hid (arrM (s, c, s', c', ls) 0 2 r = (s, c, s', c', ls)) := by show arrM (s, c, s', c', ls) 0 2 r = _; simp [arrM, zc]
    have HF : Hid _ := B1.out.ret
    clear B1
    go_enter Try.func71, Try.ntmps71
    go_wp2
    rw [HP.out]
    exact bodyPost_ret (v := .agg (D5 s c s' c' (.slice a n cap))) (results_cell_row rfl _ _ _ 31 _ (0, 0) _ rfl (HF.out _ rfl).1 Try.underlying31 rfl size31) rfl (HF.out _ rfl).2.2
  by_cases v3 : q = 3
  case pos =>
    subst v3
    have HC : Hid (Calls Try.prog 61 #[.agg (D5 s c s' c' (.slice a n cap)), .int .i64 0, .int .i64 4, .int .i64 r] W1 (DuS base W1 (.slice a n cap) (s, c, s', c', ls ++ [(1 - 0, 4, r)]))) := l5Send_c base s c s' c' (.slice a n cap) ls 0 4 r W1 B1.out.own HB61.out HL.out (by decide) (by decide)
    go_enter Try.func71, Try.ntmps71
    go_wp2_with (fail)
    refine HC.out.mono ?_
    rintro e Wd ⟨v', rfl, ho, hg, hx⟩
    obtain ⟨k1, -⟩ := B1.out.after ho hg hx
    have hB3 := B1.out.put ho hg hx s c s' c'
    obtain ⟨a', cap', hv', -⟩ := own_form ho
    rw [show (ls ++ [(1 - 0, 4, r)] : Tri).length = n + 1 by simp [HN.out]] at hv'
    subst hv'
    have B3 : Hid (Bx w base (.slice a n cap) (st5 Wd w.heap.size s c s' c' (.slice a' (n + 1) cap')) w.heap.size (w.heap.size + 1 + 1) s c s' c' (.slice a' (n + 1) cap') (ls ++ [(1 - 0, 4, r)])) := hB3
    have HX3 : Hid (Blk (st5 Wd w.heap.size s c s' c' (.slice a' (n + 1) cap')) (w.heap.size + 1) (P3 0 3 r) 66) := (HX1.out.grown hg (tw_old B1.out (by omega))).grown (grown_put5 ..) (by simp)
    have HH3 : Hid (Blk (st5 Wd w.heap.size s c s' c' (.slice a' (n + 1) cap')) (w.heap.size + 1 + 1 + 1) (H2 s c) 27) := (HH.out.grown hg (tw_old B1.out (by omega))).grown (grown_put5 ..) (by simp; try omega)
    have m0 := k1.cell 0
    have mf0 := k1.frozen 0
    have m1 := k1.cell 1
    have mf1 := k1.frozen 1
    have m2 := k1.cell 2
    have mf2 := k1.frozen 2
    have m3 := k1.cell 3
    have mf3 := k1.frozen 3
    have m4 := k1.cell 4
    have mf4 := k1.frozen 4
    simp at m0 m1 m2 m3 m4
    obtain ⟨W3, hW3⟩ : ∃ W, st5 Wd w.heap.size s c s' c' (.slice a' (n + 1) cap') = W := ⟨_, rfl⟩
    rw [hW3] at B3 HX3 HH3
    unfold st5 at hW3
    clear hW1 zz yv0 yl y0 y1 y2 u0 u1 hB3 k1 ho hg hx HC B1 HX1 HH e0 e1 e2 e3 e4 ef0 ef1 ef2 ef3 ef4 f0 f1 f2 f3 f4 ff0 ff1 ff2 ff3 ff4 el fl en
    clear c0 c1 c2 c3 c4 cf0 cf1 cf2 cf3 cf4 r0 r1 r2 r3 r4 rf0 rf1 rf2 rf3 rf4 cl rl cn
    have y0 := HX3.out.cell 0
    have y1 := HX3.out.cell 1
    have y2 := HX3.out.cell 2
    have u0 := HH3.out.cell 0
    have u1 := HH3.out.cell 1
    simp at y0 y1 y2 u0 u1
    have c0 := B3.out.box.cell 0
    have cf0 := B3.out.box.frozen 0
    have c1 := B3.out.box.cell 1
    have cf1 := B3.out.box.frozen 1
    have c2 := B3.out.box.cell 2
    have cf2 := B3.out.box.frozen 2
    have c3 := B3.out.box.cell 3
    have cf3 := B3.out.box.frozen 3
    have c4 := B3.out.box.cell 4
    have cf4 := B3.out.box.frozen 4
    have r0 := B3.out.res.cell 0
    have rf0 := B3.out.res.frozen 0
    have r1 := B3.out.res.cell 1
    have rf1 := B3.out.res.frozen 1
    have r2 := B3.out.res.cell 2
    have rf2 := B3.out.res.frozen 2
    have r3 := B3.out.res.cell 3
    have rf3 := B3.out.res.frozen 3
    have r4 := B3.out.res.cell 4
    have rf4 := B3.out.res.frozen 4
    simp at c0 c1 c2 c3 c4 r0 r1 r2 r3 r4
    have cl := B3.out.box.lt
    have rl := B3.out.res.lt
    have cn := B3.out.ne
    skip
    by_cases zl : c ≤ r
    case pos =>
      have HP : Hid (arrM (s, c, s', c', ls) 0 3 r = (0, r, s', c', ls ++ [(1 - 0, 4, r)])) := by show arrM (s, c, s', c', ls) 0 3 r = _; simp [arrM, zl]
      have B4 : Hid (Bx w base (.slice a n cap) ((W3.setCell ⟨w.heap.size, 0, none⟩ (.int .i64 0)).setCell ⟨w.heap.size, 1, none⟩ (.int .i64 r)) w.heap.size (w.heap.size + 1 + 1) 0 r s' c' (.slice a' (n + 1) cap') (ls ++ [(1 - 0, 4, r)])) := (B3.out.set0 0).set1 r
      obtain ⟨W4, hW4⟩ : ∃ W, (W3.setCell ⟨w.heap.size, 0, none⟩ (.int .i64 0)).setCell ⟨w.heap.size, 1, none⟩ (.int .i64 r) = W := ⟨_, rfl⟩
      rw [hW4] at B4
      have g0 := B4.out.box.cell 0
      have gf0 := B4.out.box.frozen 0
      have g1 := B4.out.box.cell 1
      have gf1 := B4.out.box.frozen 1
      have g2 := B4.out.box.cell 2
      have gf2 := B4.out.box.frozen 2
      have g3 := B4.out.box.cell 3
      have gf3 := B4.out.box.frozen 3
      have g4 := B4.out.box.cell 4
      have gf4 := B4.out.box.frozen 4
      have j0 := B4.out.res.cell 0
      have jf0 := B4.out.res.frozen 0
      have j1 := B4.out.res.cell 1
      have jf1 := B4.out.res.frozen 1
      have j2 := B4.out.res.cell 2
      have jf2 := B4.out.res.frozen 2
      have j3 := B4.out.res.cell 3
      have jf3 := B4.out.res.frozen 3
      have j4 := B4.out.res.cell 4
      have jf4 := B4.out.res.frozen 4
      simp at g0 g1 g2 g3 g4 j0 j1 j2 j3 j4
      have gl := B4.out.box.lt
      have jl := B4.out.res.lt
      have gn := B4.out.ne
      skip
      have HF : Hid _ := B4.out.ret
      clear B3 B4
      go_wp2
      rw [HP.out]
      exact bodyPost_ret (v := .agg (D5 0 r s' c' (.slice a' (n + 1) cap'))) (results_cell_row rfl _ _ _ 31 _ (0, 0) _ rfl (HF.out _ rfl).1 Try.underlying31 rfl size31) rfl (HF.out _ rfl).2.2
    have zlF : (c ≤ r) = False := eq_false zl
    have HP : Hid (arrM (s, c, s', c', ls) 0 3 r = (s, c, s', c', ls ++ [(1 - 0, 4, r)])) := by show arrM (s, c, s', c', ls) 0 3 r = _; simp [arrM, zl]
    have HF : Hid _ := B3.out.ret
    clear B3
    go_wp2
    rw [HP.out]
    exact bodyPost_ret (v := .agg (D5 s c s' c' (.slice a' (n + 1) cap'))) (results_cell_row rfl _ _ _ 31 _ (0, 0) _ rfl (HF.out _ rfl).1 Try.underlying31 rfl size31) rfl (HF.out _ rfl).2.2
  obtain rfl : q = 4 := by omega
  by_cases zc : c = r
  case pos =>
    subst zc
    by_cases s4 : s = 4
    case pos =>
      subst s4
      have HP : Hid (arrM (4, c, s', c', ls) 0 4 c = (0, c, s', c', ls)) := by show arrM (4, c, s', c', ls) 0 4 c = _; simp [arrM]
      have B2 : Hid (Bx w base (.slice a n cap) (W1.setCell ⟨w.heap.size, 0, none⟩ (.int .i64 0)) w.heap.size (w.heap.size + 1 + 1) 0 c s' c' (.slice a n cap) ls) := B1.out.set0 0
      obtain ⟨W2, hW2⟩ : ∃ W, W1.setCell ⟨w.heap.size, 0, none⟩ (.int .i64 0) = W := ⟨_, rfl⟩
      rw [hW2] at B2
      have g0 := B2.out.box.cell 0
      have gf0 := B2.out.box.frozen 0
      have g1 := B2.out.box.cell 1
      have gf1 := B2.out.box.frozen 1
      have g2 := B2.out.box.cell 2
      have gf2 := B2.out.box.frozen 2
      have g3 := B2.out.box.cell 3
      have gf3 := B2.out.box.frozen 3
      have g4 := B2.out.box.cell 4
      have gf4 := B2.out.box.frozen 4
      have j0 := B2.out.res.cell 0
      have jf0 := B2.out.res.frozen 0
      have j1 := B2.out.res.cell 1
      have jf1 := B2.out.res.frozen 1
      have j2 := B2.out.res.cell 2
      have jf2 := B2.out.res.frozen 2
      have j3 := B2.out.res.cell 3
      have jf3 := B2.out.res.frozen 3
      have j4 := B2.out.res.cell 4
      have jf4 := B2.out.res.frozen 4
      simp at g0 g1 g2 g3 g4 j0 j1 j2 j3 j4
      have gl := B2.out.box.lt
      have jl := B2.out.res.lt
      have gn := B2.out.ne
      skip
      have HF : Hid _ := B2.out.ret
      clear B1 B2
      go_enter Try.func71, Try.ntmps71
      go_wp2
      rw [HP.out]
      exact bodyPost_ret (v := .agg (D5 0 c s' c' (.slice a n cap))) (results_cell_row rfl _ _ _ 31 _ (0, 0) _ rfl (HF.out _ rfl).1 Try.underlying31 rfl size31) rfl (HF.out _ rfl).2.2
    have s4F : (s = 4) = False := eq_false s4
    have s4b : (s == 4) = false := by simpa using s4
    have HP : Hid (arrM (s, c, s', c', ls) 0 4 c = (s, c, s', c', ls)) := by show arrM (s, c, s', c', ls) 0 4 c = _; simp [arrM, s4]
    have HF : Hid _ := B1.out.ret
    clear B1
    go_enter Try.func71, Try.ntmps71
    go_wp2
    rw [HP.out]
    exact bodyPost_ret (v := .agg (D5 s c s' c' (.slice a n cap))) (results_cell_row rfl _ _ _ 31 _ (0, 0) _ rfl (HF.out _ rfl).1 Try.underlying31 rfl size31) rfl (HF.out _ rfl).2.2
  have zcF : (c = r) = False := eq_false zc
  have zcb : (c == r) = false := by simpa using zc
  have zdF : (r = c) = False := eq_false fun h => zc h.symm
  have zdb : (r == c) = false := by simpa using fun h => zc (Eq.symm h)
  have HP : Hid (arrM (s, c, s', c', ls) 0 4 r = (s, c, s', c', ls)) := by show arrM (s, c, s', c', ls) 0 4 r = _; simp [arrM, zc]
  have HF : Hid _ := B1.out.ret
  clear B1
  go_enter Try.func71, Try.ntmps71
  go_wp2
  rw [HP.out]
  exact bodyPost_ret (v := .agg (D5 s c s' c' (.slice a n cap))) (results_cell_row rfl _ _ _ 31 _ (0, 0) _ rfl (HF.out _ rfl).1 Try.underlying31 rfl size31) rfl (HF.out _ rfl).2.2

set_option maxHeartbeats 6400000 in
theorem arr1_c (base : Nat) (s c s' c' : Int) (v : Value) (ls : Tri) (q r : Int) (w : World) (h : Ot 66 base w v ls) (hbs : base ≤ w.heap.size) (hl : ls.length ≤ 1048576) (hq0 : 1 ≤ q) (hq1 : q ≤ 4) :
    Calls Try.prog 71 #[.agg (D5 s c s' c' v), .agg (P3 1 q r)] w (DuS base w v (arrM (s, c, s', c', ls) 1 q r)) := by
  obtain ⟨W0, hW0⟩ : ∃ W0, (((w.alloc (Obj.cells (D5 s c s' c' v) 31)).alloc (Obj.cells (P3 1 q r) 66)).alloc (Obj.cells (D5 0 0 0 0 (.slice none 0 0)) 31)) = W0 := ⟨_, rfl⟩
  have HB : Hid (Bx w base v W0 w.heap.size (w.heap.size + 1 + 1) s c s' c' v ls) := Bx.start h (by rw [← hW0]; exact (((Below.refl _ _).alloc (Nat.le_refl _) _).alloc (by simp) _).alloc (by simp; omega) _) (by rw [← hW0]; exact ((Blk.new _ _ _).alloc _).alloc _) (by rw [← hW0]; exact Blk.newAt _ (w.heap.size + 1 + 1) _ 31 (by simp)) (Nat.le_refl _) (by omega) (by omega)
  have HZ0 : Hid (W0.heap.size = w.heap.size + 1 + 1 + 1) := by rw [← hW0]; simp [Hid]
  have HX : Hid (Blk W0 (w.heap.size + 1) (P3 1 q r) 66) := by rw [← hW0]; exact (Blk.newAt _ (w.heap.size + 1) _ 66 (by simp)).alloc _
  obtain ⟨a, cap, hv, -⟩ := own_form h
  obtain ⟨n, hn⟩ : ∃ n, ls.length = n := ⟨_, rfl⟩
  rw [hn] at hv
  subst hv
  have HN : Hid (ls.length = n) := hn
  have HL : Hid (ls.length ≤ 4194304) := by show ls.length ≤ _; omega
  have HL1 : Hid (ls.length ≤ 1048576) := hl
  have HBS : Hid (base ≤ w.heap.size) := hbs
  clear h hn hl hbs
  have c0 := HB.out.box.cell 0
  have cf0 := HB.out.box.frozen 0
  have c1 := HB.out.box.cell 1
  have cf1 := HB.out.box.frozen 1
  have c2 := HB.out.box.cell 2
  have cf2 := HB.out.box.frozen 2
  have c3 := HB.out.box.cell 3
  have cf3 := HB.out.box.frozen 3
  have c4 := HB.out.box.cell 4
  have cf4 := HB.out.box.frozen 4
  have r0 := HB.out.res.cell 0
  have rf0 := HB.out.res.frozen 0
  have r1 := HB.out.res.cell 1
  have rf1 := HB.out.res.frozen 1
  have r2 := HB.out.res.cell 2
  have rf2 := HB.out.res.frozen 2
  have r3 := HB.out.res.cell 3
  have rf3 := HB.out.res.frozen 3
  have r4 := HB.out.res.cell 4
  have rf4 := HB.out.res.frozen 4
  simp at c0 c1 c2 c3 c4 r0 r1 r2 r3 r4
  have cl := HB.out.box.lt
  have rl := HB.out.res.lt
  have cn := HB.out.ne
  skip
  obtain ⟨W1, hW1⟩ : ∃ W, W0.alloc (Obj.cells (H2 s' c') 27) = W := ⟨_, rfl⟩
  have B1 : Hid (Bx w base (.slice a n cap) W1 w.heap.size (w.heap.size + 1 + 1) s c s' c' (.slice a n cap) ls) := hW1 ▸ HB.out.alloc _
  have HH : Hid (Blk W1 (w.heap.size + 1 + 1 + 1) (H2 s' c') 27) := by rw [← hW1, ← HZ0.out]; exact Blk.new _ _ _
  have zz : W0.heap.size = w.heap.size + 1 + 1 + 1 := HZ0.out
  have HBW : Hid (base ≤ W1.heap.size) := by have := B1.out.gr.size; have := HBS.out; show base ≤ _; omega
  have HX1 : Hid (Blk W1 (w.heap.size + 1) (P3 1 q r) 66) := hW1 ▸ HX.out.alloc _
  have y0 := HX1.out.cell 0
  have y1 := HX1.out.cell 1
  have y2 := HX1.out.cell 2
  have yv0 := HX.out.cell 0
  have yl := HX.out.lt
  simp at y0 y1 y2 yv0
  have u0 := HH.out.cell 0
  have u1 := HH.out.cell 1
  simp at u0 u1
  have e0 := B1.out.box.cell 0
  have ef0 := B1.out.box.frozen 0
  have e1 := B1.out.box.cell 1
  have ef1 := B1.out.box.frozen 1
  have e2 := B1.out.box.cell 2
  have ef2 := B1.out.box.frozen 2
  have e3 := B1.out.box.cell 3
  have ef3 := B1.out.box.frozen 3
  have e4 := B1.out.box.cell 4
  have ef4 := B1.out.box.frozen 4
  have f0 := B1.out.res.cell 0
  have ff0 := B1.out.res.frozen 0
  have f1 := B1.out.res.cell 1
  have ff1 := B1.out.res.frozen 1
  have f2 := B1.out.res.cell 2
  have ff2 := B1.out.res.frozen 2
  have f3 := B1.out.res.cell 3
  have ff3 := B1.out.res.frozen 3
  have f4 := B1.out.res.cell 4
  have ff4 := B1.out.res.frozen 4
  simp at e0 e1 e2 e3 e4 f0 f1 f2 f3 f4
  have el := B1.out.box.lt
  have fl := B1.out.res.lt
  have en := B1.out.ne
  skip
  clear HB
  have HB61 : Hid (base ≤ W1.heap.size) := HBW.out
  by_cases v1 : q = 1
  case pos =>
    subst v1
    obtain ⟨⟨t1, t2, t3, t4, tl⟩, hT⟩ : ∃ T, seizM (s, c, s', c', ls) 1 r = T := ⟨_, rfl⟩
    have HP : Hid (arrM (s, c, s', c', ls) 1 1 r = (t1, t2, t3, t4, tl)) := by show arrM (s, c, s', c', ls) 1 1 r = _; simp [arrM, hT]
    have hc := seiz_c base s c s' c' (.slice a n cap) ls 1 1 r W1 B1.out.own HBW.out HL1.out (by decide) (by decide)
    rw [hT] at hc
    have HC : Hid (Calls Try.prog 72 #[.agg (D5 s c s' c' (.slice a n cap)), .agg (P3 1 1 r)] W1 (DuS base W1 (.slice a n cap) (t1, t2, t3, t4, tl))) := hc
    clear hc hT
    go_enter Try.func71, Try.ntmps71
    go_wp2_with (fail)
    refine HC.out.mono ?_
    rintro e Wd ⟨v', rfl, ho, hg, hx⟩
    obtain ⟨k2, HF'⟩ := B1.out.hand ho hg hx t1 t2 t3 t4
    have HF : Hid _ := HF'
    obtain ⟨a', cap', hv', -⟩ := own_form ho
    subst hv'
    have m0 := k2.cell 0
    have mf0 := k2.frozen 0
    have m1 := k2.cell 1
    have mf1 := k2.frozen 1
    have m2 := k2.cell 2
    have mf2 := k2.frozen 2
    have m3 := k2.cell 3
    have mf3 := k2.frozen 3
    have m4 := k2.cell 4
    have mf4 := k2.frozen 4
    simp at m0 m1 m2 m3 m4
    clear k2 ho hg hx B1 HF' HC
    go_wp2
    rw [HP.out]
    exact bodyPost_ret (v := .agg (D5 t1 t2 t3 t4 (.slice a' tl.length cap'))) (results_cell_row rfl _ _ _ 31 _ (0, 0) _ rfl (HF.out _ rfl).1 Try.underlying31 rfl size31) rfl (HF.out _ rfl).2.2
  by_cases v2 : q = 2
  case pos =>
    subst v2
    have HP : Hid (arrM (s, c, s', c', ls) 1 2 r = (s, c, s', c', ls)) := by show arrM (s, c, s', c', ls) 1 2 r = _; simp [arrM]
    have HF : Hid _ := B1.out.ret
    clear B1
    go_enter Try.func71, Try.ntmps71
    go_wp2
    rw [HP.out]
    exact bodyPost_ret (v := .agg (D5 s c s' c' (.slice a n cap))) (results_cell_row rfl _ _ _ 31 _ (0, 0) _ rfl (HF.out _ rfl).1 Try.underlying31 rfl size31) rfl (HF.out _ rfl).2.2
  by_cases v3 : q = 3
  case pos =>
    subst v3
    have HC : Hid (Calls Try.prog 61 #[.agg (D5 s c s' c' (.slice a n cap)), .int .i64 1, .int .i64 4, .int .i64 r] W1 (DuS base W1 (.slice a n cap) (s, c, s', c', ls ++ [(1 - 1, 4, r)]))) := l5Send_c base s c s' c' (.slice a n cap) ls 1 4 r W1 B1.out.own HB61.out HL.out (by decide) (by decide)
    go_enter Try.func71, Try.ntmps71
    go_wp2_with (fail)
    refine HC.out.mono ?_
    rintro e Wd ⟨v', rfl, ho, hg, hx⟩
    obtain ⟨k1, -⟩ := B1.out.after ho hg hx
    have hB3 := B1.out.put ho hg hx s c s' c'
    obtain ⟨a', cap', hv', -⟩ := own_form ho
    rw [show (ls ++ [(1 - 1, 4, r)] : Tri).length = n + 1 by simp [HN.out]] at hv'
    subst hv'
    have B3 : Hid (Bx w base (.slice a n cap) (st5 Wd w.heap.size s c s' c' (.slice a' (n + 1) cap')) w.heap.size (w.heap.size + 1 + 1) s c s' c' (.slice a' (n + 1) cap') (ls ++ [(1 - 1, 4, r)])) := hB3
    have HX3 : Hid (Blk (st5 Wd w.heap.size s c s' c' (.slice a' (n + 1) cap')) (w.heap.size + 1) (P3 1 3 r) 66) := (HX1.out.grown hg (tw_old B1.out (by omega))).grown (grown_put5 ..) (by simp)
    have HH3 : Hid (Blk (st5 Wd w.heap.size s c s' c' (.slice a' (n + 1) cap')) (w.heap.size + 1 + 1 + 1) (H2 s' c') 27) := (HH.out.grown hg (tw_old B1.out (by omega))).grown (grown_put5 ..) (by simp; try omega)
    have m0 := k1.cell 0
    have mf0 := k1.frozen 0
    have m1 := k1.cell 1
    have mf1 := k1.frozen 1
    have m2 := k1.cell 2
    have mf2 := k1.frozen 2
    have m3 := k1.cell 3
    have mf3 := k1.frozen 3
    have m4 := k1.cell 4
    have mf4 := k1.frozen 4
    simp at m0 m1 m2 m3 m4
    obtain ⟨W3, hW3⟩ : ∃ W, st5 Wd w.heap.size s c s' c' (.slice a' (n + 1) cap') = W := ⟨_, rfl⟩
    rw [hW3] at B3 HX3 HH3
    unfold st5 at hW3
    clear hW1 zz yv0 yl y0 y1 y2 u0 u1 hB3 k1 ho hg hx HC B1 HX1 HH e0 e1 e2 e3 e4 ef0 ef1 ef2 ef3 ef4 f0 f1 f2 f3 f4 ff0 ff1 ff2 ff3 ff4 el fl en
    clear c0 c1 c2 c3 c4 cf0 cf1 cf2 cf3 cf4 r0 r1 r2 r3 r4 rf0 rf1 rf2 rf3 rf4 cl rl cn
    have y0 := HX3.out.cell 0
    have y1 := HX3.out.cell 1
    have y2 := HX3.out.cell 2
    have u0 := HH3.out.cell 0
    have u1 := HH3.out.cell 1
    simp at y0 y1 y2 u0 u1
    have c0 := B3.out.box.cell 0
    have cf0 := B3.out.box.frozen 0
    have c1 := B3.out.box.cell 1
    have cf1 := B3.out.box.frozen 1
    have c2 := B3.out.box.cell 2
    have cf2 := B3.out.box.frozen 2
    have c3 := B3.out.box.cell 3
    have cf3 := B3.out.box.frozen 3
    have c4 := B3.out.box.cell 4
    have cf4 := B3.out.box.frozen 4
    have r0 := B3.out.res.cell 0
    have rf0 := B3.out.res.frozen 0
    have r1 := B3.out.res.cell 1
    have rf1 := B3.out.res.frozen 1
    have r2 := B3.out.res.cell 2
    have rf2 := B3.out.res.frozen 2
    have r3 := B3.out.res.cell 3
    have rf3 := B3.out.res.frozen 3
    have r4 := B3.out.res.cell 4
    have rf4 := B3.out.res.frozen 4
    simp at c0 c1 c2 c3 c4 r0 r1 r2 r3 r4
    have cl := B3.out.box.lt
    have rl := B3.out.res.lt
    have cn := B3.out.ne
    skip
    by_cases zl : c' ≤ r
    case pos =>
      have HP : Hid (arrM (s, c, s', c', ls) 1 3 r = (s, c, 0, r, ls ++ [(1 - 1, 4, r)])) := by show arrM (s, c, s', c', ls) 1 3 r = _; simp [arrM, zl]
      have B4 : Hid (Bx w base (.slice a n cap) ((W3.setCell ⟨w.heap.size, 2, none⟩ (.int .i64 0)).setCell ⟨w.heap.size, 3, none⟩ (.int .i64 r)) w.heap.size (w.heap.size + 1 + 1) s c 0 r (.slice a' (n + 1) cap') (ls ++ [(1 - 1, 4, r)])) := (B3.out.set2 0).set3 r
      obtain ⟨W4, hW4⟩ : ∃ W, (W3.setCell ⟨w.heap.size, 2, none⟩ (.int .i64 0)).setCell ⟨w.heap.size, 3, none⟩ (.int .i64 r) = W := ⟨_, rfl⟩
      rw [hW4] at B4
      have g0 := B4.out.box.cell 0
      have gf0 := B4.out.box.frozen 0
      have g1 := B4.out.box.cell 1
      have gf1 := B4.out.box.frozen 1
      have g2 := B4.out.box.cell 2
      have gf2 := B4.out.box.frozen 2
      have g3 := B4.out.box.cell 3
      have gf3 := B4.out.box.frozen 3
      have g4 := B4.out.box.cell 4
      have gf4 := B4.out.box.frozen 4
      have j0 := B4.out.res.cell 0
      have jf0 := B4.out.res.frozen 0
      have j1 := B4.out.res.cell 1
      have jf1 := B4.out.res.frozen 1
      have j2 := B4.out.res.cell 2
      have jf2 := B4.out.res.frozen 2
      have j3 := B4.out.res.cell 3
      have jf3 := B4.out.res.frozen 3
      have j4 := B4.out.res.cell 4
      have jf4 := B4.out.res.frozen 4
      simp at g0 g1 g2 g3 g4 j0 j1 j2 j3 j4
      have gl := B4.out.box.lt
      have jl := B4.out.res.lt
      have gn := B4.out.ne
      skip
      have HF : Hid _ := B4.out.ret
      clear B3 B4
      go_wp2
      rw [HP.out]
      exact bodyPost_ret (v := .agg (D5 s c 0 r (.slice a' (n + 1) cap'))) (results_cell_row rfl _ _ _ 31 _ (0, 0) _ rfl (HF.out _ rfl).1 Try.underlying31 rfl size31) rfl (HF.out _ rfl).2.2
    have zlF : (c' ≤ r) = False := eq_false zl
    have HP : Hid (arrM (s, c, s', c', ls) 1 3 r = (s, c, s', c', ls ++ [(1 - 1, 4, r)])) := by show arrM (s, c, s', c', ls) 1 3 r = _; simp [arrM, zl]
    have HF : Hid _ := B3.out.ret
    clear B3
    go_wp2
    rw [HP.out]
    exact bodyPost_ret (v := .agg (D5 s c s' c' (.slice a' (n + 1) cap'))) (results_cell_row rfl _ _ _ 31 _ (0, 0) _ rfl (HF.out _ rfl).1 Try.underlying31 rfl size31) rfl (HF.out _ rfl).2.2
  obtain rfl : q = 4 := by omega
  by_cases zc : c' = r
  case pos =>
    subst zc
    by_cases s4 : s' = 4
    case pos =>
      subst s4
      have HP : Hid (arrM (s, c, 4, c', ls) 1 4 c' = (s, c, 0, c', ls)) := by show arrM (s, c, 4, c', ls) 1 4 c' = _; simp [arrM]
      have B2 : Hid (Bx w base (.slice a n cap) (W1.setCell ⟨w.heap.size, 2, none⟩ (.int .i64 0)) w.heap.size (w.heap.size + 1 + 1) s c 0 c' (.slice a n cap) ls) := B1.out.set2 0
      obtain ⟨W2, hW2⟩ : ∃ W, W1.setCell ⟨w.heap.size, 2, none⟩ (.int .i64 0) = W := ⟨_, rfl⟩
      rw [hW2] at B2
      have g0 := B2.out.box.cell 0
      have gf0 := B2.out.box.frozen 0
      have g1 := B2.out.box.cell 1
      have gf1 := B2.out.box.frozen 1
      have g2 := B2.out.box.cell 2
      have gf2 := B2.out.box.frozen 2
      have g3 := B2.out.box.cell 3
      have gf3 := B2.out.box.frozen 3
      have g4 := B2.out.box.cell 4
      have gf4 := B2.out.box.frozen 4
      have j0 := B2.out.res.cell 0
      have jf0 := B2.out.res.frozen 0
      have j1 := B2.out.res.cell 1
      have jf1 := B2.out.res.frozen 1
      have j2 := B2.out.res.cell 2
      have jf2 := B2.out.res.frozen 2
      have j3 := B2.out.res.cell 3
      have jf3 := B2.out.res.frozen 3
      have j4 := B2.out.res.cell 4
      have jf4 := B2.out.res.frozen 4
      simp at g0 g1 g2 g3 g4 j0 j1 j2 j3 j4
      have gl := B2.out.box.lt
      have jl := B2.out.res.lt
      have gn := B2.out.ne
      skip
      have HF : Hid _ := B2.out.ret
      clear B1 B2
      go_enter Try.func71, Try.ntmps71
      go_wp2
      rw [HP.out]
      exact bodyPost_ret (v := .agg (D5 s c 0 c' (.slice a n cap))) (results_cell_row rfl _ _ _ 31 _ (0, 0) _ rfl (HF.out _ rfl).1 Try.underlying31 rfl size31) rfl (HF.out _ rfl).2.2
    have s4F : (s' = 4) = False := eq_false s4
    have s4b : (s' == 4) = false := by simpa using s4
    have HP : Hid (arrM (s, c, s', c', ls) 1 4 c' = (s, c, s', c', ls)) := by show arrM (s, c, s', c', ls) 1 4 c' = _; simp [arrM, s4]
    have HF : Hid _ := B1.out.ret
    clear B1
    go_enter Try.func71, Try.ntmps71
    go_wp2
    rw [HP.out]
    exact bodyPost_ret (v := .agg (D5 s c s' c' (.slice a n cap))) (results_cell_row rfl _ _ _ 31 _ (0, 0) _ rfl (HF.out _ rfl).1 Try.underlying31 rfl size31) rfl (HF.out _ rfl).2.2
  have zcF : (c' = r) = False := eq_false zc
  have zcb : (c' == r) = false := by simpa using zc
  have zdF : (r = c') = False := eq_false fun h => zc h.symm
  have zdb : (r == c') = false := by simpa using fun h => zc (Eq.symm h)
  have HP : Hid (arrM (s, c, s', c', ls) 1 4 r = (s, c, s', c', ls)) := by show arrM (s, c, s', c', ls) 1 4 r = _; simp [arrM, zc]
  have HF : Hid _ := B1.out.ret
  clear B1
  go_enter Try.func71, Try.ntmps71
  go_wp2
  rw [HP.out]
  exact bodyPost_ret (v := .agg (D5 s c s' c' (.slice a n cap))) (results_cell_row rfl _ _ _ 31 _ (0, 0) _ rfl (HF.out _ rfl).1 Try.underlying31 rfl size31) rfl (HF.out _ rfl).2.2
end Go.Proofs.Ytljejjfhlpjlfaa

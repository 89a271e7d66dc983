/- The model's l5Do; no condition. -/
import Derived.Test.YtljejjfhlpjlfaaMWa
namespace Go.Proofs.Ytljejjfhlpjlfaa
open Go.RowKit Go.ChangeShapes Go.WideShapes Go.ChangeAt
set_option linter.unusedVariables false
set_option linter.unusedSimpArgs false
set_option maxRecDepth 8000

/-- an event, as the model has it -/
def doM (d : Dt) (k i : Int) : Dt × Bool :=
  if k = 1 then (if (¬ i = 0 ∨ ¬ d.1 = 0) ∨ 1000 ≤ d.2.1 then (d, false) else ((1, d.2.1 + 1, d.2.2.1, d.2.2.2.1, d.2.2.2.2 ++ [(1 - 0, 1, d.2.1 + 1)]), true))
  else if k = 2 then (if ¬ i = 0 ∨ ¬ d.2.2.1 = 2 then (d, false) else ((d.1, d.2.1, 3, d.2.2.2.1, d.2.2.2.2 ++ [(1 - 1, 2, d.2.2.2.1)]), true))
  else if k = 3 then (if 0 ≤ i ∧ i ≤ 1 then clrM d i else (d, false))
  else if k = 4 then (if 0 ≤ i ∧ i ≤ 1 then (timM d i, true) else (d, false))
  else if k = 5 ∨ k = 6 ∨ k = 7 then (if 0 ≤ i ∧ i ≤ (d.2.2.2.2.length : Int) - 1 then (wayM d k i.toNat, true) else (d, false))
  else (d, false)


set_option maxHeartbeats 6400000 in
theorem doM_c (base : Nat) (s c s' c' : Int) (v : Value) (ls : Tri) (k i : Int) (w : World) (h : Ot 66 base w v ls) (hbs : base ≤ w.heap.size) (hl : ls.length ≤ 1048576) (hd : DOk s c s' c' ls) :
    Calls Try.prog 40 #[.agg (D5 s c s' c' v), .agg (H2 k i)] w (DuR base w v (doM (s, c, s', c', ls) k i).1 (doM (s, c, s', c', ls) k i).2) := by
  obtain ⟨W0, hW0⟩ : ∃ W0, (((w.alloc (Obj.cells (D5 s c s' c' v) 31)).alloc (Obj.cells (H2 k i) 35)).alloc (Obj.cells (D5 0 0 0 0 (.slice none 0 0)) 31)) = W0 := ⟨_, rfl⟩
  have HB : Hid (Bx w base v W0 w.heap.size (w.heap.size + 1 + 1) s c s' c' v ls) := Bx.start h (by rw [← hW0]; exact (((Below.refl _ _).alloc (Nat.le_refl _) _).alloc (by simp) _).alloc (by simp; omega) _) (by rw [← hW0]; exact ((Blk.new _ _ _).alloc _).alloc _) (by rw [← hW0]; exact Blk.newAt _ (w.heap.size + 1 + 1) _ 31 (by simp)) (Nat.le_refl _) (by omega) (by omega)
  have HZ0 : Hid (W0.heap.size = w.heap.size + 1 + 1 + 1) := by rw [← hW0]; simp [Hid]
  have HX : Hid (Blk W0 (w.heap.size + 1) (H2 k i) 35) := by rw [← hW0]; exact (Blk.newAt _ (w.heap.size + 1) _ 35 (by simp)).alloc _
  obtain ⟨a, cap, hv, -⟩ := own_form h
  obtain ⟨n, hn⟩ : ∃ n, ls.length = n := ⟨_, rfl⟩
  rw [hn] at hv
  subst hv
  have HN : Hid (ls.length = n) := hn
  have HL : Hid (ls.length ≤ 4194304) := by show ls.length ≤ _; omega
  have HL1 : Hid (ls.length ≤ 1048576) := hl
  have HBS : Hid (base ≤ w.heap.size) := hbs
  have HD : Hid (DOk s c s' c' ls) := hd
  have hc0 : 0 ≤ c := hd.2.2.2.2.1.1
  have hc1 : c ≤ 1000 := hd.2.2.2.2.1.2
  clear hd
  clear h hn hl hbs
  have c0 := HB.out.box.cell 0
  have cf0 := HB.out.box.frozen 0
  have c1 := HB.out.box.cell 1
  have cf1 := HB.out.box.frozen 1
  have c2 := HB.out.box.cell 2
  have cf2 := HB.out.box.frozen 2
  have c3 := HB.out.box.cell 3
  have cf3 := HB.out.box.frozen 3
  have c4 := HB.out.box.cell 4
  have cf4 := HB.out.box.frozen 4
  have r0 := HB.out.res.cell 0
  have rf0 := HB.out.res.frozen 0
  have r1 := HB.out.res.cell 1
  have rf1 := HB.out.res.frozen 1
  have r2 := HB.out.res.cell 2
  have rf2 := HB.out.res.frozen 2
  have r3 := HB.out.res.cell 3
  have rf3 := HB.out.res.frozen 3
  have r4 := HB.out.res.cell 4
  have rf4 := HB.out.res.frozen 4
  simp at c0 c1 c2 c3 c4 r0 r1 r2 r3 r4
  have cl := HB.out.box.lt
  have rl := HB.out.res.lt
  have cn := HB.out.ne
  skip
  have x0 := HX.out.cell 0
  have x1 := HX.out.cell 1
  simp at x0 x1
  have xl := HX.out.lt
  have HBW0 : Hid (base ≤ W0.heap.size) := by have := HB.out.gr.size; have := HBS.out; show base ≤ _; omega
  by_cases v1 : k = 1
  case pos =>
    subst v1
    obtain ⟨W1, hW1⟩ : ∃ W, W0.alloc (Obj.cells (H2 s c) 27) = W := ⟨_, rfl⟩
    have B1 : Hid (Bx w base (.slice a n cap) W1 w.heap.size (w.heap.size + 1 + 1) s c s' c' (.slice a n cap) ls) := hW1 ▸ HB.out.alloc _
    have HH : Hid (Blk W1 (w.heap.size + 1 + 1 + 1) (H2 s c) 27) := by rw [← hW1, ← HZ0.out]; exact Blk.new _ _ _
    have zz : W0.heap.size = w.heap.size + 1 + 1 + 1 := HZ0.out
    have HBW : Hid (base ≤ W1.heap.size) := by have := B1.out.gr.size; have := HBS.out; show base ≤ _; omega
    have u0 := HH.out.cell 0
    have u1 := HH.out.cell 1
    simp at u0 u1
    have e0 := B1.out.box.cell 0
    have ef0 := B1.out.box.frozen 0
    have e1 := B1.out.box.cell 1
    have ef1 := B1.out.box.frozen 1
    have e2 := B1.out.box.cell 2
    have ef2 := B1.out.box.frozen 2
    have e3 := B1.out.box.cell 3
    have ef3 := B1.out.box.frozen 3
    have e4 := B1.out.box.cell 4
    have ef4 := B1.out.box.frozen 4
    have f0 := B1.out.res.cell 0
    have ff0 := B1.out.res.frozen 0
    have f1 := B1.out.res.cell 1
    have ff1 := B1.out.res.frozen 1
    have f2 := B1.out.res.cell 2
    have ff2 := B1.out.res.frozen 2
    have f3 := B1.out.res.cell 3
    have ff3 := B1.out.res.frozen 3
    have f4 := B1.out.res.cell 4
    have ff4 := B1.out.res.frozen 4
    simp at e0 e1 e2 e3 e4 f0 f1 f2 f3 f4
    have el := B1.out.box.lt
    have fl := B1.out.res.lt
    have en := B1.out.ne
    skip
    clear HB
    have HX1 : Hid (Blk W1 (w.heap.size + 1) (H2 1 i) 35) := hW1 ▸ HX.out.alloc _
    have X0 := HX1.out.cell 0
    have X1 := HX1.out.cell 1
    simp at X0 X1
    by_cases i0 : i = 0
    case pos =>
      subst i0
      by_cases s0 : s = 0
      case pos =>
        subst s0
        by_cases cc : 1000 ≤ c
        case pos =>
          have HP : Hid (doM (0, c, s', c', ls) 1 0 = ((0, c, s', c', ls), false)) := by show doM (0, c, s', c', ls) 1 0 = _; simp [doM, cc]
          have HF : Hid _ := B1.out.ret
          clear B1
          go_enter Try.func40, Try.ntmps40
          go_wp2
          rw [HP.out]
          exact bodyPost_ret (v := .tuple #[.agg (D5 0 c s' c' (.slice a n cap)), .bool false]) (results_D rfl _ _ _ _ _ _ _ _ _ rfl rfl (HF.out _ rfl).1) rfl ((HF.out _ rfl).2.1 false)
        have ccF : (1000 ≤ c) = False := eq_false cc
        have B2 : Hid (Bx w base (.slice a n cap) ((W1.setCell ⟨w.heap.size, 0, none⟩ (.int .i64 1)).setCell ⟨w.heap.size, 1, none⟩ (.int .i64 (c + 1))) w.heap.size (w.heap.size + 1 + 1) 1 (c + 1) s' c' (.slice a n cap) ls) := (B1.out.set0 1).set1 (c + 1)
        have HH2 : Hid (Blk ((W1.setCell ⟨w.heap.size, 0, none⟩ (.int .i64 1)).setCell ⟨w.heap.size, 1, none⟩ (.int .i64 (c + 1))) (w.heap.size + 1 + 1 + 1) (H2 0 c) 27) := (HH.out.other _ _ (by show w.heap.size + 1 + 1 + 1 ≠ w.heap.size; omega)).other _ _ (by show w.heap.size + 1 + 1 + 1 ≠ w.heap.size; omega)
        obtain ⟨W2, hW2⟩ : ∃ W, ((W1.setCell ⟨w.heap.size, 0, none⟩ (.int .i64 1)).setCell ⟨w.heap.size, 1, none⟩ (.int .i64 (c + 1))) = W := ⟨_, rfl⟩
        rw [hW2] at B2 HH2
        have v0 := HH2.out.cell 0
        have v1 := HH2.out.cell 1
        simp at v0 v1
        have HB61 : Hid (base ≤ W2.heap.size) := by have := B2.out.gr.size; have := HBS.out; show base ≤ _; omega
        have g0 := B2.out.box.cell 0
        have gf0 := B2.out.box.frozen 0
        have g1 := B2.out.box.cell 1
        have gf1 := B2.out.box.frozen 1
        have g2 := B2.out.box.cell 2
        have gf2 := B2.out.box.frozen 2
        have g3 := B2.out.box.cell 3
        have gf3 := B2.out.box.frozen 3
        have g4 := B2.out.box.cell 4
        have gf4 := B2.out.box.frozen 4
        have j0 := B2.out.res.cell 0
        have jf0 := B2.out.res.frozen 0
        have j1 := B2.out.res.cell 1
        have jf1 := B2.out.res.frozen 1
        have j2 := B2.out.res.cell 2
        have jf2 := B2.out.res.frozen 2
        have j3 := B2.out.res.cell 3
        have jf3 := B2.out.res.frozen 3
        have j4 := B2.out.res.cell 4
        have jf4 := B2.out.res.frozen 4
        simp at g0 g1 g2 g3 g4 j0 j1 j2 j3 j4
        have gl := B2.out.box.lt
        have jl := B2.out.res.lt
        have gn := B2.out.ne
        skip
        clear B1
        have HP : Hid (doM (0, c, s', c', ls) 1 0 = ((1, c + 1, s', c', ls ++ [(1 - 0, 1, c + 1)]), true)) := by show doM (0, c, s', c', ls) 1 0 = _; simp [doM, cc]
        have HC : Hid (Calls Try.prog 61 #[.agg (D5 1 (c + 1) s' c' (.slice a n cap)), .int .i64 0, .int .i64 1, .int .i64 (c + 1)] W2 (DuS base W2 (.slice a n cap) (1, c + 1, s', c', ls ++ [(1 - 0, 1, (c + 1))]))) := l5Send_c base 1 (c + 1) s' c' (.slice a n cap) ls 0 1 (c + 1) W2 B2.out.own HB61.out HL.out (by decide) (by decide)
        go_enter Try.func40, Try.ntmps40
        go_wp2_with (fail)
        refine HC.out.mono ?_
        rintro e Wd ⟨v', rfl, ho, hg, hx⟩
        obtain ⟨k2, HF'⟩ := B2.out.hand ho hg hx 1 (c + 1) s' c'
        have HF : Hid _ := HF'
        obtain ⟨a', cap', hv', -⟩ := own_form ho
        rw [show (ls ++ [(1 - 0, 1, (c + 1))] : Tri).length = n + 1 by simp [HN.out]] at hv'
        subst hv'
        have m0 := k2.cell 0
        have mf0 := k2.frozen 0
        have m1 := k2.cell 1
        have mf1 := k2.frozen 1
        have m2 := k2.cell 2
        have mf2 := k2.frozen 2
        have m3 := k2.cell 3
        have mf3 := k2.frozen 3
        have m4 := k2.cell 4
        have mf4 := k2.frozen 4
        simp at m0 m1 m2 m3 m4
        clear k2 ho hg hx B2 HF' HC
        go_wp2
        rw [HP.out]
        exact bodyPost_ret (v := .tuple #[.agg (D5 1 (c + 1) s' c' (.slice a' (n + 1) cap')), .bool true]) (results_D rfl _ _ _ _ _ _ _ _ _ rfl rfl (HF.out _ rfl).1) rfl ((HF.out _ rfl).2.1 true)
      have s0F : (s = 0) = False := eq_false s0
      have s0b : (s == 0) = false := by simpa using s0
      have s0n : (s != 0) = true := by simpa using s0
      have HP : Hid (doM (s, c, s', c', ls) 1 0 = ((s, c, s', c', ls), false)) := by show doM (s, c, s', c', ls) 1 0 = _; simp [doM, s0]
      have HF : Hid _ := B1.out.ret
      clear B1
      go_enter Try.func40, Try.ntmps40
      go_wp2
      rw [HP.out]
      exact bodyPost_ret (v := .tuple #[.agg (D5 s c s' c' (.slice a n cap)), .bool false]) (results_D rfl _ _ _ _ _ _ _ _ _ rfl rfl (HF.out _ rfl).1) rfl ((HF.out _ rfl).2.1 false)
    have i0F : (i = 0) = False := eq_false i0
    have i0b : (i == 0) = false := by simpa using i0
    have i0n : (i != 0) = true := by simpa using i0
    have HP : Hid (doM (s, c, s', c', ls) 1 i = ((s, c, s', c', ls), false)) := by show doM (s, c, s', c', ls) 1 i = _; simp [doM, i0]
    have HF : Hid _ := B1.out.ret
    clear B1
    go_enter Try.func40, Try.ntmps40
    go_wp2
    rw [HP.out]
    exact bodyPost_ret (v := .tuple #[.agg (D5 s c s' c' (.slice a n cap)), .bool false]) (results_D rfl _ _ _ _ _ _ _ _ _ rfl rfl (HF.out _ rfl).1) rfl ((HF.out _ rfl).2.1 false)
  by_cases v2 : k = 2
  case pos =>
    subst v2
    by_cases i0 : i = 0
    case pos =>
      subst i0
      by_cases s2 : s' = 2
      case pos =>
        subst s2
        have B2 : Hid (Bx w base (.slice a n cap) (W0.setCell ⟨w.heap.size, 2, none⟩ (.int .i64 3)) w.heap.size (w.heap.size + 1 + 1) s c 3 c' (.slice a n cap) ls) := HB.out.set2 3
        obtain ⟨W2, hW2⟩ : ∃ W, (W0.setCell ⟨w.heap.size, 2, none⟩ (.int .i64 3)) = W := ⟨_, rfl⟩
        rw [hW2] at B2
        have HB61 : Hid (base ≤ W2.heap.size) := by have := B2.out.gr.size; have := HBS.out; show base ≤ _; omega
        have g0 := B2.out.box.cell 0
        have gf0 := B2.out.box.frozen 0
        have g1 := B2.out.box.cell 1
        have gf1 := B2.out.box.frozen 1
        have g2 := B2.out.box.cell 2
        have gf2 := B2.out.box.frozen 2
        have g3 := B2.out.box.cell 3
        have gf3 := B2.out.box.frozen 3
        have g4 := B2.out.box.cell 4
        have gf4 := B2.out.box.frozen 4
        have j0 := B2.out.res.cell 0
        have jf0 := B2.out.res.frozen 0
        have j1 := B2.out.res.cell 1
        have jf1 := B2.out.res.frozen 1
        have j2 := B2.out.res.cell 2
        have jf2 := B2.out.res.frozen 2
        have j3 := B2.out.res.cell 3
        have jf3 := B2.out.res.frozen 3
        have j4 := B2.out.res.cell 4
        have jf4 := B2.out.res.frozen 4
        simp at g0 g1 g2 g3 g4 j0 j1 j2 j3 j4
        have gl := B2.out.box.lt
        have jl := B2.out.res.lt
        have gn := B2.out.ne
        skip
        clear HB
        have HP : Hid (doM (s, c, 2, c', ls) 2 0 = ((s, c, 3, c', ls ++ [(1 - 1, 2, c')]), true)) := by show doM (s, c, 2, c', ls) 2 0 = _; simp [doM]
        have HC : Hid (Calls Try.prog 61 #[.agg (D5 s c 3 c' (.slice a n cap)), .int .i64 1, .int .i64 2, .int .i64 c'] W2 (DuS base W2 (.slice a n cap) (s, c, 3, c', ls ++ [(1 - 1, 2, c')]))) := l5Send_c base s c 3 c' (.slice a n cap) ls 1 2 c' W2 B2.out.own HB61.out HL.out (by decide) (by decide)
        go_enter Try.func40, Try.ntmps40
        go_wp2_with (fail)
        refine HC.out.mono ?_
        rintro e Wd ⟨v', rfl, ho, hg, hx⟩
        obtain ⟨k2, HF'⟩ := B2.out.hand ho hg hx s c 3 c'
        have HF : Hid _ := HF'
        obtain ⟨a', cap', hv', -⟩ := own_form ho
        rw [show (ls ++ [(1 - 1, 2, c')] : Tri).length = n + 1 by simp [HN.out]] at hv'
        subst hv'
        have m0 := k2.cell 0
        have mf0 := k2.frozen 0
        have m1 := k2.cell 1
        have mf1 := k2.frozen 1
        have m2 := k2.cell 2
        have mf2 := k2.frozen 2
        have m3 := k2.cell 3
        have mf3 := k2.frozen 3
        have m4 := k2.cell 4
        have mf4 := k2.frozen 4
        simp at m0 m1 m2 m3 m4
        clear k2 ho hg hx B2 HF' HC
        go_wp2
        rw [HP.out]
        exact bodyPost_ret (v := .tuple #[.agg (D5 s c 3 c' (.slice a' (n + 1) cap')), .bool true]) (results_D rfl _ _ _ _ _ _ _ _ _ rfl rfl (HF.out _ rfl).1) rfl ((HF.out _ rfl).2.1 true)
      have s2F : (s' = 2) = False := eq_false s2
      have s2b : (s' == 2) = false := by simpa using s2
      have s2n : (s' != 2) = true := by simpa using s2
      have HP : Hid (doM (s, c, s', c', ls) 2 0 = ((s, c, s', c', ls), false)) := by show doM (s, c, s', c', ls) 2 0 = _; simp [doM, s2]
      have HF : Hid _ := HB.out.ret
      clear HB
      go_enter Try.func40, Try.ntmps40
      go_wp2
      rw [HP.out]
      exact bodyPost_ret (v := .tuple #[.agg (D5 s c s' c' (.slice a n cap)), .bool false]) (results_D rfl _ _ _ _ _ _ _ _ _ rfl rfl (HF.out _ rfl).1) rfl ((HF.out _ rfl).2.1 false)
    have i0F : (i = 0) = False := eq_false i0
    have i0b : (i == 0) = false := by simpa using i0
    have i0n : (i != 0) = true := by simpa using i0
    have HP : Hid (doM (s, c, s', c', ls) 2 i = ((s, c, s', c', ls), false)) := by show doM (s, c, s', c', ls) 2 i = _; simp [doM, i0]
    have HF : Hid _ := HB.out.ret
    clear HB
    go_enter Try.func40, Try.ntmps40
    go_wp2
    rw [HP.out]
    exact bodyPost_ret (v := .tuple #[.agg (D5 s c s' c' (.slice a n cap)), .bool false]) (results_D rfl _ _ _ _ _ _ _ _ _ rfl rfl (HF.out _ rfl).1) rfl ((HF.out _ rfl).2.1 false)
  by_cases v3 : k = 3
  case pos =>
    subst v3
    by_cases i0 : i = 0
    case pos =>
      subst i0
      have QIN : decide ((0 : Int) ≤ 0 ∧ (0 : Int) ≤ 1) = true := by decide
      obtain ⟨⟨⟨t1, t2, t3, t4, tl⟩, ok⟩, hT⟩ : ∃ T, clrM (s, c, s', c', ls) 0 = T := ⟨_, rfl⟩
      have HP : Hid (doM (s, c, s', c', ls) 3 0 = ((t1, t2, t3, t4, tl), ok)) := by show doM _ _ _ = _; simp [doM, hT]
      have hc := clr0_c base s c s' c' (.slice a n cap) ls W0 HB.out.own HBW0.out HL1.out
      rw [hT] at hc
      have HC : Hid (Calls Try.prog 62 #[.agg (D5 s c s' c' (.slice a n cap)), .int .i64 0] W0 (DuR base W0 (.slice a n cap) (t1, t2, t3, t4, tl) ok)) := hc
      clear hc hT
      go_enter Try.func40, Try.ntmps40
      go_wp2_with (first | (go_at_call 41; refine (l1In_b _ _ _ _ QIN _).mono ?_; rintro e w2 ⟨rfl, hw2⟩; obtain rfl := hw2.symm))
      refine HC.out.mono ?_
      rintro e Wd ⟨v', rfl, ho, hg, hx⟩
      obtain ⟨k2, HF'⟩ := HB.out.hand ho hg hx t1 t2 t3 t4
      have HF : Hid _ := HF'
      obtain ⟨a', cap', hv', -⟩ := own_form ho
      subst hv'
      have m0 := k2.cell 0
      have mf0 := k2.frozen 0
      have m1 := k2.cell 1
      have mf1 := k2.frozen 1
      have m2 := k2.cell 2
      have mf2 := k2.frozen 2
      have m3 := k2.cell 3
      have mf3 := k2.frozen 3
      have m4 := k2.cell 4
      have mf4 := k2.frozen 4
      simp at m0 m1 m2 m3 m4
      clear k2 ho hg hx HB HF' HC
      go_wp2
      rw [HP.out]
      exact bodyPost_ret (v := .tuple #[.agg (D5 t1 t2 t3 t4 (.slice a' tl.length cap')), .bool ok]) (results_D rfl _ _ _ _ _ _ _ _ _ rfl rfl (HF.out _ rfl).1) rfl ((HF.out _ rfl).2.1 ok)
    by_cases i1 : i = 1
    case pos =>
      subst i1
      have QIN : decide ((0 : Int) ≤ 1 ∧ (1 : Int) ≤ 1) = true := by decide
      obtain ⟨⟨⟨t1, t2, t3, t4, tl⟩, ok⟩, hT⟩ : ∃ T, clrM (s, c, s', c', ls) 1 = T := ⟨_, rfl⟩
      have HP : Hid (doM (s, c, s', c', ls) 3 1 = ((t1, t2, t3, t4, tl), ok)) := by show doM _ _ _ = _; simp [doM, hT]
      have hc := clr1_c base s c s' c' (.slice a n cap) ls W0 HB.out.own HBW0.out HL1.out
      rw [hT] at hc
      have HC : Hid (Calls Try.prog 62 #[.agg (D5 s c s' c' (.slice a n cap)), .int .i64 1] W0 (DuR base W0 (.slice a n cap) (t1, t2, t3, t4, tl) ok)) := hc
      clear hc hT
      go_enter Try.func40, Try.ntmps40
      go_wp2_with (first | (go_at_call 41; refine (l1In_b _ _ _ _ QIN _).mono ?_; rintro e w2 ⟨rfl, hw2⟩; obtain rfl := hw2.symm))
      refine HC.out.mono ?_
      rintro e Wd ⟨v', rfl, ho, hg, hx⟩
      obtain ⟨k2, HF'⟩ := HB.out.hand ho hg hx t1 t2 t3 t4
      have HF : Hid _ := HF'
      obtain ⟨a', cap', hv', -⟩ := own_form ho
      subst hv'
      have m0 := k2.cell 0
      have mf0 := k2.frozen 0
      have m1 := k2.cell 1
      have mf1 := k2.frozen 1
      have m2 := k2.cell 2
      have mf2 := k2.frozen 2
      have m3 := k2.cell 3
      have mf3 := k2.frozen 3
      have m4 := k2.cell 4
      have mf4 := k2.frozen 4
      simp at m0 m1 m2 m3 m4
      clear k2 ho hg hx HB HF' HC
      go_wp2
      rw [HP.out]
      exact bodyPost_ret (v := .tuple #[.agg (D5 t1 t2 t3 t4 (.slice a' tl.length cap')), .bool ok]) (results_D rfl _ _ _ _ _ _ _ _ _ rfl rfl (HF.out _ rfl).1) rfl ((HF.out _ rfl).2.1 ok)
    have QN : ¬ (0 ≤ i ∧ i ≤ 1) := by omega
    have QIN : decide (0 ≤ i ∧ i ≤ 1) = false := decide_eq_false QN
    have HP : Hid (doM (s, c, s', c', ls) 3 i = ((s, c, s', c', ls), false)) := by show doM (s, c, s', c', ls) 3 i = _; simp only [doM]; simp [QN]
    have HF : Hid _ := HB.out.ret
    clear HB
    go_enter Try.func40, Try.ntmps40
    go_wp2_with (first | (go_at_call 41; refine (l1In_b _ _ _ _ QIN _).mono ?_; rintro e w2 ⟨rfl, hw2⟩; obtain rfl := hw2.symm))
    rw [HP.out]
    exact bodyPost_ret (v := .tuple #[.agg (D5 s c s' c' (.slice a n cap)), .bool false]) (results_D rfl _ _ _ _ _ _ _ _ _ rfl rfl (HF.out _ rfl).1) rfl ((HF.out _ rfl).2.1 false)
  by_cases v4 : k = 4
  case pos =>
    subst v4
    by_cases i0 : i = 0
    case pos =>
      subst i0
      have QIN : decide ((0 : Int) ≤ 0 ∧ (0 : Int) ≤ 1) = true := by decide
      obtain ⟨⟨t1, t2, t3, t4, tl⟩, hT⟩ : ∃ T, timM (s, c, s', c', ls) 0 = T := ⟨_, rfl⟩
      have HP : Hid (doM (s, c, s', c', ls) 4 0 = ((t1, t2, t3, t4, tl), true)) := by show doM _ _ _ = _; simp [doM, hT]
      have hc := tim0_c base s c s' c' (.slice a n cap) ls W0 HB.out.own HBW0.out HL1.out
      rw [hT] at hc
      have HC : Hid (Calls Try.prog 55 #[.agg (D5 s c s' c' (.slice a n cap)), .int .i64 0] W0 (DuS base W0 (.slice a n cap) (t1, t2, t3, t4, tl))) := hc
      clear hc hT
      go_enter Try.func40, Try.ntmps40
      go_wp2_with (first | (go_at_call 41; refine (l1In_b _ _ _ _ QIN _).mono ?_; rintro e w2 ⟨rfl, hw2⟩; obtain rfl := hw2.symm))
      refine HC.out.mono ?_
      rintro e Wd ⟨v', rfl, ho, hg, hx⟩
      obtain ⟨k2, HF'⟩ := HB.out.hand ho hg hx t1 t2 t3 t4
      have HF : Hid _ := HF'
      obtain ⟨a', cap', hv', -⟩ := own_form ho
      subst hv'
      have m0 := k2.cell 0
      have mf0 := k2.frozen 0
      have m1 := k2.cell 1
      have mf1 := k2.frozen 1
      have m2 := k2.cell 2
      have mf2 := k2.frozen 2
      have m3 := k2.cell 3
      have mf3 := k2.frozen 3
      have m4 := k2.cell 4
      have mf4 := k2.frozen 4
      simp at m0 m1 m2 m3 m4
      clear k2 ho hg hx HB HF' HC
      go_wp2
      rw [HP.out]
      exact bodyPost_ret (v := .tuple #[.agg (D5 t1 t2 t3 t4 (.slice a' tl.length cap')), .bool true]) (results_D rfl _ _ _ _ _ _ _ _ _ rfl rfl (HF.out _ rfl).1) rfl ((HF.out _ rfl).2.1 true)
    by_cases i1 : i = 1
    case pos =>
      subst i1
      have QIN : decide ((0 : Int) ≤ 1 ∧ (1 : Int) ≤ 1) = true := by decide
      obtain ⟨⟨t1, t2, t3, t4, tl⟩, hT⟩ : ∃ T, timM (s, c, s', c', ls) 1 = T := ⟨_, rfl⟩
      have HP : Hid (doM (s, c, s', c', ls) 4 1 = ((t1, t2, t3, t4, tl), true)) := by show doM _ _ _ = _; simp [doM, hT]
      have hc := tim1_c base s c s' c' (.slice a n cap) ls W0 HB.out.own HBW0.out HL1.out
      rw [hT] at hc
      have HC : Hid (Calls Try.prog 55 #[.agg (D5 s c s' c' (.slice a n cap)), .int .i64 1] W0 (DuS base W0 (.slice a n cap) (t1, t2, t3, t4, tl))) := hc
      clear hc hT
      go_enter Try.func40, Try.ntmps40
      go_wp2_with (first | (go_at_call 41; refine (l1In_b _ _ _ _ QIN _).mono ?_; rintro e w2 ⟨rfl, hw2⟩; obtain rfl := hw2.symm))
      refine HC.out.mono ?_
      rintro e Wd ⟨v', rfl, ho, hg, hx⟩
      obtain ⟨k2, HF'⟩ := HB.out.hand ho hg hx t1 t2 t3 t4
      have HF : Hid _ := HF'
      obtain ⟨a', cap', hv', -⟩ := own_form ho
      subst hv'
      have m0 := k2.cell 0
      have mf0 := k2.frozen 0
      have m1 := k2.cell 1
      have mf1 := k2.frozen 1
      have m2 := k2.cell 2
      have mf2 := k2.frozen 2
      have m3 := k2.cell 3
      have mf3 := k2.frozen 3
      have m4 := k2.cell 4
      have mf4 := k2.frozen 4
      simp at m0 m1 m2 m3 m4
      clear k2 ho hg hx HB HF' HC
      go_wp2
      rw [HP.out]
      exact bodyPost_ret (v := .tuple #[.agg (D5 t1 t2 t3 t4 (.slice a' tl.length cap')), .bool true]) (results_D rfl _ _ _ _ _ _ _ _ _ rfl rfl (HF.out _ rfl).1) rfl ((HF.out _ rfl).2.1 true)
    have QN : ¬ (0 ≤ i ∧ i ≤ 1) := by omega
    have QIN : decide (0 ≤ i ∧ i ≤ 1) = false := decide_eq_false QN
    have HP : Hid (doM (s, c, s', c', ls) 4 i = ((s, c, s', c', ls), false)) := by show doM (s, c, s', c', ls) 4 i = _; simp only [doM]; simp [QN]
    have HF : Hid _ := HB.out.ret
    clear HB
    go_enter Try.func40, Try.ntmps40
    go_wp2_with (first | (go_at_call 41; refine (l1In_b _ _ _ _ QIN _).mono ?_; rintro e w2 ⟨rfl, hw2⟩; obtain rfl := hw2.symm))
    rw [HP.out]
    exact bodyPost_ret (v := .tuple #[.agg (D5 s c s' c' (.slice a n cap)), .bool false]) (results_D rfl _ _ _ _ _ _ _ _ _ rfl rfl (HF.out _ rfl).1) rfl ((HF.out _ rfl).2.1 false)
  by_cases v5 : k = 5
  case pos =>
    subst v5
    by_cases hin : 0 ≤ i ∧ i ≤ (n : Int) - 1
    case pos =>
      obtain ⟨j, rfl⟩ : ∃ j : Nat, i = (j : Int) := ⟨i.toNat, by omega⟩
      have hjl : j < ls.length := by have := HN.out; omega
      have hsg := HD.out.2.2.2.2.2.2.2 j hjl
      have QIN : decide ((0 : Int) ≤ (j : Int) ∧ (j : Int) ≤ (n : Int) - 1) = true := decide_eq_true hin
      have HIN : Hid ((0 : Int) ≤ (j : Int) ∧ (j : Int) ≤ (ls.length : Int) - 1) := by show _ ∧ _; rw [HN.out]; exact hin
      have hnb : (n : Int) ≤ 1048576 := by have := HL1.out; have := HN.out; omega
      obtain ⟨⟨t1, t2, t3, t4, tl⟩, hT⟩ : ∃ T, wayM (s, c, s', c', ls) 5 j = T := ⟨_, rfl⟩
      have HP : Hid (doM (s, c, s', c', ls) 5 (j : Int) = ((t1, t2, t3, t4, tl), true)) := by show doM _ _ _ = _; simp only [doM]; rw [if_pos HIN.out, Int.toNat_natCast, hT]; simp
      have hc := wayM_c base s c s' c' (.slice a n cap) ls 5 j W0 HB.out.own HBW0.out HL1.out hjl ⟨hsg.1, hsg.2.1⟩ (by simp)
      rw [hT] at hc
      have HC : Hid (Calls Try.prog 63 #[.agg (D5 s c s' c' (.slice a n cap)), .int .i64 5, .int .i64 (j : Int)] W0 (DuS base W0 (.slice a n cap) (t1, t2, t3, t4, tl))) := hc
      clear hc hT hin hjl hsg HIN
      go_enter Try.func40, Try.ntmps40
      go_wp2_with (first | (go_at_call 41; refine (l1In_b _ _ _ _ QIN _).mono ?_; rintro e w2 ⟨rfl, hw2⟩; obtain rfl := hw2.symm))
      refine HC.out.mono ?_
      rintro e Wd ⟨v', rfl, ho, hg, hx⟩
      obtain ⟨k2, HF'⟩ := HB.out.hand ho hg hx t1 t2 t3 t4
      have HF : Hid _ := HF'
      obtain ⟨a', cap', hv', -⟩ := own_form ho
      subst hv'
      have m0 := k2.cell 0
      have mf0 := k2.frozen 0
      have m1 := k2.cell 1
      have mf1 := k2.frozen 1
      have m2 := k2.cell 2
      have mf2 := k2.frozen 2
      have m3 := k2.cell 3
      have mf3 := k2.frozen 3
      have m4 := k2.cell 4
      have mf4 := k2.frozen 4
      simp at m0 m1 m2 m3 m4
      clear k2 ho hg hx HB HF' HC
      go_wp2
      rw [HP.out]
      exact bodyPost_ret (v := .tuple #[.agg (D5 t1 t2 t3 t4 (.slice a' tl.length cap')), .bool true]) (results_D rfl _ _ _ _ _ _ _ _ _ rfl rfl (HF.out _ rfl).1) rfl ((HF.out _ rfl).2.1 true)
    have QIN : decide (0 ≤ i ∧ i ≤ (n : Int) - 1) = false := decide_eq_false hin
    have hnb : (n : Int) ≤ 1048576 := by have := HL1.out; have := HN.out; omega
    have HIN : Hid (¬ (0 ≤ i ∧ i ≤ (ls.length : Int) - 1)) := by show ¬ _; rw [HN.out]; exact hin
    clear hin
    have HP : Hid (doM (s, c, s', c', ls) 5 i = ((s, c, s', c', ls), false)) := by show doM (s, c, s', c', ls) 5 i = _; simp only [doM]; rw [if_neg HIN.out]; simp
    have HF : Hid _ := HB.out.ret
    clear HB
    go_enter Try.func40, Try.ntmps40
    go_wp2_with (first | (go_at_call 41; refine (l1In_b _ _ _ _ QIN _).mono ?_; rintro e w2 ⟨rfl, hw2⟩; obtain rfl := hw2.symm))
    rw [HP.out]
    exact bodyPost_ret (v := .tuple #[.agg (D5 s c s' c' (.slice a n cap)), .bool false]) (results_D rfl _ _ _ _ _ _ _ _ _ rfl rfl (HF.out _ rfl).1) rfl ((HF.out _ rfl).2.1 false)
  by_cases v6 : k = 6
  case pos =>
    subst v6
    by_cases hin : 0 ≤ i ∧ i ≤ (n : Int) - 1
    case pos =>
      obtain ⟨j, rfl⟩ : ∃ j : Nat, i = (j : Int) := ⟨i.toNat, by omega⟩
      have hjl : j < ls.length := by have := HN.out; omega
      have hsg := HD.out.2.2.2.2.2.2.2 j hjl
      have QIN : decide ((0 : Int) ≤ (j : Int) ∧ (j : Int) ≤ (n : Int) - 1) = true := decide_eq_true hin
      have HIN : Hid ((0 : Int) ≤ (j : Int) ∧ (j : Int) ≤ (ls.length : Int) - 1) := by show _ ∧ _; rw [HN.out]; exact hin
      have hnb : (n : Int) ≤ 1048576 := by have := HL1.out; have := HN.out; omega
      obtain ⟨⟨t1, t2, t3, t4, tl⟩, hT⟩ : ∃ T, wayM (s, c, s', c', ls) 6 j = T := ⟨_, rfl⟩
      have HP : Hid (doM (s, c, s', c', ls) 6 (j : Int) = ((t1, t2, t3, t4, tl), true)) := by show doM _ _ _ = _; simp only [doM]; rw [if_pos HIN.out, Int.toNat_natCast, hT]; simp
      have hc := wayM_c base s c s' c' (.slice a n cap) ls 6 j W0 HB.out.own HBW0.out HL1.out hjl ⟨hsg.1, hsg.2.1⟩ (by simp)
      rw [hT] at hc
      have HC : Hid (Calls Try.prog 63 #[.agg (D5 s c s' c' (.slice a n cap)), .int .i64 6, .int .i64 (j : Int)] W0 (DuS base W0 (.slice a n cap) (t1, t2, t3, t4, tl))) := hc
      clear hc hT hin hjl hsg HIN
      go_enter Try.func40, Try.ntmps40
      go_wp2_with (first | (go_at_call 41; refine (l1In_b _ _ _ _ QIN _).mono ?_; rintro e w2 ⟨rfl, hw2⟩; obtain rfl := hw2.symm))
      refine HC.out.mono ?_
      rintro e Wd ⟨v', rfl, ho, hg, hx⟩
      obtain ⟨k2, HF'⟩ := HB.out.hand ho hg hx t1 t2 t3 t4
      have HF : Hid _ := HF'
      obtain ⟨a', cap', hv', -⟩ := own_form ho
      subst hv'
      have m0 := k2.cell 0
      have mf0 := k2.frozen 0
      have m1 := k2.cell 1
      have mf1 := k2.frozen 1
      have m2 := k2.cell 2
      have mf2 := k2.frozen 2
      have m3 := k2.cell 3
      have mf3 := k2.frozen 3
      have m4 := k2.cell 4
      have mf4 := k2.frozen 4
      simp at m0 m1 m2 m3 m4
      clear k2 ho hg hx HB HF' HC
      go_wp2
      rw [HP.out]
      exact bodyPost_ret (v := .tuple #[.agg (D5 t1 t2 t3 t4 (.slice a' tl.length cap')), .bool true]) (results_D rfl _ _ _ _ _ _ _ _ _ rfl rfl (HF.out _ rfl).1) rfl ((HF.out _ rfl).2.1 true)
    have QIN : decide (0 ≤ i ∧ i ≤ (n : Int) - 1) = false := decide_eq_false hin
    have hnb : (n : Int) ≤ 1048576 := by have := HL1.out; have := HN.out; omega
    have HIN : Hid (¬ (0 ≤ i ∧ i ≤ (ls.length : Int) - 1)) := by show ¬ _; rw [HN.out]; exact hin
    clear hin
    have HP : Hid (doM (s, c, s', c', ls) 6 i = ((s, c, s', c', ls), false)) := by show doM (s, c, s', c', ls) 6 i = _; simp only [doM]; rw [if_neg HIN.out]; simp
    have HF : Hid _ := HB.out.ret
    clear HB
    go_enter Try.func40, Try.ntmps40
    go_wp2_with (first | (go_at_call 41; refine (l1In_b _ _ _ _ QIN _).mono ?_; rintro e w2 ⟨rfl, hw2⟩; obtain rfl := hw2.symm))
    rw [HP.out]
    exact bodyPost_ret (v := .tuple #[.agg (D5 s c s' c' (.slice a n cap)), .bool false]) (results_D rfl _ _ _ _ _ _ _ _ _ rfl rfl (HF.out _ rfl).1) rfl ((HF.out _ rfl).2.1 false)
  by_cases v7 : k = 7
  case pos =>
    subst v7
    by_cases hin : 0 ≤ i ∧ i ≤ (n : Int) - 1
    case pos =>
      obtain ⟨j, rfl⟩ : ∃ j : Nat, i = (j : Int) := ⟨i.toNat, by omega⟩
      have hjl : j < ls.length := by have := HN.out; omega
      have hsg := HD.out.2.2.2.2.2.2.2 j hjl
      have QIN : decide ((0 : Int) ≤ (j : Int) ∧ (j : Int) ≤ (n : Int) - 1) = true := decide_eq_true hin
      have HIN : Hid ((0 : Int) ≤ (j : Int) ∧ (j : Int) ≤ (ls.length : Int) - 1) := by show _ ∧ _; rw [HN.out]; exact hin
      have hnb : (n : Int) ≤ 1048576 := by have := HL1.out; have := HN.out; omega
      obtain ⟨⟨t1, t2, t3, t4, tl⟩, hT⟩ : ∃ T, wayM (s, c, s', c', ls) 7 j = T := ⟨_, rfl⟩
      have HP : Hid (doM (s, c, s', c', ls) 7 (j : Int) = ((t1, t2, t3, t4, tl), true)) := by show doM _ _ _ = _; simp only [doM]; rw [if_pos HIN.out, Int.toNat_natCast, hT]; simp
      have hc := wayM_c base s c s' c' (.slice a n cap) ls 7 j W0 HB.out.own HBW0.out HL1.out hjl ⟨hsg.1, hsg.2.1⟩ (by simp)
      rw [hT] at hc
      have HC : Hid (Calls Try.prog 63 #[.agg (D5 s c s' c' (.slice a n cap)), .int .i64 7, .int .i64 (j : Int)] W0 (DuS base W0 (.slice a n cap) (t1, t2, t3, t4, tl))) := hc
      clear hc hT hin hjl hsg HIN
      go_enter Try.func40, Try.ntmps40
      go_wp2_with (first | (go_at_call 41; refine (l1In_b _ _ _ _ QIN _).mono ?_; rintro e w2 ⟨rfl, hw2⟩; obtain rfl := hw2.symm))
      refine HC.out.mono ?_
      rintro e Wd ⟨v', rfl, ho, hg, hx⟩
      obtain ⟨k2, HF'⟩ := HB.out.hand ho hg hx t1 t2 t3 t4
      have HF : Hid _ := HF'
      obtain ⟨a', cap', hv', -⟩ := own_form ho
      subst hv'
      have m0 := k2.cell 0
      have mf0 := k2.frozen 0
      have m1 := k2.cell 1
      have mf1 := k2.frozen 1
      have m2 := k2.cell 2
      have mf2 := k2.frozen 2
      have m3 := k2.cell 3
      have mf3 := k2.frozen 3
      have m4 := k2.cell 4
      have mf4 := k2.frozen 4
      simp at m0 m1 m2 m3 m4
      clear k2 ho hg hx HB HF' HC
      go_wp2
      rw [HP.out]
      exact bodyPost_ret (v := .tuple #[.agg (D5 t1 t2 t3 t4 (.slice a' tl.length cap')), .bool true]) (results_D rfl _ _ _ _ _ _ _ _ _ rfl rfl (HF.out _ rfl).1) rfl ((HF.out _ rfl).2.1 true)
    have QIN : decide (0 ≤ i ∧ i ≤ (n : Int) - 1) = false := decide_eq_false hin
    have hnb : (n : Int) ≤ 1048576 := by have := HL1.out; have := HN.out; omega
    have HIN : Hid (¬ (0 ≤ i ∧ i ≤ (ls.length : Int) - 1)) := by show ¬ _; rw [HN.out]; exact hin
    clear hin
    have HP : Hid (doM (s, c, s', c', ls) 7 i = ((s, c, s', c', ls), false)) := by show doM (s, c, s', c', ls) 7 i = _; simp only [doM]; rw [if_neg HIN.out]; simp
    have HF : Hid _ := HB.out.ret
    clear HB
    go_enter Try.func40, Try.ntmps40
    go_wp2_with (first | (go_at_call 41; refine (l1In_b _ _ _ _ QIN _).mono ?_; rintro e w2 ⟨rfl, hw2⟩; obtain rfl := hw2.symm))
    rw [HP.out]
    exact bodyPost_ret (v := .tuple #[.agg (D5 s c s' c' (.slice a n cap)), .bool false]) (results_D rfl _ _ _ _ _ _ _ _ _ rfl rfl (HF.out _ rfl).1) rfl ((HF.out _ rfl).2.1 false)
  have HNK : Hid (¬ (k = 5 ∨ k = 6 ∨ k = 7)) := by show ¬ _; omega
  have HP : Hid (doM (s, c, s', c', ls) k i = ((s, c, s', c', ls), false)) := by show doM _ _ _ = _; simp [doM, v1, v2, v3, v4, v5, v6, v7]
  have v1F : (k = 1) = False := eq_false v1
  have v1b : (k == 1) = false := by simpa using v1
  have v2F : (k = 2) = False := eq_false v2
  have v2b : (k == 2) = false := by simpa using v2
  have v3F : (k = 3) = False := eq_false v3
  have v3b : (k == 3) = false := by simpa using v3
  have v4F : (k = 4) = False := eq_false v4
  have v4b : (k == 4) = false := by simpa using v4
  have v5F : (k = 5) = False := eq_false v5
  have v5b : (k == 5) = false := by simpa using v5
  have v6F : (k = 6) = False := eq_false v6
  have v6b : (k == 6) = false := by simpa using v6
  have v7F : (k = 7) = False := eq_false v7
  have v7b : (k == 7) = false := by simpa using v7
  have HF : Hid _ := HB.out.ret
  clear HB
  go_enter Try.func40, Try.ntmps40
  go_wp2
  rw [HP.out]
  exact bodyPost_ret (v := .tuple #[.agg (D5 s c s' c' (.slice a n cap)), .bool false]) (results_D rfl _ _ _ _ _ _ _ _ _ rfl rfl (HF.out _ rfl).1) rfl ((HF.out _ rfl).2.1 false)
end Go.Proofs.Ytljejjfhlpjlfaa

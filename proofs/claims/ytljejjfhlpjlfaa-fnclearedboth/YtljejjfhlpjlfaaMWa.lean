/- The model's l5Way; no condition. -/
import Derived.Test.YtljejjfhlpjlfaaMAr
namespace Go.Proofs.Ytljejjfhlpjlfaa
open Go.RowKit Go.ChangeShapes Go.WideShapes Go.ChangeAt
set_option linter.unusedVariables false
set_option linter.unusedSimpArgs false
set_option maxRecDepth 8000

/-- what happens to a signal on the way, as the model has it -/
def wayM (d : Dt) (k : Int) (j : Nat) : Dt :=
  if k = 7 then (d.1, d.2.1, d.2.2.1, d.2.2.2.1, d.2.2.2.2 ++ [d.2.2.2.2.getD j (0, 0, 0)])
  else if k = 5 then arrM (d.1, d.2.1, d.2.2.1, d.2.2.2.1, d.2.2.2.2.eraseIdx j) (d.2.2.2.2.getD j (0, 0, 0)).1 (d.2.2.2.2.getD j (0, 0, 0)).2.1 (d.2.2.2.2.getD j (0, 0, 0)).2.2
  else (d.1, d.2.1, d.2.2.1, d.2.2.2.1, d.2.2.2.2.eraseIdx j)
set_option maxHeartbeats 12800000 in
theorem wayM_c (base : Nat) (s c s' c' : Int) (v : Value) (ls : Tri) (k : Int) (j : Nat) (w : World) (h : Ot 66 base w v ls) (hbs : base ≤ w.heap.size) (hl : ls.length ≤ 1048576) (hj : j < ls.length) (hsg : (0 ≤ ls[j].1 ∧ ls[j].1 ≤ 1) ∧ (1 ≤ ls[j].2.1 ∧ ls[j].2.1 ≤ 4)) (hk : k = 5 ∨ k = 6 ∨ k = 7) :
    Calls Try.prog 63 #[.agg (D5 s c s' c' v), .int .i64 k, .int .i64 (j : Int)] w (DuS base w v (wayM (s, c, s', c', ls) k j)) := by
  obtain ⟨W0, hW0⟩ : ∃ W0, (w.alloc (Obj.cells (D5 s c s' c' v) 31)).alloc (Obj.cells (D5 0 0 0 0 (.slice none 0 0)) 31) = W0 := ⟨_, rfl⟩
  have HB : Hid (Bx w base v W0 w.heap.size (w.heap.size + 1) s c s' c' v ls) := Bx.start h (by rw [← hW0]; exact ((Below.refl _ _).alloc (Nat.le_refl _) _).alloc (by simp) _) (by rw [← hW0]; exact (Blk.new _ _ _).alloc _) (by rw [← hW0]; exact Blk.newAt _ (w.heap.size + 1) _ 31 (by simp)) (Nat.le_refl _) (by omega) (by omega)
  have HZ0 : Hid (W0.heap.size = w.heap.size + 1 + 1) := by rw [← hW0]; simp [Hid]
  have HL : Hid (ls.length ≤ 1048576) := hl
  have HBS : Hid (base ≤ w.heap.size) := hbs
  obtain ⟨av, cap, hv, hcap, hcap2, hav⟩ := own_form h
  obtain ⟨m, hm⟩ : ∃ m, ls.length = m + 1 := ⟨ls.length - 1, by omega⟩
  rw [hm] at hv hcap hav
  obtain ⟨b, rfl⟩ : ∃ b, av = some ⟨b, 0, none⟩ := by
    rcases hav with h | h
    · omega
    · exact h
  subst hv
  have HN : Hid (ls.length = m + 1) := hm
  obtain ⟨p, hp⟩ : ∃ p, ls[j].1 = p := ⟨_, rfl⟩
  obtain ⟨q, hq⟩ : ∃ p, ls[j].2.1 = p := ⟨_, rfl⟩
  obtain ⟨r, hr⟩ : ∃ p, ls[j].2.2 = p := ⟨_, rfl⟩
  have HE : Hid (ls[j] = (p, q, r)) := by show ls[j] = _; rw [← hp, ← hq, ← hr]
  rw [hp, hq] at hsg
  have HSG : Hid ((0 ≤ p ∧ p ≤ 1) ∧ (1 ≤ q ∧ q ≤ 4)) := hsg
  have HG : Hid (ls.getD j (0, 0, 0) = (p, q, r)) := by show ls.getD j _ = _; rw [List.getD_eq_getElem?_getD, List.getElem?_eq_getElem hj]; simp [HE.out]
  obtain ⟨av, cv, hva, hl1, hl2, hl3⟩ := HB.out.own.rd
  rw [hm] at hva
  cases hva
  have hcell : W0.cell? ⟨b, j * 3, none⟩ = some (.int .i64 p) ∧ W0.cell? ⟨b, j * 3 + 1, none⟩ = some (.int .i64 q) ∧ W0.cell? ⟨b, j * 3 + 2, none⟩ = some (.int .i64 r) := by
    rcases hl3 with h | ⟨b', off, h, h4⟩
    · rw [h] at hj; simp at hj
    · cases h
      have := h4 j hj
      rw [HE.out] at this
      simpa using this
  obtain ⟨z0, z1, z2⟩ := hcell
  have HBO : Hid (b < w.heap.size) := HB.out.old b rfl
  have hjI : (j : Int) < ((m + 1 : Nat) : Int) := by omega
  have hjm : j ≤ m := by omega
  have hmb : m ≤ 1048575 := by omega
  have hjb : (j : Int) ≤ 1048576 := by omega
  have HJM : Hid (j ≤ m) := hjm
  have hmc : ((m + 1 : Nat) : Int) = (m : Int) + 1 := by omega
  clear hl1 hl2 hl3 hav hp hq hr HE hsg hl hm hbs hj h
  have c0 := HB.out.box.cell 0
  have cf0 := HB.out.box.frozen 0
  have c1 := HB.out.box.cell 1
  have cf1 := HB.out.box.frozen 1
  have c2 := HB.out.box.cell 2
  have cf2 := HB.out.box.frozen 2
  have c3 := HB.out.box.cell 3
  have cf3 := HB.out.box.frozen 3
  have c4 := HB.out.box.cell 4
  have cf4 := HB.out.box.frozen 4
  have r0 := HB.out.res.cell 0
  have rf0 := HB.out.res.frozen 0
  have r1 := HB.out.res.cell 1
  have rf1 := HB.out.res.frozen 1
  have r2 := HB.out.res.cell 2
  have rf2 := HB.out.res.frozen 2
  have r3 := HB.out.res.cell 3
  have rf3 := HB.out.res.frozen 3
  have r4 := HB.out.res.cell 4
  have rf4 := HB.out.res.frozen 4
  simp at c0 c1 c2 c3 c4 r0 r1 r2 r3 r4
  have cl := HB.out.box.lt
  have rl := HB.out.res.lt
  have cn := HB.out.ne
  skip
  obtain ⟨W1, hW1⟩ : ∃ W, W0.alloc (Obj.cells (P3 p q r) 66) = W := ⟨_, rfl⟩
  have B1 : Hid (Bx w base (.slice (some ⟨b, 0, none⟩) (m + 1) cap) W1 w.heap.size (w.heap.size + 1) s c s' c' (.slice (some ⟨b, 0, none⟩) (m + 1) cap) ls) := hW1 ▸ HB.out.alloc _
  have HY1 : Hid (Blk W1 (w.heap.size + 1 + 1) (P3 p q r) 66) := by rw [← hW1, ← HZ0.out]; exact Blk.new _ _ _
  have zz : W0.heap.size = w.heap.size + 1 + 1 := HZ0.out
  have HBW1 : Hid (base ≤ W1.heap.size) := by have := B1.out.gr.size; have := HBS.out; show base ≤ _; omega
  have y0 := HY1.out.cell 0
  have y1 := HY1.out.cell 1
  have y2 := HY1.out.cell 2
  simp at y0 y1 y2
  have e0 := B1.out.box.cell 0
  have ef0 := B1.out.box.frozen 0
  have e1 := B1.out.box.cell 1
  have ef1 := B1.out.box.frozen 1
  have e2 := B1.out.box.cell 2
  have ef2 := B1.out.box.frozen 2
  have e3 := B1.out.box.cell 3
  have ef3 := B1.out.box.frozen 3
  have e4 := B1.out.box.cell 4
  have ef4 := B1.out.box.frozen 4
  have f0 := B1.out.res.cell 0
  have ff0 := B1.out.res.frozen 0
  have f1 := B1.out.res.cell 1
  have ff1 := B1.out.res.frozen 1
  have f2 := B1.out.res.cell 2
  have ff2 := B1.out.res.frozen 2
  have f3 := B1.out.res.cell 3
  have ff3 := B1.out.res.frozen 3
  have f4 := B1.out.res.cell 4
  have ff4 := B1.out.res.frozen 4
  simp at e0 e1 e2 e3 e4 f0 f1 f2 f3 f4
  have el := B1.out.box.lt
  have fl := B1.out.res.lt
  have en := B1.out.ne
  skip
  clear HB
  by_cases k7 : k = 7
  case pos =>
    subst k7
    have HP : Hid (wayM (s, c, s', c', ls) 7 j = (s, c, s', c', ls ++ [(p, q, r)])) := by show wayM _ _ _ = _; simp only [wayM]; rw [HG.out]; simp
    have HO1 := oneSig B1.out.own p q r
    have HO : Hid (Ot 66 base (W1.alloc (Obj.cells (P3 p q r) 66)) (.slice (some ⟨b, 0, none⟩) (m + 1) cap) ls) := HO1.1
    have HR1 : Hid (Rt (W1.alloc (Obj.cells (P3 p q r) 66)) (.slice (some ⟨W1.heap.size, 0, none⟩) 1 1) [(p, q, r)]) := HO1.2
    have HB2 : Hid (base ≤ (W1.alloc (Obj.cells (P3 p q r) 66)).heap.size) := by have := HBW1.out; show base ≤ _; simp; omega
    clear HO1
    go_enter Try.func63, Try.ntmps63
    go_wp2_with (at_builtin; refine appTri rfl _ _ rfl base _ _ rfl HO.out _ _ rfl HR1.out (by have := HL.out; simp only [List.length_cons, List.length_nil]; omega) HB2.out ?_)
    intro v' w3 ho hg hb
    obtain ⟨k1, hB3⟩ := B1.out.app ho hg hb
    obtain ⟨a', cap', hv', -⟩ := own_form ho
    rw [show (ls ++ [(p, q, r)]).length = m + 1 + 1 by simp [HN.out]] at hv'
    subst hv'
    have B3 : Hid (Bx w base (.slice (some ⟨b, 0, none⟩) (m + 1) cap) (w3.setCell ⟨w.heap.size, 4, none⟩ (.slice a' (m + 1 + 1) cap')) w.heap.size (w.heap.size + 1) s c s' c' (.slice a' (m + 1 + 1) cap') (ls ++ [(p, q, r)])) := hB3
    clear hW1 hB3 HO HR1 HB2 ho hg hb B1 z0 z1 z2 y0 y1 y2 c0 c1 c2 c3 c4 cf0 cf1 cf2 cf3 cf4 r0 r1 r2 r3 r4 rf0 rf1 rf2 rf3 rf4 cl rl cn
    clear e0 e1 e2 e3 e4 ef0 ef1 ef2 ef3 ef4 f0 f1 f2 f3 f4 ff0 ff1 ff2 ff3 ff4 el fl en
    have d4 := k1.cell 4
    have e4 := k1.frozen 4
    simp at d4
    obtain ⟨W4, hW4⟩ : ∃ W, w3.setCell ⟨w.heap.size, 4, none⟩ (.slice a' (m + 1 + 1) cap') = W := ⟨_, rfl⟩
    rw [hW4] at B3
    clear k1
    have c0 := B3.out.box.cell 0
    have cf0 := B3.out.box.frozen 0
    have c1 := B3.out.box.cell 1
    have cf1 := B3.out.box.frozen 1
    have c2 := B3.out.box.cell 2
    have cf2 := B3.out.box.frozen 2
    have c3 := B3.out.box.cell 3
    have cf3 := B3.out.box.frozen 3
    have c4 := B3.out.box.cell 4
    have cf4 := B3.out.box.frozen 4
    have r0 := B3.out.res.cell 0
    have rf0 := B3.out.res.frozen 0
    have r1 := B3.out.res.cell 1
    have rf1 := B3.out.res.frozen 1
    have r2 := B3.out.res.cell 2
    have rf2 := B3.out.res.frozen 2
    have r3 := B3.out.res.cell 3
    have rf3 := B3.out.res.frozen 3
    have r4 := B3.out.res.cell 4
    have rf4 := B3.out.res.frozen 4
    simp at c0 c1 c2 c3 c4 r0 r1 r2 r3 r4
    have cl := B3.out.box.lt
    have rl := B3.out.res.lt
    have cn := B3.out.ne
    skip
    have HF : Hid _ := B3.out.ret
    clear B3
    go_wp2
    rw [HP.out]
    exact bodyPost_ret (v := .agg (D5 s c s' c' (.slice a' (m + 1 + 1) cap'))) (results_cell_row rfl _ _ _ 31 _ (0, 0) _ rfl (HF.out _ rfl).1 Try.underlying31 rfl size31) rfl (HF.out _ rfl).2.2
  have k7F : (k = 7) = False := eq_false k7
  have k7b : (k == 7) = false := by simpa using k7
  have hsub : m + 1 - (j + 1) = m - j := by omega
  have HC4 : Hid (W1.drew.cell? ⟨w.heap.size, 4, none⟩ = some (.slice (some ⟨b, 0, none⟩) (m + 1) cap)) := e4
  have HOW : Hid (W1.ownsRow base 66 3 (.slice (some ⟨b, 0, none⟩) (m + 1) cap) (m + 1) (tr ls)) := by have := B1.out.own; rw [Ot, HN.out] at this; exact this
  obtain ⟨S, hS⟩ : ∃ S : World → Prop, ∀ W, S W ↔ W.cell? ⟨w.heap.size, 4, none⟩ = some (.slice (some ⟨b, 0, none⟩) (m + 1) cap) := ⟨_, fun _ => Iff.rfl⟩
  have zs : ∀ W : At S, W.wd.cell? ⟨w.heap.size, 4, none⟩ = some (.slice (some ⟨b, 0, none⟩) (m + 1) cap) := fun W => (hS _).1 W.ok
  have HSI : Hid (∀ W, W.cell? ⟨w.heap.size, 4, none⟩ = some (.slice (some ⟨b, 0, none⟩) (m + 1) cap) → S W) := fun W h => (hS W).2 h
  have ne2 : Nonempty (At S) := ⟨⟨W1, HSI.out _ e4⟩⟩
  clear hS
  go_enter Try.func63, Try.ntmps63
  go_wp2
  refine region_mixA [true, true, true, true, true, true, true, true, true, false, false, false] 10 1 S (by kernel_rfl) rfl (by kernel_rfl) (fun _ _ _ _ _ h => h) (HSI.out _ HC4.out) ?_
  simp only [selT, selF]
  repeat (go_big_quiet_step (fail))
  refine wpQuiet_nil ?_
  clear ne2 zs
  obtain ⟨ad, had⟩ : ∃ ad, (if cap = j + 1 then some (⟨b, 0, none⟩ : Addr) else some ⟨b, (j + 1) * 3, none⟩) = ad := ⟨_, rfl⟩
  rw [had]
  have HAD : Hid ((if cap = j + 1 then some (⟨b, 0, none⟩ : Addr) else some ⟨b, (j + 1) * 3, none⟩) = ad) := had
  clear had
  refine tail_step ?_
  go_wp2_with (at_builtin; refine cutTri rfl _ _ rfl base b m cap j ls (World.ownsRow.drew HOW.out) HN.out hjm rfl ad (cap - (j + 1)) HAD.out (by rw [hsub]; rfl) ?_)
  intro w7 ho7 hg7
  have hg : W1.grownBy w7 (some b) := ⟨hg7.os, hg7.tape, hg7.output, hg7.size, hg7.block⟩
  have hle : (ls.eraseIdx j).length = m := by rw [List.length_eraseIdx, HN.out, if_pos (by have := HJM.out; omega)]; omega
  have ho' : Ot 66 base w7 (.slice (some ⟨b, 0, none⟩) m cap) (ls.eraseIdx j) := by rw [Ot, hle]; exact ho7
  have hx' : Nxt W1 (.slice (some ⟨b, 0, none⟩) (m + 1) cap) (.slice (some ⟨b, 0, none⟩) m cap) := fun k e => .inl e
  obtain ⟨k1, -⟩ := B1.out.after ho' hg hx'
  have U1 : Hid (S w7) := HSI.out _ (by have := k1.cell 4; simpa using this)
  have B3 : Hid (Bx w base (.slice (some ⟨b, 0, none⟩) (m + 1) cap) (w7.setCell ⟨w.heap.size, 4, none⟩ (.slice (some ⟨b, 0, none⟩) m cap)) w.heap.size (w.heap.size + 1) s c s' c' (.slice (some ⟨b, 0, none⟩) m cap) (ls.eraseIdx j)) := B1.out.way ho' hg hx'
  have HY3 : Hid (Blk (w7.setCell ⟨w.heap.size, 4, none⟩ (.slice (some ⟨b, 0, none⟩) m cap)) (w.heap.size + 1 + 1) (P3 p q r) 66) := (HY1.out.grown hg (by have := HBO.out; intro e; have := Option.some.inj e; omega)).other _ _ (by show w.heap.size + 1 + 1 ≠ w.heap.size; omega)
  have HLE : Hid ((ls.eraseIdx j).length = m) := hle
  clear hW1 zz z0 z1 z2 y0 y1 y2 hjI hjm hmc hsub HC4 HOW HSI c0 c1 c2 c3 c4 cf0 cf1 cf2 cf3 cf4 r0 r1 r2 r3 r4 rf0 rf1 rf2 rf3 rf4 cl rl cn
  clear e0 e1 e2 e3 e4 ef0 ef1 ef2 ef3 ef4 f0 f1 f2 f3 f4 ff0 ff1 ff2 ff3 ff4 el fl en
  have d4 := k1.cell 4
  have d4f := k1.frozen 4
  simp at d4
  clear hle ho' hx' ho7 hg7 hg k1 B1 HY1
  go_wp2
  refine ⟨U1.out, tail_end ?_⟩
  clear U1
  obtain ⟨W4, hW4⟩ : ∃ W, w7.setCell ⟨w.heap.size, 4, none⟩ (.slice (some ⟨b, 0, none⟩) m cap) = W := ⟨_, rfl⟩
  rw [hW4] at B3 HY3
  have y0 := HY3.out.cell 0
  have y1 := HY3.out.cell 1
  have y2 := HY3.out.cell 2
  simp at y0 y1 y2
  have c0 := B3.out.box.cell 0
  have cf0 := B3.out.box.frozen 0
  have c1 := B3.out.box.cell 1
  have cf1 := B3.out.box.frozen 1
  have c2 := B3.out.box.cell 2
  have cf2 := B3.out.box.frozen 2
  have c3 := B3.out.box.cell 3
  have cf3 := B3.out.box.frozen 3
  have c4 := B3.out.box.cell 4
  have cf4 := B3.out.box.frozen 4
  have r0 := B3.out.res.cell 0
  have rf0 := B3.out.res.frozen 0
  have r1 := B3.out.res.cell 1
  have rf1 := B3.out.res.frozen 1
  have r2 := B3.out.res.cell 2
  have rf2 := B3.out.res.frozen 2
  have r3 := B3.out.res.cell 3
  have rf3 := B3.out.res.frozen 3
  have r4 := B3.out.res.cell 4
  have rf4 := B3.out.res.frozen 4
  simp at c0 c1 c2 c3 c4 r0 r1 r2 r3 r4
  have cl := B3.out.box.lt
  have rl := B3.out.res.lt
  have cn := B3.out.ne
  skip
  by_cases k5 : k = 5
  case neg =>
    have HP : Hid (wayM (s, c, s', c', ls) k j = (s, c, s', c', ls.eraseIdx j)) := by show wayM _ _ _ = _; simp [wayM, k5, k7]
    have k5F : (k = 5) = False := eq_false k5
    have k5b : (k == 5) = false := by simpa using k5
    have HF : Hid _ := B3.out.ret
    clear B3
    go_wp2
    rw [HP.out]
    exact bodyPost_ret (v := .agg (D5 s c s' c' (.slice (some ⟨b, 0, none⟩) m cap))) (results_cell_row rfl _ _ _ 31 _ (0, 0) _ rfl (HF.out _ rfl).1 Try.underlying31 rfl size31) rfl (HF.out _ rfl).2.2
  case pos =>
    subst k5
    obtain ⟨⟨t1, t2, t3, t4, tl⟩, hT⟩ : ∃ T, arrM (s, c, s', c', ls.eraseIdx j) p q r = T := ⟨_, rfl⟩
    have HP : Hid (wayM (s, c, s', c', ls) 5 j = (t1, t2, t3, t4, tl)) := by show wayM _ _ _ = _; simp only [wayM]; rw [HG.out]; simpa using hT
    have HB4 : Hid (base ≤ W4.heap.size) := by have := B3.out.gr.size; have := HBS.out; show base ≤ _; omega
    have HC : Hid (Calls Try.prog 71 #[.agg (D5 s c s' c' (.slice (some ⟨b, 0, none⟩) m cap)), .agg (P3 p q r)] W4 (DuS base W4 (.slice (some ⟨b, 0, none⟩) m cap) (t1, t2, t3, t4, tl))) := by
      have hp := HSG.out.1
      have hl : (ls.eraseIdx j).length ≤ 1048576 := by rw [HLE.out]; omega
      rcases (show p = 0 ∨ p = 1 by omega) with rfl | rfl
      · have := arr0_c base s c s' c' (.slice (some ⟨b, 0, none⟩) m cap) (ls.eraseIdx j) q r W4 B3.out.own HB4.out hl HSG.out.2.1 HSG.out.2.2
        rw [hT] at this; exact this
      · have := arr1_c base s c s' c' (.slice (some ⟨b, 0, none⟩) m cap) (ls.eraseIdx j) q r W4 B3.out.own HB4.out hl HSG.out.2.1 HSG.out.2.2
        rw [hT] at this; exact this
    clear hT
    go_wp2_with (fail)
    refine HC.out.mono ?_
    rintro e Wd ⟨v', rfl, ho, hg, hx⟩
    obtain ⟨k2, HF'⟩ := B3.out.hand ho hg hx t1 t2 t3 t4
    have HF : Hid _ := HF'
    obtain ⟨a', cap', hv', -⟩ := own_form ho
    subst hv'
    have m0 := k2.cell 0
    have mf0 := k2.frozen 0
    have m1 := k2.cell 1
    have mf1 := k2.frozen 1
    have m2 := k2.cell 2
    have mf2 := k2.frozen 2
    have m3 := k2.cell 3
    have mf3 := k2.frozen 3
    have m4 := k2.cell 4
    have mf4 := k2.frozen 4
    simp at m0 m1 m2 m3 m4
    clear k2 ho hg hx B3 HF' HC
    go_wp2
    rw [HP.out]
    exact bodyPost_ret (v := .agg (D5 t1 t2 t3 t4 (.slice a' tl.length cap'))) (results_cell_row rfl _ _ _ 31 _ (0, 0) _ rfl (HF.out _ rfl).1 Try.underlying31 rfl size31) rfl (HF.out _ rfl).2.2
end Go.Proofs.Ytljejjfhlpjlfaa

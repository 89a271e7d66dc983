/- The program's onTheWay; no condition. -/
import Derived.Test.YtljejjfhlpjlfaaHa0
namespace Go.Proofs.Ytljejjfhlpjlfaa
open Go.RowKit Go.ChangeShapes Go.WideShapes Go.ChangeAt
set_option linter.unusedVariables false
set_option linter.unusedSimpArgs false
set_option maxRecDepth 8000

theorem wayP_out {d : Dt} {k a : Int} (h : a < 0 ∨ (d.2.2.2.2.length : Int) ≤ a) : wayP d k a = (d, false) := by simp only [wayP]; rw [if_pos h]
set_option maxHeartbeats 12800000 in
theorem way_c (base : Nat) (s c s' c' : Int) (v : Value) (ls : Tri) (k a : Int) (w : World) (h : Ot 66 base w v ls) (hbs : base ≤ w.heap.size) (hd : DOk s c s' c' ls) (hk : k = 5 ∨ k = 6 ∨ k = 7) :
    Calls Try.prog 58 #[.agg (D5 s c s' c' v), .agg (H2 k a)] w (DuR base w v (wayP (s, c, s', c', ls) k a).1 (wayP (s, c, s', c', ls) k a).2) := by
  obtain ⟨W0, hW0⟩ : ∃ W0, ((w.alloc (Obj.cells (D5 s c s' c' v) 31)).alloc (Obj.cells (H2 k a) 35)).alloc (Obj.cells (D5 0 0 0 0 (.slice none 0 0)) 31) = W0 := ⟨_, rfl⟩
  have hb0 : Bx w base v W0 w.heap.size (w.heap.size + 1 + 1) s c s' c' v ls := Bx.start h (by rw [← hW0]; exact (((Below.refl _ _).alloc (Nat.le_refl _) _).alloc (by simp) _).alloc (by simp; omega) _) (by rw [← hW0]; exact ((Blk.new _ _ _).alloc _).alloc _) (by rw [← hW0]; exact Blk.newAt _ (w.heap.size + 1 + 1) _ 31 (by simp)) (Nat.le_refl _) (by omega) (by omega)
  have hx0 : Blk W0 (w.heap.size + 1) (H2 k a) 35 := by rw [← hW0]; exact (Blk.newAt _ (w.heap.size + 1) _ 35 (by simp)).alloc _
  have HZ0 : Hid (W0.heap.size = w.heap.size + 1 + 1 + 1) := by rw [← hW0]; simp [Hid]
  have x0 := hx0.cell 0
  have x1 := hx0.cell 1
  simp at x0 x1
  have xl := hx0.lt
  have HX : Hid (Blk W0 (w.heap.size + 1) (H2 k a) 35) := hx0
  have HD : Hid (DOk s c s' c' ls) := hd
  have HBS : Hid (base ≤ w.heap.size) := hbs
  have HB : Hid (Bx w base v W0 w.heap.size (w.heap.size + 1 + 1) s c s' c' v ls) := hb0
  clear hd hbs hx0 hb0
  obtain ⟨av, cap, hv, hcap, -, hav⟩ := own_form h
  obtain ⟨n, hn⟩ : ∃ n, ls.length = n := ⟨_, rfl⟩
  rw [hn] at hv hcap hav
  subst hv
  have HN : Hid (ls.length = n) := hn
  clear h hn
  by_cases hout : a < 0 ∨ (n : Int) ≤ a
  case pos =>
    have HP : Hid (wayP (s, c, s', c', ls) k a = ((s, c, s', c', ls), false)) := wayP_out (by show _ ∨ ((ls.length : Int) ≤ a); rw [HN.out]; exact hout)
    have c0 := HB.out.box.cell 0
    have cf0 := HB.out.box.frozen 0
    have c1 := HB.out.box.cell 1
    have cf1 := HB.out.box.frozen 1
    have c2 := HB.out.box.cell 2
    have cf2 := HB.out.box.frozen 2
    have c3 := HB.out.box.cell 3
    have cf3 := HB.out.box.frozen 3
    have c4 := HB.out.box.cell 4
    have cf4 := HB.out.box.frozen 4
    have r0 := HB.out.res.cell 0
    have rf0 := HB.out.res.frozen 0
    have r1 := HB.out.res.cell 1
    have rf1 := HB.out.res.frozen 1
    have r2 := HB.out.res.cell 2
    have rf2 := HB.out.res.frozen 2
    have r3 := HB.out.res.cell 3
    have rf3 := HB.out.res.frozen 3
    have r4 := HB.out.res.cell 4
    have rf4 := HB.out.res.frozen 4
    simp at c0 c1 c2 c3 c4 r0 r1 r2 r3 r4
    have cl := HB.out.box.lt
    have rl := HB.out.res.lt
    have cn := HB.out.ne
    skip
    have HF : Hid _ := HB.out.ret
    clear HB hav
    by_cases ha : a < 0
    · clear hout
      go_enter Try.func58, Try.ntmps58
      go_wp2
      rw [HP.out]
      exact bodyPost_ret (v := .tuple #[.agg (D5 s c s' c' (.slice av n cap)), .bool false]) (results_D rfl _ _ _ _ _ _ _ _ _ rfl rfl (HF.out _ rfl).1) rfl ((HF.out _ rfl).2.1 false)
    · have ha2 : (n : Int) ≤ a := by omega
      have haF : (a < 0) = False := eq_false ha
      clear hout
      go_enter Try.func58, Try.ntmps58
      go_wp2
      rw [HP.out]
      exact bodyPost_ret (v := .tuple #[.agg (D5 s c s' c' (.slice av n cap)), .bool false]) (results_D rfl _ _ _ _ _ _ _ _ _ rfl rfl (HF.out _ rfl).1) rfl ((HF.out _ rfl).2.1 false)
  case neg =>
  obtain ⟨j, rfl⟩ : ∃ j : Nat, a = (j : Int) := ⟨a.toNat, by omega⟩
  have hjn : j < n := by omega
  obtain ⟨m, rfl⟩ : ∃ m, n = m + 1 := ⟨n - 1, by omega⟩
  obtain ⟨b, rfl⟩ : ∃ b, av = some ⟨b, 0, none⟩ := by
    rcases hav with h | h
    · omega
    · exact h
  have hjl : j < ls.length := by rw [HN.out]; exact hjn

  obtain ⟨p, hp⟩ : ∃ p, ls[j].1 = p := ⟨_, rfl⟩
  obtain ⟨q, hq⟩ : ∃ p, ls[j].2.1 = p := ⟨_, rfl⟩
  obtain ⟨r, hr⟩ : ∃ p, ls[j].2.2 = p := ⟨_, rfl⟩
  have HE : Hid (ls[j] = (p, q, r)) := by show ls[j] = _; rw [← hp, ← hq, ← hr]
  have HSG : Hid (SgOk c (p, q, r)) := HE.out ▸ HD.out.2.2.2.2.2.2.2 j hjl
  have HG : Hid (ls.getD j (0, 0, 0) = (p, q, r)) := by show ls.getD j _ = _; rw [List.getD_eq_getElem?_getD, List.getElem?_eq_getElem hjl]; simp [HE.out]
  have hnot : ¬ ((j : Int) < 0 ∨ (ls.length : Int) ≤ (j : Int)) := by omega
  have HWP : Hid (wayP (s, c, s', c', ls) k (j : Int) = if k = 7 then sendP (s, c, s', c', ls) (p, q, r) else if k = 6 then ((s, c, s', c', ls.eraseIdx j), true) else tellP (s, c, s', c', ls.eraseIdx j) p 5 (p, q, r)) := by
    show wayP _ _ _ = _
    have h1 : wayP (s, c, s', c', ls) k (j : Int) = if k = 7 then sendP (s, c, s', c', ls) (ls.getD (j : Int).toNat (0, 0, 0)) else if k = 6 then ((s, c, s', c', ls.eraseIdx (j : Int).toNat), true) else tellP (s, c, s', c', ls.eraseIdx (j : Int).toNat) (ls.getD (j : Int).toNat (0, 0, 0)).1 5 (ls.getD (j : Int).toNat (0, 0, 0)) := if_neg hnot
    rw [h1, Int.toNat_natCast, HG.out]
  obtain ⟨av, cv, hva, hl1, hl2, hl3⟩ := HB.out.own.rd
  rw [HN.out] at hva
  cases hva
  have hcell : W0.cell? ⟨b, j * 3, none⟩ = some (.int .i64 p) ∧ W0.cell? ⟨b, j * 3 + 1, none⟩ = some (.int .i64 q) ∧ W0.cell? ⟨b, j * 3 + 2, none⟩ = some (.int .i64 r) := by
    rcases hl3 with h | ⟨b', off, h, h4⟩
    · rw [h] at hjl; simp at hjl
    · cases h
      have := h4 j hjl
      rw [HE.out] at this
      simpa using this
  obtain ⟨z0, z1, z2⟩ := hcell
  have HBO : Hid (b < w.heap.size) := HB.out.old b rfl
  have hjI : (j : Int) < ((m + 1 : Nat) : Int) := by omega
  have hjm : j ≤ m := by omega
  have hj0 : ¬ ((j : Int) < 0) := by omega
  have hmc : ((m + 1 : Nat) : Int) = (m : Int) + 1 := by omega
  have hjle : ¬ ((m : Int) + 1 ≤ (j : Int)) := by omega
  have HJM : Hid (j ≤ m) := hjm
  clear hl1 hl2 hl3 hout hav hp hq hr hnot HE HG hjl hjn
  have B1 : Hid (Bx w base (.slice (some ⟨b, 0, none⟩) (m + 1) cap) (W0.alloc (Obj.cells (P3 p q r) 66)) w.heap.size (w.heap.size + 1 + 1) s c s' c' (.slice (some ⟨b, 0, none⟩) (m + 1) cap) ls) := HB.out.alloc _
  have HX1 : Hid (Blk (W0.alloc (Obj.cells (P3 p q r) 66)) (w.heap.size + 1) (H2 k (j : Int)) 35) := HX.out.alloc _
  have HY1 : Hid (Blk (W0.alloc (Obj.cells (P3 p q r) 66)) (w.heap.size + 1 + 1 + 1) (P3 p q r) 66) := by rw [← HZ0.out]; exact Blk.new _ _ _
  have c0 := HB.out.box.cell 0
  have cf0 := HB.out.box.frozen 0
  have c1 := HB.out.box.cell 1
  have cf1 := HB.out.box.frozen 1
  have c2 := HB.out.box.cell 2
  have cf2 := HB.out.box.frozen 2
  have c3 := HB.out.box.cell 3
  have cf3 := HB.out.box.frozen 3
  have c4 := HB.out.box.cell 4
  have cf4 := HB.out.box.frozen 4
  have r0 := HB.out.res.cell 0
  have rf0 := HB.out.res.frozen 0
  have r1 := HB.out.res.cell 1
  have rf1 := HB.out.res.frozen 1
  have r2 := HB.out.res.cell 2
  have rf2 := HB.out.res.frozen 2
  have r3 := HB.out.res.cell 3
  have rf3 := HB.out.res.frozen 3
  have r4 := HB.out.res.cell 4
  have rf4 := HB.out.res.frozen 4
  simp at c0 c1 c2 c3 c4 r0 r1 r2 r3 r4
  have cl := HB.out.box.lt
  have rl := HB.out.res.lt
  have cn := HB.out.ne
  skip
  have zz : W0.heap.size = w.heap.size + 1 + 1 + 1 := HZ0.out
  obtain ⟨W1, hW1⟩ : ∃ W, (W0.alloc (Obj.cells (P3 p q r) 66)) = W := ⟨_, rfl⟩
  rw [hW1] at B1 HX1 HY1
  have HL40 : Hid (m + 1 ≤ 40) := by have := HD.out.2.2.2.2.2.2.1; rw [HN.out] at this; exact this
  have HBW1 : Hid (base ≤ W1.heap.size) := by have := B1.out.gr.size; have := HBS.out; show base ≤ _; omega
  have hmb : m ≤ 39 := by have := HL40.out; omega
  have hjb : (j : Int) ≤ 39 := by omega
  clear HB HX
  rcases hk with rfl | rfl | rfl
  · go_enter Try.func58, Try.ntmps58
    have x0' := HX1.out.cell 0
    have x1' := HX1.out.cell 1
    simp at x0' x1'
    have e0 := B1.out.box.cell 0
    have ef0 := B1.out.box.frozen 0
    have e1 := B1.out.box.cell 1
    have ef1 := B1.out.box.frozen 1
    have e2 := B1.out.box.cell 2
    have ef2 := B1.out.box.frozen 2
    have e3 := B1.out.box.cell 3
    have ef3 := B1.out.box.frozen 3
    have e4 := B1.out.box.cell 4
    have ef4 := B1.out.box.frozen 4
    have f0 := B1.out.res.cell 0
    have ff0 := B1.out.res.frozen 0
    have f1 := B1.out.res.cell 1
    have ff1 := B1.out.res.frozen 1
    have f2 := B1.out.res.cell 2
    have ff2 := B1.out.res.frozen 2
    have f3 := B1.out.res.cell 3
    have ff3 := B1.out.res.frozen 3
    have f4 := B1.out.res.cell 4
    have ff4 := B1.out.res.frozen 4
    simp at e0 e1 e2 e3 e4 f0 f1 f2 f3 f4
    have el := B1.out.box.lt
    have fl := B1.out.res.lt
    have en := B1.out.ne
    skip
    go_wp2_with (fail)
    refine (delete_c base b cap j m ls W1 (by have := B1.out.own; rw [Ot, HN.out] at this; exact this) HN.out HJM.out (by have := HL40.out; omega)).mono ?_
    rintro e w3 ⟨rfl, ho, hg⟩
    have hle : (ls.eraseIdx j).length = m := by rw [List.length_eraseIdx, HN.out, if_pos (by have := HJM.out; omega)]; omega
    have ho' : Ot 66 base w3 (.slice (some ⟨b, 0, none⟩) m cap) (ls.eraseIdx j) := by rw [Ot, hle]; exact ho
    have hx' : Nxt W1 (.slice (some ⟨b, 0, none⟩) (m + 1) cap) (.slice (some ⟨b, 0, none⟩) m cap) := fun k e => .inl e
    have B3 : Hid (Bx w base (.slice (some ⟨b, 0, none⟩) (m + 1) cap) (w3.setCell ⟨w.heap.size, 4, none⟩ (.slice (some ⟨b, 0, none⟩) m cap)) w.heap.size (w.heap.size + 1 + 1) s c s' c' (.slice (some ⟨b, 0, none⟩) m cap) (ls.eraseIdx j)) := B1.out.way ho' hg hx'
    obtain ⟨k1, -⟩ := B1.out.after ho' hg hx'
    have HX3 : Hid (Blk (w3.setCell ⟨w.heap.size, 4, none⟩ (.slice (some ⟨b, 0, none⟩) m cap)) (w.heap.size + 1) (H2 5 (j : Int)) 35) := (HX1.out.grown hg (by have := HBO.out; intro e; have := Option.some.inj e; omega)).other _ _ (by show w.heap.size + 1 ≠ w.heap.size; omega)
    have HY3 : Hid (Blk (w3.setCell ⟨w.heap.size, 4, none⟩ (.slice (some ⟨b, 0, none⟩) m cap)) (w.heap.size + 1 + 1 + 1) (P3 p q r) 66) := (HY1.out.grown hg (by have := HBO.out; intro e; have := Option.some.inj e; omega)).other _ _ (by show w.heap.size + 1 + 1 + 1 ≠ w.heap.size; omega)
    have HLE : Hid ((ls.eraseIdx j).length = m) := hle
    clear hW1 zz x0 x1 xl z0 z1 z2 hjI hjm hj0 hmc hjle hmb hjb c0 c1 c2 c3 c4 cf0 cf1 cf2 cf3 cf4 r0 r1 r2 r3 r4 rf0 rf1 rf2 rf3 rf4 cl rl cn
    clear x0' x1' e0 e1 e2 e3 e4 ef0 ef1 ef2 ef3 ef4 f0 f1 f2 f3 f4 ff0 ff1 ff2 ff3 ff4 el fl en
    have d4 := k1.cell 4
    have e4 := k1.frozen 4
    simp at d4
    clear hle ho' hx' ho hg k1 B1 HX1 HY1
    obtain ⟨W4, hW4⟩ : ∃ W, w3.setCell ⟨w.heap.size, 4, none⟩ (.slice (some ⟨b, 0, none⟩) m cap) = W := ⟨_, rfl⟩
    rw [hW4] at B3 HX3 HY3
    have x0 := HX3.out.cell 0
    have x1 := HX3.out.cell 1
    have y0 := HY3.out.cell 0
    have y1 := HY3.out.cell 1
    have y2 := HY3.out.cell 2
    simp at x0 x1 y0 y1 y2
    have c0 := B3.out.box.cell 0
    have cf0 := B3.out.box.frozen 0
    have c1 := B3.out.box.cell 1
    have cf1 := B3.out.box.frozen 1
    have c2 := B3.out.box.cell 2
    have cf2 := B3.out.box.frozen 2
    have c3 := B3.out.box.cell 3
    have cf3 := B3.out.box.frozen 3
    have c4 := B3.out.box.cell 4
    have cf4 := B3.out.box.frozen 4
    have r0 := B3.out.res.cell 0
    have rf0 := B3.out.res.frozen 0
    have r1 := B3.out.res.cell 1
    have rf1 := B3.out.res.frozen 1
    have r2 := B3.out.res.cell 2
    have rf2 := B3.out.res.frozen 2
    have r3 := B3.out.res.cell 3
    have rf3 := B3.out.res.frozen 3
    have r4 := B3.out.res.cell 4
    have rf4 := B3.out.res.frozen 4
    simp at c0 c1 c2 c3 c4 r0 r1 r2 r3 r4
    have cl := B3.out.box.lt
    have rl := B3.out.res.lt
    have cn := B3.out.ne
    skip
    have HCA : Hid (((0 ≤ c ∧ c ≤ 1000) ∧ (0 ≤ c' ∧ c' ≤ 1000)) ∧ (1 ≤ q ∧ q ≤ 4)) := ⟨⟨HD.out.2.2.2.2.1, by have := HD.out.2.2.2.2.1; have := HD.out.2.2.2.2.2.1; omega⟩, HSG.out.2.1⟩
    obtain ⟨⟨⟨t1, t2, t3, t4, tl⟩, ok⟩, hT⟩ : ∃ T, tellP (s, c, s', c', ls.eraseIdx j) p 5 (p, q, r) = T := ⟨_, rfl⟩
    have HP : Hid (wayP (s, c, s', c', ls) 5 (j : Int) = ((t1, t2, t3, t4, tl), ok)) := by show wayP _ _ _ = _; rw [HWP.out]; simpa using hT
    have HTC : Hid (∀ W, Ot 66 base W (.slice (some ⟨b, 0, none⟩) m cap) (ls.eraseIdx j) → base ≤ W.heap.size → Calls Try.prog 60 #[.agg (D5 s c s' c' (.slice (some ⟨b, 0, none⟩) m cap)), .agg (C5 p 5 p q r)] W (DuR base W (.slice (some ⟨b, 0, none⟩) m cap) (t1, t2, t3, t4, tl) ok)) := fun W h1 h2 => by
      have hp := HSG.out.1
      simp at hp
      have hl : (ls.eraseIdx j).length ≤ 40 := by rw [HLE.out]; have := HL40.out; omega
      rcases (show p = 0 ∨ p = 1 by omega) with rfl | rfl
      · have := tell0_c base s c s' c' (.slice (some ⟨b, 0, none⟩) m cap) (ls.eraseIdx j) 5 0 q r W h1 h2 hl HCA.out.1.1.1 HCA.out.1.1.2 (.inr ⟨rfl, HCA.out.2⟩)
        rw [hT] at this; exact this
      · have := tell1_c base s c s' c' (.slice (some ⟨b, 0, none⟩) m cap) (ls.eraseIdx j) 5 1 q r W h1 h2 hl HCA.out.1.2.1 HCA.out.1.2.2 (.inr ⟨rfl, HCA.out.2⟩)
        rw [hT] at this; exact this
    clear hT
    have HB4 : Hid (base ≤ W4.heap.size) := by have := B3.out.gr.size; have := HBS.out; show base ≤ _; omega
    go_wp2_with (fail)
    refine (HTC.out W4 B3.out.own HB4.out).mono ?_
    rintro e Wd ⟨v', rfl, ho, hg, hx⟩
    obtain ⟨k2, HF'⟩ := B3.out.hand ho hg hx t1 t2 t3 t4
    have HF : Hid _ := HF'
    clear x0 x1 y0 y1 y2 hW4 c0 c1 c2 c3 c4 cf0 cf1 cf2 cf3 cf4 r0 r1 r2 r3 r4 rf0 rf1 rf2 rf3 rf4 cl rl cn
    obtain ⟨a', cap', hv', -⟩ := own_form ho
    subst hv'
    have r0 := k2.cell 0
    have rf0 := k2.frozen 0
    have r1 := k2.cell 1
    have rf1 := k2.frozen 1
    have r2 := k2.cell 2
    have rf2 := k2.frozen 2
    have r3 := k2.cell 3
    have rf3 := k2.frozen 3
    have r4 := k2.cell 4
    have rf4 := k2.frozen 4
    simp at r0 r1 r2 r3 r4
    clear k2 ho hg hx B3 HF'
    go_wp2
    rw [HP.out]
    exact bodyPost_ret (v := .tuple #[.agg (D5 t1 t2 t3 t4 (.slice a' tl.length cap')), .bool ok]) (results_D rfl _ _ _ _ _ _ _ _ _ rfl rfl (HF.out _ rfl).1) rfl ((HF.out _ rfl).2.1 ok)
  · go_enter Try.func58, Try.ntmps58
    have x0' := HX1.out.cell 0
    have x1' := HX1.out.cell 1
    simp at x0' x1'
    have e0 := B1.out.box.cell 0
    have ef0 := B1.out.box.frozen 0
    have e1 := B1.out.box.cell 1
    have ef1 := B1.out.box.frozen 1
    have e2 := B1.out.box.cell 2
    have ef2 := B1.out.box.frozen 2
    have e3 := B1.out.box.cell 3
    have ef3 := B1.out.box.frozen 3
    have e4 := B1.out.box.cell 4
    have ef4 := B1.out.box.frozen 4
    have f0 := B1.out.res.cell 0
    have ff0 := B1.out.res.frozen 0
    have f1 := B1.out.res.cell 1
    have ff1 := B1.out.res.frozen 1
    have f2 := B1.out.res.cell 2
    have ff2 := B1.out.res.frozen 2
    have f3 := B1.out.res.cell 3
    have ff3 := B1.out.res.frozen 3
    have f4 := B1.out.res.cell 4
    have ff4 := B1.out.res.frozen 4
    simp at e0 e1 e2 e3 e4 f0 f1 f2 f3 f4
    have el := B1.out.box.lt
    have fl := B1.out.res.lt
    have en := B1.out.ne
    skip
    go_wp2_with (fail)
    refine (delete_c base b cap j m ls W1 (by have := B1.out.own; rw [Ot, HN.out] at this; exact this) HN.out HJM.out (by have := HL40.out; omega)).mono ?_
    rintro e w3 ⟨rfl, ho, hg⟩
    have hle : (ls.eraseIdx j).length = m := by rw [List.length_eraseIdx, HN.out, if_pos (by have := HJM.out; omega)]; omega
    have ho' : Ot 66 base w3 (.slice (some ⟨b, 0, none⟩) m cap) (ls.eraseIdx j) := by rw [Ot, hle]; exact ho
    have hx' : Nxt W1 (.slice (some ⟨b, 0, none⟩) (m + 1) cap) (.slice (some ⟨b, 0, none⟩) m cap) := fun k e => .inl e
    have B3 : Hid (Bx w base (.slice (some ⟨b, 0, none⟩) (m + 1) cap) (w3.setCell ⟨w.heap.size, 4, none⟩ (.slice (some ⟨b, 0, none⟩) m cap)) w.heap.size (w.heap.size + 1 + 1) s c s' c' (.slice (some ⟨b, 0, none⟩) m cap) (ls.eraseIdx j)) := B1.out.way ho' hg hx'
    obtain ⟨k1, -⟩ := B1.out.after ho' hg hx'
    have HX3 : Hid (Blk (w3.setCell ⟨w.heap.size, 4, none⟩ (.slice (some ⟨b, 0, none⟩) m cap)) (w.heap.size + 1) (H2 6 (j : Int)) 35) := (HX1.out.grown hg (by have := HBO.out; intro e; have := Option.some.inj e; omega)).other _ _ (by show w.heap.size + 1 ≠ w.heap.size; omega)
    have HY3 : Hid (Blk (w3.setCell ⟨w.heap.size, 4, none⟩ (.slice (some ⟨b, 0, none⟩) m cap)) (w.heap.size + 1 + 1 + 1) (P3 p q r) 66) := (HY1.out.grown hg (by have := HBO.out; intro e; have := Option.some.inj e; omega)).other _ _ (by show w.heap.size + 1 + 1 + 1 ≠ w.heap.size; omega)
    have HLE : Hid ((ls.eraseIdx j).length = m) := hle
    clear hW1 zz x0 x1 xl z0 z1 z2 hjI hjm hj0 hmc hjle hmb hjb c0 c1 c2 c3 c4 cf0 cf1 cf2 cf3 cf4 r0 r1 r2 r3 r4 rf0 rf1 rf2 rf3 rf4 cl rl cn
    clear x0' x1' e0 e1 e2 e3 e4 ef0 ef1 ef2 ef3 ef4 f0 f1 f2 f3 f4 ff0 ff1 ff2 ff3 ff4 el fl en
    have d4 := k1.cell 4
    have e4 := k1.frozen 4
    simp at d4
    clear hle ho' hx' ho hg k1 B1 HX1 HY1
    obtain ⟨W4, hW4⟩ : ∃ W, w3.setCell ⟨w.heap.size, 4, none⟩ (.slice (some ⟨b, 0, none⟩) m cap) = W := ⟨_, rfl⟩
    rw [hW4] at B3 HX3 HY3
    have x0 := HX3.out.cell 0
    have x1 := HX3.out.cell 1
    have y0 := HY3.out.cell 0
    have y1 := HY3.out.cell 1
    have y2 := HY3.out.cell 2
    simp at x0 x1 y0 y1 y2
    have c0 := B3.out.box.cell 0
    have cf0 := B3.out.box.frozen 0
    have c1 := B3.out.box.cell 1
    have cf1 := B3.out.box.frozen 1
    have c2 := B3.out.box.cell 2
    have cf2 := B3.out.box.frozen 2
    have c3 := B3.out.box.cell 3
    have cf3 := B3.out.box.frozen 3
    have c4 := B3.out.box.cell 4
    have cf4 := B3.out.box.frozen 4
    have r0 := B3.out.res.cell 0
    have rf0 := B3.out.res.frozen 0
    have r1 := B3.out.res.cell 1
    have rf1 := B3.out.res.frozen 1
    have r2 := B3.out.res.cell 2
    have rf2 := B3.out.res.frozen 2
    have r3 := B3.out.res.cell 3
    have rf3 := B3.out.res.frozen 3
    have r4 := B3.out.res.cell 4
    have rf4 := B3.out.res.frozen 4
    simp at c0 c1 c2 c3 c4 r0 r1 r2 r3 r4
    have cl := B3.out.box.lt
    have rl := B3.out.res.lt
    have cn := B3.out.ne
    skip
    have HP : Hid (wayP (s, c, s', c', ls) 6 (j : Int) = ((s, c, s', c', ls.eraseIdx j), true)) := by show wayP _ _ _ = _; rw [HWP.out]; simp
    have HF : Hid _ := B3.out.ret
    clear B3
    go_wp2
    rw [HP.out]
    exact bodyPost_ret (v := .tuple #[.agg (D5 s c s' c' (.slice (some ⟨b, 0, none⟩) m cap)), .bool true]) (results_D rfl _ _ _ _ _ _ _ _ _ rfl rfl (HF.out _ rfl).1) rfl ((HF.out _ rfl).2.1 true)
  · by_cases h40 : m + 1 = 40
    · have HP : Hid (wayP (s, c, s', c', ls) 7 (j : Int) = ((s, c, s', c', ls), false)) := by show wayP _ _ _ = _; rw [HWP.out]; simp [sendP, HN.out, h40]
      have H40 : Hid (m + 1 = 40) := h40
      clear h40
      go_enter Try.func58, Try.ntmps58
      have y0 := HY1.out.cell 0
      have y1 := HY1.out.cell 1
      have y2 := HY1.out.cell 2
      simp at y0 y1 y2
      have e0 := B1.out.box.cell 0
      have ef0 := B1.out.box.frozen 0
      have e1 := B1.out.box.cell 1
      have ef1 := B1.out.box.frozen 1
      have e2 := B1.out.box.cell 2
      have ef2 := B1.out.box.frozen 2
      have e3 := B1.out.box.cell 3
      have ef3 := B1.out.box.frozen 3
      have e4 := B1.out.box.cell 4
      have ef4 := B1.out.box.frozen 4
      have f0 := B1.out.res.cell 0
      have ff0 := B1.out.res.frozen 0
      have f1 := B1.out.res.cell 1
      have ff1 := B1.out.res.frozen 1
      have f2 := B1.out.res.cell 2
      have ff2 := B1.out.res.frozen 2
      have f3 := B1.out.res.cell 3
      have ff3 := B1.out.res.frozen 3
      have f4 := B1.out.res.cell 4
      have ff4 := B1.out.res.frozen 4
      simp at e0 e1 e2 e3 e4 f0 f1 f2 f3 f4
      have el := B1.out.box.lt
      have fl := B1.out.res.lt
      have en := B1.out.ne
      skip
      have x0' := HX1.out.cell 0
      simp at x0'
      go_wp2_with (fail)
      refine (sendFull_c s c s' c' (some ⟨b, 0, none⟩) (m + 1) cap p q r W1 H40.out).mono ?_
      rintro e Wd ⟨rfl, bd⟩
      have B3 : Hid (Bx w base (.slice (some ⟨b, 0, none⟩) (m + 1) cap) Wd w.heap.size (w.heap.size + 1 + 1) s c s' c' (.slice (some ⟨b, 0, none⟩) (m + 1) cap) ls) := B1.out.below bd
      clear H40 hW1 y0 y1 y2 x0 x1 e0 e1 e2 e3 e4 ef0 ef1 ef2 ef3 ef4 f0 f1 f2 f3 f4 ff0 ff1 ff2 ff3 ff4 el fl en
      clear c0 c1 c2 c3 c4 cf0 cf1 cf2 cf3 cf4 r0 r1 r2 r3 r4 rf0 rf1 rf2 rf3 rf4 cl rl cn
      clear B1 bd
      have c0 := B3.out.box.cell 0
      have cf0 := B3.out.box.frozen 0
      have c1 := B3.out.box.cell 1
      have cf1 := B3.out.box.frozen 1
      have c2 := B3.out.box.cell 2
      have cf2 := B3.out.box.frozen 2
      have c3 := B3.out.box.cell 3
      have cf3 := B3.out.box.frozen 3
      have c4 := B3.out.box.cell 4
      have cf4 := B3.out.box.frozen 4
      have r0 := B3.out.res.cell 0
      have rf0 := B3.out.res.frozen 0
      have r1 := B3.out.res.cell 1
      have rf1 := B3.out.res.frozen 1
      have r2 := B3.out.res.cell 2
      have rf2 := B3.out.res.frozen 2
      have r3 := B3.out.res.cell 3
      have rf3 := B3.out.res.frozen 3
      have r4 := B3.out.res.cell 4
      have rf4 := B3.out.res.frozen 4
      simp at c0 c1 c2 c3 c4 r0 r1 r2 r3 r4
      have cl := B3.out.box.lt
      have rl := B3.out.res.lt
      have cn := B3.out.ne
      skip
      have HF : Hid _ := B3.out.ret
      clear B3
      go_wp2
      rw [HP.out]
      exact bodyPost_ret (v := .tuple #[.agg (D5 s c s' c' (.slice (some ⟨b, 0, none⟩) (m + 1) cap)), .bool false]) (results_D rfl _ _ _ _ _ _ _ _ _ rfl rfl (HF.out _ rfl).1) rfl ((HF.out _ rfl).2.1 false)
    · have HP : Hid (wayP (s, c, s', c', ls) 7 (j : Int) = ((s, c, s', c', ls ++ [(p, q, r)]), true)) := by show wayP _ _ _ = _; rw [HWP.out]; simp [sendP, HN.out, h40]
      have HSP : Hid (sendP (s, c, s', c', ls) (p, q, r) = ((s, c, s', c', ls ++ [(p, q, r)]), true)) := by show sendP _ _ = _; simp [sendP, HN.out, h40]
      clear h40
      go_enter Try.func58, Try.ntmps58
      have y0 := HY1.out.cell 0
      have y1 := HY1.out.cell 1
      have y2 := HY1.out.cell 2
      simp at y0 y1 y2
      have e0 := B1.out.box.cell 0
      have ef0 := B1.out.box.frozen 0
      have e1 := B1.out.box.cell 1
      have ef1 := B1.out.box.frozen 1
      have e2 := B1.out.box.cell 2
      have ef2 := B1.out.box.frozen 2
      have e3 := B1.out.box.cell 3
      have ef3 := B1.out.box.frozen 3
      have e4 := B1.out.box.cell 4
      have ef4 := B1.out.box.frozen 4
      have f0 := B1.out.res.cell 0
      have ff0 := B1.out.res.frozen 0
      have f1 := B1.out.res.cell 1
      have ff1 := B1.out.res.frozen 1
      have f2 := B1.out.res.cell 2
      have ff2 := B1.out.res.frozen 2
      have f3 := B1.out.res.cell 3
      have ff3 := B1.out.res.frozen 3
      have f4 := B1.out.res.cell 4
      have ff4 := B1.out.res.frozen 4
      simp at e0 e1 e2 e3 e4 f0 f1 f2 f3 f4
      have el := B1.out.box.lt
      have fl := B1.out.res.lt
      have en := B1.out.ne
      skip
      have x0' := HX1.out.cell 0
      simp at x0'
      have hsc := sendSig_c base s c s' c' (.slice (some ⟨b, 0, none⟩) (m + 1) cap) ls p q r W1 B1.out.own HBW1.out (by rw [HN.out]; exact HL40.out)
      rw [HSP.out] at hsc
      have HSC : Hid (Calls Try.prog 68 #[.agg (D5 s c s' c' (.slice (some ⟨b, 0, none⟩) (m + 1) cap)), .agg (P3 p q r)] W1 (DuR base W1 (.slice (some ⟨b, 0, none⟩) (m + 1) cap) (s, c, s', c', ls ++ [(p, q, r)]) true)) := hsc
      clear hsc
      go_wp2_with (fail)
      refine HSC.out.mono ?_
      rintro e Wd ⟨v', rfl, ho, hg, hx⟩
      obtain ⟨k2, HF'⟩ := B1.out.hand ho hg hx s c s' c'
      have HF : Hid _ := HF'
      clear hW1 y0 y1 y2 x0 x1 e0 e1 e2 e3 e4 ef0 ef1 ef2 ef3 ef4 f0 f1 f2 f3 f4 ff0 ff1 ff2 ff3 ff4 el fl en
      clear c0 c1 c2 c3 c4 cf0 cf1 cf2 cf3 cf4 r0 r1 r2 r3 r4 rf0 rf1 rf2 rf3 rf4 cl rl cn
      obtain ⟨a', cap', hv', -⟩ := own_form ho
      rw [show (ls ++ [(p, q, r)]).length = m + 1 + 1 by simp [HN.out]] at hv'
      subst hv'
      have r0 := k2.cell 0
      have rf0 := k2.frozen 0
      have r1 := k2.cell 1
      have rf1 := k2.frozen 1
      have r2 := k2.cell 2
      have rf2 := k2.frozen 2
      have r3 := k2.cell 3
      have rf3 := k2.frozen 3
      have r4 := k2.cell 4
      have rf4 := k2.frozen 4
      simp at r0 r1 r2 r3 r4
      clear k2 ho hg hx B1 HF' HSC
      go_wp2
      rw [HP.out]
      exact bodyPost_ret (v := .tuple #[.agg (D5 s c s' c' (.slice a' (m + 1 + 1) cap')), .bool true]) (results_D rfl _ _ _ _ _ _ _ _ _ rfl rfl (HF.out _ rfl).1) rfl ((HF.out _ rfl).2.1 true)

end Go.Proofs.Ytljejjfhlpjlfaa

/- The model's Connect; no condition. -/
import Derived.Test.YtikhfeafbckjlaaDoorFCmB
namespace Go.Proofs.YtikhfeafbckjlaaDoor
open Go.RowKit Go.ChangeShapes Go.WideShapes Go.ChangeAt
set_option linter.unusedVariables false
set_option linter.unusedSimpArgs false
set_option maxRecDepth 8000
set_option maxHeartbeats 12800000 in
theorem conM_c (s p m f t : Int) (v : Value) (ls : Tri) (w : World) (h : Rt w v ls) (hn : ls.length ≤ 4194304) :
   Calls Tryd.prog 11 #[.agg (F4 s p m v), .int .i64 f, .int .i64 t] w (ConR s p m f t ls w) := by
  obtain ⟨W2, hW2⟩ : ∃ W2, ((w.alloc (Obj.cells (F4 s p m v) 26)).alloc (Obj.cells (F4 0 0 0 (.slice none 0 0)) 26)) = W2 := ⟨_, rfl⟩
  have z2 : W2.heap.size = w.heap.size + 2 := by rw [← hW2]; simp
  have k0 : Blk W2 w.heap.size (F4 s p m v) 26 := hW2 ▸ (Blk.new _ _ _).alloc _
  have k1 : Blk W2 (w.heap.size + 1) (F4 0 0 0 (.slice none 0 0)) 26 := hW2 ▸ Blk.newAt _ _ _ _ (by simp)
  have bl : Below w.heap.size w W2 := hW2 ▸ ((Below.refl _ _).alloc (Nat.le_refl _) _).alloc (by simp) _
  have HC : Hid (Calls Tryd.prog 44 #[.agg (F4 s p m v)] W2 fun e w' => ∃ v', e = .returned (.agg (F4 s p m v')) ∧ Ot 35 W2.heap.size w' v' ls ∧ Below W2.heap.size W2 w') := l3Copy_c s p m v ls W2 (h.below bl) hn
  have HK : Hid (Blk W2 w.heap.size (F4 s p m v) 26 ∧ Blk W2 (w.heap.size + 1) (F4 0 0 0 (.slice none 0 0)) 26 ∧ Below w.heap.size w W2) := ⟨k0, k1, bl⟩
  have HZ : Hid (W2.heap.size = w.heap.size + 2) := z2
  obtain ⟨a, cap, e, -⟩ := h
  obtain ⟨n, hn'⟩ : ∃ n, ls.length = n := ⟨_, rfl⟩
  rw [hn'] at e
  subst e
  have HN : Hid (ls.length = n) := hn'
  have HW2 : Hid (((w.alloc (Obj.cells (F4 s p m (.slice a n cap)) 26)).alloc (Obj.cells (F4 0 0 0 (.slice none 0 0)) 26)) = W2) := hW2
  clear hn' bl k0 k1 hW2 z2
  go_enter Tryd.func11, Tryd.ntmps11
  go_wp2_with (fail)
  rw [HW2.out]
  refine HC.out.mono ?_
  rintro e w3 ⟨v', rfl, o3, b3⟩
  rw [HZ.out] at o3
  have q0 := HK.out.1.below b3 (by rw [HZ.out]; omega)
  have q1 := HK.out.2.1.below b3 (by rw [HZ.out]; omega)
  have b3' : Below w.heap.size w w3 := HK.out.2.2.trans (b3.mono (by rw [HZ.out]; omega))
  obtain ⟨a', cap', hv', hc1, hc2, hc3⟩ := own_form o3
  rw [HN.out] at hv' hc1 hc3
  subst hv'
  have c0 := q0.cell 0
  have c1 := q0.cell 1
  have c2 := q0.cell 2
  have c3 := q0.cell 3
  have f0 := q0.frozen 0
  have f1 := q0.frozen 1
  have f2 := q0.frozen 2
  have f3 := q0.frozen 3
  simp at c0 c1 c2 c3
  have hs3 : w.heap.size + 2 ≤ w3.heap.size := by have := b3.size; have := HZ.out; omega
  have E4 : Hid (∀ W4, (((w3.setCell ⟨w.heap.size, 0, none⟩ (.int .i64 s)).setCell ⟨w.heap.size, 1, none⟩ (.int .i64 p)).setCell ⟨w.heap.size, 2, none⟩ (.int .i64 m)).setCell ⟨w.heap.size, 3, none⟩ (.slice a' n cap') = W4 →
      Blk W4 w.heap.size (F4 s p m (.slice a' n cap')) 26 ∧ Blk W4 (w.heap.size + 1) (F4 0 0 0 (.slice none 0 0)) 26 ∧ Ot 35 (w.heap.size + 2) W4 (.slice a' n cap') ls ∧ Below w.heap.size w W4 ∧ w.heap.size + 2 ≤ W4.heap.size) := by
    intro W4 e
    have g := grown_put4 w3 w.heap.size (.int .i64 s) (.int .i64 p) (.int .i64 m) (.slice a' n cap')
    rw [e] at g
    refine ⟨e ▸ putF q0 s p m _, (g.block _ (by omega) (by simp)).trans q1, o3.off g (by omega), b3'.trans (grown_below g (by omega) (fun k e => by cases e; exact Nat.le_refl _)), by have := g.size; omega⟩
  have hq0 : w.heap.size < w3.heap.size := by omega
  clear HC HK HW2 q0 q1 b3' b3 o3
  go_wp2_with (fail)
  obtain ⟨W4, hW4⟩ : ∃ W4, (((w3.setCell ⟨w.heap.size, 0, none⟩ (.int .i64 s)).setCell ⟨w.heap.size, 1, none⟩ (.int .i64 p)).setCell ⟨w.heap.size, 2, none⟩ (.int .i64 m)).setCell ⟨w.heap.size, 3, none⟩ (.slice a' n cap') = W4 := ⟨_, rfl⟩
  rw [hW4]
  obtain ⟨k0, k1, o4, b4, s4⟩ := E4.out W4 hW4
  have z4 : W4.heap.size = w3.heap.size := by rw [← hW4]; simp
  obtain ⟨W5, hW5⟩ : ∃ W5, W4.alloc (Obj.cells #[] 74) = W5 := ⟨_, rfl⟩
  rw [hW5]
  have b45 : Below W4.heap.size W4 W5 := hW5 ▸ (Below.refl _ _).alloc (Nat.le_refl _) _
  have on : Op mf mg 74 (w.heap.size + 2) W5 (.slice (some ⟨w3.heap.size, 0, none⟩) 0 0) [] := by
    have := World.ownsRow_lit W4 (base := w.heap.size + 2) (e := 74) (size := 2) #[] 0 (by omega) (by simp [maxLen]) (by simp)
    rw [hW5, z4] at this
    exact this
  have hnek : ∀ k, (Value.slice a' n cap').ownBlock = some k → (Value.slice (some ⟨w3.heap.size, 0, none⟩) 0 0).ownBlock ≠ some k := fun k e e2 => by
    have h1 := (World.ownsRow.lt o4 k e).2
    simp [Value.ownBlock] at e2
    omega
  obtain ⟨NV, hNV⟩ : ∃ NV, Value.slice (some ⟨w3.heap.size, 0, none⟩) 0 0 = NV := ⟨_, rfl⟩
  rw [hNV] at on hnek ⊢
  have D4 : Hid (Rm s p m w W5 (.slice a' n cap') ls NV []) := ⟨k0.below b45 k0.lt, k1.below b45 k1.lt, o4.below b45, on, hnek, belowCall b4 b45 b4.size⟩
  clear hW4 E4 c0 c1 c2 c3 f0 f1 f2 f3 hW5 b45 on hnek hNV k0 k1 b4 s4 hs3 z4 hq0
  refine (ok_c s p m _ ls W5 D4.out.own.rd).mono ?_
  rintro e w5 ⟨r, rfl, hr, b5⟩
  have HR : Hid (r = true ↔ FOk s p m ls) := hr
  have D5 : Hid (Rm s p m w w5 (.slice a' n cap') ls NV []) := D4.out.below b5
  clear D4 b5 hr o4
  have c0 := D5.out.box.cell 0
  have c1 := D5.out.box.cell 1
  have c2 := D5.out.box.cell 2
  have c3 := D5.out.box.cell 3
  have e3 := D5.out.box.frozen 3
  have r0 := D5.out.res.cell 0
  have r1 := D5.out.res.cell 1
  have r2 := D5.out.res.cell 2
  have r3 := D5.out.res.cell 3
  have f0 := D5.out.res.frozen 0
  have f1 := D5.out.res.frozen 1
  have f2 := D5.out.res.frozen 2
  have f3 := D5.out.res.frozen 3
  simp at c0 c1 c2 c3 r0 r1 r2 r3
  have hq0 : w.heap.size < w5.heap.size := D5.out.box.lt
  have hq1 : w.heap.size + 1 < w5.heap.size := D5.out.res.lt
  cases r with
  | false =>
    have HS : Hid (ConS s p m f t ls ls [] 1) := .inl ⟨fun h => (by have := HR.out.2 h.1; cases this), rfl, rfl, rfl⟩
    go_wp2
    exact bodyPost_ret (v := .tuple #[.agg (F4 s p m (.slice a' n cap')), NV, .int .i64 1]) (results_F3 rfl _ _ _ _ _ _ _ _ _ rfl rfl rfl (finX (s := s) (p := p) (m := m) (f := f) (t := t) (l0 := ls) D5.out.res D5.out.own D5.out.bel D5.out.non D5.out.ne 1 _ rfl).1) rfl ((finX (s := s) (p := p) (m := m) (f := f) (t := t) (l0 := ls) D5.out.res D5.out.own D5.out.bel D5.out.non D5.out.ne 1 _ rfl).2 HS.out)
  | true =>
  have hok := HR.out.1 rfl
  obtain ⟨hn1, hn2⟩ := sides hok.1 hok.2.1
  have HOK : Hid (FOk s p m ls) := hok
  clear hok HR
  go_wp2_with (fail)
  refine (end_c s p m (s * p) _ f w5 rfl hn1 hn2).mono ?_
  rintro e w6 ⟨rfl, b6⟩
  have D6 : Hid (Rm s p m w w6 (.slice a' n cap') ls NV []) := D5.out.below b6
  clear D5 b6 c0 c1 c2 c3 r0 r1 r2 r3 f0 f1 f2 f3 e3 hq0 hq1
  have c0 := D6.out.box.cell 0
  have c1 := D6.out.box.cell 1
  have c2 := D6.out.box.cell 2
  have c3 := D6.out.box.cell 3
  have e3 := D6.out.box.frozen 3
  have r0 := D6.out.res.cell 0
  have r1 := D6.out.res.cell 1
  have r2 := D6.out.res.cell 2
  have r3 := D6.out.res.cell 3
  have f0 := D6.out.res.frozen 0
  have f1 := D6.out.res.frozen 1
  have f2 := D6.out.res.frozen 2
  have f3 := D6.out.res.frozen 3
  simp at c0 c1 c2 c3 r0 r1 r2 r3
  have hq0 : w.heap.size < w6.heap.size := D6.out.box.lt
  have hq1 : w.heap.size + 1 < w6.heap.size := D6.out.res.lt
  by_cases hE : FEnd (s * p) f
  case neg =>
    have hd : decide (FEnd (s * p) f) = false := decide_eq_false hE
    rw [hd]
    have HS : Hid (ConS s p m f t ls ls [] 1) := .inl ⟨fun h => hE h.2.1, rfl, rfl, rfl⟩
    clear hE hd
    go_wp2
    exact bodyPost_ret (v := .tuple #[.agg (F4 s p m (.slice a' n cap')), NV, .int .i64 1]) (results_F3 rfl _ _ _ _ _ _ _ _ _ rfl rfl rfl (finX (s := s) (p := p) (m := m) (f := f) (t := t) (l0 := ls) D6.out.res D6.out.own D6.out.bel D6.out.non D6.out.ne 1 _ rfl).1) rfl ((finX (s := s) (p := p) (m := m) (f := f) (t := t) (l0 := ls) D6.out.res D6.out.own D6.out.bel D6.out.non D6.out.ne 1 _ rfl).2 HS.out)
  case pos =>
  have hd : decide (FEnd (s * p) f) = true := decide_eq_true hE
  rw [hd]
  have HFE : Hid (FEnd (s * p) f) := hE
  have hf0 : 0 ≤ f := hE.1
  have hf1 : f ≤ s * p - 1 := hE.2
  clear hE hd
  go_wp2_with (fail)
  refine (end_c s p m (s * p) _ t w6 rfl hn1 hn2).mono ?_
  rintro e w7 ⟨rfl, b7⟩
  have D7 : Hid (Rm s p m w w7 (.slice a' n cap') ls NV []) := D6.out.below b7
  clear D6 b7 c0 c1 c2 c3 r0 r1 r2 r3 f0 f1 f2 f3 e3 hq0 hq1
  have c0 := D7.out.box.cell 0
  have c1 := D7.out.box.cell 1
  have c2 := D7.out.box.cell 2
  have c3 := D7.out.box.cell 3
  have e3 := D7.out.box.frozen 3
  have r0 := D7.out.res.cell 0
  have r1 := D7.out.res.cell 1
  have r2 := D7.out.res.cell 2
  have r3 := D7.out.res.cell 3
  have f0 := D7.out.res.frozen 0
  have f1 := D7.out.res.frozen 1
  have f2 := D7.out.res.frozen 2
  have f3 := D7.out.res.frozen 3
  simp at c0 c1 c2 c3 r0 r1 r2 r3
  have hq0 : w.heap.size < w7.heap.size := D7.out.box.lt
  have hq1 : w.heap.size + 1 < w7.heap.size := D7.out.res.lt
  by_cases hE : FEnd (s * p) t
  case neg =>
    have hd : decide (FEnd (s * p) t) = false := decide_eq_false hE
    rw [hd]
    have HS : Hid (ConS s p m f t ls ls [] 1) := .inl ⟨fun h => hE h.2.2, rfl, rfl, rfl⟩
    clear hE hd
    go_wp2
    exact bodyPost_ret (v := .tuple #[.agg (F4 s p m (.slice a' n cap')), NV, .int .i64 1]) (results_F3 rfl _ _ _ _ _ _ _ _ _ rfl rfl rfl (finX (s := s) (p := p) (m := m) (f := f) (t := t) (l0 := ls) D7.out.res D7.out.own D7.out.bel D7.out.non D7.out.ne 1 _ rfl).1) rfl ((finX (s := s) (p := p) (m := m) (f := f) (t := t) (l0 := ls) D7.out.res D7.out.own D7.out.bel D7.out.non D7.out.ne 1 _ rfl).2 HS.out)
  case pos =>
  have hd : decide (FEnd (s * p) t) = true := decide_eq_true hE
  rw [hd]
  have HCO : Hid (ConOk s p m f t ls) := ⟨HOK.out, HFE.out, hE⟩
  have ht0 : 0 ≤ t := hE.1
  have ht1 : t ≤ s * p - 1 := hE.2
  clear hE hd HFE
  have hp1 := HOK.out.2.1.1
  have hp4 := HOK.out.2.1.2
  obtain ⟨hm1, hm2⟩ := HOK.out.2.2.1
  have hp0 : p ≠ 0 := by omega
  obtain ⟨kx, hkx, hkx6⟩ : ∃ k : Nat, f / p = k ∧ k < 6 := by
    have h0 : 0 ≤ f / p := Int.ediv_nonneg hf0 (by omega)
    have h6 : f / p < 6 := Int.ediv_lt_of_lt_mul (by omega) (by have := HOK.out.1.2; have : s * p ≤ 6 * p := Int.mul_le_mul_of_nonneg_right this (by omega); omega)
    exact ⟨(f / p).toNat, by omega, by omega⟩
  obtain ⟨ky, hky, hky6⟩ : ∃ k : Nat, t / p = k ∧ k < 6 := by
    have h0 : 0 ≤ t / p := Int.ediv_nonneg ht0 (by omega)
    have h6 : t / p < 6 := Int.ediv_lt_of_lt_mul (by omega) (by have := HOK.out.1.2; have : s * p ≤ 6 * p := Int.mul_le_mul_of_nonneg_right this (by omega); omega)
    exact ⟨(t / p).toNat, by omega, by omega⟩
  obtain ⟨M, rfl⟩ : ∃ M : Nat, m = M := ⟨m.toNat, by omega⟩
  go_wp2
  go_loopw [10] (fun i wr => ∃ j : Nat, j ≤ n ∧ i = .int .i64 j ∧ wr = w7 ∧ Hid (∀ u (hu : u < ls.length), u < j → (ls[u].1 == f) = false ∧ (ls[u].2.1 == t) = false)) (fun i _ => n - (intOf i).toNat)
  case atStart => exact ⟨0, Nat.zero_le _, rfl, rfl, fun u _ h => by omega⟩
  case round =>
    obtain ⟨j, hj, rfl, rfl, hA⟩ := hrel
    have hnm : n ≤ 4194304 := by have := HN.out; omega
    by_cases hlt : j < n
    case pos =>
      obtain ⟨g, rfl⟩ : ∃ g, a' = some ⟨g, 0, none⟩ := by
        rcases hc3 with h | h
        · omega
        · exact h
      have hjl : j < ls.length := by have := HN.out; omega
      have hO : wr.ownsRow (w.heap.size + 2) 35 3 (.slice (some ⟨g, 0, none⟩) n cap') n (tr ls) := by have := D7.out.own; rw [Ot, HN.out] at this; exact this
      have hp := tr_at ls j hjl
      obtain ⟨x, ex⟩ : ∃ x, ls[j].1 = x := ⟨_, rfl⟩
      obtain ⟨y, ey⟩ : ∃ y, ls[j].2.1 = y := ⟨_, rfl⟩
      have d0 : wr.cell? ⟨g, j * 3, none⟩ = some (.int .i64 x) := by rw [← ex]; exact (World.ownsRow.cellAt hO (j * 3) (by omega)).trans hp.1
      have d1 : wr.cell? ⟨g, j * 3 + 1, none⟩ = some (.int .i64 y) := by rw [← ey]; exact (World.ownsRow.cellAt hO (j * 3 + 1) (by omega)).trans hp.2.1
      have hgl := World.ownsRow.lt hO g rfl
      have HEX : Hid (ls[j].1 = x ∧ ls[j].2.1 = y) := ⟨ex, ey⟩
      clear hO hp ex ey
      by_cases hxf : x = f
      · have hb : (x == f) = true := by simpa using hxf
        have HS : Hid (ConS s p M f t ls ls [] 2) := .inr (.inl ⟨HCO.out, ⟨ls[j], List.getElem_mem hjl, .inl (HEX.out.1.trans hxf)⟩, rfl, rfl, rfl⟩)
        clear hxf hA
        go_wp2
        exact bodyPost_ret (v := .tuple #[.agg (F4 s p M (.slice (some ⟨g, 0, none⟩) n cap')), NV, .int .i64 2]) (results_F3 rfl _ _ _ _ _ _ _ _ _ rfl rfl rfl (finX (s := s) (p := p) (m := M) (f := f) (t := t) (l0 := ls) D7.out.res D7.out.own D7.out.bel D7.out.non D7.out.ne 2 _ rfl).1) rfl ((finX (s := s) (p := p) (m := M) (f := f) (t := t) (l0 := ls) D7.out.res D7.out.own D7.out.bel D7.out.non D7.out.ne 2 _ rfl).2 HS.out)
      · have hb : (x == f) = false := by simpa using hxf
        by_cases hyt : y = t
        · have hb2 : (y == t) = true := by simpa using hyt
          have HS : Hid (ConS s p M f t ls ls [] 2) := .inr (.inl ⟨HCO.out, ⟨ls[j], List.getElem_mem hjl, .inr (HEX.out.2.trans hyt)⟩, rfl, rfl, rfl⟩)
          clear hxf hyt hA
          go_wp2
          exact bodyPost_ret (v := .tuple #[.agg (F4 s p M (.slice (some ⟨g, 0, none⟩) n cap')), NV, .int .i64 2]) (results_F3 rfl _ _ _ _ _ _ _ _ _ rfl rfl rfl (finX (s := s) (p := p) (m := M) (f := f) (t := t) (l0 := ls) D7.out.res D7.out.own D7.out.bel D7.out.non D7.out.ne 2 _ rfl).1) rfl ((finX (s := s) (p := p) (m := M) (f := f) (t := t) (l0 := ls) D7.out.res D7.out.own D7.out.bel D7.out.non D7.out.ne 2 _ rfl).2 HS.out)
        · have hb2 : (y == t) = false := by simpa using hyt
          have HA : Hid (∀ u (hu : u < ls.length), u < j + 1 → (ls[u].1 == f) = false ∧ (ls[u].2.1 == t) = false) := fun u hu h => by
            by_cases huj : u < j
            · exact hA.out u hu huj
            · obtain rfl : u = j := by omega
              rw [HEX.out.1, HEX.out.2]; exact ⟨hb, hb2⟩
          clear hxf hyt hA
          go_wp2
          go_roundw
          case rel => exact ⟨j + 1, by omega, by go_num, by first | rfl | trivial, HA.out⟩
          case measure => simp [intOf]; omega
    case neg =>
    obtain rfl : n = j := by omega
    have HNB : Hid (¬ Busy f t ls) := by
      rintro ⟨x, hx, hxx⟩
      obtain ⟨i, hi, rfl⟩ := List.getElem_of_mem hx
      have := hA.out i hi (by have := HN.out; omega)
      simp at this
      rcases hxx with h | h
      · exact this.1 h
      · exact this.2 h
    clear hA hlt hj
    have z1 : ∀ W : Ov wr, W.wd.cell? ⟨w.heap.size, 1, none⟩ = some (.int .i64 p) := ov_cell (D7.out.box.cell 1)
    have ne : Nonempty (Ov wr) := ⟨⟨_, Below.refl _ _⟩⟩
    go_wp2
    refine region_over (by kernel_rfl) (by kernel_rfl) ?_
    repeat (go_big_quiet_step (fail))
    refine wpQuiet_nil ?_
    rintro _ ⟨W, rfl⟩
    obtain ⟨W8, hW8⟩ : ∃ W8, W.wd = W8 := ⟨_, rfl⟩
    have D8 : Hid (Rm s p M w W8 (.slice a' n cap') ls NV []) := hW8 ▸ D7.out.below W.ok
    rw [hW8]
    clear hW8 W z1 ne D7 c0 c1 c2 c3 r0 r1 r2 r3 f0 f1 f2 f3 e3 hq0 hq1
    go_wp2
    go_loopw [13, 14, 15] (fun av bv mv wr => ∃ k : Nat, k ≤ M ∧ av = .int .i64 (frV (inF p ls f) k) ∧ bv = .int .i64 (frV (outF p ls t) k) ∧ mv = .int .i64 k ∧ Hid (∀ i, i < k → bothF p ls f t i = false) ∧ Hid (Rm s p M w wr (.slice a' n cap') ls NV [])) (fun _ _ mv _ => M - (intOf mv).toNat)
    case atStart => exact ⟨0, Nat.zero_le _, rfl, rfl, rfl, fun i h => by omega, D8.out⟩
    case round =>
      obtain ⟨k, hk, rfl, rfl, rfl, hB, D9⟩ := hrel
      clear D8
      obtain ⟨av, hav⟩ : ∃ av, frV (inF p ls f) k = av := ⟨_, rfl⟩
      obtain ⟨bv, hbv⟩ : ∃ bv, frV (outF p ls t) k = bv := ⟨_, rfl⟩
      have HAB : Hid (frV (inF p ls f) k = av ∧ frV (outF p ls t) k = bv) := ⟨hav, hbv⟩
      have hga : -1 ≤ av := hav ▸ frV_ge _ _
      have hgb : -1 ≤ bv := hbv ▸ frV_ge _ _
      rw [hav, hbv]
      clear hav hbv
      have c0 := D9.out.box.cell 0
      have c1 := D9.out.box.cell 1
      have c2 := D9.out.box.cell 2
      have c3 := D9.out.box.cell 3
      have e3 := D9.out.box.frozen 3
      have r0 := D9.out.res.cell 0
      have r1 := D9.out.res.cell 1
      have r2 := D9.out.res.cell 2
      have r3 := D9.out.res.cell 3
      have f0 := D9.out.res.frozen 0
      have f1 := D9.out.res.frozen 1
      have f2 := D9.out.res.frozen 2
      have f3 := D9.out.res.frozen 3
      simp at c0 c1 c2 c3 r0 r1 r2 r3
      have hq0 : w.heap.size < wr.heap.size := D9.out.box.lt
      have hq1 : w.heap.size + 1 < wr.heap.size := D9.out.res.lt
      by_cases hkm : k < M
      case pos =>
        obtain ⟨i1, hi1⟩ : ∃ i1, ixV (inQ p kx k) ls = i1 := ⟨_, rfl⟩
        obtain ⟨i2, hi2⟩ : ∃ i2, ixV (outQ p ky k) ls = i2 := ⟨_, rfl⟩
        obtain ⟨bx, hbx⟩ : ∃ bx, decide (i1 < 0) = bx := ⟨_, rfl⟩
        obtain ⟨yb, hyb⟩ : ∃ yb, decide (i2 < 0) = yb := ⟨_, rfl⟩
        have HF : Hid (inF p ls f k = bx ∧ outF p ls t k = yb) := ⟨by rw [inF, hkx, ← hbx, ← hi1, ixV_any], by rw [outF, hky, ← hyb, ← hi2, ixV_any]⟩
        have HC46 : Hid (∀ W : Ov wr, Calls Tryd.prog 46 #[.agg (F4 s p M (.slice a' n cap')), .int .i64 (kx : Int), .int .i64 (k : Int)] W.wd fun e w'' => e = .returned (.int .i64 i1) ∧ ∃ W' : Ov wr, w'' = W'.wd) := fun W => ov_call ((l3In_v s p M kx k _ ls _ (D9.out.own.rd.below W.ok) HOK.out.inr hp1 hp4).mono fun e w' ⟨h1, h2⟩ => ⟨by rw [h1, hi1], h2⟩)
        have HC47 : Hid (∀ W : Ov wr, Calls Tryd.prog 47 #[.agg (F4 s p M (.slice a' n cap')), .int .i64 (ky : Int), .int .i64 (k : Int)] W.wd fun e w'' => e = .returned (.int .i64 i2) ∧ ∃ W' : Ov wr, w'' = W'.wd) := fun W => ov_call ((l3Out_v s p M ky k _ ls _ (D9.out.own.rd.below W.ok) HOK.out.inr hp1 hp4).mono fun e w' ⟨h1, h2⟩ => ⟨by rw [h1, hi2], h2⟩)
        have z0 : ∀ W : Ov wr, W.wd.cell? ⟨w.heap.size, 0, none⟩ = some (.int .i64 s) := ov_cell (D9.out.box.cell 0)
        have z1 : ∀ W : Ov wr, W.wd.cell? ⟨w.heap.size, 1, none⟩ = some (.int .i64 p) := ov_cell (D9.out.box.cell 1)
        have z2 : ∀ W : Ov wr, W.wd.cell? ⟨w.heap.size, 2, none⟩ = some (.int .i64 M) := ov_cell (D9.out.box.cell 2)
        have z3 : ∀ W : Ov wr, W.wd.cell? ⟨w.heap.size, 3, none⟩ = some (.slice a' n cap') := ov_cell (D9.out.box.cell 3)
        have ne : Nonempty (Ov wr) := ⟨⟨_, Below.refl _ _⟩⟩
        clear hi1 hi2
        go_wp2
        refine region_over (by kernel_rfl) (by kernel_rfl) ?_
        repeat (go_big_quiet_step (first | (go_at_call 46; exact HC46.out _) | (go_at_call 47; exact HC47.out _)))
        refine wpQuiet_nil ?_
        rintro _ ⟨W, rfl⟩
        obtain ⟨W10, hW10⟩ : ∃ W10, W.wd = W10 := ⟨_, rfl⟩
        have D10 : Hid (Rm s p M w W10 (.slice a' n cap') ls NV []) := hW10 ▸ D9.out.below W.ok
        rw [hW10]
        clear hW10 W z0 z1 z2 z3 ne D9 c0 c1 c2 c3 r0 r1 r2 r3 f0 f1 f2 f3 e3 hq0 hq1 HC46 HC47 hbx hyb
        have c0 := D10.out.box.cell 0
        have c1 := D10.out.box.cell 1
        have c2 := D10.out.box.cell 2
        have c3 := D10.out.box.cell 3
        have e3 := D10.out.box.frozen 3
        have r0 := D10.out.res.cell 0
        have r1 := D10.out.res.cell 1
        have r2 := D10.out.res.cell 2
        have r3 := D10.out.res.cell 3
        have f0 := D10.out.res.frozen 0
        have f1 := D10.out.res.frozen 1
        have f2 := D10.out.res.frozen 2
        have f3 := D10.out.res.frozen 3
        simp at c0 c1 c2 c3 r0 r1 r2 r3
        have hq0 : w.heap.size < W10.heap.size := D10.out.box.lt
        have hq1 : w.heap.size + 1 < W10.heap.size := D10.out.res.lt
        cases bx with
        | true =>
          cases yb with
          | true =>
            have hcv : cV p M ls f t = k := by rw [cV, Int.toNat_natCast]; exact frV_is hB.out (by rw [bothF, HF.out.1, HF.out.2]; rfl) hkm
            have HS : Hid (ConS s p M f t ls (ls ++ [(f, t, (k : Int))]) [] 0) := .inr (.inr (.inl ⟨HCO.out, HNB.out, by rw [hcv]; omega, by rw [hcv], rfl, rfl⟩))
            clear hcv hB HF HAB
            have HO1 := oneTri D10.out.own f t (k : Int)
            have HO : Hid (Ot 35 (w.heap.size + 2) (W10.alloc (Obj.cells (P3 f t (k : Int)) 35)) (.slice a' n cap') ls) := HO1.1
            have HR1 : Hid (Rt (W10.alloc (Obj.cells (P3 f t (k : Int)) 35)) (.slice (some ⟨W10.heap.size, 0, none⟩) 1 1) [(f, t, (k : Int))]) := HO1.2
            have HLL : Hid (ls.length ≤ 4194304) := by show ls.length ≤ _; rw [HN.out]; exact hnm
            have hbs : w.heap.size + 2 ≤ (W10.alloc (Obj.cells (P3 f t (k : Int)) 35)).heap.size := by simp; omega
            obtain ⟨WX, hWX⟩ : ∃ WX, (W10.alloc (Obj.cells (P3 f t (k : Int)) 35)) = WX := ⟨_, rfl⟩
            have HWX : Hid ((W10.alloc (Obj.cells (P3 f t (k : Int)) 35)) = WX) := hWX
            rw [hWX] at HO HR1 hbs
            clear HO1 hWX
            go_wp2_with (at_builtin; rw [HWX.out]; refine appTri rfl _ _ rfl (w.heap.size + 2) _ _ rfl HO.out _ _ rfl HR1.out (by have := HLL.out; simp only [List.length_cons, List.length_nil]; omega) hbs ?_)
            intro nv w14 ho14 hg14 hv14
            rw [← HWX.out] at hg14 hv14
            obtain ⟨⟨q1, q2⟩, D15'⟩ := D10.out.app ho14 hg14 hv14
            obtain ⟨an, cn, hnv, -, -, -⟩ := own_form ho14
            rw [show (ls ++ [(f, t, (k : Int))]).length = n + 1 by simp [HN.out]] at hnv
            subst hnv
            have D15 : Hid (Rm s p M w (w14.setCell ⟨w.heap.size, 3, none⟩ (.slice an (n + 1) cn)) (.slice an (n + 1) cn) (ls ++ [(f, t, (k : Int))]) (NV) []) := D15'
            clear c0 c1 c2 c3 r0 r1 r2 r3 f0 f1 f2 f3 e3 hq0 hq1 D10 ho14 hg14 hv14 HO HR1 hbs D15' HWX
            have c0 := q1.cell 0
            have c1 := q1.cell 1
            have c2 := q1.cell 2
            have c3 := q1.cell 3
            have e3 := q1.frozen 3
            have r0 := q2.cell 0
            have r1 := q2.cell 1
            have r2 := q2.cell 2
            have r3 := q2.cell 3
            have f0 := q2.frozen 0
            have f1 := q2.frozen 1
            have f2 := q2.frozen 2
            have f3 := q2.frozen 3
            simp at c0 c1 c2 c3 r0 r1 r2 r3
            have hq0 : w.heap.size < w14.heap.size := q1.lt
            have hq1 : w.heap.size + 1 < w14.heap.size := q2.lt
            clear q1 q2
            have HFN : Hid (∀ W4, ((((w14.setCell ⟨w.heap.size, 3, none⟩ (.slice an (n + 1) cn)).setCell ⟨w.heap.size + 1, 0, none⟩ (.int .i64 s)).setCell ⟨w.heap.size + 1, 1, none⟩ (.int .i64 p)).setCell ⟨w.heap.size + 1, 2, none⟩ (.int .i64 M)).setCell ⟨w.heap.size + 1, 3, none⟩ (.slice an (n + 1) cn) = W4 → Blk W4 (w.heap.size + 1) (F4 s p M (.slice an (n + 1) cn)) 26 ∧ ConR s p M f t ls w (.returned (.tuple #[.agg (F4 s p M (.slice an (n + 1) cn)), NV, .int .i64 0])) W4) := fun W4 e => by
              have := finX (f := f) (t := t) (l0 := ls) D15.out.res D15.out.own D15.out.bel D15.out.non D15.out.ne 0 W4 e
              exact ⟨this.1, this.2 HS.out⟩
            go_wp2
            exact bodyPost_ret (v := .tuple #[.agg (F4 s p M (.slice an (n + 1) cn)), NV, .int .i64 0]) (results_F3 rfl _ _ _ _ _ _ _ _ _ rfl rfl rfl (HFN.out _ rfl).1) rfl (HFN.out _ rfl).2
          | false =>
            have HB2 : Hid (∀ i, i < k + 1 → bothF p ls f t i = false) := fun i hi => by
              by_cases h : i < k
              · exact hB.out i h
              · obtain rfl : i = k := by omega
                rw [bothF, HF.out.1, HF.out.2]; rfl
            have HNB2 : Hid (frV (outF p ls t) (k + 1) = bv) := by
              show frV (outF p ls t) (k + 1) = bv
              rw [frV_succ, HAB.out.2, HF.out.2]
              split
              · rfl
              · simp; omega
            by_cases ha : av < 0
            · have HNA : Hid (frV (inF p ls f) (k + 1) = k) := by
                show frV (inF p ls f) (k + 1) = k
                rw [frV_succ, HAB.out.1, HF.out.1, if_neg (by omega), if_pos rfl]
              clear hB HF HAB
              go_wp2
              go_roundw
              case rel => exact ⟨k + 1, by omega, by rw [HNA.out], by rw [HNB2.out], by go_num, HB2.out, D10.out⟩
              case measure => simp [intOf]; omega
            · have HNA : Hid (frV (inF p ls f) (k + 1) = av) := by
                show frV (inF p ls f) (k + 1) = av
                rw [frV_succ, HAB.out.1, if_pos (by omega)]
              clear hB HF HAB
              go_wp2
              go_roundw
              case rel => exact ⟨k + 1, by omega, by rw [HNA.out], by rw [HNB2.out], by go_num, HB2.out, D10.out⟩
              case measure => simp [intOf]; omega
        | false =>
          have HB2 : Hid (∀ i, i < k + 1 → bothF p ls f t i = false) := fun i hi => by
            by_cases h : i < k
            · exact hB.out i h
            · obtain rfl : i = k := by omega
              rw [bothF, HF.out.1]; rfl
          have HNA : Hid (frV (inF p ls f) (k + 1) = av) := by
            show frV (inF p ls f) (k + 1) = av
            rw [frV_succ, HAB.out.1, HF.out.1]
            split
            · rfl
            · simp; omega
          cases yb with
          | true =>
            by_cases hb : bv < 0
            · have HNB2 : Hid (frV (outF p ls t) (k + 1) = k) := by
                show frV (outF p ls t) (k + 1) = k
                rw [frV_succ, HAB.out.2, HF.out.2, if_neg (by omega), if_pos rfl]
              clear hB HF HAB
              go_wp2
              go_roundw
              case rel => exact ⟨k + 1, by omega, by rw [HNA.out], by rw [HNB2.out], by go_num, HB2.out, D10.out⟩
              case measure => simp [intOf]; omega
            · have HNB2 : Hid (frV (outF p ls t) (k + 1) = bv) := by
                show frV (outF p ls t) (k + 1) = bv
                rw [frV_succ, HAB.out.2, if_pos (by omega)]
              clear hB HF HAB
              go_wp2
              go_roundw
              case rel => exact ⟨k + 1, by omega, by rw [HNA.out], by rw [HNB2.out], by go_num, HB2.out, D10.out⟩
              case measure => simp [intOf]; omega
          | false =>
            have HNB2 : Hid (frV (outF p ls t) (k + 1) = bv) := by
              show frV (outF p ls t) (k + 1) = bv
              rw [frV_succ, HAB.out.2, HF.out.2]
              split
              · rfl
              · simp; omega
            clear hB HF HAB
            go_wp2
            go_roundw
            case rel => exact ⟨k + 1, by omega, by rw [HNA.out], by rw [HNB2.out], by go_num, HB2.out, D10.out⟩
            case measure => simp [intOf]; omega
      case neg =>
      obtain rfl : M = k := by omega
      have HV : Hid (aV p M ls f = av ∧ bV p M ls t = bv ∧ cV p M ls f t < 0) := ⟨by rw [aV, Int.toNat_natCast]; exact HAB.out.1, by rw [bV, Int.toNat_natCast]; exact HAB.out.2, by rw [cV, Int.toNat_natCast]; exact frV_no hB.out⟩
      clear hB HAB hkm hk
      by_cases hab : av < 0 ∨ bv < 0
      · have HS : Hid (ConS s p M f t ls ls [] 3) := .inr (.inr (.inr (.inl ⟨HCO.out, HNB.out, HV.out.2.2, by rw [HV.out.1, HV.out.2.1]; exact hab, rfl, rfl, rfl⟩)))
        by_cases ha : av < 0
        · clear hab
          go_wp2
          exact bodyPost_ret (v := .tuple #[.agg (F4 s p M (.slice a' n cap')), NV, .int .i64 3]) (results_F3 rfl _ _ _ _ _ _ _ _ _ rfl rfl rfl (finX (s := s) (p := p) (m := M) (f := f) (t := t) (l0 := ls) D9.out.res D9.out.own D9.out.bel D9.out.non D9.out.ne 3 _ rfl).1) rfl ((finX (s := s) (p := p) (m := M) (f := f) (t := t) (l0 := ls) D9.out.res D9.out.own D9.out.bel D9.out.non D9.out.ne 3 _ rfl).2 HS.out)
        · have hb : bv < 0 := by omega
          clear hab
          go_wp2
          exact bodyPost_ret (v := .tuple #[.agg (F4 s p M (.slice a' n cap')), NV, .int .i64 3]) (results_F3 rfl _ _ _ _ _ _ _ _ _ rfl rfl rfl (finX (s := s) (p := p) (m := M) (f := f) (t := t) (l0 := ls) D9.out.res D9.out.own D9.out.bel D9.out.non D9.out.ne 3 _ rfl).1) rfl ((finX (s := s) (p := p) (m := M) (f := f) (t := t) (l0 := ls) D9.out.res D9.out.own D9.out.bel D9.out.non D9.out.ne 3 _ rfl).2 HS.out)
      have ha0 : 0 ≤ av := by omega
      have hb0 : 0 ≤ bv := by omega
      have ha1 : ¬ (av < 0) := by omega
      have hb1 : ¬ (bv < 0) := by omega
      clear hab
      have HCH' := con_chains HOK.out HV.out.2.2 (by rw [HV.out.1]; exact ha0) (by rw [HV.out.2.1]; exact hb0)
      rw [HV.out.1, HV.out.2.1, hkx, hky] at HCH'
      have HCH : Hid (ChOk p ls av bv true (ixV (outQ p ky av) ls) ∧ ChOk p ls bv av false (ixV (inQ p kx bv) ls)) := HCH'
      have HKX : Hid (f / p = kx ∧ t / p = ky) := ⟨hkx, hky⟩
      have hob : ∀ k, (Value.slice a' n cap').ownBlock = some k → k < wr.heap.size := fun k e => (World.ownsRow.lt D9.out.own k e).2
      have HOB : Hid (∀ k, (Value.slice a' n cap').ownBlock = some k → k < wr.heap.size) := hob
      have hwr : w.heap.size + 2 ≤ wr.heap.size := by omega
      clear HCH' hob
      go_wp2
      clear c0 c1 c2 c3 r0 r1 r2 r3 f0 f1 f2 f3 e3 hq0 hq1
      obtain ⟨S1, hS1⟩ : ∃ S : World → Prop, ∀ W, S W ↔ Below wr.heap.size wr W := ⟨_, fun _ => Iff.rfl⟩
      have s0 : ∀ W : At S1, W.wd.cell? ⟨w.heap.size, 0, none⟩ = some (.int .i64 s) := fun W => (((hS1 _).1 W.ok).cell D9.out.box.lt).trans (D9.out.box.cell 0)
      have s1 : ∀ W : At S1, W.wd.cell? ⟨w.heap.size, 1, none⟩ = some (.int .i64 p) := fun W => (((hS1 _).1 W.ok).cell D9.out.box.lt).trans (D9.out.box.cell 1)
      have s2 : ∀ W : At S1, W.wd.cell? ⟨w.heap.size, 2, none⟩ = some (.int .i64 M) := fun W => (((hS1 _).1 W.ok).cell D9.out.box.lt).trans (D9.out.box.cell 2)
      have s3 : ∀ W : At S1, W.wd.cell? ⟨w.heap.size, 3, none⟩ = some (.slice a' n cap') := fun W => (((hS1 _).1 W.ok).cell D9.out.box.lt).trans (D9.out.box.cell 3)
      have HSI1 : Hid (∀ W, Below wr.heap.size wr W → S1 W) := fun W h => (hS1 W).2 h
      have HSD1 : Hid (S1 wr.drew) := HSI1.out _ (Below.refl _ _).drew
      have ne1 : Nonempty (At S1) := ⟨⟨_, HSD1.out⟩⟩
      clear hS1
      refine region_mixA [true, true, true, true, false, true, true, false, false] 8 2 S1 (by kernel_rfl) rfl (by kernel_rfl) (fun _ _ _ _ _ h => h) HSD1.out ?_
      simp only [selT, selF]
      repeat (go_big_quiet_step (fail))
      refine wpQuiet_nil ?_
      clear s0 s1 s2 s3 ne1 HSD1
      refine tail_step ?_
      go_wp2_with (fail)
      have DA : Hid (Rm s p M w wr.drew (.slice a' n cap') ls NV []) := D9.out.below (Below.refl _ _).drew
      refine (l3Out_v s p M ky av _ ls _ DA.out.own.rd HOK.out.inr hp1 hp4).mono ?_
      rintro e q1 ⟨rfl, b1⟩
      have DB : Hid (Rm s p M w q1 (.slice a' n cap') ls NV []) := DA.out.below b1
      have bq1 : Below wr.heap.size wr q1 := (Below.refl _ _).drew.trans b1
      obtain ⟨cc, hcc⟩ : ∃ cc, ixV (outQ p ky av) ls = cc := ⟨_, rfl⟩
      rw [hcc]
      have HCC : Hid (ixV (outQ p ky av) ls = cc) := hcc
      have HBQ : Hid (Below wr.heap.size wr q1) := bq1
      have HSQ : Hid (S1 q1) := HSI1.out _ bq1
      clear bq1 b1 hcc DA
      go_wp2
      refine ⟨HSQ.out, tail_step ?_⟩
      go_wp2_with (fail)
      refine (l3Chain_c s p M _ ls cc av bv true q1 DB.out.own.rd HOK.out.inr hp1 hp4 (by have := HCH.out.1; rw [HCC.out] at this; exact this) (by have := HOK.out.len; omega)).mono ?_
      rintro e w10 ⟨v1, K1, rfl, k1a, k1b, o1, b2⟩
      rw [← HCC.out] at k1a k1b o1
      have D10 : Hid (Rm s p M w w10 (.slice a' n cap') ls NV []) := DB.out.below b2
      have B1 : Hid (Below wr.heap.size wr w10) := belowCall HBQ.out b2 HBQ.out.size
      have HK1 : Hid (KF p ls av bv true (ixV (outQ p ky av) ls) K1) := ⟨k1a, k1b⟩
      have HM1 : Hid (Op mf mg 74 wr.heap.size w10 v1 (mvL p ls av bv true (ixV (outQ p ky av) ls) K1)) := Op.mono o1 HBQ.out.size
      have HSN1 : Hid (S1 w10) := HSI1.out _ B1.out
      obtain ⟨av1, cv1, hv1, l11, l21⟩ := own_form2 o1
      rw [mvL_len] at hv1 l11
      subst hv1
      unfold maxLen at l21
      clear k1a k1b o1 b2 HSQ HBQ HCC DB D9 HSI1
      go_wp2
      refine ⟨HSN1.out, tail_end ?_⟩
      clear HSN1 S1
      go_wp2
      obtain ⟨S2, hS2⟩ : ∃ S : World → Prop, ∀ W, S W ↔ Below w10.heap.size w10 W := ⟨_, fun _ => Iff.rfl⟩
      have s0 : ∀ W : At S2, W.wd.cell? ⟨w.heap.size, 0, none⟩ = some (.int .i64 s) := fun W => (((hS2 _).1 W.ok).cell D10.out.box.lt).trans (D10.out.box.cell 0)
      have s1 : ∀ W : At S2, W.wd.cell? ⟨w.heap.size, 1, none⟩ = some (.int .i64 p) := fun W => (((hS2 _).1 W.ok).cell D10.out.box.lt).trans (D10.out.box.cell 1)
      have s2 : ∀ W : At S2, W.wd.cell? ⟨w.heap.size, 2, none⟩ = some (.int .i64 M) := fun W => (((hS2 _).1 W.ok).cell D10.out.box.lt).trans (D10.out.box.cell 2)
      have s3 : ∀ W : At S2, W.wd.cell? ⟨w.heap.size, 3, none⟩ = some (.slice a' n cap') := fun W => (((hS2 _).1 W.ok).cell D10.out.box.lt).trans (D10.out.box.cell 3)
      have HSI2 : Hid (∀ W, Below w10.heap.size w10 W → S2 W) := fun W h => (hS2 W).2 h
      have HSD2 : Hid (S2 w10.drew) := HSI2.out _ (Below.refl _ _).drew
      have ne1 : Nonempty (At S2) := ⟨⟨_, HSD2.out⟩⟩
      clear hS2
      refine region_mixA [true, true, true, true, false, true, true, false, false] 8 2 S2 (by kernel_rfl) rfl (by kernel_rfl) (fun _ _ _ _ _ h => h) HSD2.out ?_
      simp only [selT, selF]
      repeat (go_big_quiet_step (fail))
      refine wpQuiet_nil ?_
      clear s0 s1 s2 s3 ne1 HSD2
      refine tail_step ?_
      go_wp2_with (fail)
      have DA : Hid (Rm s p M w w10.drew (.slice a' n cap') ls NV []) := D10.out.below (Below.refl _ _).drew
      refine (l3In_v s p M kx bv _ ls _ DA.out.own.rd HOK.out.inr hp1 hp4).mono ?_
      rintro e q1 ⟨rfl, b1⟩
      have DB : Hid (Rm s p M w q1 (.slice a' n cap') ls NV []) := DA.out.below b1
      have bq1 : Below w10.heap.size w10 q1 := (Below.refl _ _).drew.trans b1
      obtain ⟨cc, hcc⟩ : ∃ cc, ixV (inQ p kx bv) ls = cc := ⟨_, rfl⟩
      rw [hcc]
      have HCC : Hid (ixV (inQ p kx bv) ls = cc) := hcc
      have HBQ : Hid (Below w10.heap.size w10 q1) := bq1
      have HSQ : Hid (S2 q1) := HSI2.out _ bq1
      clear bq1 b1 hcc DA
      go_wp2
      refine ⟨HSQ.out, tail_step ?_⟩
      go_wp2_with (fail)
      refine (l3Chain_c s p M _ ls cc bv av false q1 DB.out.own.rd HOK.out.inr hp1 hp4 (by have := HCH.out.2; rw [HCC.out] at this; exact this) (by have := HOK.out.len; omega)).mono ?_
      rintro e w12 ⟨v1, K2, rfl, k1a, k1b, o1, b2⟩
      rw [← HCC.out] at k1a k1b o1
      have D12 : Hid (Rm s p M w w12 (.slice a' n cap') ls NV []) := DB.out.below b2
      have B2 : Hid (Below w10.heap.size w10 w12) := belowCall HBQ.out b2 HBQ.out.size
      have HK2 : Hid (KF p ls bv av false (ixV (inQ p kx bv) ls) K2) := ⟨k1a, k1b⟩
      have HM2 : Hid (Op mf mg 74 w10.heap.size w12 v1 (mvL p ls bv av false (ixV (inQ p kx bv) ls) K2)) := Op.mono o1 HBQ.out.size
      have HSN2 : Hid (S2 w12) := HSI2.out _ B2.out
      obtain ⟨av2, cv2, hv2, l12, l22⟩ := own_form2 o1
      rw [mvL_len] at hv2 l12
      subst hv2
      unfold maxLen at l22
      clear k1a k1b o1 b2 HSQ HBQ HCC DB D10 HSI2
      go_wp2
      refine ⟨HSN2.out, tail_end ?_⟩
      clear HSN2 S2
      have hsz : wr.heap.size ≤ w10.heap.size := B1.out.size
      by_cases hK : K2 < K1
      case pos =>
        obtain ⟨ms, hms⟩ : ∃ ms, mvL p ls bv av false (ixV (inQ p kx bv) ls) K2 = ms := ⟨_, rfl⟩
        have HL : Hid (ms.length = K2) := by show ms.length = K2; rw [← hms, mvL_len]
        have HS : Hid (ConS s p M f t ls (movL ms ls ++ [(f, t, bv)]) ms 0) := by
          rw [← hms]
          exact (.inr (.inr (.inr (.inr ⟨HCO.out, HNB.out, HV.out.2.2, by rw [HV.out.1, HV.out.2.1]; exact ⟨ha0, hb0⟩, K1, K2, by rw [HV.out.1, HV.out.2.1, HKX.out.2]; exact HK1.out, by rw [HV.out.1, HV.out.2.1, HKX.out.1]; exact HK2.out, by rw [HV.out.1, HV.out.2.1, mvs2, HKX.out.1, HKX.out.2, if_pos hK], by rw [HV.out.1, HV.out.2.1, if_pos hK], rfl⟩))))
        have D20 : Hid (Rm s p M w w12 (.slice a' n cap') ls (.slice av2 K2 cv2) ms) := by rw [← hms]; exact (D12.out.other B2.out (fun k e => Nat.lt_of_lt_of_le (HOB.out k e) hsz) HM2.out (by omega))
        clear hms HK1 HK2 HM1 HM2 B1 B2 D12
        have c0 := D20.out.box.cell 0
        have c1 := D20.out.box.cell 1
        have c2 := D20.out.box.cell 2
        have c3 := D20.out.box.cell 3
        have e3 := D20.out.box.frozen 3
        have r0 := D20.out.res.cell 0
        have r1 := D20.out.res.cell 1
        have r2 := D20.out.res.cell 2
        have r3 := D20.out.res.cell 3
        have f0 := D20.out.res.frozen 0
        have f1 := D20.out.res.frozen 1
        have f2 := D20.out.res.frozen 2
        have f3 := D20.out.res.frozen 3
        simp at c0 c1 c2 c3 r0 r1 r2 r3
        have hq0 : w.heap.size < w12.heap.size := D20.out.box.lt
        have hq1 : w.heap.size + 1 < w12.heap.size := D20.out.res.lt
        go_wp2
        clear c0 c1 c2 c3 r0 r1 r2 r3 f0 f1 f2 f3 e3 hq0 hq1
        go_loopw [21] (fun i wr => ∃ j : Nat, j ≤ K2 ∧ i = .int .i64 j ∧ Hid (Rm s p M w wr (.slice a' n cap') (movL (ms.take j) ls) (.slice av2 K2 cv2) ms)) (fun i _ => K2 - (intOf i).toNat)
        case atStart => exact ⟨0, Nat.zero_le _, rfl, (by simpa [movL] using D20.out : Rm s p M w w12 (.slice a' n cap') (movL (ms.take 0) ls) (.slice av2 K2 cv2) ms)⟩
        case round =>
          obtain ⟨j, hj, rfl, D21⟩ := hrel
          clear D20
          by_cases hlt : j < K2
          case neg =>
            obtain rfl : K2 = j := by omega
            obtain ⟨LM, hLM⟩ : ∃ LM, movL ms ls = LM := ⟨_, rfl⟩
            have D22 : Hid (Rm s p M w wr (.slice a' n cap') LM (.slice av2 K2 cv2) ms) := by
              have := D21.out
              rw [List.take_of_length_le (by rw [HL.out]; exact Nat.le_refl _), hLM] at this
              exact this
            have HLM : Hid (LM.length = n) := by show LM.length = n; rw [← hLM, movL_len]; exact HN.out
            rw [hLM] at HS
            clear hLM D21 hlt hj
            have c0 := D22.out.box.cell 0
            have c1 := D22.out.box.cell 1
            have c2 := D22.out.box.cell 2
            have c3 := D22.out.box.cell 3
            have e3 := D22.out.box.frozen 3
            have r0 := D22.out.res.cell 0
            have r1 := D22.out.res.cell 1
            have r2 := D22.out.res.cell 2
            have r3 := D22.out.res.cell 3
            have f0 := D22.out.res.frozen 0
            have f1 := D22.out.res.frozen 1
            have f2 := D22.out.res.frozen 2
            have f3 := D22.out.res.frozen 3
            simp at c0 c1 c2 c3 r0 r1 r2 r3
            have hq0 : w.heap.size < wr.heap.size := D22.out.box.lt
            have hq1 : w.heap.size + 1 < wr.heap.size := D22.out.res.lt
            have HO1 := oneTri D22.out.own f t bv
            have HO : Hid (Ot 35 (w.heap.size + 2) (wr.alloc (Obj.cells (P3 f t bv) 35)) (.slice a' n cap') LM) := HO1.1
            have HR1 : Hid (Rt (wr.alloc (Obj.cells (P3 f t bv) 35)) (.slice (some ⟨wr.heap.size, 0, none⟩) 1 1) [(f, t, bv)]) := HO1.2
            have HLL : Hid (LM.length ≤ 4194304) := by show LM.length ≤ _; rw [HLM.out]; exact hnm
            have hbs : w.heap.size + 2 ≤ (wr.alloc (Obj.cells (P3 f t bv) 35)).heap.size := by simp; omega
            obtain ⟨WX, hWX⟩ : ∃ WX, (wr.alloc (Obj.cells (P3 f t bv) 35)) = WX := ⟨_, rfl⟩
            have HWX : Hid ((wr.alloc (Obj.cells (P3 f t bv) 35)) = WX) := hWX
            rw [hWX] at HO HR1 hbs
            clear HO1 hWX
            go_wp2_with (at_builtin; rw [HWX.out]; refine appTri rfl _ _ rfl (w.heap.size + 2) _ _ rfl HO.out _ _ rfl HR1.out (by have := HLL.out; simp only [List.length_cons, List.length_nil]; omega) hbs ?_)
            intro nv w14 ho14 hg14 hv14
            rw [← HWX.out] at hg14 hv14
            obtain ⟨⟨q1, q2⟩, D15'⟩ := D22.out.app ho14 hg14 hv14
            obtain ⟨an, cn, hnv, -, -, -⟩ := own_form ho14
            rw [show (LM ++ [(f, t, bv)]).length = n + 1 by simp [HLM.out]] at hnv
            subst hnv
            have D15 : Hid (Rm s p M w (w14.setCell ⟨w.heap.size, 3, none⟩ (.slice an (n + 1) cn)) (.slice an (n + 1) cn) (LM ++ [(f, t, bv)]) (.slice av2 K2 cv2) ms) := D15'
            clear c0 c1 c2 c3 r0 r1 r2 r3 f0 f1 f2 f3 e3 hq0 hq1 D22 ho14 hg14 hv14 HO HR1 hbs D15' HWX
            have c0 := q1.cell 0
            have c1 := q1.cell 1
            have c2 := q1.cell 2
            have c3 := q1.cell 3
            have e3 := q1.frozen 3
            have r0 := q2.cell 0
            have r1 := q2.cell 1
            have r2 := q2.cell 2
            have r3 := q2.cell 3
            have f0 := q2.frozen 0
            have f1 := q2.frozen 1
            have f2 := q2.frozen 2
            have f3 := q2.frozen 3
            simp at c0 c1 c2 c3 r0 r1 r2 r3
            have hq0 : w.heap.size < w14.heap.size := q1.lt
            have hq1 : w.heap.size + 1 < w14.heap.size := q2.lt
            clear q1 q2
            have HFN : Hid (∀ W4, ((((w14.setCell ⟨w.heap.size, 3, none⟩ (.slice an (n + 1) cn)).setCell ⟨w.heap.size + 1, 0, none⟩ (.int .i64 s)).setCell ⟨w.heap.size + 1, 1, none⟩ (.int .i64 p)).setCell ⟨w.heap.size + 1, 2, none⟩ (.int .i64 M)).setCell ⟨w.heap.size + 1, 3, none⟩ (.slice an (n + 1) cn) = W4 → Blk W4 (w.heap.size + 1) (F4 s p M (.slice an (n + 1) cn)) 26 ∧ ConR s p M f t ls w (.returned (.tuple #[.agg (F4 s p M (.slice an (n + 1) cn)), .slice av2 K2 cv2, .int .i64 0])) W4) := fun W4 e => by
              have := finX (f := f) (t := t) (l0 := ls) D15.out.res D15.out.own D15.out.bel D15.out.non D15.out.ne 0 W4 e
              exact ⟨this.1, this.2 HS.out⟩
            go_wp2
            exact bodyPost_ret (v := .tuple #[.agg (F4 s p M (.slice an (n + 1) cn)), .slice av2 K2 cv2, .int .i64 0]) (results_F3 rfl _ _ _ _ _ _ _ _ _ rfl rfl rfl (HFN.out _ rfl).1) rfl (HFN.out _ rfl).2
          case pos =>
          obtain ⟨⟨q, z⟩, hq⟩ : ∃ q, ms[j]'(by have := HL.out; omega) = q := ⟨_, rfl⟩
          obtain ⟨LJ, hLJ⟩ : ∃ LJ, movL (ms.take j) ls = LJ := ⟨_, rfl⟩
          have HLJ : Hid (LJ.length = n) := by show LJ.length = n; rw [← hLJ, movL_len]; exact HN.out
          have HNX : Hid (movL (ms.take (j + 1)) ls = mv1 LJ (q, z)) := by
            show movL (ms.take (j + 1)) ls = mv1 LJ (q, z)
            rw [List.take_succ_eq_append_getElem (by have := HL.out; omega), movL_snoc, hq, hLJ]
          rw [hLJ] at D21
          have HQ : Hid (ms[j]'(by have := HL.out; omega) = (q, z)) := hq
          clear hLJ hq
          go_wp2
          go_loopw [22] (fun i wr => ∃ y : Nat, y ≤ n ∧ i = .int .i64 y ∧ Hid (Rm s p M w wr (.slice a' n cap') ((mv1 LJ (q, z)).take y ++ LJ.drop y) (.slice av2 K2 cv2) ms)) (fun i _ => n - (intOf i).toNat)
          case atStart => exact ⟨0, Nat.zero_le _, rfl, (by simpa using D21.out : Rm s p M w wr (.slice a' n cap') ((mv1 LJ (q, z)).take 0 ++ LJ.drop 0) (.slice av2 K2 cv2) ms)⟩
          case round =>
            obtain ⟨y, hy, rfl, D23⟩ := hrel
            clear D21
            by_cases hly : y < n
            case neg =>
              obtain rfl : n = y := by omega
              have D24 : Hid (Rm s p M w wr (.slice a' n cap') (movL (ms.take (j + 1)) ls) (.slice av2 K2 cv2) ms) := by
                have := D23.out
                rw [List.take_of_length_le (by rw [mv1_len, HLJ.out]; omega), List.drop_of_length_le (by rw [HLJ.out]; omega), List.append_nil, ← HNX.out] at this
                exact this
              have c3 := D23.out.box.cell 3
              simp at c3
              clear D23
              go_wp2
              go_roundw
              case rel => exact ⟨j + 1, by omega, by go_num, D24.out⟩
              case measure => simp [intOf]; omega
            case pos =>
            obtain ⟨g, rfl⟩ : ∃ g, a' = some ⟨g, 0, none⟩ := by
              rcases hc3 with h | h
              · omega
              · exact h
            have hyl : y < LJ.length := by rw [HLJ.out]; exact hly
            have hpl : ((mv1 LJ (q, z)).take y ++ LJ.drop y).length = n := by rw [mv_len (by omega)]; exact HLJ.out
            have hO : wr.ownsRow (w.heap.size + 2) 35 3 (.slice (some ⟨g, 0, none⟩) n cap') n (tr ((mv1 LJ (q, z)).take y ++ LJ.drop y)) := by have := D23.out.own; rw [Ot, hpl] at this; exact this
            have hp := tr_at ((mv1 LJ (q, z)).take y ++ LJ.drop y) y (by omega)
            rw [mv_mid hyl] at hp
            obtain ⟨x, ex⟩ : ∃ x, LJ[y].1 = x := ⟨_, rfl⟩
            have d0 : wr.cell? ⟨g, y * 3, none⟩ = some (.int .i64 x) := by rw [← ex]; exact (World.ownsRow.cellAt hO (y * 3) (by omega)).trans hp.1
            obtain ⟨u2, d2⟩ : ∃ u, wr.cell? ⟨g, y * 3 + 2, none⟩ = some (.int .i64 u) := ⟨_, (World.ownsRow.cellAt hO (y * 3 + 2) (by omega)).trans hp.2.2⟩
            have g2 := World.ownsRow.frozenAt hO (y * 3 + 2)
            have hgl := World.ownsRow.lt hO g rfl
            have HEX : Hid (LJ[y].1 = x) := ex
            obtain ⟨x1, x2, x3, -, -, x4⟩ := D23.out.non.rd
            injection x3 with h1 h2 h3
            subst h1 h3
            clear h2
            obtain ⟨bm, om, rfl, x5⟩ : ∃ b off, av2 = some ⟨b, off, none⟩ ∧ ∀ i (h : i < ms.length), wr.cell? ⟨b, off + i * 2, none⟩ = some (mf ms[i]) ∧ wr.cell? ⟨b, off + i * 2 + 1, none⟩ = some (mg ms[i]) := by
              rcases x4 with x4 | x4
              · have h1 := HL.out; rw [x4] at h1; simp at h1; omega
              · exact x4
            have m01 := x5 j (by have := HL.out; omega)
            rw [HQ.out] at m01
            have m0 := m01.1
            have m1 := m01.2
            have z0 : ∀ W : Ov wr, W.wd.cell? ⟨w.heap.size, 3, none⟩ = some (.slice (some ⟨g, 0, none⟩) n cap') := ov_cell (D23.out.box.cell 3)
            have z1 : ∀ W : Ov wr, W.wd.cell? ⟨g, y * 3, none⟩ = some (.int .i64 x) := ov_cell d0
            have z2 : ∀ W : Ov wr, W.wd.cell? ⟨bm, om + j * 2, none⟩ = some (.int .i64 q) := ov_cell m0
            have ne : Nonempty (Ov wr) := ⟨⟨_, Below.refl _ _⟩⟩
            have c3 := D23.out.box.cell 3
            simp at c3
            clear x4 x5 hO hp ex hpl m01
            by_cases hxq : x = q
            case neg =>
              have hb : (x == q) = false := by simpa using hxq
              have D24 : Hid (Rm s p M w wr (.slice (some ⟨g, 0, none⟩) n cap') ((mv1 LJ (q, z)).take (y + 1) ++ LJ.drop (y + 1)) (.slice (some ⟨bm, om, none⟩) K2 cv2) ms) := by
                show Rm _ _ _ _ _ _ _ _ _
                rw [mv_take hyl, if_neg (by rw [HEX.out]; exact hxq)]; exact D23.out
              clear hxq D23 d0 d2 g2 m0 m1
              go_wp2
              refine region_over (by kernel_rfl) (by kernel_rfl) ?_
              repeat (go_big_quiet_step (fail))
              refine wpQuiet_nil ?_
              rintro _ ⟨W, rfl⟩
              have D25 : Hid (Rm s p M w W.wd (.slice (some ⟨g, 0, none⟩) n cap') ((mv1 LJ (q, z)).take (y + 1) ++ LJ.drop (y + 1)) (.slice (some ⟨bm, om, none⟩) K2 cv2) ms) := D24.out.below W.ok
              clear z0 z1 z2 ne c3 D24
              go_wp2
              go_roundw
              case rel => exact ⟨y + 1, by omega, by go_num, D25.out⟩
              case measure => simp [intOf]; omega
            case pos =>
              have hb : (x == q) = true := by simpa using hxq
              clear d0 d2 g2
              go_wp2
              refine region_over (by kernel_rfl) (by kernel_rfl) ?_
              repeat (go_big_quiet_step (fail))
              refine wpQuiet_nil ?_
              rintro _ ⟨W, rfl⟩
              obtain ⟨W30, hW30⟩ : ∃ W30, W.wd = W30 := ⟨_, rfl⟩
              have D30 : Hid (Rm s p M w W30 (.slice (some ⟨g, 0, none⟩) n cap') ((mv1 LJ (q, z)).take y ++ LJ.drop y) (.slice (some ⟨bm, om, none⟩) K2 cv2) ms) := hW30 ▸ D23.out.below W.ok
              have m1' : W30.cell? ⟨bm, om + j * 2 + 1, none⟩ = some (.int .i64 z) := by rw [← hW30]; exact ov_cell m1 W
              rw [hW30]
              clear hW30 W z0 z1 z2 ne c3 D23 m0 m1
              obtain ⟨S, hS⟩ : ∃ S : World → Prop, ∀ W, S W ↔ Below W30.heap.size W30 W := ⟨_, fun _ => Iff.rfl⟩
              have t3 : ∀ W : At S, W.wd.cell? ⟨w.heap.size, 3, none⟩ = some (.slice (some ⟨g, 0, none⟩) n cap') := fun W => (((hS _).1 W.ok).cell D30.out.box.lt).trans (D30.out.box.cell 3)
              have t1 : ∀ W : At S, W.wd.cell? ⟨bm, om + j * 2 + 1, none⟩ = some (.int .i64 z) := fun W => (((hS _).1 W.ok).cell (block_lt_of_cell m1')).trans m1'
              have HSI : Hid (S W30.drew) := (hS _).2 (Below.refl _ _).drew
              have ne1 : Nonempty (At S) := ⟨⟨_, HSI.out⟩⟩
              clear hS
              go_wp2
              refine region_mixA [true, true, true, true, true, true, true, true, false, false, false] 8 0 S (by kernel_rfl) rfl (by kernel_rfl) (fun _ _ _ _ _ h => h) HSI.out ?_
              simp only [selT, selF]
              repeat (go_big_quiet_step (fail))
              refine wpQuiet_nil ?_
              clear t1 t3 ne1 HSI m1'
              refine tail_end ?_
              have D31 : Hid (Rm s p M w W30.drew (.slice (some ⟨g, 0, none⟩) n cap') ((mv1 LJ (q, z)).take y ++ LJ.drop y) (.slice (some ⟨bm, om, none⟩) K2 cv2) ms) := D30.out.below (Below.refl _ _).drew
              obtain ⟨W31, hW31⟩ : ∃ W31, W30.drew = W31 := ⟨_, rfl⟩
              rw [hW31] at D31 ⊢
              clear hW31 D30 S
              have hpl : ((mv1 LJ (q, z)).take y ++ LJ.drop y).length = n := by rw [mv_len (by omega)]; exact HLJ.out
              have hO : W31.ownsRow (w.heap.size + 2) 35 3 (.slice (some ⟨g, 0, none⟩) n cap') n (tr ((mv1 LJ (q, z)).take y ++ LJ.drop y)) := by have := D31.out.own; rw [Ot, hpl] at this; exact this
              have hp := tr_at ((mv1 LJ (q, z)).take y ++ LJ.drop y) y (by omega)
              obtain ⟨u2, d2⟩ : ∃ u, W31.cell? ⟨g, y * 3 + 2, none⟩ = some (.int .i64 u) := ⟨_, (World.ownsRow.cellAt hO (y * 3 + 2) (by omega)).trans hp.2.2⟩
              have g2 := World.ownsRow.frozenAt hO (y * 3 + 2)
              have D32 : Hid (Rm s p M w (W31.setCell ⟨g, y * 3 + 2, none⟩ (.int .i64 z)) (.slice (some ⟨g, 0, none⟩) n cap') ((mv1 LJ (q, z)).take (y + 1) ++ LJ.drop (y + 1)) (.slice (some ⟨bm, om, none⟩) K2 cv2) ms) := by
                have := D31.out.store hpl y (by omega) z
                rw [mv_mid hyl] at this
                show Rm _ _ _ _ _ _ _ _ _
                rw [mv_take hyl, if_pos (by rw [HEX.out]; exact hxq)]; exact this
              clear hO hp hpl D31
              go_wp2
              go_roundw
              case rel => exact ⟨y + 1, by omega, by go_num, D32.out⟩
              case measure => simp [intOf]; omega
      case neg =>
        obtain ⟨ms, hms⟩ : ∃ ms, mvL p ls av bv true (ixV (outQ p ky av) ls) K1 = ms := ⟨_, rfl⟩
        have HL : Hid (ms.length = K1) := by show ms.length = K1; rw [← hms, mvL_len]
        have HS : Hid (ConS s p M f t ls (movL ms ls ++ [(f, t, av)]) ms 0) := by
          rw [← hms]
          exact (.inr (.inr (.inr (.inr ⟨HCO.out, HNB.out, HV.out.2.2, by rw [HV.out.1, HV.out.2.1]; exact ⟨ha0, hb0⟩, K1, K2, by rw [HV.out.1, HV.out.2.1, HKX.out.2]; exact HK1.out, by rw [HV.out.1, HV.out.2.1, HKX.out.1]; exact HK2.out, by rw [HV.out.1, HV.out.2.1, mvs2, HKX.out.1, HKX.out.2, if_neg hK], by rw [HV.out.1, HV.out.2.1, if_neg hK], rfl⟩))))
        have D20 : Hid (Rm s p M w w12 (.slice a' n cap') ls (.slice av1 K1 cv1) ms) := by rw [← hms]; exact (D12.out.other (W0 := wr) (belowCall B1.out B2.out B1.out.size) (fun k e => HOB.out k e) (Op.below HM1.out B2.out) hwr)
        clear hms HK1 HK2 HM1 HM2 B1 B2 D12
        have c0 := D20.out.box.cell 0
        have c1 := D20.out.box.cell 1
        have c2 := D20.out.box.cell 2
        have c3 := D20.out.box.cell 3
        have e3 := D20.out.box.frozen 3
        have r0 := D20.out.res.cell 0
        have r1 := D20.out.res.cell 1
        have r2 := D20.out.res.cell 2
        have r3 := D20.out.res.cell 3
        have f0 := D20.out.res.frozen 0
        have f1 := D20.out.res.frozen 1
        have f2 := D20.out.res.frozen 2
        have f3 := D20.out.res.frozen 3
        simp at c0 c1 c2 c3 r0 r1 r2 r3
        have hq0 : w.heap.size < w12.heap.size := D20.out.box.lt
        have hq1 : w.heap.size + 1 < w12.heap.size := D20.out.res.lt
        go_wp2
        clear c0 c1 c2 c3 r0 r1 r2 r3 f0 f1 f2 f3 e3 hq0 hq1
        go_loopw [21] (fun i wr => ∃ j : Nat, j ≤ K1 ∧ i = .int .i64 j ∧ Hid (Rm s p M w wr (.slice a' n cap') (movL (ms.take j) ls) (.slice av1 K1 cv1) ms)) (fun i _ => K1 - (intOf i).toNat)
        case atStart => exact ⟨0, Nat.zero_le _, rfl, (by simpa [movL] using D20.out : Rm s p M w w12 (.slice a' n cap') (movL (ms.take 0) ls) (.slice av1 K1 cv1) ms)⟩
        case round =>
          obtain ⟨j, hj, rfl, D21⟩ := hrel
          clear D20
          by_cases hlt : j < K1
          case neg =>
            obtain rfl : K1 = j := by omega
            obtain ⟨LM, hLM⟩ : ∃ LM, movL ms ls = LM := ⟨_, rfl⟩
            have D22 : Hid (Rm s p M w wr (.slice a' n cap') LM (.slice av1 K1 cv1) ms) := by
              have := D21.out
              rw [List.take_of_length_le (by rw [HL.out]; exact Nat.le_refl _), hLM] at this
              exact this
            have HLM : Hid (LM.length = n) := by show LM.length = n; rw [← hLM, movL_len]; exact HN.out
            rw [hLM] at HS
            clear hLM D21 hlt hj
            have c0 := D22.out.box.cell 0
            have c1 := D22.out.box.cell 1
            have c2 := D22.out.box.cell 2
            have c3 := D22.out.box.cell 3
            have e3 := D22.out.box.frozen 3
            have r0 := D22.out.res.cell 0
            have r1 := D22.out.res.cell 1
            have r2 := D22.out.res.cell 2
            have r3 := D22.out.res.cell 3
            have f0 := D22.out.res.frozen 0
            have f1 := D22.out.res.frozen 1
            have f2 := D22.out.res.frozen 2
            have f3 := D22.out.res.frozen 3
            simp at c0 c1 c2 c3 r0 r1 r2 r3
            have hq0 : w.heap.size < wr.heap.size := D22.out.box.lt
            have hq1 : w.heap.size + 1 < wr.heap.size := D22.out.res.lt
            have HO1 := oneTri D22.out.own f t av
            have HO : Hid (Ot 35 (w.heap.size + 2) (wr.alloc (Obj.cells (P3 f t av) 35)) (.slice a' n cap') LM) := HO1.1
            have HR1 : Hid (Rt (wr.alloc (Obj.cells (P3 f t av) 35)) (.slice (some ⟨wr.heap.size, 0, none⟩) 1 1) [(f, t, av)]) := HO1.2
            have HLL : Hid (LM.length ≤ 4194304) := by show LM.length ≤ _; rw [HLM.out]; exact hnm
            have hbs : w.heap.size + 2 ≤ (wr.alloc (Obj.cells (P3 f t av) 35)).heap.size := by simp; omega
            obtain ⟨WX, hWX⟩ : ∃ WX, (wr.alloc (Obj.cells (P3 f t av) 35)) = WX := ⟨_, rfl⟩
            have HWX : Hid ((wr.alloc (Obj.cells (P3 f t av) 35)) = WX) := hWX
            rw [hWX] at HO HR1 hbs
            clear HO1 hWX
            go_wp2_with (at_builtin; rw [HWX.out]; refine appTri rfl _ _ rfl (w.heap.size + 2) _ _ rfl HO.out _ _ rfl HR1.out (by have := HLL.out; simp only [List.length_cons, List.length_nil]; omega) hbs ?_)
            intro nv w14 ho14 hg14 hv14
            rw [← HWX.out] at hg14 hv14
            obtain ⟨⟨q1, q2⟩, D15'⟩ := D22.out.app ho14 hg14 hv14
            obtain ⟨an, cn, hnv, -, -, -⟩ := own_form ho14
            rw [show (LM ++ [(f, t, av)]).length = n + 1 by simp [HLM.out]] at hnv
            subst hnv
            have D15 : Hid (Rm s p M w (w14.setCell ⟨w.heap.size, 3, none⟩ (.slice an (n + 1) cn)) (.slice an (n + 1) cn) (LM ++ [(f, t, av)]) (.slice av1 K1 cv1) ms) := D15'
            clear c0 c1 c2 c3 r0 r1 r2 r3 f0 f1 f2 f3 e3 hq0 hq1 D22 ho14 hg14 hv14 HO HR1 hbs D15' HWX
            have c0 := q1.cell 0
            have c1 := q1.cell 1
            have c2 := q1.cell 2
            have c3 := q1.cell 3
            have e3 := q1.frozen 3
            have r0 := q2.cell 0
            have r1 := q2.cell 1
            have r2 := q2.cell 2
            have r3 := q2.cell 3
            have f0 := q2.frozen 0
            have f1 := q2.frozen 1
            have f2 := q2.frozen 2
            have f3 := q2.frozen 3
            simp at c0 c1 c2 c3 r0 r1 r2 r3
            have hq0 : w.heap.size < w14.heap.size := q1.lt
            have hq1 : w.heap.size + 1 < w14.heap.size := q2.lt
            clear q1 q2
            have HFN : Hid (∀ W4, ((((w14.setCell ⟨w.heap.size, 3, none⟩ (.slice an (n + 1) cn)).setCell ⟨w.heap.size + 1, 0, none⟩ (.int .i64 s)).setCell ⟨w.heap.size + 1, 1, none⟩ (.int .i64 p)).setCell ⟨w.heap.size + 1, 2, none⟩ (.int .i64 M)).setCell ⟨w.heap.size + 1, 3, none⟩ (.slice an (n + 1) cn) = W4 → Blk W4 (w.heap.size + 1) (F4 s p M (.slice an (n + 1) cn)) 26 ∧ ConR s p M f t ls w (.returned (.tuple #[.agg (F4 s p M (.slice an (n + 1) cn)), .slice av1 K1 cv1, .int .i64 0])) W4) := fun W4 e => by
              have := finX (f := f) (t := t) (l0 := ls) D15.out.res D15.out.own D15.out.bel D15.out.non D15.out.ne 0 W4 e
              exact ⟨this.1, this.2 HS.out⟩
            go_wp2
            exact bodyPost_ret (v := .tuple #[.agg (F4 s p M (.slice an (n + 1) cn)), .slice av1 K1 cv1, .int .i64 0]) (results_F3 rfl _ _ _ _ _ _ _ _ _ rfl rfl rfl (HFN.out _ rfl).1) rfl (HFN.out _ rfl).2
          case pos =>
          obtain ⟨⟨q, z⟩, hq⟩ : ∃ q, ms[j]'(by have := HL.out; omega) = q := ⟨_, rfl⟩
          obtain ⟨LJ, hLJ⟩ : ∃ LJ, movL (ms.take j) ls = LJ := ⟨_, rfl⟩
          have HLJ : Hid (LJ.length = n) := by show LJ.length = n; rw [← hLJ, movL_len]; exact HN.out
          have HNX : Hid (movL (ms.take (j + 1)) ls = mv1 LJ (q, z)) := by
            show movL (ms.take (j + 1)) ls = mv1 LJ (q, z)
            rw [List.take_succ_eq_append_getElem (by have := HL.out; omega), movL_snoc, hq, hLJ]
          rw [hLJ] at D21
          have HQ : Hid (ms[j]'(by have := HL.out; omega) = (q, z)) := hq
          clear hLJ hq
          go_wp2
          go_loopw [22] (fun i wr => ∃ y : Nat, y ≤ n ∧ i = .int .i64 y ∧ Hid (Rm s p M w wr (.slice a' n cap') ((mv1 LJ (q, z)).take y ++ LJ.drop y) (.slice av1 K1 cv1) ms)) (fun i _ => n - (intOf i).toNat)
          case atStart => exact ⟨0, Nat.zero_le _, rfl, (by simpa using D21.out : Rm s p M w wr (.slice a' n cap') ((mv1 LJ (q, z)).take 0 ++ LJ.drop 0) (.slice av1 K1 cv1) ms)⟩
          case round =>
            obtain ⟨y, hy, rfl, D23⟩ := hrel
            clear D21
            by_cases hly : y < n
            case neg =>
              obtain rfl : n = y := by omega
              have D24 : Hid (Rm s p M w wr (.slice a' n cap') (movL (ms.take (j + 1)) ls) (.slice av1 K1 cv1) ms) := by
                have := D23.out
                rw [List.take_of_length_le (by rw [mv1_len, HLJ.out]; omega), List.drop_of_length_le (by rw [HLJ.out]; omega), List.append_nil, ← HNX.out] at this
                exact this
              have c3 := D23.out.box.cell 3
              simp at c3
              clear D23
              go_wp2
              go_roundw
              case rel => exact ⟨j + 1, by omega, by go_num, D24.out⟩
              case measure => simp [intOf]; omega
            case pos =>
            obtain ⟨g, rfl⟩ : ∃ g, a' = some ⟨g, 0, none⟩ := by
              rcases hc3 with h | h
              · omega
              · exact h
            have hyl : y < LJ.length := by rw [HLJ.out]; exact hly
            have hpl : ((mv1 LJ (q, z)).take y ++ LJ.drop y).length = n := by rw [mv_len (by omega)]; exact HLJ.out
            have hO : wr.ownsRow (w.heap.size + 2) 35 3 (.slice (some ⟨g, 0, none⟩) n cap') n (tr ((mv1 LJ (q, z)).take y ++ LJ.drop y)) := by have := D23.out.own; rw [Ot, hpl] at this; exact this
            have hp := tr_at ((mv1 LJ (q, z)).take y ++ LJ.drop y) y (by omega)
            rw [mv_mid hyl] at hp
            obtain ⟨x, ex⟩ : ∃ x, LJ[y].1 = x := ⟨_, rfl⟩
            have d0 : wr.cell? ⟨g, y * 3, none⟩ = some (.int .i64 x) := by rw [← ex]; exact (World.ownsRow.cellAt hO (y * 3) (by omega)).trans hp.1
            obtain ⟨u2, d2⟩ : ∃ u, wr.cell? ⟨g, y * 3 + 2, none⟩ = some (.int .i64 u) := ⟨_, (World.ownsRow.cellAt hO (y * 3 + 2) (by omega)).trans hp.2.2⟩
            have g2 := World.ownsRow.frozenAt hO (y * 3 + 2)
            have hgl := World.ownsRow.lt hO g rfl
            have HEX : Hid (LJ[y].1 = x) := ex
            obtain ⟨x1, x2, x3, -, -, x4⟩ := D23.out.non.rd
            injection x3 with h1 h2 h3
            subst h1 h3
            clear h2
            obtain ⟨bm, om, rfl, x5⟩ : ∃ b off, av1 = some ⟨b, off, none⟩ ∧ ∀ i (h : i < ms.length), wr.cell? ⟨b, off + i * 2, none⟩ = some (mf ms[i]) ∧ wr.cell? ⟨b, off + i * 2 + 1, none⟩ = some (mg ms[i]) := by
              rcases x4 with x4 | x4
              · have h1 := HL.out; rw [x4] at h1; simp at h1; omega
              · exact x4
            have m01 := x5 j (by have := HL.out; omega)
            rw [HQ.out] at m01
            have m0 := m01.1
            have m1 := m01.2
            have z0 : ∀ W : Ov wr, W.wd.cell? ⟨w.heap.size, 3, none⟩ = some (.slice (some ⟨g, 0, none⟩) n cap') := ov_cell (D23.out.box.cell 3)
            have z1 : ∀ W : Ov wr, W.wd.cell? ⟨g, y * 3, none⟩ = some (.int .i64 x) := ov_cell d0
            have z2 : ∀ W : Ov wr, W.wd.cell? ⟨bm, om + j * 2, none⟩ = some (.int .i64 q) := ov_cell m0
            have ne : Nonempty (Ov wr) := ⟨⟨_, Below.refl _ _⟩⟩
            have c3 := D23.out.box.cell 3
            simp at c3
            clear x4 x5 hO hp ex hpl m01
            by_cases hxq : x = q
            case neg =>
              have hb : (x == q) = false := by simpa using hxq
              have D24 : Hid (Rm s p M w wr (.slice (some ⟨g, 0, none⟩) n cap') ((mv1 LJ (q, z)).take (y + 1) ++ LJ.drop (y + 1)) (.slice (some ⟨bm, om, none⟩) K1 cv1) ms) := by
                show Rm _ _ _ _ _ _ _ _ _
                rw [mv_take hyl, if_neg (by rw [HEX.out]; exact hxq)]; exact D23.out
              clear hxq D23 d0 d2 g2 m0 m1
              go_wp2
              refine region_over (by kernel_rfl) (by kernel_rfl) ?_
              repeat (go_big_quiet_step (fail))
              refine wpQuiet_nil ?_
              rintro _ ⟨W, rfl⟩
              have D25 : Hid (Rm s p M w W.wd (.slice (some ⟨g, 0, none⟩) n cap') ((mv1 LJ (q, z)).take (y + 1) ++ LJ.drop (y + 1)) (.slice (some ⟨bm, om, none⟩) K1 cv1) ms) := D24.out.below W.ok
              clear z0 z1 z2 ne c3 D24
              go_wp2
              go_roundw
              case rel => exact ⟨y + 1, by omega, by go_num, D25.out⟩
              case measure => simp [intOf]; omega
            case pos =>
              have hb : (x == q) = true := by simpa using hxq
              clear d0 d2 g2
              go_wp2
              refine region_over (by kernel_rfl) (by kernel_rfl) ?_
              repeat (go_big_quiet_step (fail))
              refine wpQuiet_nil ?_
              rintro _ ⟨W, rfl⟩
              obtain ⟨W30, hW30⟩ : ∃ W30, W.wd = W30 := ⟨_, rfl⟩
              have D30 : Hid (Rm s p M w W30 (.slice (some ⟨g, 0, none⟩) n cap') ((mv1 LJ (q, z)).take y ++ LJ.drop y) (.slice (some ⟨bm, om, none⟩) K1 cv1) ms) := hW30 ▸ D23.out.below W.ok
              have m1' : W30.cell? ⟨bm, om + j * 2 + 1, none⟩ = some (.int .i64 z) := by rw [← hW30]; exact ov_cell m1 W
              rw [hW30]
              clear hW30 W z0 z1 z2 ne c3 D23 m0 m1
              obtain ⟨S, hS⟩ : ∃ S : World → Prop, ∀ W, S W ↔ Below W30.heap.size W30 W := ⟨_, fun _ => Iff.rfl⟩
              have t3 : ∀ W : At S, W.wd.cell? ⟨w.heap.size, 3, none⟩ = some (.slice (some ⟨g, 0, none⟩) n cap') := fun W => (((hS _).1 W.ok).cell D30.out.box.lt).trans (D30.out.box.cell 3)
              have t1 : ∀ W : At S, W.wd.cell? ⟨bm, om + j * 2 + 1, none⟩ = some (.int .i64 z) := fun W => (((hS _).1 W.ok).cell (block_lt_of_cell m1')).trans m1'
              have HSI : Hid (S W30.drew) := (hS _).2 (Below.refl _ _).drew
              have ne1 : Nonempty (At S) := ⟨⟨_, HSI.out⟩⟩
              clear hS
              go_wp2
              refine region_mixA [true, true, true, true, true, true, true, true, false, false, false] 8 0 S (by kernel_rfl) rfl (by kernel_rfl) (fun _ _ _ _ _ h => h) HSI.out ?_
              simp only [selT, selF]
              repeat (go_big_quiet_step (fail))
              refine wpQuiet_nil ?_
              clear t1 t3 ne1 HSI m1'
              refine tail_end ?_
              have D31 : Hid (Rm s p M w W30.drew (.slice (some ⟨g, 0, none⟩) n cap') ((mv1 LJ (q, z)).take y ++ LJ.drop y) (.slice (some ⟨bm, om, none⟩) K1 cv1) ms) := D30.out.below (Below.refl _ _).drew
              obtain ⟨W31, hW31⟩ : ∃ W31, W30.drew = W31 := ⟨_, rfl⟩
              rw [hW31] at D31 ⊢
              clear hW31 D30 S
              have hpl : ((mv1 LJ (q, z)).take y ++ LJ.drop y).length = n := by rw [mv_len (by omega)]; exact HLJ.out
              have hO : W31.ownsRow (w.heap.size + 2) 35 3 (.slice (some ⟨g, 0, none⟩) n cap') n (tr ((mv1 LJ (q, z)).take y ++ LJ.drop y)) := by have := D31.out.own; rw [Ot, hpl] at this; exact this
              have hp := tr_at ((mv1 LJ (q, z)).take y ++ LJ.drop y) y (by omega)
              obtain ⟨u2, d2⟩ : ∃ u, W31.cell? ⟨g, y * 3 + 2, none⟩ = some (.int .i64 u) := ⟨_, (World.ownsRow.cellAt hO (y * 3 + 2) (by omega)).trans hp.2.2⟩
              have g2 := World.ownsRow.frozenAt hO (y * 3 + 2)
              have D32 : Hid (Rm s p M w (W31.setCell ⟨g, y * 3 + 2, none⟩ (.int .i64 z)) (.slice (some ⟨g, 0, none⟩) n cap') ((mv1 LJ (q, z)).take (y + 1) ++ LJ.drop (y + 1)) (.slice (some ⟨bm, om, none⟩) K1 cv1) ms) := by
                have := D31.out.store hpl y (by omega) z
                rw [mv_mid hyl] at this
                show Rm _ _ _ _ _ _ _ _ _
                rw [mv_take hyl, if_pos (by rw [HEX.out]; exact hxq)]; exact this
              clear hO hp hpl D31
              go_wp2
              go_roundw
              case rel => exact ⟨y + 1, by omega, by go_num, D32.out⟩
              case measure => simp [intOf]; omega

end Go.Proofs.YtikhfeafbckjlaaDoor

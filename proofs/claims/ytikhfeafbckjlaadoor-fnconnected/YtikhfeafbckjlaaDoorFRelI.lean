/- The contract of the program's Release; nothing is too long; no condition. -/
import Derived.Test.YtikhfeafbckjlaaDoorFRelM
import Derived.Test.YtikhfeafbckjlaaDoorFOkI
import Derived.Test.YtikhfeafbckjlaaDoorFPath
namespace Go.Proofs.YtikhfeafbckjlaaDoor
open Go.RowKit Go.ChangeShapes Go.WideShapes Go.ChangeAt
set_option linter.unusedVariables false
set_option linter.unusedSimpArgs false
set_option maxRecDepth 8000
/-- a copy of a fabric at work, its own box and the result's -/
structure Ri (s p m : Int) (V : Value) (G : Nat) (w W : World) (V' : Value) (ls : Tri) : Prop where
  box : Blk W w.heap.size (F4 s p m V) 26
  res : Blk W (w.heap.size + 1) (F4 0 0 0 (.slice none 0 0)) 26
  gb : Blk W G (F4 s p m V') 26
  own : Ot 35 (w.heap.size + 2) W V' ls
  off : ∀ k, V'.ownBlock = some k → k < G
  ge : w.heap.size + 2 ≤ G
  bel : Below w.heap.size w W
theorem Ri.below {s p m : Int} {V : Value} {G : Nat} {w W W' : World} {V' : Value} {ls : Tri} (h : Ri s p m V G w W V' ls) (hb : Below W.heap.size W W') : Ri s p m V G w W' V' ls :=
  ⟨h.box.below hb h.box.lt, h.res.below hb h.res.lt, h.gb.below hb h.gb.lt, h.own.below hb, h.off, h.ge, h.bel.trans (hb.mono h.bel.size)⟩
theorem Ri.fin {s p m f : Int} {V : Value} {G : Nat} {w W : World} {V' : Value} {ls l0 : Tri} (h : Ri s p m V G w W V' ls) (c : Int) : ∀ W4, (((W.setCell ⟨w.heap.size + 1, 0, none⟩ (.int .i64 s)).setCell ⟨w.heap.size + 1, 1, none⟩ (.int .i64 p)).setCell ⟨w.heap.size + 1, 2, none⟩ (.int .i64 m)).setCell ⟨w.heap.size + 1, 3, none⟩ V' = W4 →
    Blk W4 (w.heap.size + 1) (F4 s p m V') 26 ∧ (RelS s p m f l0 ls c → RelR s p m f l0 w (.returned (.tuple #[.agg (F4 s p m V'), .int .i64 c])) W4) := by
  intro W4 e
  obtain ⟨g1, g2, g3, -⟩ := finF h.res h.own h.bel (by omega) W4 e
  exact ⟨g1, fun hS => ⟨_, _, _, rfl, hS, g2.mono (by omega), g3⟩⟩
theorem RelR.alloc {s p m f : Int} {ls : Tri} {w W : World} {e : Ending} (h : RelR s p m f ls w e W) (o : Obj) : RelR s p m f ls w e (W.alloc o) := by
  obtain ⟨v', ps', c, rfl, h1, h2, h3⟩ := h
  exact ⟨v', ps', c, rfl, h1, h2.below ((Below.refl _ _).alloc (Nat.le_refl _) _), h3.alloc h3.size _⟩
set_option maxHeartbeats 3200000 in
theorem relI_c (s p m f : Int) (v : Value) (ls : Tri) (w : World) (h : Rt w v ls) (hN : NoP w) (hn : ls.length ≤ 4194304) :
   Calls Tryd.prog 16 #[.agg (F4 s p m v), .int .i64 f] w (RelR s p m f ls w) := by
  obtain ⟨W2, hW2⟩ : ∃ W2, ((w.alloc (Obj.cells (F4 s p m v) 26)).alloc (Obj.cells (F4 0 0 0 (.slice none 0 0)) 26)) = W2 := ⟨_, rfl⟩
  have z2 : W2.heap.size = w.heap.size + 2 := by rw [← hW2]; simp
  have k0 : Blk W2 w.heap.size (F4 s p m v) 26 := hW2 ▸ (Blk.new _ _ _).alloc _
  have k1 : Blk W2 (w.heap.size + 1) (F4 0 0 0 (.slice none 0 0)) 26 := hW2 ▸ Blk.newAt _ _ _ _ (by simp)
  have bl : Below w.heap.size w W2 := hW2 ▸ ((Below.refl _ _).alloc (Nat.le_refl _) _).alloc (by simp) _
  have HC : Hid (Calls Tryd.prog 36 #[.agg (F4 s p m v)] W2 fun e w' => ∃ v', e = .returned (.agg (F4 s p m v')) ∧ Ot 35 W2.heap.size w' v' ls ∧ Below W2.heap.size W2 w') := copyFabric_c s p m v ls W2 (h.below bl) hn
  have HK : Hid (Blk W2 w.heap.size (F4 s p m v) 26 ∧ Blk W2 (w.heap.size + 1) (F4 0 0 0 (.slice none 0 0)) 26 ∧ Below w.heap.size w W2) := ⟨k0, k1, bl⟩
  have HZ : Hid (W2.heap.size = w.heap.size + 2) := z2
  have HRT : Hid (Rt w v ls) := h
  have HNP : Hid (NoP w ∧ 0 < w.heap.size) := ⟨hN, hN.lt⟩
  obtain ⟨a, cap, e, -⟩ := h
  obtain ⟨n, hn'⟩ : ∃ n, ls.length = n := ⟨_, rfl⟩
  rw [hn'] at e
  subst e
  have HN : Hid (ls.length = n) := hn'
  have HW2 : Hid (((w.alloc (Obj.cells (F4 s p m (.slice a n cap)) 26)).alloc (Obj.cells (F4 0 0 0 (.slice none 0 0)) 26)) = W2) := hW2
  clear hn' bl k0 k1 hW2 z2 hN
  go_enter Tryd.func16, Tryd.ntmps16
  go_wp2_with (fail)
  rw [HW2.out]
  refine HC.out.mono ?_
  rintro e w3 ⟨v', rfl, o3, b3⟩
  rw [HZ.out] at o3
  have q0 := HK.out.1.below b3 (by rw [HZ.out]; omega)
  have q1 := HK.out.2.1.below b3 (by rw [HZ.out]; omega)
  have b3' : Below w.heap.size w w3 := HK.out.2.2.trans (b3.mono (by rw [HZ.out]; omega))
  obtain ⟨a', cap', hv', hc1, hc2, hc3⟩ := own_form o3
  rw [HN.out] at hv' hc1 hc3
  subst hv'
  have hs3 : w.heap.size + 2 ≤ w3.heap.size := by have := b3.size; have := HZ.out; omega
  -- g lies in a new block
  obtain ⟨W4, hW4⟩ : ∃ W4, w3.alloc (Obj.cells (F4 s p m (.slice a' n cap')) 26) = W4 := ⟨_, rfl⟩
  have x0 : Blk W4 w.heap.size (F4 s p m (.slice a n cap)) 26 := hW4 ▸ q0.alloc _
  have x1 : Blk W4 (w.heap.size + 1) (F4 0 0 0 (.slice none 0 0)) 26 := hW4 ▸ q1.alloc _
  have x2 : Blk W4 w3.heap.size (F4 s p m (.slice a' n cap')) 26 := hW4 ▸ Blk.new _ _ _
  have o4 : Ot 35 (w.heap.size + 2) W4 (.slice a' n cap') ls := hW4 ▸ o3.below ((Below.refl _ _).alloc (Nat.le_refl _) _)
  have b4 : Below w.heap.size w W4 := hW4 ▸ b3'.alloc (by omega) _
  have hog : ∀ k, (Value.slice a' n cap').ownBlock = some k → w.heap.size + 2 ≤ k ∧ k < w3.heap.size := fun k e => by have := World.ownsRow.lt o3 k e; omega
  have HOG : Hid (∀ k, (Value.slice a' n cap').ownBlock = some k → w.heap.size + 2 ≤ k ∧ k < w3.heap.size) := hog
  have HW4 : Hid (w3.alloc (Obj.cells (F4 s p m (.slice a' n cap')) 26) = W4) := hW4
  have s4' : W4.heap.size = w3.heap.size + 1 := by rw [← hW4]; simp
  have S4 : Hid (W4.heap.size = w3.heap.size + 1) := s4'
  have D4 : Hid (Blk W4 w.heap.size (F4 s p m (.slice a n cap)) 26 ∧ Blk W4 (w.heap.size + 1) (F4 0 0 0 (.slice none 0 0)) 26 ∧ Blk W4 w3.heap.size (F4 s p m (.slice a' n cap')) 26 ∧ Ot 35 (w.heap.size + 2) W4 (.slice a' n cap') ls ∧ Below w.heap.size w W4) := ⟨x0, x1, x2, o4, b4⟩
  have c0 := q0.cell 0
  have c1 := q0.cell 1
  have c2 := q0.cell 2
  have c3 := q0.cell 3
  simp at c0 c1 c2 c3
  have hq0 : w.heap.size < w3.heap.size := q0.lt
  clear HC HK HW2 q0 q1 b3' b3 o3 x0 x1 x2 o4 b4 hog hW4 s4'
  have D4 : Hid (Ri s p m (.slice a n cap) w3.heap.size w W4 (.slice a' n cap') ls) := ⟨D4.out.1, D4.out.2.1, D4.out.2.2.1, D4.out.2.2.2.1, fun k e => (HOG.out k e).2, hs3, D4.out.2.2.2.2⟩
  obtain ⟨G, hG⟩ : ∃ G, G = w3.heap.size := ⟨_, rfl⟩
  go_wp2_with (fail)
  rw [HW4.out]
  rw [← hG] at D4 S4 ⊢
  clear HW4 c0 c1 c2 c3 hq0 HOG hs3 hG
  refine (okI_c s p m _ ls W4 (HRT.out.below D4.out.bel)).mono ?_
  rintro e w5 ⟨r, rfl, hr, b5⟩
  have HR : Hid (r = true ↔ FOk s p m ls) := hr
  have D5 : Hid (Ri s p m (.slice a n cap) G w w5 (.slice a' n cap') ls) := D4.out.below b5
  clear D4 b5 hr S4
  have c0 := D5.out.box.cell 0
  have c1 := D5.out.box.cell 1
  have c2 := D5.out.box.cell 2
  have c3 := D5.out.box.cell 3
  have r0 := D5.out.res.cell 0
  have r1 := D5.out.res.cell 1
  have r2 := D5.out.res.cell 2
  have r3 := D5.out.res.cell 3
  have f0 := D5.out.res.frozen 0
  have f1 := D5.out.res.frozen 1
  have f2 := D5.out.res.frozen 2
  have f3 := D5.out.res.frozen 3
  have g0 := D5.out.gb.cell 0
  have g1 := D5.out.gb.cell 1
  have g2 := D5.out.gb.cell 2
  have g3 := D5.out.gb.cell 3
  simp at c0 c1 c2 c3 r0 r1 r2 r3 g0 g1 g2 g3
  have hq0 : w.heap.size < w5.heap.size := D5.out.box.lt
  have hq1 : w.heap.size + 1 < w5.heap.size := D5.out.res.lt
  have hq2 : G < w5.heap.size := D5.out.gb.lt
  have hge : w.heap.size + 2 ≤ G := D5.out.ge
  cases r with
  | false =>
    have HS : Hid (RelS s p m f ls ls 1) := .inl ⟨fun h => (by have := HR.out.2 h.1; cases this), rfl, rfl⟩
    go_wp2
    exact bodyPost_ret (v := .tuple #[.agg (F4 s p m (.slice a' n cap')), .int .i64 1]) (results_F rfl _ _ _ _ _ _ _ _ rfl rfl (D5.out.fin (f := f) (l0 := ls) 1 _ rfl).1) rfl ((D5.out.fin 1 _ rfl).2 HS.out)
  | true =>
  have hok := HR.out.1 rfl
  obtain ⟨hn1, hn2⟩ := sides hok.1 hok.2.1
  have HOK : Hid (FOk s p m ls) := hok
  clear hok HR
  go_wp2_with (fail)
  refine (port_c s p m (s * p) _ f w5 rfl hn1 hn2).mono ?_
  rintro e w6 ⟨rfl, b6⟩
  have D6 : Hid (Ri s p m (.slice a n cap) G w w6 (.slice a' n cap') ls) := D5.out.below b6
  clear D5 b6 c0 c1 c2 c3 r0 r1 r2 r3 f0 f1 f2 f3 g0 g1 g2 g3 hq0 hq1 hq2
  have c0 := D6.out.box.cell 0
  have c1 := D6.out.box.cell 1
  have c2 := D6.out.box.cell 2
  have c3 := D6.out.box.cell 3
  have r0 := D6.out.res.cell 0
  have r1 := D6.out.res.cell 1
  have r2 := D6.out.res.cell 2
  have r3 := D6.out.res.cell 3
  have f0 := D6.out.res.frozen 0
  have f1 := D6.out.res.frozen 1
  have f2 := D6.out.res.frozen 2
  have f3 := D6.out.res.frozen 3
  have g0 := D6.out.gb.cell 0
  have g1 := D6.out.gb.cell 1
  have g2 := D6.out.gb.cell 2
  have g3 := D6.out.gb.cell 3
  simp at c0 c1 c2 c3 r0 r1 r2 r3 g0 g1 g2 g3
  have hq0 : w.heap.size < w6.heap.size := D6.out.box.lt
  have hq1 : w.heap.size + 1 < w6.heap.size := D6.out.res.lt
  have hq2 : G < w6.heap.size := D6.out.gb.lt
  by_cases hE : FEnd (s * p) f
  case neg =>
    have hd : decide (FEnd (s * p) f) = false := decide_eq_false hE
    rw [hd]
    have HS : Hid (RelS s p m f ls ls 1) := .inl ⟨fun h => hE h.2, rfl, rfl⟩
    clear hE hd
    go_wp2
    exact bodyPost_ret (v := .tuple #[.agg (F4 s p m (.slice a' n cap')), .int .i64 1]) (results_F rfl _ _ _ _ _ _ _ _ rfl rfl (D6.out.fin (f := f) (l0 := ls) 1 _ rfl).1) rfl ((D6.out.fin 1 _ rfl).2 HS.out)
  case pos =>
  have hd : decide (FEnd (s * p) f) = true := decide_eq_true hE
  rw [hd]
  have HFE : Hid (FOk s p m ls ∧ FEnd (s * p) f) := ⟨HOK.out, hE⟩
  have hf0 : 0 ≤ f := hE.1
  clear hE hd HOK
  go_wp2_with (fail)
  refine (pathFrom_c s p m _ ls f w6 (HRT.out.below D6.out.bel) (HNP.out.1.below D6.out.bel HNP.out.2)).mono ?_
  rintro e w7 ⟨x, y, z, rfl, hx, b7⟩
  have D7 : Ri s p m (.slice a n cap) G w w7 (.slice a' n cap') ls := D6.out.below b7
  have D8 : Hid (Ri s p m (.slice a n cap) G w (w7.alloc (Obj.cells (P3 x y z) 35)) (.slice a' n cap') ls) := D7.below ((Below.refl _ _).alloc (Nat.le_refl _) _)
  have n0 := (HNP.out.1.below D7.bel HNP.out.2)
  obtain ⟨n0, n1, n2⟩ := n0
  clear D6 b7 c0 c1 c2 c3 r0 r1 r2 r3 f0 f1 f2 f3 g0 g1 g2 g3 hq0 hq1 hq2
  have r0 := D7.res.cell 0
  have r1 := D7.res.cell 1
  have r2 := D7.res.cell 2
  have r3 := D7.res.cell 3
  have f0 := D7.res.frozen 0
  have f1 := D7.res.frozen 1
  have f2 := D7.res.frozen 2
  have f3 := D7.res.frozen 3
  have g0 := D7.gb.cell 0
  have g1 := D7.gb.cell 1
  have g2 := D7.gb.cell 2
  have g3 := D7.gb.cell 3
  have h3 := D7.gb.frozen 3
  simp at r0 r1 r2 r3 g0 g1 g2 g3
  have hq1 : w.heap.size + 1 < w7.heap.size := D7.res.lt
  have hq2 : G < w7.heap.size := D7.gb.lt
  have hq3 : 0 < w7.heap.size := by omega
  have HD7 : Hid (Ri s p m (.slice a n cap) G w w7 (.slice a' n cap') ls) := D7
  clear D7
  rcases hx with ⟨k, hk, hkx⟩ | ⟨hno, hxy⟩
  case inr =>
    have HS : Hid (RelS s p m f ls ls 2) := .inr (.inl ⟨HFE.out, hno, rfl, rfl⟩)
    obtain ⟨rfl, rfl, rfl⟩ : x = -1 ∧ y = -1 ∧ z = -1 := by simpa using hxy
    have hde : decide (((-1 : Int), (-1 : Int), (-1 : Int)) = (-1, -1, -1)) = true := by simp
    clear hno hxy
    go_wp2_with (refine eqlList rfl _ _ rfl (-1) (-1) (-1) (-1) (-1) (-1) rfl rfl ?_; rw [hde])
    exact bodyPost_ret (v := .tuple #[.agg (F4 s p m (.slice a' n cap')), .int .i64 2]) (results_F rfl _ _ _ _ _ _ _ _ rfl rfl ((HD7.out.fin (f := f) (l0 := ls) 2 _ rfl).1.alloc _)) rfl (((HD7.out.fin 2 _ rfl).2 HS.out).alloc _)
  case inl =>
  have hkl := hk.1
  have hke : ls[k] = (x, y, z) := by rw [List.getElem?_eq_getElem hkl] at hkx; exact Option.some.inj hkx
  have hxf : x = f := by have := hk.2.1; rw [hke] at this; simpa using this
  subst hxf
  have HS : Hid (RelS s p m x ls (ls.eraseIdx k) 0) := .inr (.inr ⟨HFE.out, k, hk, rfl, rfl⟩)
  have HF : Hid (Fst (fun q => decide ((x, y, z) = q)) ls k) := ⟨hkl, by simp [hke], fun i hi => by
    have := hk.2.2 i hi
    simp only [decide_eq_false_iff_not]
    intro e
    rw [← e] at this
    simp at this⟩
  have hde : decide ((x, y, z) = ((-1 : Int), (-1 : Int), (-1 : Int))) = false := by simp; omega
  have hkn : k < n := by have := HN.out; omega
  clear hk hkx hke HFE HD7
  go_wp2_with (refine eqlList rfl _ _ rfl x y z (-1) (-1) (-1) rfl rfl ?_; rw [hde])
  refine (index_c _ ls x y z _ D8.out.own.rd).mono ?_
  rintro e w9 ⟨r, rfl, hr, b9⟩
  obtain rfl : r = (k : Int) := by
    rcases hr with ⟨k', rfl, hk'⟩ | ⟨rfl, hno⟩
    · rw [hk'.same HF.out]
    · exact (HF.out.some hno).elim
  have D9 : Ri s p m (.slice a n cap) G w w9 (.slice a' n cap') ls := D8.out.below b9
  obtain ⟨g, rfl⟩ : ∃ g, a' = some ⟨g, 0, none⟩ := by
    rcases hc3 with h | h
    · omega
    · exact h
  obtain ⟨mm, rfl⟩ : ∃ mm, n = mm + 1 := ⟨n - 1, by omega⟩
  have HO9 : Hid (w9.ownsRow (w.heap.size + 2) 35 3 (.slice (some ⟨g, 0, none⟩) (mm + 1) cap') (mm + 1) (tr ls)) := by have := D9.own; rw [Ot, HN.out] at this; exact this
  have HD9 : Hid (Ri s p m (.slice a (mm + 1) cap) G w w9 (.slice (some ⟨g, 0, none⟩) (mm + 1) cap') ls) := D9
  have hmm : mm ≤ 4194304 := by have := HN.out; omega
  have hkm : k ≤ mm := by omega
  clear D8 b9 hr HF r0 r1 r2 r3 f0 f1 f2 f3 g0 g1 g2 g3 h3 hq1 hq2 hq3 n0 n1 n2 hde
  have g3 := D9.gb.cell 3
  simp at g3
  clear D9
  go_wp2_with (fail)
  refine (delete_c (w.heap.size + 2) g cap' k mm ls w9 HO9.out HN.out hkm hmm).mono ?_
  rintro e w10 ⟨rfl, o10, gr⟩
  have D9 := HD9.out
  have hgG : g < G := D9.off g rfl
  have hgg : w.heap.size + 2 ≤ g := (World.ownsRow.lt HO9.out g rfl).1
  have q1 : Blk w10 (w.heap.size + 1) (F4 0 0 0 (.slice none 0 0)) 26 := (gr.block _ D9.res.lt (by simp; omega)).trans D9.res
  have q2 : Blk w10 G (F4 s p m (.slice (some ⟨g, 0, none⟩) (mm + 1) cap')) 26 := (gr.block _ D9.gb.lt (by simp; omega)).trans D9.gb
  have q0 : Blk w10 w.heap.size (F4 s p m (.slice a (mm + 1) cap)) 26 := (gr.block _ D9.box.lt (by simp; omega)).trans D9.box
  have o10' : Ot 35 (w.heap.size + 2) w10 (.slice (some ⟨g, 0, none⟩) mm cap') (ls.eraseIdx k) := by
    have e : (ls.eraseIdx k).length = mm := by rw [List.length_eraseIdx_of_lt hkl, HN.out]; omega
    rw [Ot, e]; exact o10
  have b10 : Below w.heap.size w w10 := D9.bel.trans (grown_below gr (by have := D9.box.lt; omega) (fun k e => by cases e; omega))
  have D11 : Hid (Ri s p m (.slice a (mm + 1) cap) G w (w10.setCell ⟨G, 3, none⟩ (.slice (some ⟨g, 0, none⟩) mm cap')) (.slice (some ⟨g, 0, none⟩) mm cap') (ls.eraseIdx k)) := by
    refine ⟨q0.other _ _ (by dsimp only; omega), q1.other _ _ (by dsimp only; omega), ?_, World.ownsRow.kept o10' (grown_set _ _ _ _) (.inr (by simp [Value.ownBlock]; omega)), fun k e => by simp [Value.ownBlock] at e; omega, hge, b10.setCell (by dsimp only; omega) _⟩
    have := q2.set 3 (.slice (some ⟨g, 0, none⟩) mm cap')
    simpa using this
  have r0 := q1.cell 0
  have r1 := q1.cell 1
  have r2 := q1.cell 2
  have r3 := q1.cell 3
  have f0 := q1.frozen 0
  have f1 := q1.frozen 1
  have f2 := q1.frozen 2
  have f3 := q1.frozen 3
  clear g3
  have g0 := q2.cell 0
  have g1 := q2.cell 1
  have g2 := q2.cell 2
  have g3 := q2.cell 3
  have h3 := q2.frozen 3
  simp at r0 r1 r2 r3 g0 g1 g2 g3
  have ng1 : ¬ (w.heap.size + 1 = G) := by omega
  have ng2 : ¬ (G = w.heap.size + 1) := by omega
  clear HD9 HO9 D9 q0 q1 q2 o10 o10' b10 gr
  go_wp2
  exact bodyPost_ret (v := .tuple #[.agg (F4 s p m (.slice (some ⟨g, 0, none⟩) mm cap')), .int .i64 0]) (results_F rfl _ _ _ _ _ _ _ _ rfl rfl (D11.out.fin (f := x) (l0 := ls) 0 _ rfl).1) rfl ((D11.out.fin 0 _ rfl).2 HS.out)
end Go.Proofs.YtikhfeafbckjlaaDoor

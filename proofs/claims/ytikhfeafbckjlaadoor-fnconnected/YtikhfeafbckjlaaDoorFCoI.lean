/- The program's Connect; no condition. -/
import Derived.Test.YtikhfeafbckjlaaDoorFCon
import Derived.Test.YtikhfeafbckjlaaDoorFRelI
import Derived.Test.YtikhfeafbckjlaaDoorFNeedI
import Derived.Test.YtikhfeafbckjlaaDoorMixC
namespace Go.Proofs.YtikhfeafbckjlaaDoor
open Go.RowKit Go.ChangeShapes Go.WideShapes Go.ChangeAt
set_option linter.unusedVariables false
set_option linter.unusedSimpArgs false
set_option maxRecDepth 8000
/-- what the two Connects answer -/
def ConR (s p m f g : Int) (ps : Tri) (w : World) (e : Ending) (w' : World) : Prop := ∃ v' ps' mv ms c, e = .returned (.tuple #[.agg (F4 s p m v'), mv, .int .i64 c]) ∧ ConS s p m f g ps ps' ms c ∧ Ot 35 w.heap.size w' v' ps' ∧ Op mf mg 74 w.heap.size w' mv ms ∧ (∀ k, v'.ownBlock = some k → mv.ownBlock ≠ some k) ∧ Below w.heap.size w w'
theorem results_F3 {fn : Func} {p u u2 : Tmp} (h : fn.results = #[.cell p 26, .tmp u, .tmp u2]) (tmps : Array Value) (w : World) (g : Nat) (s q m : Int) (v x y : Value)
    (hp : tmps.getD p undef = .pointer (some ⟨g, 0, none⟩)) (hx : tmps.getD u undef = x) (hy : tmps.getD u2 undef = y) (hg : Blk w g (F4 s q m v) 26) :
    (results fn tmps).run Tryd.prog w = .ok (.tuple #[.agg (F4 s q m v), x, y]) w := by
  have hp' : tmps[p]?.getD undef = .pointer (some ⟨g, 0, none⟩) := by simpa using hp
  have hx' : tmps[u]?.getD undef = x := by simpa using hx
  have hy' : tmps[u2]?.getD undef = y := by simpa using hy
  have hr := run_loadVar_row (P := Tryd.prog) w g 26 26 (F4 s q m v) (0, 0) _ hg Tryd.underlying26 rfl size29
  simp [results, h, hp', hx', hy', asAddr, hr]
theorem Ri.finC {s p m f t : Int} {V : Value} {G : Nat} {w W : World} {V' mv : Value} {ls l0 : Tri} {ms : Mvs} (h : Ri s p m V G w W V' ls) (ho : Op mf mg 74 (w.heap.size + 2) W mv ms) (hne : ∀ k, V'.ownBlock = some k → mv.ownBlock ≠ some k) (c : Int) : ∀ W4, (((W.setCell ⟨w.heap.size + 1, 0, none⟩ (.int .i64 s)).setCell ⟨w.heap.size + 1, 1, none⟩ (.int .i64 p)).setCell ⟨w.heap.size + 1, 2, none⟩ (.int .i64 m)).setCell ⟨w.heap.size + 1, 3, none⟩ V' = W4 →
    Blk W4 (w.heap.size + 1) (F4 s p m V') 26 ∧ (ConS s p m f t l0 ls ms c → ConR s p m f t l0 w (.returned (.tuple #[.agg (F4 s p m V'), mv, .int .i64 c])) W4) := by
  intro W4 e
  obtain ⟨g1, g2, g3, -⟩ := finF h.res h.own h.bel (by omega) W4 e
  refine ⟨g1, fun hS => ⟨_, _, _, _, _, rfl, hS, g2.mono (by omega), ?_, hne, g3⟩⟩
  rw [← e]
  exact Op.mono (World.ownsRow.kept ho (grown_put4 ..) (.inr (fun e => by have := (World.ownsRow.lt ho _ e).1; omega))) (by omega)
theorem Ri.finN {s p m f t : Int} {V : Value} {G : Nat} {w W : World} {V' : Value} {ls l0 : Tri} (h : Ri s p m V G w W V' ls) (c : Int) : ∀ W4, (((W.setCell ⟨w.heap.size + 1, 0, none⟩ (.int .i64 s)).setCell ⟨w.heap.size + 1, 1, none⟩ (.int .i64 p)).setCell ⟨w.heap.size + 1, 2, none⟩ (.int .i64 m)).setCell ⟨w.heap.size + 1, 3, none⟩ V' = W4 →
    Blk W4 (w.heap.size + 1) (F4 s p m V') 26 ∧ (ConS s p m f t l0 ls [] c → ConR s p m f t l0 w (.returned (.tuple #[.agg (F4 s p m V'), .slice none 0 0, .int .i64 c])) W4) :=
  h.finC (mv := .slice none 0 0) (ms := []) (World.ownsRow_nil _ _ _ _) (fun k _ => by simp [Value.ownBlock]) c
theorem FOk.len {s p m : Int} {ps : Tri} (h : FOk s p m ps) : ps.length ≤ 24 := by
  have hs := sides h.1 h.2.1
  have := nodup_len 24 (ps.map (·.1)) h.froms (fun x hx => by
    obtain ⟨q, hq, rfl⟩ := List.mem_map.1 hx
    obtain ⟨i, hi, rfl⟩ := List.getElem_of_mem hq
    have := (h.2.2.2 i hi hi).1.1
    obtain ⟨a, b⟩ := this
    omega)
  simpa using this
theorem finX {s p m f t : Int} {w W : World} {V' mv : Value} {ls l0 : Tri} {ms : Mvs} (r : Blk W (w.heap.size + 1) (F4 0 0 0 (.slice none 0 0)) 26) (o : Ot 35 (w.heap.size + 2) W V' ls) (b : Below w.heap.size w W) (ho : Op mf mg 74 (w.heap.size + 2) W mv ms) (hne : ∀ k, V'.ownBlock = some k → mv.ownBlock ≠ some k) (c : Int) : ∀ W4, (((W.setCell ⟨w.heap.size + 1, 0, none⟩ (.int .i64 s)).setCell ⟨w.heap.size + 1, 1, none⟩ (.int .i64 p)).setCell ⟨w.heap.size + 1, 2, none⟩ (.int .i64 m)).setCell ⟨w.heap.size + 1, 3, none⟩ V' = W4 →
    Blk W4 (w.heap.size + 1) (F4 s p m V') 26 ∧ (ConS s p m f t l0 ls ms c → ConR s p m f t l0 w (.returned (.tuple #[.agg (F4 s p m V'), mv, .int .i64 c])) W4) := by
  intro W4 e
  obtain ⟨g1, g2, g3, -⟩ := finF r o b (by omega) W4 e
  refine ⟨g1, fun hS => ⟨_, _, _, _, _, rfl, hS, g2.mono (by omega), ?_, hne, g3⟩⟩
  rw [← e]
  exact Op.mono (World.ownsRow.kept ho (grown_put4 ..) (.inr (fun e => by have := (World.ownsRow.lt ho _ e).1; omega))) (by omega)
/-- a path is put behind those of the copy -/
theorem Ri.app {s p m : Int} {V : Value} {G : Nat} {w W w2 : World} {V' nv : Value} {ls ls' : Tri} {o : Obj} (h : Ri s p m V G w W V' ls) (ho : Ot 35 (w.heap.size + 2) w2 nv ls') (hg : (W.alloc o).grownBy w2 V'.ownBlock) (hv : nv.ownBlock = V'.ownBlock ∨ nv.ownBlock = some (W.alloc o).heap.size) :
    (Blk w2 G (F4 s p m V') 26 ∧ Blk w2 (w.heap.size + 1) (F4 0 0 0 (.slice none 0 0)) 26) ∧ Blk (w2.setCell ⟨G, 3, none⟩ nv) (w.heap.size + 1) (F4 0 0 0 (.slice none 0 0)) 26 ∧ Blk (w2.setCell ⟨G, 3, none⟩ nv) G (F4 s p m nv) 26 ∧ Ot 35 (w.heap.size + 2) (w2.setCell ⟨G, 3, none⟩ nv) nv ls' ∧ Below w.heap.size w (w2.setCell ⟨G, 3, none⟩ nv) := by
  have hge := h.ge
  have hob : ∀ k, V'.ownBlock = some k → w.heap.size + 2 ≤ k ∧ k < G := fun k e => ⟨(World.ownsRow.lt h.own k e).1, h.off k e⟩
  have b1 : Below W.heap.size W (W.alloc o) := (Below.refl _ _).alloc (Nat.le_refl _) _
  have gb1 := h.gb.below b1 h.gb.lt
  have rs1 := h.res.below b1 h.res.lt
  have bl1 : Below w.heap.size w (W.alloc o) := belowCall h.bel b1 h.bel.size
  have gb2 : Blk w2 G (F4 s p m V') 26 := (hg.block _ gb1.lt (fun e => by have := hob _ e.symm; omega)).trans gb1
  have rs2 : Blk w2 (w.heap.size + 1) (F4 0 0 0 (.slice none 0 0)) 26 := (hg.block _ rs1.lt (fun e => by have := hob _ e.symm; omega)).trans rs1
  have bl2 : Below w.heap.size w w2 := bl1.trans (grown_below hg bl1.size (fun k e => by have := hob _ e; omega))
  have hne : nv.ownBlock ≠ some G := by
    rcases hv with e | e
    · rw [e]; intro e2; have := hob _ e2; omega
    · rw [e]; intro e2; have e3 := Option.some.inj e2; have := gb1.lt; omega
  refine ⟨⟨gb2, rs2⟩, rs2.other _ _ (by dsimp only; omega), ?_, World.ownsRow.kept ho (grown_set _ _ _ _) (.inr hne), bl2.setCell (by dsimp only; omega) _⟩
  have := gb2.set 3 nv
  simpa using this
theorem used_in {p : Int} {ps : Tri} (h : ∀ x ∈ ps, 0 ≤ x.2.2) (kx k : Nat) : (usedOf (fun x => x.1 / p) ps kx).testBit k = ps.any (inQ p kx k) := by
  rw [Bool.eq_iff_iff, usedOf_bit, List.any_eq_true]
  constructor
  · rintro ⟨q, hq, h1, h2⟩
    refine ⟨q, hq, ?_⟩
    have := h q hq
    simp only [inQ, h1, Bool.and_eq_true, beq_iff_eq, true_and]; omega
  · rintro ⟨q, hq, h1⟩
    simp only [inQ, Bool.and_eq_true, beq_iff_eq] at h1
    exact ⟨q, hq, h1.1, by omega⟩
theorem used_out {p : Int} {ps : Tri} (h : ∀ x ∈ ps, 0 ≤ x.2.2) (kx k : Nat) : (usedOf (fun x => x.2.1 / p) ps kx).testBit k = ps.any (outQ p kx k) := by
  rw [Bool.eq_iff_iff, usedOf_bit, List.any_eq_true]
  constructor
  · rintro ⟨q, hq, h1, h2⟩
    refine ⟨q, hq, ?_⟩
    have := h q hq
    simp only [outQ, h1, Bool.and_eq_true, beq_iff_eq, true_and]; omega
  · rintro ⟨q, hq, h1⟩
    simp only [outQ, Bool.and_eq_true, beq_iff_eq] at h1
    exact ⟨q, hq, h1.1, by omega⟩
theorem cV_neg {p m : Int} {ps : Tri} {f g : Int} (h : aV p m ps f < 0 ∨ bV p m ps g < 0) : cV p m ps f g < 0 := by
  refine Classical.byContradiction fun hc => ?_
  obtain ⟨k, -, h1, h2⟩ := frV_pos (show 0 ≤ frV (bothF p ps f g) m.toNat by have := hc; unfold cV at this; omega)
  simp only [bothF, Bool.and_eq_true] at h2
  rcases h with h | h
  · have := frV_neg h k h1; rw [h2.1] at this; cases this
  · have := frV_neg h k h1; rw [h2.2] at this; cases this
theorem lf_con {p : Int} {M : Nat} {ps : Tri} {f g : Int} {kx ky : Nat} (h : ∀ x ∈ ps, 0 ≤ x.2.2) (hx : f / p = kx) (hy : g / p = ky) :
    lfV (usedOf (fun x => x.1 / p) ps kx) M = aV p M ps f ∧ lfV (usedOf (fun x => x.2.1 / p) ps ky) M = bV p M ps g ∧ lfV (usedOf (fun x => x.1 / p) ps kx ||| usedOf (fun x => x.2.1 / p) ps ky) M = cV p M ps f g := by
  have e1 : (fun k => !(usedOf (fun x => x.1 / p) ps kx).testBit k) = inF p ps f := by funext k; rw [used_in h, inF, hx]
  have e2 : (fun k => !(usedOf (fun x => x.2.1 / p) ps ky).testBit k) = outF p ps g := by funext k; rw [used_out h, outF, hy]
  have e3 : (fun k => !(usedOf (fun x => x.1 / p) ps kx ||| usedOf (fun x => x.2.1 / p) ps ky).testBit k) = bothF p ps f g := by
    funext k; rw [Nat.testBit_or, Bool.not_or, used_in h, used_out h, bothF, inF, outF, hx, hy]
  rw [lfV_fr, lfV_fr, lfV_fr, e1, e2, e3]
  exact ⟨rfl, rfl, rfl⟩
/-- behind the moves of the copy's paths -/
theorem Ri.moved {s p m : Int} {V : Value} {G : Nat} {w W W' : World} {V' : Value} {ls ls' : Tri} (h : Ri s p m V G w W V' ls) (ho : Ot 35 (w.heap.size + 2) W' V' ls') (hg : W.grownBy W' V'.ownBlock) : Ri s p m V G w W' V' ls' := by
  have hge := h.ge
  have hob : ∀ k, V'.ownBlock = some k → w.heap.size + 2 ≤ k ∧ k < G := fun k e => ⟨(World.ownsRow.lt h.own k e).1, h.off k e⟩
  refine ⟨(hg.block _ h.box.lt (fun e => ?_)).trans h.box, (hg.block _ h.res.lt (fun e => ?_)).trans h.res, (hg.block _ h.gb.lt (fun e => ?_)).trans h.gb, ho, h.off, hge, h.bel.trans (grown_below hg h.bel.size (fun k e => by have := hob _ e; omega))⟩
  · have := hob _ e.symm; omega
  · have := hob _ e.symm; omega
  · have := hob _ e.symm; omega
/-- the moves told beside a path that is put behind -/
theorem mvs_app {s p m : Int} {V : Value} {G : Nat} {w W w2 : World} {V' nv mv : Value} {ls : Tri} {ms : Mvs} {o : Obj} (h : Ri s p m V G w W V' ls) (hm : Op mf mg 74 (w.heap.size + 2) W mv ms) (hne : ∀ k, V'.ownBlock = some k → mv.ownBlock ≠ some k) (hG : mv.ownBlock ≠ some G) (hg : (W.alloc o).grownBy w2 V'.ownBlock) (hv : nv.ownBlock = V'.ownBlock ∨ nv.ownBlock = some (W.alloc o).heap.size) :
    Op mf mg 74 (w.heap.size + 2) (w2.setCell ⟨G, 3, none⟩ nv) mv ms ∧ ∀ k, nv.ownBlock = some k → mv.ownBlock ≠ some k := by
  have b1 : Below W.heap.size W (W.alloc o) := (Below.refl _ _).alloc (Nat.le_refl _) _
  have m1 := Op.below hm b1
  have hmk : ∀ k, mv.ownBlock = some k → k < W.heap.size := fun k e => (World.ownsRow.lt hm k e).2
  have m2 : Op mf mg 74 (w.heap.size + 2) w2 mv ms := World.ownsRow.kept m1 hg (by
    cases hx : mv.ownBlock with
    | none => exact .inl rfl
    | some k => exact .inr (fun e => hne k e.symm hx))
  refine ⟨World.ownsRow.kept m2 (grown_set _ _ _ _) (.inr hG), fun k hk => ?_⟩
  rcases hv with e | e
  · exact hne k (e ▸ hk)
  · rw [e] at hk; cases hk
    intro e2
    have h1 := hmk _ e2
    have h2 := b1.size
    omega
set_option maxHeartbeats 12800000 in
theorem conI_c (s p m f t : Int) (v : Value) (ls : Tri) (w : World) (h : Rt w v ls) (hN : NoP w) (hT : Tab w) (hn : ls.length ≤ 4194304) :
   Calls Tryd.prog 10 #[.agg (F4 s p m v), .int .i64 f, .int .i64 t] w (ConR s p m f t ls w) := by
  obtain ⟨W2, hW2⟩ : ∃ W2, ((w.alloc (Obj.cells (F4 s p m v) 26)).alloc (Obj.cells (F4 0 0 0 (.slice none 0 0)) 26)) = W2 := ⟨_, rfl⟩
  have z2 : W2.heap.size = w.heap.size + 2 := by rw [← hW2]; simp
  have k0 : Blk W2 w.heap.size (F4 s p m v) 26 := hW2 ▸ (Blk.new _ _ _).alloc _
  have k1 : Blk W2 (w.heap.size + 1) (F4 0 0 0 (.slice none 0 0)) 26 := hW2 ▸ Blk.newAt _ _ _ _ (by simp)
  have bl : Below w.heap.size w W2 := hW2 ▸ ((Below.refl _ _).alloc (Nat.le_refl _) _).alloc (by simp) _
  have HC : Hid (Calls Tryd.prog 36 #[.agg (F4 s p m v)] W2 fun e w' => ∃ v', e = .returned (.agg (F4 s p m v')) ∧ Ot 35 W2.heap.size w' v' ls ∧ Below W2.heap.size W2 w') := copyFabric_c s p m v ls W2 (h.below bl) hn
  have HK : Hid (Blk W2 w.heap.size (F4 s p m v) 26 ∧ Blk W2 (w.heap.size + 1) (F4 0 0 0 (.slice none 0 0)) 26 ∧ Below w.heap.size w W2) := ⟨k0, k1, bl⟩
  have HZ : Hid (W2.heap.size = w.heap.size + 2) := z2
  have HRT : Hid (Rt w v ls) := h
  have HNP : Hid (NoP w ∧ 0 < w.heap.size) := ⟨hN, hN.lt⟩
  have HTB : Hid (Tab w) := hT
  obtain ⟨a, cap, e, -⟩ := h
  obtain ⟨n, hn'⟩ : ∃ n, ls.length = n := ⟨_, rfl⟩
  rw [hn'] at e
  subst e
  have HN : Hid (ls.length = n) := hn'
  have HW2 : Hid (((w.alloc (Obj.cells (F4 s p m (.slice a n cap)) 26)).alloc (Obj.cells (F4 0 0 0 (.slice none 0 0)) 26)) = W2) := hW2
  clear hn' bl k0 k1 hW2 z2 hN hT
  go_enter Tryd.func10, Tryd.ntmps10
  go_wp2_with (fail)
  rw [HW2.out]
  refine HC.out.mono ?_
  rintro e w3 ⟨v', rfl, o3, b3⟩
  rw [HZ.out] at o3
  have q0 := HK.out.1.below b3 (by rw [HZ.out]; omega)
  have q1 := HK.out.2.1.below b3 (by rw [HZ.out]; omega)
  have b3' : Below w.heap.size w w3 := HK.out.2.2.trans (b3.mono (by rw [HZ.out]; omega))
  obtain ⟨a', cap', hv', hc1, hc2, hc3⟩ := own_form o3
  rw [HN.out] at hv' hc1 hc3
  subst hv'
  have hs3 : w.heap.size + 2 ≤ w3.heap.size := by have := b3.size; have := HZ.out; omega
  -- g lies in a new block
  obtain ⟨W4, hW4⟩ : ∃ W4, w3.alloc (Obj.cells (F4 s p m (.slice a' n cap')) 26) = W4 := ⟨_, rfl⟩
  have x0 : Blk W4 w.heap.size (F4 s p m (.slice a n cap)) 26 := hW4 ▸ q0.alloc _
  have x1 : Blk W4 (w.heap.size + 1) (F4 0 0 0 (.slice none 0 0)) 26 := hW4 ▸ q1.alloc _
  have x2 : Blk W4 w3.heap.size (F4 s p m (.slice a' n cap')) 26 := hW4 ▸ Blk.new _ _ _
  have o4 : Ot 35 (w.heap.size + 2) W4 (.slice a' n cap') ls := hW4 ▸ o3.below ((Below.refl _ _).alloc (Nat.le_refl _) _)
  have b4 : Below w.heap.size w W4 := hW4 ▸ b3'.alloc (by omega) _
  have hog : ∀ k, (Value.slice a' n cap').ownBlock = some k → w.heap.size + 2 ≤ k ∧ k < w3.heap.size := fun k e => by have := World.ownsRow.lt o3 k e; omega
  have HOG : Hid (∀ k, (Value.slice a' n cap').ownBlock = some k → w.heap.size + 2 ≤ k ∧ k < w3.heap.size) := hog
  have HW4 : Hid (w3.alloc (Obj.cells (F4 s p m (.slice a' n cap')) 26) = W4) := hW4
  have s4' : W4.heap.size = w3.heap.size + 1 := by rw [← hW4]; simp
  have S4 : Hid (W4.heap.size = w3.heap.size + 1) := s4'
  have D4 : Hid (Blk W4 w.heap.size (F4 s p m (.slice a n cap)) 26 ∧ Blk W4 (w.heap.size + 1) (F4 0 0 0 (.slice none 0 0)) 26 ∧ Blk W4 w3.heap.size (F4 s p m (.slice a' n cap')) 26 ∧ Ot 35 (w.heap.size + 2) W4 (.slice a' n cap') ls ∧ Below w.heap.size w W4) := ⟨x0, x1, x2, o4, b4⟩
  have c0 := q0.cell 0
  have c1 := q0.cell 1
  have c2 := q0.cell 2
  have c3 := q0.cell 3
  simp at c0 c1 c2 c3
  have hq0 : w.heap.size < w3.heap.size := q0.lt
  clear HC HK HW2 q0 q1 b3' b3 o3 x0 x1 x2 o4 b4 hog hW4 s4'
  have D4 : Hid (Ri s p m (.slice a n cap) w3.heap.size w W4 (.slice a' n cap') ls) := ⟨D4.out.1, D4.out.2.1, D4.out.2.2.1, D4.out.2.2.2.1, fun k e => (HOG.out k e).2, hs3, D4.out.2.2.2.2⟩
  obtain ⟨G, hG⟩ : ∃ G, G = w3.heap.size := ⟨_, rfl⟩
  go_wp2_with (fail)
  rw [HW4.out]
  rw [← hG] at D4 S4 ⊢
  clear HW4 c0 c1 c2 c3 hq0 HOG hs3 hG
  refine (okI_c s p m _ ls W4 (HRT.out.below D4.out.bel)).mono ?_
  rintro e w5 ⟨r, rfl, hr, b5⟩
  have HR : Hid (r = true ↔ FOk s p m ls) := hr
  have D5 : Hid (Ri s p m (.slice a n cap) G w w5 (.slice a' n cap') ls) := D4.out.below b5
  clear D4 b5 hr S4
  have c0 := D5.out.box.cell 0
  have c1 := D5.out.box.cell 1
  have c2 := D5.out.box.cell 2
  have c3 := D5.out.box.cell 3
  have r0 := D5.out.res.cell 0
  have r1 := D5.out.res.cell 1
  have r2 := D5.out.res.cell 2
  have r3 := D5.out.res.cell 3
  have f0 := D5.out.res.frozen 0
  have f1 := D5.out.res.frozen 1
  have f2 := D5.out.res.frozen 2
  have f3 := D5.out.res.frozen 3
  have g0 := D5.out.gb.cell 0
  have g1 := D5.out.gb.cell 1
  have g2 := D5.out.gb.cell 2
  have g3 := D5.out.gb.cell 3
  simp at c0 c1 c2 c3 r0 r1 r2 r3 g0 g1 g2 g3
  have hq0 : w.heap.size < w5.heap.size := D5.out.box.lt
  have hq1 : w.heap.size + 1 < w5.heap.size := D5.out.res.lt
  have hq2 : G < w5.heap.size := D5.out.gb.lt
  have hge : w.heap.size + 2 ≤ G := D5.out.ge
  have h3 := D5.out.gb.frozen 3
  cases r with
  | false =>
    have HS : Hid (ConS s p m f t ls ls [] 1) := .inl ⟨fun h => (by have := HR.out.2 h.1; cases this), rfl, rfl, rfl⟩
    go_wp2
    exact bodyPost_ret (v := .tuple #[.agg (F4 s p m (.slice a' n cap')), .slice none 0 0, .int .i64 1]) (results_F3 rfl _ _ _ _ _ _ _ _ _ rfl rfl rfl (D5.out.finN (f := f) (t := t) (l0 := ls) 1 _ rfl).1) rfl ((D5.out.finN (f := f) (t := t) (l0 := ls) 1 _ rfl).2 HS.out)
  | true =>
  have hok := HR.out.1 rfl
  obtain ⟨hn1, hn2⟩ := sides hok.1 hok.2.1
  have HOK : Hid (FOk s p m ls) := hok
  clear hok HR
  go_wp2_with (fail)
  refine (port_c s p m (s * p) _ f w5 rfl hn1 hn2).mono ?_
  rintro e w6 ⟨rfl, b6⟩
  have D6 : Hid (Ri s p m (.slice a n cap) G w w6 (.slice a' n cap') ls) := D5.out.below b6
  clear D5 b6 c0 c1 c2 c3 r0 r1 r2 r3 f0 f1 f2 f3 g0 g1 g2 g3 h3 hq0 hq1 hq2
  have c0 := D6.out.box.cell 0
  have c1 := D6.out.box.cell 1
  have c2 := D6.out.box.cell 2
  have c3 := D6.out.box.cell 3
  have r0 := D6.out.res.cell 0
  have r1 := D6.out.res.cell 1
  have r2 := D6.out.res.cell 2
  have r3 := D6.out.res.cell 3
  have f0 := D6.out.res.frozen 0
  have f1 := D6.out.res.frozen 1
  have f2 := D6.out.res.frozen 2
  have f3 := D6.out.res.frozen 3
  have g0 := D6.out.gb.cell 0
  have g1 := D6.out.gb.cell 1
  have g2 := D6.out.gb.cell 2
  have g3 := D6.out.gb.cell 3
  have h3 := D6.out.gb.frozen 3
  simp at c0 c1 c2 c3 r0 r1 r2 r3 g0 g1 g2 g3
  have hq0 : w.heap.size < w6.heap.size := D6.out.box.lt
  have hq1 : w.heap.size + 1 < w6.heap.size := D6.out.res.lt
  have hq2 : G < w6.heap.size := D6.out.gb.lt
  by_cases hE : FEnd (s * p) f
  case neg =>
    have hd : decide (FEnd (s * p) f) = false := decide_eq_false hE
    rw [hd]
    have HS : Hid (ConS s p m f t ls ls [] 1) := .inl ⟨fun h => hE h.2.1, rfl, rfl, rfl⟩
    clear hE hd
    go_wp2
    exact bodyPost_ret (v := .tuple #[.agg (F4 s p m (.slice a' n cap')), .slice none 0 0, .int .i64 1]) (results_F3 rfl _ _ _ _ _ _ _ _ _ rfl rfl rfl (D6.out.finN (f := f) (t := t) (l0 := ls) 1 _ rfl).1) rfl ((D6.out.finN (f := f) (t := t) (l0 := ls) 1 _ rfl).2 HS.out)
  case pos =>
  have hd : decide (FEnd (s * p) f) = true := decide_eq_true hE
  rw [hd]
  have HFE : Hid (FEnd (s * p) f) := hE
  have hf0 : 0 ≤ f := hE.1
  have hf1 : f ≤ s * p - 1 := hE.2
  clear hE hd
  go_wp2_with (fail)
  refine (port_c s p m (s * p) _ t w6 rfl hn1 hn2).mono ?_
  rintro e w7 ⟨rfl, b7⟩
  have D7 : Hid (Ri s p m (.slice a n cap) G w w7 (.slice a' n cap') ls) := D6.out.below b7
  clear D6 b7 c0 c1 c2 c3 r0 r1 r2 r3 f0 f1 f2 f3 g0 g1 g2 g3 h3 hq0 hq1 hq2
  have c0 := D7.out.box.cell 0
  have c1 := D7.out.box.cell 1
  have c2 := D7.out.box.cell 2
  have c3 := D7.out.box.cell 3
  have r0 := D7.out.res.cell 0
  have r1 := D7.out.res.cell 1
  have r2 := D7.out.res.cell 2
  have r3 := D7.out.res.cell 3
  have f0 := D7.out.res.frozen 0
  have f1 := D7.out.res.frozen 1
  have f2 := D7.out.res.frozen 2
  have f3 := D7.out.res.frozen 3
  have g0 := D7.out.gb.cell 0
  have g1 := D7.out.gb.cell 1
  have g2 := D7.out.gb.cell 2
  have g3 := D7.out.gb.cell 3
  have h3 := D7.out.gb.frozen 3
  simp at c0 c1 c2 c3 r0 r1 r2 r3 g0 g1 g2 g3
  have hq0 : w.heap.size < w7.heap.size := D7.out.box.lt
  have hq1 : w.heap.size + 1 < w7.heap.size := D7.out.res.lt
  have hq2 : G < w7.heap.size := D7.out.gb.lt
  by_cases hE : FEnd (s * p) t
  case neg =>
    have hd : decide (FEnd (s * p) t) = false := decide_eq_false hE
    rw [hd]
    have HS : Hid (ConS s p m f t ls ls [] 1) := .inl ⟨fun h => hE h.2.2, rfl, rfl, rfl⟩
    clear hE hd
    go_wp2
    exact bodyPost_ret (v := .tuple #[.agg (F4 s p m (.slice a' n cap')), .slice none 0 0, .int .i64 1]) (results_F3 rfl _ _ _ _ _ _ _ _ _ rfl rfl rfl (D7.out.finN (f := f) (t := t) (l0 := ls) 1 _ rfl).1) rfl ((D7.out.finN (f := f) (t := t) (l0 := ls) 1 _ rfl).2 HS.out)
  case pos =>
  have hd : decide (FEnd (s * p) t) = true := decide_eq_true hE
  rw [hd]
  have HCO : Hid (ConOk s p m f t ls) := ⟨HOK.out, HFE.out, hE⟩
  have ht0 : 0 ≤ t := hE.1
  have ht1 : t ≤ s * p - 1 := hE.2
  clear hE hd HFE
  have hcall38 : ∀ W : Ov w7, Calls Tryd.prog 38 #[.agg (F4 s p m (.slice a n cap)), .int .i64 f] W.wd fun e w'' => e = .returned (.agg (P3 (fstP (fun x => x.1 == f) ls).1 (fstP (fun x => x.1 == f) ls).2.1 (fstP (fun x => x.1 == f) ls).2.2)) ∧ ∃ W' : Ov w7, w'' = W'.wd := fun W =>
    ov_call (pathFrom_v s p m _ ls f W.wd (HRT.out.below (D7.out.bel.trans (W.ok.mono D7.out.bel.size))) (HNP.out.1.below (D7.out.bel.trans (W.ok.mono D7.out.bel.size)) HNP.out.2))
  have hnone38 := fstP_none (q := fun x => x.1 == f) HOK.out.inr
  obtain ⟨⟨x1, x2, x3⟩, hr38⟩ : ∃ r, fstP (fun x => x.1 == f) ls = r := ⟨_, rfl⟩
  rw [hr38] at hcall38 hnone38
  have HC38 : Hid (∀ W : Ov w7, Calls Tryd.prog 38 #[.agg (F4 s p m (.slice a n cap)), .int .i64 f] W.wd fun e w'' => e = .returned (.agg (P3 x1 x2 x3)) ∧ ∃ W' : Ov w7, w'' = W'.wd) := hcall38
  obtain ⟨ta, hta⟩ : ∃ tt, (ls.any (fun x => x.1 == f)) = tt := ⟨_, rfl⟩
  rw [hta] at hnone38
  have HTA : Hid ((ls.any (fun x => x.1 == f)) = ta ∧ decide ((x1, x2, x3) = ((-1 : Int), (-1 : Int), (-1 : Int))) = !ta) := ⟨hta, hnone38⟩
  clear hcall38 hnone38 hr38 hta
  have hcall39 : ∀ W : Ov w7, Calls Tryd.prog 39 #[.agg (F4 s p m (.slice a n cap)), .int .i64 t] W.wd fun e w'' => e = .returned (.agg (P3 (fstP (fun x => x.2.1 == t) ls).1 (fstP (fun x => x.2.1 == t) ls).2.1 (fstP (fun x => x.2.1 == t) ls).2.2)) ∧ ∃ W' : Ov w7, w'' = W'.wd := fun W =>
    ov_call (pathTo_v s p m _ ls t W.wd (HRT.out.below (D7.out.bel.trans (W.ok.mono D7.out.bel.size))) (HNP.out.1.below (D7.out.bel.trans (W.ok.mono D7.out.bel.size)) HNP.out.2))
  have hnone39 := fstP_none (q := fun x => x.2.1 == t) HOK.out.inr
  obtain ⟨⟨y1, y2, y3⟩, hr39⟩ : ∃ r, fstP (fun x => x.2.1 == t) ls = r := ⟨_, rfl⟩
  rw [hr39] at hcall39 hnone39
  have HC39 : Hid (∀ W : Ov w7, Calls Tryd.prog 39 #[.agg (F4 s p m (.slice a n cap)), .int .i64 t] W.wd fun e w'' => e = .returned (.agg (P3 y1 y2 y3)) ∧ ∃ W' : Ov w7, w'' = W'.wd) := hcall39
  obtain ⟨tb, htb⟩ : ∃ tt, (ls.any (fun x => x.2.1 == t)) = tt := ⟨_, rfl⟩
  rw [htb] at hnone39
  have HTB2 : Hid ((ls.any (fun x => x.2.1 == t)) = tb ∧ decide ((y1, y2, y3) = ((-1 : Int), (-1 : Int), (-1 : Int))) = !tb) := ⟨htb, hnone39⟩
  clear hcall39 hnone39 hr39 htb
  have e0 : ∀ W : Ov w7, W.wd.cell? ⟨w.heap.size, 0, none⟩ = some (.int .i64 s) := ov_cell (D7.out.box.cell 0)
  have e1 : ∀ W : Ov w7, W.wd.cell? ⟨w.heap.size, 1, none⟩ = some (.int .i64 p) := ov_cell (D7.out.box.cell 1)
  have e2 : ∀ W : Ov w7, W.wd.cell? ⟨w.heap.size, 2, none⟩ = some (.int .i64 m) := ov_cell (D7.out.box.cell 2)
  have e3 : ∀ W : Ov w7, W.wd.cell? ⟨w.heap.size, 3, none⟩ = some (.slice a n cap) := ov_cell (D7.out.box.cell 3)
  have hno := HNP.out.1.below D7.out.bel HNP.out.2
  have n0 : ∀ W : Ov w7, W.wd.cell? ⟨0, 0, none⟩ = some (.int .i64 (-1)) := ov_cell hno.1
  have n1 : ∀ W : Ov w7, W.wd.cell? ⟨0, 1, none⟩ = some (.int .i64 (-1)) := ov_cell hno.2.1
  have n2 : ∀ W : Ov w7, W.wd.cell? ⟨0, 2, none⟩ = some (.int .i64 (-1)) := ov_cell hno.2.2
  have ne : Nonempty (Ov w7) := ⟨⟨_, Below.refl _ _⟩⟩
  clear hno
  have hdx := HTA.out.2
  have hdy := HTB2.out.2
  have HBU : Hid (Busy f t ls ↔ (ta || tb) = true) := by
    show Busy f t ls ↔ (ta || tb) = true
    rw [← HTA.out.1, ← HTB2.out.1]
    simp only [Busy, Bool.or_eq_true, List.any_eq_true, beq_iff_eq]
    constructor
    · rintro ⟨x, hx, h | h⟩
      · exact .inl ⟨x, hx, h⟩
      · exact .inr ⟨x, hx, h⟩
    · rintro (⟨x, hx, h⟩ | ⟨x, hx, h⟩)
      · exact ⟨x, hx, .inl h⟩
      · exact ⟨x, hx, .inr h⟩
  clear c0 c1 c2 c3 r0 r1 r2 r3 f0 f1 f2 f3 g0 g1 g2 g3 h3 hq0 hq1 hq2
  go_wp2
  refine region_over (by kernel_rfl) (by kernel_rfl) ?_
  repeat (go_big_quiet_step (first | (go_at_call 38; exact HC38.out _)))
  refine BigFrame.wpQuiet_want rfl fun K hK => quietNeq _ _ rfl x1 x2 x3 (-1) (-1) (-1) rfl rfl (hK _ ?_)
  rw [hdx]
  clear hK hdx
  cases ta with
  | true =>
    simp only [Bool.not_true, Bool.not_false, Act.put, List.setIfInBounds_toArray, List.set_cons_succ, List.set_cons_zero]
    repeat (go_big_quiet_step (first | (go_at_call 39; exact HC39.out _)))
    refine wpQuiet_nil ?_
    rintro _ ⟨W, rfl⟩
    have HS : Hid (ConS s p m f t ls ls [] 2) := .inr (.inl ⟨HCO.out, HBU.out.2 rfl, rfl, rfl, rfl⟩)
    obtain ⟨W8, hW8⟩ : ∃ W8, W.wd = W8 := ⟨_, rfl⟩
    have D8 : Hid (Ri s p m (.slice a n cap) G w W8 (.slice a' n cap') ls) := hW8 ▸ D7.out.below W.ok
    rw [hW8]
    clear hW8 W e0 e1 e2 e3 n0 n1 n2 ne HC38 HC39 D7
    have c0 := D8.out.box.cell 0
    have c1 := D8.out.box.cell 1
    have c2 := D8.out.box.cell 2
    have c3 := D8.out.box.cell 3
    have r0 := D8.out.res.cell 0
    have r1 := D8.out.res.cell 1
    have r2 := D8.out.res.cell 2
    have r3 := D8.out.res.cell 3
    have f0 := D8.out.res.frozen 0
    have f1 := D8.out.res.frozen 1
    have f2 := D8.out.res.frozen 2
    have f3 := D8.out.res.frozen 3
    have g0 := D8.out.gb.cell 0
    have g1 := D8.out.gb.cell 1
    have g2 := D8.out.gb.cell 2
    have g3 := D8.out.gb.cell 3
    have h3 := D8.out.gb.frozen 3
    simp at c0 c1 c2 c3 r0 r1 r2 r3 g0 g1 g2 g3
    have hq0 : w.heap.size < W8.heap.size := D8.out.box.lt
    have hq1 : w.heap.size + 1 < W8.heap.size := D8.out.res.lt
    have hq2 : G < W8.heap.size := D8.out.gb.lt
    go_wp2
    exact bodyPost_ret (v := .tuple #[.agg (F4 s p m (.slice a' n cap')), .slice none 0 0, .int .i64 2]) (results_F3 rfl _ _ _ _ _ _ _ _ _ rfl rfl rfl (D8.out.finN (f := f) (t := t) (l0 := ls) 2 _ rfl).1) rfl ((D8.out.finN (f := f) (t := t) (l0 := ls) 2 _ rfl).2 HS.out)
  | false =>
  simp only [Bool.not_true, Bool.not_false, Act.put, List.setIfInBounds_toArray, List.set_cons_succ, List.set_cons_zero]
  repeat (go_big_quiet_step (first | (go_at_call 39; exact HC39.out _)))
  refine BigFrame.wpQuiet_want rfl fun K hK => quietNeq _ _ rfl y1 y2 y3 (-1) (-1) (-1) rfl rfl (hK _ ?_)
  rw [hdy]
  clear hK hdy
  cases tb with
  | true =>
    simp only [Bool.not_true, Bool.not_false, Act.put, List.setIfInBounds_toArray, List.set_cons_succ, List.set_cons_zero]
    repeat (go_big_quiet_step (fail))
    refine wpQuiet_nil ?_
    rintro _ ⟨W, rfl⟩
    have HS : Hid (ConS s p m f t ls ls [] 2) := .inr (.inl ⟨HCO.out, HBU.out.2 rfl, rfl, rfl, rfl⟩)
    obtain ⟨W8, hW8⟩ : ∃ W8, W.wd = W8 := ⟨_, rfl⟩
    have D8 : Hid (Ri s p m (.slice a n cap) G w W8 (.slice a' n cap') ls) := hW8 ▸ D7.out.below W.ok
    rw [hW8]
    clear hW8 W e0 e1 e2 e3 n0 n1 n2 ne HC38 HC39 D7
    have c0 := D8.out.box.cell 0
    have c1 := D8.out.box.cell 1
    have c2 := D8.out.box.cell 2
    have c3 := D8.out.box.cell 3
    have r0 := D8.out.res.cell 0
    have r1 := D8.out.res.cell 1
    have r2 := D8.out.res.cell 2
    have r3 := D8.out.res.cell 3
    have f0 := D8.out.res.frozen 0
    have f1 := D8.out.res.frozen 1
    have f2 := D8.out.res.frozen 2
    have f3 := D8.out.res.frozen 3
    have g0 := D8.out.gb.cell 0
    have g1 := D8.out.gb.cell 1
    have g2 := D8.out.gb.cell 2
    have g3 := D8.out.gb.cell 3
    have h3 := D8.out.gb.frozen 3
    simp at c0 c1 c2 c3 r0 r1 r2 r3 g0 g1 g2 g3
    have hq0 : w.heap.size < W8.heap.size := D8.out.box.lt
    have hq1 : w.heap.size + 1 < W8.heap.size := D8.out.res.lt
    have hq2 : G < W8.heap.size := D8.out.gb.lt
    go_wp2
    exact bodyPost_ret (v := .tuple #[.agg (F4 s p m (.slice a' n cap')), .slice none 0 0, .int .i64 2]) (results_F3 rfl _ _ _ _ _ _ _ _ _ rfl rfl rfl (D8.out.finN (f := f) (t := t) (l0 := ls) 2 _ rfl).1) rfl ((D8.out.finN (f := f) (t := t) (l0 := ls) 2 _ rfl).2 HS.out)
  | false =>
  simp only [Bool.not_true, Bool.not_false, Act.put, List.setIfInBounds_toArray, List.set_cons_succ, List.set_cons_zero]
  repeat (go_big_quiet_step (fail))
  refine wpQuiet_nil ?_
  rintro _ ⟨W, rfl⟩
  have HNB : Hid (¬ Busy f t ls) := fun h => by have := HBU.out.1 h; cases this
  obtain ⟨W8, hW8⟩ : ∃ W8, W.wd = W8 := ⟨_, rfl⟩
  have D8 : Hid (Ri s p m (.slice a n cap) G w W8 (.slice a' n cap') ls) := hW8 ▸ D7.out.below W.ok
  rw [hW8]
  clear hW8 W e0 e1 e2 e3 n0 n1 n2 ne HC38 HC39 D7
  have c0 := D8.out.box.cell 0
  have c1 := D8.out.box.cell 1
  have c2 := D8.out.box.cell 2
  have c3 := D8.out.box.cell 3
  have r0 := D8.out.res.cell 0
  have r1 := D8.out.res.cell 1
  have r2 := D8.out.res.cell 2
  have r3 := D8.out.res.cell 3
  have f0 := D8.out.res.frozen 0
  have f1 := D8.out.res.frozen 1
  have f2 := D8.out.res.frozen 2
  have f3 := D8.out.res.frozen 3
  have g0 := D8.out.gb.cell 0
  have g1 := D8.out.gb.cell 1
  have g2 := D8.out.gb.cell 2
  have g3 := D8.out.gb.cell 3
  have h3 := D8.out.gb.frozen 3
  simp at c0 c1 c2 c3 r0 r1 r2 r3 g0 g1 g2 g3
  have hq0 : w.heap.size < W8.heap.size := D8.out.box.lt
  have hq1 : w.heap.size + 1 < W8.heap.size := D8.out.res.lt
  have hq2 : G < W8.heap.size := D8.out.gb.lt
  clear HBU HTA HTB2
  go_wp2_with (fail)
  refine (mids_c s p m _ ls W8 (HRT.out.below D8.out.bel) HOK.out).mono ?_
  rintro e w9 ⟨rfl, b9⟩
  have D9 : Hid (Ri s p m (.slice a n cap) G w w9 (.slice a' n cap') ls) := D8.out.below b9
  clear D8 b9 c0 c1 c2 c3 r0 r1 r2 r3 f0 f1 f2 f3 g0 g1 g2 g3 h3 hq0 hq1 hq2
  have hp1 := HOK.out.2.1.1
  have hp4 := HOK.out.2.1.2
  obtain ⟨hm1, hm2⟩ := HOK.out.2.2.1
  have hp0 : p ≠ 0 := by omega
  obtain ⟨kx, hkx, hkx6⟩ : ∃ k : Nat, f / p = k ∧ k < 6 := by
    have h0 : 0 ≤ f / p := Int.ediv_nonneg hf0 (by omega)
    have h6 : f / p < 6 := Int.ediv_lt_of_lt_mul (by omega) (by have := HOK.out.1.2; have : s * p ≤ 6 * p := Int.mul_le_mul_of_nonneg_right this (by omega); omega)
    exact ⟨(f / p).toNat, by omega, by omega⟩
  obtain ⟨ky, hky, hky6⟩ : ∃ k : Nat, t / p = k ∧ k < 6 := by
    have h0 : 0 ≤ t / p := Int.ediv_nonneg ht0 (by omega)
    have h6 : t / p < 6 := Int.ediv_lt_of_lt_mul (by omega) (by have := HOK.out.1.2; have : s * p ≤ 6 * p := Int.mul_le_mul_of_nonneg_right this (by omega); omega)
    exact ⟨(t / p).toNat, by omega, by omega⟩
  obtain ⟨u, hu⟩ : ∃ u, usedOf (fun x => x.1 / p) ls = u := ⟨_, rfl⟩
  obtain ⟨u', hu'⟩ : ∃ u', usedOf (fun x => x.2.1 / p) ls = u' := ⟨_, rfl⟩
  have HU : Hid (usedOf (fun x => x.1 / p) ls = u ∧ usedOf (fun x => x.2.1 / p) ls = u') := ⟨hu, hu'⟩
  rw [hu, hu']
  obtain ⟨W10, hW10⟩ : ∃ W10, (w9.alloc (Obj.cells (U6 u) 64)).alloc (Obj.cells (U6 u') 64) = W10 := ⟨_, rfl⟩
  have HW10 : Hid ((w9.alloc (Obj.cells (U6 u) 64)).alloc (Obj.cells (U6 u') 64) = W10) := hW10
  have b10 : Below w9.heap.size w9 W10 := hW10 ▸ ((Below.refl _ _).alloc (Nat.le_refl _) _).alloc (by simp) _
  have D10 : Hid (Ri s p m (.slice a n cap) G w W10 (.slice a' n cap') ls) := D9.out.below b10
  have ku : Blk W10 w9.heap.size (U6 u) 64 := hW10 ▸ (Blk.new _ _ _).below ((Below.refl _ _).alloc (Nat.le_refl _) _) (by simp)
  have ku' : Blk W10 (w9.heap.size + 1) (U6 u') 64 := hW10 ▸ Blk.newAt _ (w9.heap.size + 1) _ 64 (by simp)
  have cu := (ku.cell kx).trans (U6_at u kx hkx6)
  have cu' := (ku'.cell ky).trans (U6_at u' ky hky6)
  have HKX : Hid (f / p = kx ∧ t / p = ky) := ⟨hkx, hky⟩
  clear hu hu' hW10 b10 ku ku' D9
  have e0 : ∀ W : Ov W10, W.wd.cell? ⟨w.heap.size, 0, none⟩ = some (.int .i64 s) := ov_cell (D10.out.box.cell 0)
  have e1 : ∀ W : Ov W10, W.wd.cell? ⟨w.heap.size, 1, none⟩ = some (.int .i64 p) := ov_cell (D10.out.box.cell 1)
  have e2 : ∀ W : Ov W10, W.wd.cell? ⟨w.heap.size, 2, none⟩ = some (.int .i64 m) := ov_cell (D10.out.box.cell 2)
  have e3 : ∀ W : Ov W10, W.wd.cell? ⟨w.heap.size, 3, none⟩ = some (.slice a n cap) := ov_cell (D10.out.box.cell 3)
  have n4 : ∀ W : Ov W10, W.wd.cell? ⟨w9.heap.size, kx, none⟩ = some (.int .u16 (u kx)) := ov_cell cu
  have n5 : ∀ W : Ov W10, W.wd.cell? ⟨w9.heap.size + 1, ky, none⟩ = some (.int .u16 (u' ky)) := ov_cell cu'
  have ne : Nonempty (Ov W10) := ⟨⟨_, Below.refl _ _⟩⟩
  clear cu cu'
  go_wp2
  rw [HW10.out]
  refine region_over (by kernel_rfl) (by kernel_rfl) ?_
  repeat (go_big_quiet_step (fail))
  refine wpQuiet_nil ?_
  rintro _ ⟨W, rfl⟩
  obtain ⟨M, rfl⟩ : ∃ M : Nat, m = M := ⟨m.toNat, by omega⟩
  obtain ⟨W11, hW11⟩ : ∃ W11, W.wd = W11 := ⟨_, rfl⟩
  have D11 : Hid (Ri s p M (.slice a n cap) G w W11 (.slice a' n cap') ls) := hW11 ▸ D10.out.below W.ok
  rw [hW11]
  clear hW11 W e0 e1 e2 e3 n4 n5 ne D10 HW10
  have hmid := HOK.out.mid0
  have hlf := lf_con (p := p) (M := M) (ps := ls) (f := f) (g := t) (fun x hx => (hmid x hx).1) HKX.out.1 HKX.out.2
  rw [HU.out.1, HU.out.2] at hlf
  obtain ⟨av, hav⟩ : ∃ av, aV p M ls f = av := ⟨_, rfl⟩
  obtain ⟨bv, hbv⟩ : ∃ bv, bV p M ls t = bv := ⟨_, rfl⟩
  obtain ⟨cv, hcv⟩ : ∃ cv, cV p M ls f t = cv := ⟨_, rfl⟩
  rw [hav, hbv, hcv] at hlf
  have HLF : Hid (lfV (u kx) M = av ∧ lfV (u' ky) M = bv ∧ lfV (u kx ||| u' ky) M = cv) := hlf
  have HV : Hid (aV p M ls f = av ∧ bV p M ls t = bv ∧ cV p M ls f t = cv) := ⟨hav, hbv, hcv⟩
  have hul : u kx < 65536 ∧ u' ky < 65536 := ⟨HU.out.1 ▸ usedOf_lt _ _ _ (fun x hx => (hmid x hx).2), HU.out.2 ▸ usedOf_lt _ _ _ (fun x hx => (hmid x hx).2)⟩
  have HUL : Hid (u kx < 65536 ∧ u' ky < 65536 ∧ u kx ||| u' ky < 65536) := ⟨hul.1, hul.2, (Nat.or_lt_two_pow (n := 16) hul.1 hul.2 : u kx ||| u' ky < 2 ^ 16)⟩
  have ha1 : -1 ≤ av := hav ▸ frV_ge _ _
  have hb1 : -1 ≤ bv := hbv ▸ frV_ge _ _
  have hc1' : -1 ≤ cv := hcv ▸ frV_ge _ _
  clear hmid hlf hav hbv hcv hul
  have HA41 : Hid (∀ W : Ov W11, Calls Tryd.prog 41 #[.int .u16 ((u kx : Nat) : Int), .agg (F4 s p M (.slice a n cap))] W.wd fun e w'' => e = .returned (.int .i64 av) ∧ ∃ W' : Ov W11, w'' = W'.wd) := fun W =>
    ov_call ((leastFree_v (u kx) HUL.out.1 s p M _ (by omega) W.wd (HTB.out.below (D11.out.bel.trans (W.ok.mono D11.out.bel.size)) HTB.out.lt)).mono fun e w'' ⟨h1, h2⟩ => ⟨by rw [h1, HLF.out.1], h2⟩)
  have HB41 : Hid (∀ W : Ov W11, Calls Tryd.prog 41 #[.int .u16 ((u' ky : Nat) : Int), .agg (F4 s p M (.slice a n cap))] W.wd fun e w'' => e = .returned (.int .i64 bv) ∧ ∃ W' : Ov W11, w'' = W'.wd) := fun W =>
    ov_call ((leastFree_v (u' ky) HUL.out.2.1 s p M _ (by omega) W.wd (HTB.out.below (D11.out.bel.trans (W.ok.mono D11.out.bel.size)) HTB.out.lt)).mono fun e w'' ⟨h1, h2⟩ => ⟨by rw [h1, HLF.out.2.1], h2⟩)
  have e0 : ∀ W : Ov W11, W.wd.cell? ⟨w.heap.size, 0, none⟩ = some (.int .i64 s) := ov_cell (D11.out.box.cell 0)
  have e1 : ∀ W : Ov W11, W.wd.cell? ⟨w.heap.size, 1, none⟩ = some (.int .i64 p) := ov_cell (D11.out.box.cell 1)
  have e2 : ∀ W : Ov W11, W.wd.cell? ⟨w.heap.size, 2, none⟩ = some (.int .i64 M) := ov_cell (D11.out.box.cell 2)
  have e3 : ∀ W : Ov W11, W.wd.cell? ⟨w.heap.size, 3, none⟩ = some (.slice a n cap) := ov_cell (D11.out.box.cell 3)
  have ne : Nonempty (Ov W11) := ⟨⟨_, Below.refl _ _⟩⟩
  go_wp2
  refine region_over (by kernel_rfl) (by kernel_rfl) ?_
  iterate 3 (go_big_quiet_step (first | (go_at_call 41; exact HA41.out _)))
  repeat (go_big_quiet_step (first | (go_at_call 41; exact HB41.out _)))
  refine wpQuiet_nil ?_
  rintro _ ⟨W, rfl⟩
  obtain ⟨W12, hW12⟩ : ∃ W12, W.wd = W12 := ⟨_, rfl⟩
  have D12 : Hid (Ri s p M (.slice a n cap) G w W12 (.slice a' n cap') ls) := hW12 ▸ D11.out.below W.ok
  rw [hW12]
  clear hW12 W e0 e1 e2 e3 ne D11 HA41 HB41
  have c0 := D12.out.box.cell 0
  have c1 := D12.out.box.cell 1
  have c2 := D12.out.box.cell 2
  have c3 := D12.out.box.cell 3
  have r0 := D12.out.res.cell 0
  have r1 := D12.out.res.cell 1
  have r2 := D12.out.res.cell 2
  have r3 := D12.out.res.cell 3
  have f0 := D12.out.res.frozen 0
  have f1 := D12.out.res.frozen 1
  have f2 := D12.out.res.frozen 2
  have f3 := D12.out.res.frozen 3
  have g0 := D12.out.gb.cell 0
  have g1 := D12.out.gb.cell 1
  have g2 := D12.out.gb.cell 2
  have g3 := D12.out.gb.cell 3
  have h3 := D12.out.gb.frozen 3
  simp at c0 c1 c2 c3 r0 r1 r2 r3 g0 g1 g2 g3
  have hq0 : w.heap.size < W12.heap.size := D12.out.box.lt
  have hq1 : w.heap.size + 1 < W12.heap.size := D12.out.res.lt
  have hq2 : G < W12.heap.size := D12.out.gb.lt
  by_cases hab : av = -1 ∨ bv = -1
  · have HS : Hid (ConS s p M f t ls ls [] 3) := .inr (.inr (.inr (.inl ⟨HCO.out, HNB.out, by rw [HV.out.2.2]; have := cV_neg (p := p) (m := M) (ps := ls) (f := f) (g := t) (by rw [HV.out.1, HV.out.2.1]; omega); rw [HV.out.2.2] at this; exact this, by rw [HV.out.1, HV.out.2.1]; omega, rfl, rfl, rfl⟩)))
    by_cases hA : av = -1
    · have hA2 : (av == -1) = true := by simp [hA]
      clear hab hA
      go_wp2
      exact bodyPost_ret (v := .tuple #[.agg (F4 s p M (.slice a' n cap')), .slice none 0 0, .int .i64 3]) (results_F3 rfl _ _ _ _ _ _ _ _ _ rfl rfl rfl (D12.out.finN (f := f) (t := t) (l0 := ls) 3 _ rfl).1) rfl ((D12.out.finN (f := f) (t := t) (l0 := ls) 3 _ rfl).2 HS.out)
    · have hA2 : (av == -1) = false := by simp [hA]
      have hB2 : (bv == -1) = true := by simp; omega
      clear hab hA
      go_wp2
      exact bodyPost_ret (v := .tuple #[.agg (F4 s p M (.slice a' n cap')), .slice none 0 0, .int .i64 3]) (results_F3 rfl _ _ _ _ _ _ _ _ _ rfl rfl rfl (D12.out.finN (f := f) (t := t) (l0 := ls) 3 _ rfl).1) rfl ((D12.out.finN (f := f) (t := t) (l0 := ls) 3 _ rfl).2 HS.out)
  · have hA2 : (av == -1) = false := by simp; omega
    have hB2 : (bv == -1) = false := by simp; omega
    have ha0 : 0 ≤ av := by omega
    have hb0 : 0 ≤ bv := by omega
    clear hab
    obtain ⟨oo, ho⟩ : ∃ o, u kx ||| u' ky = o := ⟨_, rfl⟩
    have hor := bits_or_u16_nat (u kx) (u' ky) HUL.out.1 HUL.out.2.1
    rw [ho] at hor
    have HOR : Hid (bits .or .u16 (u kx : Int) (u' ky : Int) = (oo : Int)) := hor
    have HOL : Hid (oo < 65536 ∧ lfV oo M = cv) := ⟨ho ▸ HUL.out.2.2, ho ▸ HLF.out.2.2⟩
    clear hor ho
    go_wp2_with (fail)
    rw [HOR.out]
    refine (leastFree_v oo HOL.out.1 s p M _ (by omega) W12 (HTB.out.below D12.out.bel HTB.out.lt)).mono ?_
    rintro e w13 ⟨rfl, b13⟩
    rw [HOL.out.2]
    have D13 : Hid (Ri s p M (.slice a n cap) G w w13 (.slice a' n cap') ls) := D12.out.below b13
    clear D12 b13 c0 c1 c2 c3 r0 r1 r2 r3 f0 f1 f2 f3 g0 g1 g2 g3 h3 hq0 hq1 hq2
    have c0 := D13.out.box.cell 0
    have c1 := D13.out.box.cell 1
    have c2 := D13.out.box.cell 2
    have c3 := D13.out.box.cell 3
    have r0 := D13.out.res.cell 0
    have r1 := D13.out.res.cell 1
    have r2 := D13.out.res.cell 2
    have r3 := D13.out.res.cell 3
    have f0 := D13.out.res.frozen 0
    have f1 := D13.out.res.frozen 1
    have f2 := D13.out.res.frozen 2
    have f3 := D13.out.res.frozen 3
    have g0 := D13.out.gb.cell 0
    have g1 := D13.out.gb.cell 1
    have g2 := D13.out.gb.cell 2
    have g3 := D13.out.gb.cell 3
    have h3 := D13.out.gb.frozen 3
    simp at c0 c1 c2 c3 r0 r1 r2 r3 g0 g1 g2 g3
    have hq0 : w.heap.size < w13.heap.size := D13.out.box.lt
    have hq1 : w.heap.size + 1 < w13.heap.size := D13.out.res.lt
    have hq2 : G < w13.heap.size := D13.out.gb.lt
    by_cases hcm : cv = -1
    · have hc2 : (cv == -1) = true := by simp [hcm]
      go_wp2_with (fail)
      have HCH := con_chains HOK.out (show cV p M ls f t < 0 by rw [HV.out.2.2]; omega) (show 0 ≤ aV p M ls f by rw [HV.out.1]; exact ha0) (show 0 ≤ bV p M ls t by rw [HV.out.2.1]; exact hb0)
      rw [HV.out.1, HV.out.2.1] at HCH
      have HCH' : Hid (ChOk p ls av bv true (ixV (outQ p (t / p) av) ls) ∧ ChOk p ls bv av false (ixV (inQ p (f / p) bv) ls)) := HCH
      clear HCH
      obtain ⟨S, hS⟩ : ∃ S : World → Prop, ∀ W, S W ↔ Below w13.heap.size w13 W := ⟨_, fun _ => Iff.rfl⟩
      have s0 : ∀ W : At S, W.wd.cell? ⟨w.heap.size, 0, none⟩ = some (.int .i64 s) := fun W => (((hS _).1 W.ok).cell D13.out.box.lt).trans (D13.out.box.cell 0)
      have s1 : ∀ W : At S, W.wd.cell? ⟨w.heap.size, 1, none⟩ = some (.int .i64 p) := fun W => (((hS _).1 W.ok).cell D13.out.box.lt).trans (D13.out.box.cell 1)
      have s2 : ∀ W : At S, W.wd.cell? ⟨w.heap.size, 2, none⟩ = some (.int .i64 M) := fun W => (((hS _).1 W.ok).cell D13.out.box.lt).trans (D13.out.box.cell 2)
      have s3 : ∀ W : At S, W.wd.cell? ⟨w.heap.size, 3, none⟩ = some (.slice a n cap) := fun W => (((hS _).1 W.ok).cell D13.out.box.lt).trans (D13.out.box.cell 3)
      have HSI : Hid (∀ W, Below w13.heap.size w13 W → S W) := fun W h => (hS W).2 h
      have ne1 : Nonempty (At S) := ⟨⟨_, HSI.out _ (Below.refl _ _)⟩⟩
      clear hS
      refine region_call [true, true, true, true, true, true, true, true, true, true, true, false, false, false, false, false, false] [false, false, false, false, false, false, false, false, false, false, false, false, true, true, true, true, true] 11 15 S (by kernel_rfl) (by kernel_rfl) rfl (fun _ _ _ _ _ h => h) (HSI.out _ (Below.refl _ _).drew) ?_
      simp only [selT]
      repeat (go_big_quiet_step (fail))
      refine wpQuiet_nil ?_
      clear s0 s1 s2 s3
      go_wp2_with (fail)
      have D14 : Hid (Ri s p M (.slice a n cap) G w w13.drew (.slice a' n cap') ls) := D13.out.below (Below.refl _ _).drew
      have hln := HOK.out.len
      have hch := HCH'.out
      rw [hkx, hky] at hch
      refine (shorter_c s p M _ ls kx ky av bv w13.drew (HRT.out.below D14.out.bel) HOK.out.inr hp1 hp4 (by omega) (HNP.out.1.below D14.out.bel HNP.out.2) hb0 hch.1 hch.2).mono ?_
      rintro e w15 ⟨K1, K2, mv, hk1, hk2, rfl, ho, b15⟩
      obtain ⟨ms, hms⟩ : ∃ ms, (if K2 < K1 then mvL p ls bv av false (ixV (inQ p kx bv) ls) K2 else mvL p ls av bv true (ixV (outQ p ky av) ls) K1) = ms := ⟨_, rfl⟩
      obtain ⟨mm, hmm⟩ : ∃ mm, (if K2 < K1 then bv else av) = mm := ⟨_, rfl⟩
      rw [hms] at ho
      rw [hmm]
      have hall : ∀ q ∈ ms, q.1 ∈ ls.map (·.1) := by
        rw [← hms]
        split
        · exact mvL_mem hch.2 hk2
        · exact mvL_mem hch.1 hk1
      have HAL : Hid (∀ q ∈ ms, q.1 ∈ ls.map (·.1)) := hall
      have HS : Hid (ConS s p M f t ls (movL ms ls ++ [(f, t, mm)]) ms 0) := .inr (.inr (.inr (.inr ⟨HCO.out, HNB.out, by rw [HV.out.2.2]; omega, by rw [HV.out.1, HV.out.2.1]; exact ⟨ha0, hb0⟩, K1, K2, by rw [HV.out.1, HV.out.2.1, HKX.out.2]; exact hk1, by rw [HV.out.1, HV.out.2.1, HKX.out.1]; exact hk2, by rw [HV.out.1, HV.out.2.1, mvs2, HKX.out.1, HKX.out.2]; exact hms.symm, by rw [HV.out.1, HV.out.2.1, hmm], rfl⟩)))
      have D15 : Hid (Ri s p M (.slice a n cap) G w w15 (.slice a' n cap') ls) := D14.out.below b15
      have hob : ∀ k, (Value.slice a' n cap').ownBlock = some k → k < w13.heap.size := fun k e => (World.ownsRow.lt D13.out.own k e).2
      have HMV : Hid (Op mf mg 74 (w.heap.size + 2) w15 mv ms ∧ (∀ k, (Value.slice a' n cap').ownBlock = some k → mv.ownBlock ≠ some k) ∧ mv.ownBlock ≠ some G) := by
        have hlo : ∀ k, mv.ownBlock = some k → w13.heap.size ≤ k := fun k e => (World.ownsRow.lt ho k e).1
        have hgl := D13.out.gb.lt
        refine ⟨Op.mono ho (by have := D13.out.ge; have : w13.drew.heap.size = w13.heap.size := rfl; omega), fun k e e2 => by have := hob k e; have := hlo k e2; omega, fun e => by have := hlo _ e; omega⟩
      have HSN : Hid (S w15) := HSI.out _ ((Below.refl _ _).drew.trans b15)
      clear hk1 hk2 ho b15 hms hmm hall hch hob D13 D14 HCH' HSI
      go_wp2
      refine ⟨HSN.out, ?_⟩
      repeat (go_big_quiet_step (fail))
      refine wpQuiet_nil ?_
      clear HSN ne1 S
      have gg3 := D15.out.gb.cell 3
      simp at gg3
      clear c0 c1 c2 c3 r0 r1 r2 r3 f0 f1 f2 f3 g0 g1 g2 g3 h3 hq0 hq1 hq2
      go_wp2_with (fail)
      refine (movePaths_c _ mv ls ms (w.heap.size + 2) w15 D15.out.own HMV.out.1.rd (by
        cases hx : mv.ownBlock with
        | none => exact .inl rfl
        | some k => exact .inr (fun e => HMV.out.2.1 k e.symm hx)) (by have := D15.out.ge; have := D15.out.gb.lt; omega) HOK.out.froms HAL.out).mono ?_
      rintro e w17 ⟨rfl, o17, g17⟩
      have D17 : Hid (Ri s p M (.slice a n cap) G w w17 (.slice a' n cap') (movL ms ls)) := D15.out.moved o17 g17
      have HMV' : Hid (Op mf mg 74 (w.heap.size + 2) w17 mv ms ∧ (∀ k, (Value.slice a' n cap').ownBlock = some k → mv.ownBlock ≠ some k) ∧ mv.ownBlock ≠ some G) := ⟨World.ownsRow.kept HMV.out.1 g17 (by
        cases hx : mv.ownBlock with
        | none => exact .inl rfl
        | some k => exact .inr (fun e => HMV.out.2.1 k e.symm hx)), HMV.out.2⟩
      clear HMV gg3 D15 o17 g17
      have HMV := HMV'
      clear HMV'
      obtain ⟨LM, hLM⟩ : ∃ LM, movL ms ls = LM := ⟨_, rfl⟩
      rw [hLM] at D17 HS
      have HLM : Hid (LM.length = ls.length) := by show LM.length = ls.length; rw [← hLM]; exact movL_len _ _
      clear hLM
      have c0 := D17.out.box.cell 0
      have c1 := D17.out.box.cell 1
      have c2 := D17.out.box.cell 2
      have c3 := D17.out.box.cell 3
      have r0 := D17.out.res.cell 0
      have r1 := D17.out.res.cell 1
      have r2 := D17.out.res.cell 2
      have r3 := D17.out.res.cell 3
      have f0 := D17.out.res.frozen 0
      have f1 := D17.out.res.frozen 1
      have f2 := D17.out.res.frozen 2
      have f3 := D17.out.res.frozen 3
      have g0 := D17.out.gb.cell 0
      have g1 := D17.out.gb.cell 1
      have g2 := D17.out.gb.cell 2
      have g3 := D17.out.gb.cell 3
      have h3 := D17.out.gb.frozen 3
      simp at c0 c1 c2 c3 r0 r1 r2 r3 g0 g1 g2 g3
      have hq0 : w.heap.size < w17.heap.size := D17.out.box.lt
      have hq1 : w.heap.size + 1 < w17.heap.size := D17.out.res.lt
      have hq2 : G < w17.heap.size := D17.out.gb.lt
      have HO1 := oneTri D17.out.own f t mm
      have HO : Hid (Ot 35 (w.heap.size + 2) (w17.alloc (Obj.cells (P3 f t mm) 35)) (.slice a' n cap') LM) := HO1.1
      have HR1 : Hid (Rt (w17.alloc (Obj.cells (P3 f t mm) 35)) (.slice (some ⟨w17.heap.size, 0, none⟩) 1 1) [(f, t, mm)]) := HO1.2
      have HLL : Hid (LM.length ≤ 4194304) := by show LM.length ≤ _; rw [HLM.out]; exact hn
      have hbs : w.heap.size + 2 ≤ (w17.alloc (Obj.cells (P3 f t mm) 35)).heap.size := by simp; omega
      clear HO1
      go_wp2_with (at_builtin; refine appTri rfl _ _ rfl (w.heap.size + 2) _ _ rfl HO.out _ _ rfl HR1.out (by have := HLL.out; simp only [List.length_cons, List.length_nil]; omega) hbs ?_)
      intro nv w18 ho14 hg14 hv14
      obtain ⟨mv5, mv6⟩ := mvs_app D17.out HMV.out.1 HMV.out.2.1 HMV.out.2.2 hg14 (by rw [show (w17.alloc (Obj.cells (P3 f t mm) 35)).heap.size = w17.heap.size + 1 by simp]; exact hv14)
      obtain ⟨⟨q1, q2⟩, q3, q4, q5, q6⟩ := D17.out.app ho14 hg14 (by rw [show (w17.alloc (Obj.cells (P3 f t mm) 35)).heap.size = w17.heap.size + 1 by simp]; exact hv14)
      have HX : Hid (Blk (w18.setCell ⟨G, 3, none⟩ nv) (w.heap.size + 1) (F4 0 0 0 (.slice none 0 0)) 26 ∧ Ot 35 (w.heap.size + 2) (w18.setCell ⟨G, 3, none⟩ nv) nv (LM ++ [(f, t, mm)]) ∧ Below w.heap.size w (w18.setCell ⟨G, 3, none⟩ nv) ∧ Op mf mg 74 (w.heap.size + 2) (w18.setCell ⟨G, 3, none⟩ nv) mv ms ∧ (∀ k, nv.ownBlock = some k → mv.ownBlock ≠ some k)) := ⟨q3, q5, q6, mv5, mv6⟩
      obtain ⟨an, cn, hnv, -, -, -⟩ := own_form ho14
      rw [show (LM ++ [(f, t, mm)]).length = n + 1 by simp [HLM.out, HN.out]] at hnv
      subst hnv
      clear c0 c1 c2 c3 r0 r1 r2 r3 f0 f1 f2 f3 g0 g1 g2 g3 h3 hq0 hq1 hq2 D17 ho14 hg14 hv14 HO HR1 hbs mv5 mv6 HMV
      have g0 := q1.cell 0
      have g1 := q1.cell 1
      have g2 := q1.cell 2
      have g3 := q1.cell 3
      have h3 := q1.frozen 3
      have r0 := q2.cell 0
      have r1 := q2.cell 1
      have r2 := q2.cell 2
      have r3 := q2.cell 3
      have f0 := q2.frozen 0
      have f1 := q2.frozen 1
      have f2 := q2.frozen 2
      have f3 := q2.frozen 3
      simp at g0 g1 g2 g3 r0 r1 r2 r3
      have hq1 : w.heap.size + 1 < w18.heap.size := q2.lt
      have hq2 : G < w18.heap.size := q1.lt
      have ng1 : ¬ (w.heap.size + 1 = G) := by omega
      have ng2 : ¬ (G = w.heap.size + 1) := by omega
      clear q1 q2 q3 q4 q5 q6
      have HFN : Hid (∀ W4, ((((w18.setCell ⟨G, 3, none⟩ (.slice an (n + 1) cn)).setCell ⟨w.heap.size + 1, 0, none⟩ (.int .i64 s)).setCell ⟨w.heap.size + 1, 1, none⟩ (.int .i64 p)).setCell ⟨w.heap.size + 1, 2, none⟩ (.int .i64 M)).setCell ⟨w.heap.size + 1, 3, none⟩ (.slice an (n + 1) cn) = W4 → Blk W4 (w.heap.size + 1) (F4 s p M (.slice an (n + 1) cn)) 26 ∧ ConR s p M f t ls w (.returned (.tuple #[.agg (F4 s p M (.slice an (n + 1) cn)), mv, .int .i64 0])) W4) := fun W4 e => by
        have := finX (f := f) (t := t) (l0 := ls) (mv := mv) (ms := ms) HX.out.1 HX.out.2.1 HX.out.2.2.1 HX.out.2.2.2.1 HX.out.2.2.2.2 0 W4 e
        exact ⟨this.1, this.2 HS.out⟩
      go_wp2
      exact bodyPost_ret (v := .tuple #[.agg (F4 s p M (.slice an (n + 1) cn)), mv, .int .i64 0]) (results_F3 rfl _ _ _ _ _ _ _ _ _ rfl rfl rfl (HFN.out _ rfl).1) rfl (HFN.out _ rfl).2
    · have hc2 : (cv == -1) = false := by simp [hcm]
      have hcp : 0 ≤ cv := by omega
      clear hcm
      have HO1 := oneTri D13.out.own f t cv
      have HO : Hid (Ot 35 (w.heap.size + 2) (w13.alloc (Obj.cells (P3 f t cv) 35)) (.slice a' n cap') ls) := HO1.1
      have HR1 : Hid (Rt (w13.alloc (Obj.cells (P3 f t cv) 35)) (.slice (some ⟨w13.heap.size, 0, none⟩) 1 1) [(f, t, cv)]) := HO1.2
      have HLL : Hid (ls.length ≤ 4194304) := hn
      have HS : Hid (ConS s p M f t ls (ls ++ [(f, t, cv)]) [] 0) := .inr (.inr (.inl ⟨HCO.out, HNB.out, by rw [HV.out.2.2]; exact hcp, by rw [HV.out.2.2], rfl, rfl⟩))
      have hbs : w.heap.size + 2 ≤ (w13.alloc (Obj.cells (P3 f t cv) 35)).heap.size := by simp; omega
      clear HO1
      go_wp2_with (at_builtin; refine appTri rfl _ _ rfl (w.heap.size + 2) _ _ rfl HO.out _ _ rfl HR1.out (by have := HLL.out; simp only [List.length_cons, List.length_nil]; omega) hbs ?_)
      intro nv w14 ho14 hg14 hv14
      obtain ⟨⟨q1, q2⟩, q3, q4, q5, q6⟩ := D13.out.app ho14 hg14 (by rw [show (w13.alloc (Obj.cells (P3 f t cv) 35)).heap.size = w13.heap.size + 1 by simp]; exact hv14)
      have HX : Hid (Blk (w14.setCell ⟨G, 3, none⟩ nv) (w.heap.size + 1) (F4 0 0 0 (.slice none 0 0)) 26 ∧ Ot 35 (w.heap.size + 2) (w14.setCell ⟨G, 3, none⟩ nv) nv (ls ++ [(f, t, cv)]) ∧ Below w.heap.size w (w14.setCell ⟨G, 3, none⟩ nv)) := ⟨q3, q5, q6⟩
      obtain ⟨an, cn, hnv, -, -, -⟩ := own_form ho14
      rw [show (ls ++ [(f, t, cv)]).length = n + 1 by simp [HN.out]] at hnv
      subst hnv
      clear c0 c1 c2 c3 r0 r1 r2 r3 f0 f1 f2 f3 g0 g1 g2 g3 h3 hq0 hq1 hq2 D13 ho14 hg14 hv14 HO HR1 hbs
      have g0 := q1.cell 0
      have g1 := q1.cell 1
      have g2 := q1.cell 2
      have g3 := q1.cell 3
      have h3 := q1.frozen 3
      have r0 := q2.cell 0
      have r1 := q2.cell 1
      have r2 := q2.cell 2
      have r3 := q2.cell 3
      have f0 := q2.frozen 0
      have f1 := q2.frozen 1
      have f2 := q2.frozen 2
      have f3 := q2.frozen 3
      simp at g0 g1 g2 g3 r0 r1 r2 r3
      have hq1 : w.heap.size + 1 < w14.heap.size := q2.lt
      have hq2 : G < w14.heap.size := q1.lt
      have ng1 : ¬ (w.heap.size + 1 = G) := by omega
      have ng2 : ¬ (G = w.heap.size + 1) := by omega
      clear q1 q2 q3 q4 q5 q6
      have HFN : Hid (∀ W4, ((((w14.setCell ⟨G, 3, none⟩ (.slice an (n + 1) cn)).setCell ⟨w.heap.size + 1, 0, none⟩ (.int .i64 s)).setCell ⟨w.heap.size + 1, 1, none⟩ (.int .i64 p)).setCell ⟨w.heap.size + 1, 2, none⟩ (.int .i64 M)).setCell ⟨w.heap.size + 1, 3, none⟩ (.slice an (n + 1) cn) = W4 → Blk W4 (w.heap.size + 1) (F4 s p M (.slice an (n + 1) cn)) 26 ∧ ConR s p M f t ls w (.returned (.tuple #[.agg (F4 s p M (.slice an (n + 1) cn)), .slice none 0 0, .int .i64 0])) W4) := fun W4 e => by
        have := finX (f := f) (t := t) (l0 := ls) (mv := .slice none 0 0) (ms := []) HX.out.1 HX.out.2.1 HX.out.2.2 (World.ownsRow_nil _ _ _ _) (fun k _ => by simp [Value.ownBlock]) 0 W4 e
        exact ⟨this.1, this.2 HS.out⟩
      go_wp2
      exact bodyPost_ret (v := .tuple #[.agg (F4 s p M (.slice an (n + 1) cn)), .slice none 0 0, .int .i64 0]) (results_F3 rfl _ _ _ _ _ _ _ _ _ rfl rfl rfl (HFN.out _ rfl).1) rfl (HFN.out _ rfl).2
end Go.Proofs.YtikhfeafbckjlaaDoor

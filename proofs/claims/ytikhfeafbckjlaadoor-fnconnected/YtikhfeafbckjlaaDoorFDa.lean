/- Any fabric drawn; no condition. -/
import Derived.Test.YtikhfeafbckjlaaDoorFDr
namespace Go.Proofs.YtikhfeafbckjlaaDoor
open Go.RowKit Go.ChangeShapes Go.WideShapes Go.ChangeAt
set_option linter.unusedVariables false
set_option linter.unusedSimpArgs false
set_option maxRecDepth 8000
theorem pickIn_c (g : Nat) (cv : Value) (zs : List Int) (v : Value) (ys : List Int) (w : World) (h : Dr w g cv zs) (hv : Rd .i64 w v ys) (hap : v.ownBlock = none ∨ v.ownBlock ≠ some g) (hl : 0 < ys.length) (hl2 : ys.length ≤ 1048576) :
   Calls Tryd.prog 58 #[.pointer (some ⟨g, 0, none⟩), v] w fun e w' => ∃ x : Int, e = .returned (.int .i64 x) ∧ x ∈ ys ∧ Dr w' g cv zs ∧ w.grownBy w' (some g) := by
  have hv' := hv
  obtain ⟨a, cap, rfl, h1, h2, h3⟩ := hv
  unfold maxLen at h2
  go_enter Tryd.func58, Tryd.ntmps58
  go_wp2_with fail
  refine (below_c g cv zs _ _ h (by omega)).mono ?_
  rintro e w1 ⟨x, rfl, x0, x1, x2, d1, g1⟩
  have x1' := x1 (by omega)
  obtain ⟨xn, rfl⟩ := Int.eq_ofNat_of_zero_le x0
  obtain ⟨a', cap', he, _, _, h3'⟩ := hv'.grown g1 hap
  simp only [Value.slice.injEq] at he
  obtain ⟨rfl, _, rfl⟩ := he
  rcases h3' with h3' | ⟨b, off, rfl, h4⟩
  · subst h3'; simp at hl
  have hc := h4 xn (by omega)
  have HM : Hid (ys.getD xn 0 ∈ ys) := by
    show ys.getD xn 0 ∈ ys
    rw [List.getD_eq_getElem?_getD, List.getElem?_eq_getElem (by omega)]
    exact List.getElem_mem _
  clear h3 h4 x1 x2 hv'
  go_wp2
  go_ret
  exact ⟨_, rfl, HM.out, d1, g1⟩
/-- what draws a fabric that need not be right -/
def DrG (g : Nat) (cv : Value) (zs : List Int) (w : World) (e : Ending) (w' : World) : Prop :=
  ∃ (s p m : Int) (V : Value) (ls : Tri), e = .returned (.agg (F4 s p m V)) ∧ (0 ≤ s ∧ s ≤ 7) ∧ (1 ≤ p ∧ p ≤ 4) ∧ (0 ≤ m ∧ m ≤ 13) ∧ ls.length ≤ 28 ∧ Ot 35 w.heap.size w' V ls ∧ Dr w' g cv zs ∧ w.grownBy w' (some g)
section
variable {g : Nat} {cv : Value} {zs : List Int} {w W W' : World} {b5 : Nat} {s p m : Int} {V : Value} {ls : Tri}
theorem Fd.app {nv : Value} {ls' : Tri} {o : Obj} (h : Fd g cv zs w b5 s p m V ls W) (ho : Ot 35 (w.heap.size + 1) W' nv ls') (hg : (W.alloc o).grownBy W' V.ownBlock) : (Blk W' b5 (F4 s p m V) 26 ∧ Blk W' w.heap.size (F4 0 0 0 (.slice none 0 0)) 26) ∧ Fd g cv zs w b5 s p m nv ls' (W'.setCell ⟨b5, 3, none⟩ nv) := by
  have hlt := h.lt
  have hgw := h.D0.lt
  have h1 : Fd g cv zs w b5 s p m V ls (W.alloc o) := h.below ((Below.refl _ _).alloc (Nat.le_refl _) _)
  have bx : Blk W' b5 (F4 s p m V) 26 := (hg.block _ h1.B.lt (fun e => (h1.ob _ e.symm).2 rfl)).trans h1.B
  have rs : Blk W' w.heap.size (F4 0 0 0 (.slice none 0 0)) 26 := (hg.block _ h1.R.lt (fun e => by have := (h1.ob _ e.symm).1; omega)).trans h1.R
  have gg : w.grownBy W' (some g) := ⟨hg.os.trans h1.G.os, hg.tape.trans h1.G.tape, hg.output.trans h1.G.output, Nat.le_trans h1.G.size hg.size, fun k hk hne => (hg.block k (Nat.lt_of_lt_of_le hk h1.G.size) (fun e => by have := (h1.ob _ e.symm).1; omega)).trans (h1.G.block k hk hne)⟩
  obtain ⟨i, hh, k, e1, e2⟩ := h1.D.cur
  have k' : Blk W' g #[cv, .int .i64 i, .int .i64 hh] 85 := (hg.block _ k.lt (fun e => by have := (h1.ob _ e.symm).1; omega)).trans k
  have hd : Dr W' g cv zs := h.D0.of gg ⟨i, hh, k', e1, e2⟩
  have hs := grown_set W' b5 3 nv
  have g2 := grown_new gg hs (by omega)
  refine ⟨⟨bx, rs⟩, h.D0, h.D0.of g2 ⟨i, hh, k'.other _ _ (by dsimp only; omega), e1, e2⟩, g2, rs.other _ _ (by dsimp only; omega), ?_, World.ownsRow.kept ho hs (.inr (fun e => ?_)), h.lt⟩
  · have := bx.set 3 nv
    simpa using this
  · rcases ho.2 with ⟨rfl, hn⟩ | ⟨g', cap, cur, rfl, hb, hg', -⟩
    · simp [Value.ownBlock] at e
    · simp [Value.ownBlock] at e
      subst e
      rw [Blk, hg'] at bx
      cases bx
theorem Fd.store {gv n cap : Nat} (h : Fd g cv zs w b5 s p m (.slice (some ⟨gv, 0, none⟩) n cap) ls W) (hn : ls.length = n) (i : Nat) (hi : i < ls.length) (z : Int) : Fd g cv zs w b5 s p m (.slice (some ⟨gv, 0, none⟩) n cap) (ls.set i (ls[i].1, ls[i].2.1, z)) (W.setCell ⟨gv, i * 3 + 2, none⟩ (.int .i64 z)) := by
  subst hn
  have hob := h.ob gv rfl
  have s1 := (World.ownsRow.stored h.O (i * 3 + 2) (.int .i64 z)).1
  rw [tr_set2 ls i hi z] at s1
  obtain ⟨d, g2⟩ := h.toD (grown_set W gv (i * 3 + 2) (.int .i64 z)) (by omega)
  exact ⟨h.D0, d, g2, h.R.other _ _ (by dsimp only; omega), h.B.other _ _ (by dsimp only; omega), by rw [Ot, List.length_set]; exact s1, h.lt⟩
end
set_option maxHeartbeats 12800000 in
theorem l3DrawAny_c (g : Nat) (cv : Value) (zs : List Int) (w : World) (h : Dr w g cv zs) :
   Calls Tryd.prog 34 #[.pointer (some ⟨g, 0, none⟩), cv] w (DrG g cv zs w) := by
  have h0 : Dr w g cv zs := h
  obtain ⟨W1, hW1⟩ : ∃ W1, w.alloc (Obj.cells (F4 0 0 0 (.slice none 0 0)) 26) = W1 := ⟨_, rfl⟩
  have b1 : Below w.heap.size w W1 := hW1 ▸ (Below.refl _ _).alloc (Nat.le_refl _) _
  have HD0 : Hid (Dr w g cv zs) := h0
  have HD1 : Hid (Dr W1 g cv zs) := h0.below b1
  have HG1 : Hid (w.grownBy W1 (some g)) := hW1 ▸ World.grownBy_alloc w _ _
  have HR1 : Hid (Blk W1 w.heap.size (F4 0 0 0 (.slice none 0 0)) 26) := hW1 ▸ Blk.new _ _ _
  have HW1 : Hid (w.alloc (Obj.cells (F4 0 0 0 (.slice none 0 0)) 26) = W1) := hW1
  have z1 : W1.heap.size = w.heap.size + 1 := by rw [← hW1]; simp
  have hgl := h0.lt
  obtain ⟨ac, cc, rfl, -⟩ := id h.rd
  obtain ⟨cv, hcv⟩ : ∃ cv, Value.slice ac zs.length cc = cv := ⟨_, rfl⟩
  rw [hcv] at HD0 HD1 ⊢
  clear b1 hW1 h h0 hcv
  go_enter Tryd.func34, Tryd.ntmps34
  go_wp2_with (fail)
  rw [HW1.out]
  refine (l3Draw_c g cv zs W1 HD1.out).mono ?_
  rintro e w2 ⟨s, p, m, V, ls, rfl, hs, hp, hm, hll, o2, d2, g2⟩
  rw [z1] at o2
  obtain ⟨av, cpv, hV, hcv1, hcv2, hcv3⟩ := own_form o2
  obtain ⟨ln, hln⟩ : ∃ ln, ls.length = ln := ⟨_, rfl⟩
  rw [hln] at hV hcv1 hcv3
  subst hV
  obtain ⟨W3, hW3⟩ : ∃ W3, w2.alloc (Obj.cells (F4 s p m (.slice av ln cpv)) 26) = W3 := ⟨_, rfl⟩
  obtain ⟨b5, hb5⟩ : ∃ b5, w2.heap.size = b5 := ⟨_, rfl⟩
  have b23 : Below w2.heap.size w2 W3 := hW3 ▸ (Below.refl _ _).alloc (Nat.le_refl _) _
  have hlt2 : w.heap.size < w2.heap.size := Nat.lt_of_lt_of_le HR1.out.lt g2.size
  have F3 : Hid (Fd g cv zs w b5 s p m (.slice av ln cpv) ls W3) := by
    refine ⟨HD0.out, d2.below b23, grown_trans (grown_trans HG1.out g2) (hW3 ▸ World.grownBy_alloc w2 _ _), ?_, ?_, o2.below b23, by omega⟩
    · exact Blk.below ((g2.block _ HR1.out.lt (fun e => by cases e; omega)).trans HR1.out) b23 hlt2
    · rw [← hb5]; exact hW3 ▸ Blk.new _ _ _
  have HW3 : Hid (w2.alloc (Obj.cells (F4 s p m (.slice av ln cpv)) 26) = W3) := hW3
  have HLN : Hid (ls.length = ln) := hln
  have hpb := hp
  clear hW3 b23 o2 d2 g2 HD0 HD1 HG1 HR1 HW1 hlt2 z1
  go_wp2_with (fail)
  rw [HW3.out]
  clear HW3 hb5
  refine (below_c g cv zs 25 W3 F3.out.D (by decide)).mono ?_
  rintro e w4 ⟨x, rfl, xa, xb, -, d', g'⟩
  have FX0 : Hid (Fd g cv zs w b5 s p m (.slice av ln cpv) ls w4) := F3.out.draw d' g'
  clear d' g' F3
  have c0 := FX0.out.B.cell 0
  have c1 := FX0.out.B.cell 1
  have c2 := FX0.out.B.cell 2
  have c3 := FX0.out.B.cell 3
  have f0 := FX0.out.B.frozen 0
  have f1 := FX0.out.B.frozen 1
  have f2 := FX0.out.B.frozen 2
  have f3 := FX0.out.B.frozen 3
  simp at c0 c1 c2 c3
  by_cases hx0 : x = 0
  · have hb0 : (x == 0) = true := by simp [hx0]
    obtain ⟨WX, hWX⟩ : ∃ WX, w4.alloc (Obj.cells #[.int .i64 0, .int .i64 1, .int .i64 12, .int .i64 13] 3) = WX := ⟨_, rfl⟩
    have bX : Below w4.heap.size w4 WX := hWX ▸ (Below.refl _ _).alloc (Nat.le_refl _) _
    have FX : Hid (Fd g cv zs w b5 s p m (.slice av ln cpv) ls WX) := FX0.out.below bX
    have kX : Blk WX w4.heap.size #[.int .i64 0, .int .i64 1, .int .i64 12, .int .i64 13] 3 := hWX ▸ Blk.new _ _ _
    have HRX : Hid (Rd .i64 WX (.slice (some ⟨w4.heap.size, 0, none⟩) 4 4) [0, 1, 12, 13]) := by
      refine ⟨_, 4, rfl, by decide, by decide, .inr ⟨_, 0, rfl, fun i hi => ?_⟩⟩
      have hi4 : i < 4 := hi
      match i, hi4 with
      | 0, _ => exact kX.cell 0
      | 1, _ => exact kX.cell 1
      | 2, _ => exact kX.cell 2
      | 3, _ => exact kX.cell 3
    have hgx : g < w4.heap.size := FX0.out.D.lt
    have HWX : Hid (w4.alloc (Obj.cells #[.int .i64 0, .int .i64 1, .int .i64 12, .int .i64 13] 3) = WX) := hWX
    clear hWX bX kX FX0
    go_wp2_with (fail)
    rw [HWX.out]
    refine (pickIn_c g cv zs _ _ WX FX.out.D HRX.out (.inr (by simp [Value.ownBlock]; omega)) (by decide) (by decide)).mono ?_
    rintro e w5 ⟨y, rfl, ym, d', g'⟩
    have FY : Hid (Fd g cv zs w b5 s p m (.slice av ln cpv) ls w5) := FX.out.draw d' g'
    have FZ : Hid (Fd g cv zs w b5 s p y (.slice av ln cpv) ls (w5.setCell ⟨b5, 2, none⟩ (.int .i64 y))) := FY.out.setMid y
    have hyb : 0 ≤ y ∧ y ≤ 13 := by
      simp at ym
      omega
    clear ym d' g' FX HRX HWX
    clear c0 c1 c2 c3 f0 f1 f2 f3
    have c0 := FY.out.B.cell 0
    have c1 := FY.out.B.cell 1
    have c2 := FY.out.B.cell 2
    have c3 := FY.out.B.cell 3
    have f0 := FY.out.B.frozen 0
    have f1 := FY.out.B.frozen 1
    have f2 := FY.out.B.frozen 2
    have f3 := FY.out.B.frozen 3
    simp at c0 c1 c2 c3
    obtain ⟨W6, hW6⟩ : ∃ W6, w5.setCell ⟨b5, 2, none⟩ (.int .i64 y) = W6 := ⟨_, rfl⟩
    rw [hW6] at FZ
    have HW6 : Hid (w5.setCell ⟨b5, 2, none⟩ (.int .i64 y) = W6) := hW6
    clear hW6
    have d0 := FY.out.R.cell 0
    have d1 := FY.out.R.cell 1
    have d2 := FY.out.R.cell 2
    have d3 := FY.out.R.cell 3
    have e0 := FY.out.R.frozen 0
    have e1 := FY.out.R.frozen 1
    have e2 := FY.out.R.frozen 2
    have e3 := FY.out.R.frozen 3
    simp at d0 d1 d2 d3
    have hbl := FY.out.lt
    have hnb : ¬ (w.heap.size = b5) := by omega
    have hnb' : ¬ (b5 = w.heap.size) := by omega
    have HF : Hid (∀ W4, ((((w5.setCell ⟨b5, 2, none⟩ (.int .i64 y)).setCell ⟨w.heap.size, 0, none⟩ (.int .i64 s)).setCell ⟨w.heap.size, 1, none⟩ (.int .i64 p)).setCell ⟨w.heap.size, 2, none⟩ (.int .i64 y)).setCell ⟨w.heap.size, 3, none⟩ (.slice av ln cpv) = W4 → Blk W4 w.heap.size (F4 s p y (.slice av ln cpv)) 26 ∧ Ot 35 w.heap.size W4 (.slice av ln cpv) ls ∧ Dr W4 g cv zs ∧ w.grownBy W4 (some g)) := by
      show ∀ W4, _ → _
      rw [HW6.out]
      exact FZ.out.fin
    have hlb : ls.length ≤ 28 := by omega
    have hsb : 0 ≤ s ∧ s ≤ 7 := by omega
    have hmb : 0 ≤ y ∧ y ≤ 13 := by omega
    clear FY FZ HW6
    go_wp2
    exact bodyPost_ret (v := .agg (F4 s p y (.slice av ln cpv))) (results_cell_row rfl _ _ _ 26 _ (0, 0) _ rfl (HF.out _ rfl).1 Tryd.underlying26 rfl size29) rfl ⟨s, p, y, _, _, rfl, hsb, hpb, hmb, hlb, (HF.out _ rfl).2⟩
  by_cases hx1 : x = 1
  · have hb0 : (x == 0) = false := by simp [hx0]
    have hb1 : (x == 1) = true := by simp [hx1]
    obtain ⟨WX, hWX⟩ : ∃ WX, w4.alloc (Obj.cells #[.int .i64 0, .int .i64 1, .int .i64 6, .int .i64 7] 3) = WX := ⟨_, rfl⟩
    have bX : Below w4.heap.size w4 WX := hWX ▸ (Below.refl _ _).alloc (Nat.le_refl _) _
    have FX : Hid (Fd g cv zs w b5 s p m (.slice av ln cpv) ls WX) := FX0.out.below bX
    have kX : Blk WX w4.heap.size #[.int .i64 0, .int .i64 1, .int .i64 6, .int .i64 7] 3 := hWX ▸ Blk.new _ _ _
    have HRX : Hid (Rd .i64 WX (.slice (some ⟨w4.heap.size, 0, none⟩) 4 4) [0, 1, 6, 7]) := by
      refine ⟨_, 4, rfl, by decide, by decide, .inr ⟨_, 0, rfl, fun i hi => ?_⟩⟩
      have hi4 : i < 4 := hi
      match i, hi4 with
      | 0, _ => exact kX.cell 0
      | 1, _ => exact kX.cell 1
      | 2, _ => exact kX.cell 2
      | 3, _ => exact kX.cell 3
    have hgx : g < w4.heap.size := FX0.out.D.lt
    have HWX : Hid (w4.alloc (Obj.cells #[.int .i64 0, .int .i64 1, .int .i64 6, .int .i64 7] 3) = WX) := hWX
    clear hWX bX kX FX0
    go_wp2_with (fail)
    rw [HWX.out]
    refine (pickIn_c g cv zs _ _ WX FX.out.D HRX.out (.inr (by simp [Value.ownBlock]; omega)) (by decide) (by decide)).mono ?_
    rintro e w5 ⟨y, rfl, ym, d', g'⟩
    have FY : Hid (Fd g cv zs w b5 s p m (.slice av ln cpv) ls w5) := FX.out.draw d' g'
    have FZ : Hid (Fd g cv zs w b5 y p m (.slice av ln cpv) ls (w5.setCell ⟨b5, 0, none⟩ (.int .i64 y))) := FY.out.setSides y
    have hyb : 0 ≤ y ∧ y ≤ 7 := by
      simp at ym
      omega
    clear ym d' g' FX HRX HWX
    clear c0 c1 c2 c3 f0 f1 f2 f3
    have c0 := FY.out.B.cell 0
    have c1 := FY.out.B.cell 1
    have c2 := FY.out.B.cell 2
    have c3 := FY.out.B.cell 3
    have f0 := FY.out.B.frozen 0
    have f1 := FY.out.B.frozen 1
    have f2 := FY.out.B.frozen 2
    have f3 := FY.out.B.frozen 3
    simp at c0 c1 c2 c3
    obtain ⟨W6, hW6⟩ : ∃ W6, w5.setCell ⟨b5, 0, none⟩ (.int .i64 y) = W6 := ⟨_, rfl⟩
    rw [hW6] at FZ
    have HW6 : Hid (w5.setCell ⟨b5, 0, none⟩ (.int .i64 y) = W6) := hW6
    clear hW6
    have d0 := FY.out.R.cell 0
    have d1 := FY.out.R.cell 1
    have d2 := FY.out.R.cell 2
    have d3 := FY.out.R.cell 3
    have e0 := FY.out.R.frozen 0
    have e1 := FY.out.R.frozen 1
    have e2 := FY.out.R.frozen 2
    have e3 := FY.out.R.frozen 3
    simp at d0 d1 d2 d3
    have hbl := FY.out.lt
    have hnb : ¬ (w.heap.size = b5) := by omega
    have hnb' : ¬ (b5 = w.heap.size) := by omega
    have HF : Hid (∀ W4, ((((w5.setCell ⟨b5, 0, none⟩ (.int .i64 y)).setCell ⟨w.heap.size, 0, none⟩ (.int .i64 y)).setCell ⟨w.heap.size, 1, none⟩ (.int .i64 p)).setCell ⟨w.heap.size, 2, none⟩ (.int .i64 m)).setCell ⟨w.heap.size, 3, none⟩ (.slice av ln cpv) = W4 → Blk W4 w.heap.size (F4 y p m (.slice av ln cpv)) 26 ∧ Ot 35 w.heap.size W4 (.slice av ln cpv) ls ∧ Dr W4 g cv zs ∧ w.grownBy W4 (some g)) := by
      show ∀ W4, _ → _
      rw [HW6.out]
      exact FZ.out.fin
    have hlb : ls.length ≤ 28 := by omega
    have hsb : 0 ≤ y ∧ y ≤ 7 := by omega
    have hmb : 0 ≤ m ∧ m ≤ 13 := by omega
    clear FY FZ HW6
    go_wp2
    exact bodyPost_ret (v := .agg (F4 y p m (.slice av ln cpv))) (results_cell_row rfl _ _ _ 26 _ (0, 0) _ rfl (HF.out _ rfl).1 Tryd.underlying26 rfl size29) rfl ⟨y, p, m, _, _, rfl, hsb, hpb, hmb, hlb, (HF.out _ rfl).2⟩
  have hb0 : (x == 0) = false := by simp [hx0]
  have hb1 : (x == 1) = false := by simp [hx1]
  by_cases hx2 : x = 2
  · have hb2 : (x == 2) = true := by simp [hx2]
    clear c0 c1 c2 c3 f0 f1 f2 f3
    have c0 := FX0.out.B.cell 0
    have c1 := FX0.out.B.cell 1
    have c2 := FX0.out.B.cell 2
    have c3 := FX0.out.B.cell 3
    have f0 := FX0.out.B.frozen 0
    have f1 := FX0.out.B.frozen 1
    have f2 := FX0.out.B.frozen 2
    have f3 := FX0.out.B.frozen 3
    simp at c0 c1 c2 c3
    go_wp2
    clear c0 c1 c2 c3 f0 f1 f2 f3
    obtain ⟨S, hS⟩ : ∃ S : World → Prop, ∀ W, S W ↔ (W.cell? ⟨b5, 2, none⟩ = some (.int .i64 m) ∧ W.cell? ⟨b5, 3, none⟩ = some (.slice av ln cpv)) := ⟨_, fun _ => Iff.rfl⟩
    have y2 : ∀ W : At S, W.wd.cell? ⟨b5, 2, none⟩ = some (.int .i64 m) := fun W => ((hS _).1 W.ok).1
    have y3 : ∀ W : At S, W.wd.cell? ⟨b5, 3, none⟩ = some (.slice av ln cpv) := fun W => ((hS _).1 W.ok).2
    have HSI : Hid (∀ W, Blk W b5 (F4 s p m (.slice av ln cpv)) 26 → S W) := fun W h => (hS W).2 ⟨by have := h.cell 2; simpa using this, by have := h.cell 3; simpa using this⟩
    have HSD : Hid (S w4.drew) := HSI.out _ (FX0.out.below (Below.refl _ _).drew).B
    have ne1 : Nonempty (At S) := ⟨⟨_, HSD.out⟩⟩
    clear hS
    refine region_mixA [true, true, true, false, true, false, true, true, true, true, false, false, false, false, false, false] 14 6 S (by kernel_rfl) rfl (by kernel_rfl) (fun _ _ _ _ _ h => h) HSD.out ?_
    simp only [selT, selF]
    repeat (go_big_quiet_step (fail))
    refine wpQuiet_nil ?_
    clear y2 y3 ne1 HSD
    have FA : Hid (Fd g cv zs w b5 s p m (.slice av ln cpv) ls w4.drew) := FX0.out.below (Below.refl _ _).drew
    obtain ⟨w5, hw5⟩ : ∃ x, w4.drew = x := ⟨_, rfl⟩
    rw [hw5] at FA ⊢
    clear hw5 FX0
    refine tail_step ?_
    go_wp2_with (fail)
    refine (below_c g cv zs 9 w5 FA.out.D (by omega)).mono ?_
    rintro e w6 ⟨x1, rfl, x1a, x1b, -, d', g'⟩
    have FB : Hid (Fd g cv zs w b5 s p m (.slice av ln cpv) ls w6) := FA.out.draw d' g'
    have HSFB : Hid (S w6) := HSI.out _ FB.out.B
    clear d' g' FA
    go_wp2
    refine ⟨HSFB.out, tail_step ?_⟩
    clear HSFB
    go_wp2_with (fail)
    refine (below_c g cv zs 9 w6 FB.out.D (by omega)).mono ?_
    rintro e w7 ⟨x2, rfl, x2a, x2b, -, d', g'⟩
    have FC : Hid (Fd g cv zs w b5 s p m (.slice av ln cpv) ls w7) := FB.out.draw d' g'
    have HSFC : Hid (S w7) := HSI.out _ FC.out.B
    clear d' g' FB
    go_wp2
    refine ⟨HSFC.out, tail_step ?_⟩
    clear HSFC
    go_wp2_with (fail)
    refine (below_c g cv zs (m + 1) w7 FC.out.D (by omega)).mono ?_
    rintro e w8 ⟨x3, rfl, x3a, x3b, -, d', g'⟩
    have FE : Hid (Fd g cv zs w b5 s p m (.slice av ln cpv) ls w8) := FC.out.draw d' g'
    have HSFE : Hid (S w8) := HSI.out _ FE.out.B
    clear d' g' FC
    go_wp2
    refine ⟨HSFE.out, tail_step ?_⟩
    clear HSFE
    have HSE : Hid (S w8) := HSI.out _ FE.out.B
    go_wp2
    refine ⟨HSE.out, tail_step ?_⟩
    clear HSE
    have HO1 := oneTri FE.out.O x1 x2 x3
    obtain ⟨WX, hWX⟩ : ∃ WX, w8.alloc (Obj.cells (P3 x1 x2 x3) 35) = WX := ⟨_, rfl⟩
    rw [hWX] at HO1
    have HO : Hid (Ot 35 (w.heap.size + 1) WX (.slice av ln cpv) ls) := HO1.1
    have HRX : Hid (Rt WX (.slice (some ⟨w8.heap.size, 0, none⟩) 1 1) [(x1, x2, x3)]) := HO1.2
    have HWX : Hid (w8.alloc (Obj.cells (P3 x1 x2 x3) 35) = WX) := hWX
    have FX : Hid (Fd g cv zs w b5 s p m (.slice av ln cpv) ls WX) := FE.out.below (hWX ▸ (Below.refl _ _).alloc (Nat.le_refl _) _)
    have HSX : Hid (S WX) := HSI.out _ FX.out.B
    have hbs : w.heap.size + 1 ≤ WX.heap.size := by have := FX.out.R.lt; omega
    clear HO1 hWX
    go_wp2
    rw [HWX.out]
    refine ⟨HSX.out, tail_step ?_⟩
    clear HSX
    go_wp2_with (at_builtin; refine appTri rfl _ _ rfl (w.heap.size + 1) _ _ rfl HO.out _ _ rfl HRX.out (by have := HLN.out; simp only [List.length_cons, List.length_nil]; omega) hbs ?_)
    intro nv w9 ho9 hg9 hv9
    rw [← HWX.out] at hg9
    obtain ⟨⟨bx, rs⟩, FN'⟩ := FE.out.app ho9 hg9
    obtain ⟨an, cn, hnv, -, -, -⟩ := own_form ho9
    rw [show (ls ++ [(x1, x2, x3)]).length = ln + 1 by simp [HLN.out]] at hnv
    subst hnv
    have FN : Hid (Fd g cv zs w b5 s p m (.slice an (ln + 1) cn) (ls ++ [(x1, x2, x3)]) (w9.setCell ⟨b5, 3, none⟩ (.slice an (ln + 1) cn))) := FN'
    have HS9 : Hid (S w9) := HSI.out _ bx
    have c0 := bx.cell 0
    have c1 := bx.cell 1
    have c2 := bx.cell 2
    have c3 := bx.cell 3
    have f3 := bx.frozen 3
    simp at c0 c1 c2 c3
    have d0 := rs.cell 0
    have d1 := rs.cell 1
    have d2 := rs.cell 2
    have d3 := rs.cell 3
    have e0 := rs.frozen 0
    have e1 := rs.frozen 1
    have e2 := rs.frozen 2
    have e3 := rs.frozen 3
    simp at d0 d1 d2 d3
    have hbl := FN.out.lt
    have hnb : ¬ (w.heap.size = b5) := by omega
    have hnb' : ¬ (b5 = w.heap.size) := by omega
    have HF : Hid (∀ W4, ((((w9.setCell ⟨b5, 3, none⟩ (.slice an (ln + 1) cn)).setCell ⟨w.heap.size, 0, none⟩ (.int .i64 s)).setCell ⟨w.heap.size, 1, none⟩ (.int .i64 p)).setCell ⟨w.heap.size, 2, none⟩ (.int .i64 m)).setCell ⟨w.heap.size, 3, none⟩ (.slice an (ln + 1) cn) = W4 → Blk W4 w.heap.size (F4 s p m (.slice an (ln + 1) cn)) 26 ∧ Ot 35 w.heap.size W4 (.slice an (ln + 1) cn) (ls ++ [(x1, x2, x3)]) ∧ Dr W4 g cv zs ∧ w.grownBy W4 (some g)) := FN.out.fin
    have hlb : (ls ++ [(x1, x2, x3)]).length ≤ 28 := by simp [HLN.out]; omega
    have hsb : 0 ≤ s ∧ s ≤ 7 := by omega
    have hmb : 0 ≤ m ∧ m ≤ 13 := by omega
    clear ho9 hg9 hv9 FN' bx rs HO HRX HWX FX FE HSI FN
    go_wp2
    refine ⟨HS9.out, tail_end ?_⟩
    clear HS9
    go_wp2
    exact bodyPost_ret (v := .agg (F4 s p m (.slice an (ln + 1) cn))) (results_cell_row rfl _ _ _ 26 _ (0, 0) _ rfl (HF.out _ rfl).1 Tryd.underlying26 rfl size29) rfl ⟨s, p, m, _, _, rfl, hsb, hpb, hmb, hlb, (HF.out _ rfl).2⟩
  have hb2 : (x == 2) = false := by simp [hx2]
  by_cases hx3 : x = 3
  · have hb3 : (x == 3) = true := by simp [hx3]
    by_cases hl0 : ln = 0
    · subst hl0
      clear c0 c1 c2 c3 f0 f1 f2 f3
      have c0 := FX0.out.B.cell 0
      have c1 := FX0.out.B.cell 1
      have c2 := FX0.out.B.cell 2
      have c3 := FX0.out.B.cell 3
      have f0 := FX0.out.B.frozen 0
      have f1 := FX0.out.B.frozen 1
      have f2 := FX0.out.B.frozen 2
      have f3 := FX0.out.B.frozen 3
      simp at c0 c1 c2 c3
      have d0 := FX0.out.R.cell 0
      have d1 := FX0.out.R.cell 1
      have d2 := FX0.out.R.cell 2
      have d3 := FX0.out.R.cell 3
      have e0 := FX0.out.R.frozen 0
      have e1 := FX0.out.R.frozen 1
      have e2 := FX0.out.R.frozen 2
      have e3 := FX0.out.R.frozen 3
      simp at d0 d1 d2 d3
      have hbl := FX0.out.lt
      have hnb : ¬ (w.heap.size = b5) := by omega
      have hnb' : ¬ (b5 = w.heap.size) := by omega
      have HF : Hid (∀ W4, (((w4.setCell ⟨w.heap.size, 0, none⟩ (.int .i64 s)).setCell ⟨w.heap.size, 1, none⟩ (.int .i64 p)).setCell ⟨w.heap.size, 2, none⟩ (.int .i64 m)).setCell ⟨w.heap.size, 3, none⟩ (.slice av 0 cpv) = W4 → Blk W4 w.heap.size (F4 s p m (.slice av 0 cpv)) 26 ∧ Ot 35 w.heap.size W4 (.slice av 0 cpv) ls ∧ Dr W4 g cv zs ∧ w.grownBy W4 (some g)) := FX0.out.fin
      have hsb : 0 ≤ s ∧ s ≤ 7 := by omega
      have hmb : 0 ≤ m ∧ m ≤ 13 := by omega
      have hlb : (ls).length ≤ 28 := by omega
      clear FX0
      go_wp2
      exact bodyPost_ret (v := .agg (F4 s p m (.slice av 0 cpv))) (results_cell_row rfl _ _ _ 26 _ (0, 0) _ rfl (HF.out _ rfl).1 Tryd.underlying26 rfl size29) rfl ⟨s, p, m, _, _, rfl, hsb, hpb, hmb, hlb, (HF.out _ rfl).2⟩
    obtain ⟨gv, rfl⟩ : ∃ gv, av = some ⟨gv, 0, none⟩ := by
      rcases hcv3 with h | h
      · omega
      · exact h
    have hl1 : 0 < ln := by omega
    have hl2 : (0 : Int) < (ln : Int) := by omega
    clear c0 c1 c2 c3 f0 f1 f2 f3
    have c0 := FX0.out.B.cell 0
    have c1 := FX0.out.B.cell 1
    have c2 := FX0.out.B.cell 2
    have c3 := FX0.out.B.cell 3
    have f0 := FX0.out.B.frozen 0
    have f1 := FX0.out.B.frozen 1
    have f2 := FX0.out.B.frozen 2
    have f3 := FX0.out.B.frozen 3
    simp at c0 c1 c2 c3
    go_wp2
    clear c0 c1 c2 c3 f0 f1 f2 f3
    obtain ⟨S, hS⟩ : ∃ S : World → Prop, ∀ W, S W ↔ (W.cell? ⟨b5, 2, none⟩ = some (.int .i64 m) ∧ W.cell? ⟨b5, 3, none⟩ = some (.slice (some ⟨gv, 0, none⟩) ln cpv)) := ⟨_, fun _ => Iff.rfl⟩
    have y2 : ∀ W : At S, W.wd.cell? ⟨b5, 2, none⟩ = some (.int .i64 m) := fun W => ((hS _).1 W.ok).1
    have y3 : ∀ W : At S, W.wd.cell? ⟨b5, 3, none⟩ = some (.slice (some ⟨gv, 0, none⟩) ln cpv) := fun W => ((hS _).1 W.ok).2
    have HSI : Hid (∀ W, Blk W b5 (F4 s p m (.slice (some ⟨gv, 0, none⟩) ln cpv)) 26 → S W) := fun W h => (hS W).2 ⟨by have := h.cell 2; simpa using this, by have := h.cell 3; simpa using this⟩
    have HSD : Hid (S w4.drew) := HSI.out _ (FX0.out.below (Below.refl _ _).drew).B
    have ne1 : Nonempty (At S) := ⟨⟨_, HSD.out⟩⟩
    clear hS
    refine region_mixA [true, true, true, true, true, true, false, false, false, false, false] 8 2 S (by kernel_rfl) rfl (by kernel_rfl) (fun _ _ _ _ _ h => h) HSD.out ?_
    simp only [selT, selF]
    repeat (go_big_quiet_step (fail))
    refine wpQuiet_nil ?_
    clear y2 y3 ne1 HSD
    have FA : Hid (Fd g cv zs w b5 s p m (.slice (some ⟨gv, 0, none⟩) ln cpv) ls w4.drew) := FX0.out.below (Below.refl _ _).drew
    obtain ⟨w5, hw5⟩ : ∃ x, w4.drew = x := ⟨_, rfl⟩
    rw [hw5] at FA ⊢
    clear hw5 FX0
    refine tail_step ?_
    go_wp2_with (fail)
    refine (below_c g cv zs (m + 2) w5 FA.out.D (by omega)).mono ?_
    rintro e w6 ⟨x1, rfl, x1a, x1b, -, d', g'⟩
    have FB : Hid (Fd g cv zs w b5 s p m (.slice (some ⟨gv, 0, none⟩) ln cpv) ls w6) := FA.out.draw d' g'
    have HSFB : Hid (S w6) := HSI.out _ FB.out.B
    clear d' g' FA
    go_wp2
    refine ⟨HSFB.out, tail_step ?_⟩
    clear HSFB
    have HSE : Hid (S w6) := HSI.out _ FB.out.B
    go_wp2
    refine ⟨HSE.out, tail_end ?_⟩
    clear HSE HSI
    have hil : 0 < ls.length := by rw [HLN.out]; exact hl1
    have hO : w6.ownsRow (w.heap.size + 1) 35 3 (.slice (some ⟨gv, 0, none⟩) ln cpv) ln (tr ls) := by have := FB.out.O; rw [Ot, HLN.out] at this; exact this
    have hpt := tr_at ls 0 hil
    obtain ⟨u2, q2⟩ : ∃ u, w6.cell? ⟨gv, 2, none⟩ = some (.int .i64 u) := ⟨_, (by have := (World.ownsRow.cellAt hO (0 * 3 + 2) (by omega)).trans hpt.2.2; simpa using this)⟩
    have g2 := World.ownsRow.frozenAt hO 2
    have FN : Hid (Fd g cv zs w b5 s p m (.slice (some ⟨gv, 0, none⟩) ln cpv) (ls.set 0 (ls[0].1, ls[0].2.1, x1 - 1)) (w6.setCell ⟨gv, 2, none⟩ (.int .i64 (x1 - 1)))) := by
      have h9 := FB.out.store HLN.out 0 hil (x1 - 1)
      rw [show 0 * 3 + 2 = 2 from rfl] at h9
      exact h9
    have hgb := FB.out.ob gv rfl
    have c0 := FB.out.B.cell 0
    have c1 := FB.out.B.cell 1
    have c2 := FB.out.B.cell 2
    have c3 := FB.out.B.cell 3
    have f0 := FB.out.B.frozen 0
    have f1 := FB.out.B.frozen 1
    have f2 := FB.out.B.frozen 2
    have f3 := FB.out.B.frozen 3
    simp at c0 c1 c2 c3
    have d0 := FB.out.R.cell 0
    have d1 := FB.out.R.cell 1
    have d2 := FB.out.R.cell 2
    have d3 := FB.out.R.cell 3
    have e0 := FB.out.R.frozen 0
    have e1 := FB.out.R.frozen 1
    have e2 := FB.out.R.frozen 2
    have e3 := FB.out.R.frozen 3
    simp at d0 d1 d2 d3
    have hbl := FB.out.lt
    have hnb : ¬ (w.heap.size = b5) := by omega
    have hnb' : ¬ (b5 = w.heap.size) := by omega
    have hn1 : ¬ (gv = b5) := hgb.2
    have hn2 : ¬ (b5 = gv) := fun e => hgb.2 e.symm
    have hn3 : ¬ (gv = w.heap.size) := by omega
    have hn4 : ¬ (w.heap.size = gv) := by omega
    have HF : Hid (∀ W4, ((((w6.setCell ⟨gv, 2, none⟩ (.int .i64 (x1 - 1))).setCell ⟨w.heap.size, 0, none⟩ (.int .i64 s)).setCell ⟨w.heap.size, 1, none⟩ (.int .i64 p)).setCell ⟨w.heap.size, 2, none⟩ (.int .i64 m)).setCell ⟨w.heap.size, 3, none⟩ (.slice (some ⟨gv, 0, none⟩) ln cpv) = W4 → Blk W4 w.heap.size (F4 s p m (.slice (some ⟨gv, 0, none⟩) ln cpv)) 26 ∧ Ot 35 w.heap.size W4 (.slice (some ⟨gv, 0, none⟩) ln cpv) (ls.set 0 (ls[0].1, ls[0].2.1, x1 - 1)) ∧ Dr W4 g cv zs ∧ w.grownBy W4 (some g)) := FN.out.fin
    have hlb : (ls.set 0 (ls[0].1, ls[0].2.1, x1 - 1)).length ≤ 28 := by simp; omega
    have hsb : 0 ≤ s ∧ s ≤ 7 := by omega
    have hmb : 0 ≤ m ∧ m ≤ 13 := by omega
    clear hO hpt FN FB hgb
    go_wp2
    exact bodyPost_ret (v := .agg (F4 s p m (.slice (some ⟨gv, 0, none⟩) ln cpv))) (results_cell_row rfl _ _ _ 26 _ (0, 0) _ rfl (HF.out _ rfl).1 Tryd.underlying26 rfl size29) rfl ⟨s, p, m, _, _, rfl, hsb, hpb, hmb, hlb, (HF.out _ rfl).2⟩
  have hb3 : (x == 3) = false := by simp [hx3]
  clear c0 c1 c2 c3 f0 f1 f2 f3
  have c0 := FX0.out.B.cell 0
  have c1 := FX0.out.B.cell 1
  have c2 := FX0.out.B.cell 2
  have c3 := FX0.out.B.cell 3
  have f0 := FX0.out.B.frozen 0
  have f1 := FX0.out.B.frozen 1
  have f2 := FX0.out.B.frozen 2
  have f3 := FX0.out.B.frozen 3
  simp at c0 c1 c2 c3
  have d0 := FX0.out.R.cell 0
  have d1 := FX0.out.R.cell 1
  have d2 := FX0.out.R.cell 2
  have d3 := FX0.out.R.cell 3
  have e0 := FX0.out.R.frozen 0
  have e1 := FX0.out.R.frozen 1
  have e2 := FX0.out.R.frozen 2
  have e3 := FX0.out.R.frozen 3
  simp at d0 d1 d2 d3
  have hbl := FX0.out.lt
  have hnb : ¬ (w.heap.size = b5) := by omega
  have hnb' : ¬ (b5 = w.heap.size) := by omega
  have HF : Hid (∀ W4, (((w4.setCell ⟨w.heap.size, 0, none⟩ (.int .i64 s)).setCell ⟨w.heap.size, 1, none⟩ (.int .i64 p)).setCell ⟨w.heap.size, 2, none⟩ (.int .i64 m)).setCell ⟨w.heap.size, 3, none⟩ (.slice av ln cpv) = W4 → Blk W4 w.heap.size (F4 s p m (.slice av ln cpv)) 26 ∧ Ot 35 w.heap.size W4 (.slice av ln cpv) ls ∧ Dr W4 g cv zs ∧ w.grownBy W4 (some g)) := FX0.out.fin
  have hsb : 0 ≤ s ∧ s ≤ 7 := by omega
  have hmb : 0 ≤ m ∧ m ≤ 13 := by omega
  have hlb : (ls).length ≤ 28 := by omega
  clear FX0
  go_wp2
  exact bodyPost_ret (v := .agg (F4 s p m (.slice av ln cpv))) (results_cell_row rfl _ _ _ 26 _ (0, 0) _ rfl (HF.out _ rfl).1 Tryd.underlying26 rfl size29) rfl ⟨s, p, m, _, _, rfl, hsb, hpb, hmb, hlb, (HF.out _ rfl).2⟩
end Go.Proofs.YtikhfeafbckjlaaDoor

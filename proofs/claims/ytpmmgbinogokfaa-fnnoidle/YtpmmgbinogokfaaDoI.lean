/- DoDesk, the program's way; no condition. -/
import Derived.Test.YtpmmgbinogokfaaDoD
namespace Go.Proofs.Ytpmmgbinogokfaa
open Go.RowKit Go.ChangeShapes Go.WideShapes Go.ChangeAt
set_option linter.unusedVariables false
set_option linter.unusedSimpArgs false
set_option maxRecDepth 8000
/-- the end of an op that is refused: the desk is copied into the result -/
theorem refused {B : Nat} {w w2 w3 : World} {g0 : Nat} {n g code : Int} {gs : List Ag} {qs : List Wt} {a1 c1 a2 c2} (hg0 : w.heap.size ≤ g0) (hB2 : Below w.heap.size w w2) (hw : w.heap.size ≤ w2.heap.size) (hk : Blk w2 g0 (D4 0 (.slice none 0 0) (.slice none 0 0) 0) 27)
    (ho : OwD w2.heap.size w3 (.slice a1 gs.length c1) (.slice a2 qs.length c2) gs qs) (hb : Below w2.heap.size w2 w3) :
    Blk ((((w3.setCell ⟨g0, 0, none⟩ (.int .i64 n)).setCell ⟨g0, 1, none⟩ (.slice a1 gs.length c1)).setCell ⟨g0, 2, none⟩ (.slice a2 qs.length c2)).setCell ⟨g0, 3, none⟩ (.int .i64 g)) g0 (D4 n (.slice a1 gs.length c1) (.slice a2 qs.length c2) g) 27 ∧
    DdR w ((n, g, gs, qs), [], code) (.returned (.tuple #[.agg (D4 n (.slice a1 gs.length c1) (.slice a2 qs.length c2) g), .slice none 0 0, .int .i64 code])) ((((w3.setCell ⟨g0, 0, none⟩ (.int .i64 n)).setCell ⟨g0, 1, none⟩ (.slice a1 gs.length c1)).setCell ⟨g0, 2, none⟩ (.slice a2 qs.length c2)).setCell ⟨g0, 3, none⟩ (.int .i64 g)) := by
  have hk3 := hk.below hb hk.lt
  have gf : w3.grownBy ((((w3.setCell ⟨g0, 0, none⟩ (.int .i64 n)).setCell ⟨g0, 1, none⟩ (.slice a1 gs.length c1)).setCell ⟨g0, 2, none⟩ (.slice a2 qs.length c2)).setCell ⟨g0, 3, none⟩ (.int .i64 g)) (some g0) := grown_trans (grown_trans (grown_trans (grown_set' _ _ _ _) (grown_set' _ _ _ _)) (grown_set' _ _ _ _)) (grown_set' _ _ _ _)
  have hoff : ∀ k, InD (.slice a1 gs.length c1) (.slice a2 qs.length c2) k → k ≠ g0 := fun k hk' e => by
    have := (ho.lt k hk').1
    have := hk.lt
    omega
  refine ⟨(((hk3.set 0 _).set 1 _).set 2 _).set 3 _, _, _, _, rfl, ⟨?_, ?_, ho.2.2⟩, Ow.nil _ _ _ _, fun k e => by simp [Value.ownBlock] at e, ?_⟩
  · exact World.ownsRow.kept (ho.1.mono hw) gf (by
      cases hx : (Value.slice a1 gs.length c1).ownBlock with
      | none => exact .inl rfl
      | some k => exact .inr (fun e => hoff k (.inl hx) (Option.some.inj e)))
  · exact World.ownsRow.kept (ho.2.1.mono hw) gf (by
      cases hx : (Value.slice a2 qs.length c2).ownBlock with
      | none => exact .inl rfl
      | some k => exact .inr (fun e => hoff k (.inr hx) (Option.some.inj e)))
  · exact ((((belowCall hB2 hb hw).setCell hg0 _).setCell hg0 _).setCell hg0 _).setCell hg0 _
set_option maxHeartbeats 12800000 in
theorem doI_c (n g : Int) (va vq : Value) (gs : List Ag) (qs : List Wt) (k t a s p : Int) (w : World) (ha : Rg 3 agC w va gs) (hq : Rg 4 wtC w vq qs) (la : gs.length ≤ 1048576) (lq : qs.length ≤ 1048576) :
   Calls Try.prog 14 #[.agg (D4 n va vq g), .agg #[.int .i64 k, .int .i64 t, .int .i64 a, .int .i64 s, .int .i64 p]] w (DdR w (doF n g gs qs k t a s p)) := by
  obtain ⟨W0, hW0⟩ : ∃ W0, ((w.alloc (Obj.cells (D4 n va vq g) 27)).alloc (Obj.cells #[.int .i64 k, .int .i64 t, .int .i64 a, .int .i64 s, .int .i64 p] 38)).alloc (Obj.cells (D4 0 (.slice none 0 0) (.slice none 0 0) 0) 27) = W0 := ⟨_, rfl⟩
  have b0 : Below w.heap.size w W0 := hW0 ▸ (((Below.refl _ _).alloc (Nat.le_refl _) _).alloc (by simp) _).alloc (by simp; omega) _
  have hs0 : W0.heap.size = w.heap.size + 3 := by rw [← hW0]; simp
  have k0 : Blk W0 w.heap.size (D4 n va vq g) 27 := hW0 ▸ ((Blk.new _ _ _).alloc _).alloc _
  have k1 : Blk W0 (w.heap.size + 1) #[.int .i64 k, .int .i64 t, .int .i64 a, .int .i64 s, .int .i64 p] 38 := hW0 ▸ (Blk.newAt _ (w.heap.size + 1) _ 38 (by simp)).alloc _
  have k2 : Blk W0 (w.heap.size + 2) (D4 0 (.slice none 0 0) (.slice none 0 0) 0) 27 := hW0 ▸ Blk.newAt _ (w.heap.size + 2) _ 27 (by simp)
  have HH : Hid (Rg 3 agC w va gs ∧ Rg 4 wtC w vq qs) := ⟨ha, hq⟩
  obtain ⟨a0, p0, rfl, -⟩ := ha
  obtain ⟨a1, p1, rfl, -⟩ := hq
  have HK : Hid (∀ W B, W0.heap.size ≤ B → Below B W0 W → Blk W w.heap.size (D4 n (.slice a0 gs.length p0) (.slice a1 qs.length p1) g) 27 ∧ Blk W (w.heap.size + 1) #[.int .i64 k, .int .i64 t, .int .i64 a, .int .i64 s, .int .i64 p] 38 ∧ Blk W (w.heap.size + 2) (D4 0 (.slice none 0 0) (.slice none 0 0) 0) 27 ∧ Below w.heap.size w W ∧ w.heap.size + 3 ≤ W.heap.size) := fun W B hB hW =>
    ⟨k0.below hW (by omega), k1.below hW (by omega), k2.below hW (by omega), b0.trans (hW.mono (by omega)), by have := hW.size; omega⟩
  obtain ⟨R, hR⟩ : ∃ R, doF n g gs qs k t a s p = R := ⟨_, rfl⟩
  have HR : Hid (doF n g gs qs k t a s p = R) := hR
  rw [hR]
  have HW0 : Hid (((w.alloc (Obj.cells (D4 n (.slice a0 gs.length p0) (.slice a1 qs.length p1) g) 27)).alloc (Obj.cells #[.int .i64 k, .int .i64 t, .int .i64 a, .int .i64 s, .int .i64 p] 38)).alloc (Obj.cells (D4 0 (.slice none 0 0) (.slice none 0 0) 0) 27) = W0) := hW0
  have HS0 : Hid (W0.heap.size = w.heap.size + 3) := hs0
  clear hW0 b0 k0 k1 k2 hR hs0
  have HREF : Hid (∀ W B code, W0.heap.size ≤ B → Below B W0 W → R = ((n, g, gs, qs), [], code) → Calls Try.prog 45 #[.agg (D4 n (.slice a0 gs.length p0) (.slice a1 qs.length p1) g)] W fun e w' => ∃ a2 c2 a3 c3, e = .returned (.agg (D4 n (.slice a2 gs.length c2) (.slice a3 qs.length c3) g)) ∧ Blk w' (w.heap.size + 2) (D4 0 (.slice none 0 0) (.slice none 0 0) 0) 27 ∧
      Blk ((((w'.setCell ⟨w.heap.size + 2, 0, none⟩ (.int .i64 n)).setCell ⟨w.heap.size + 2, 1, none⟩ (.slice a2 gs.length c2)).setCell ⟨w.heap.size + 2, 2, none⟩ (.slice a3 qs.length c3)).setCell ⟨w.heap.size + 2, 3, none⟩ (.int .i64 g)) (w.heap.size + 2) (D4 n (.slice a2 gs.length c2) (.slice a3 qs.length c3) g) 27 ∧
      DdR w R (.returned (.tuple #[.agg (D4 n (.slice a2 gs.length c2) (.slice a3 qs.length c3) g), .slice none 0 0, .int .i64 code])) ((((w'.setCell ⟨w.heap.size + 2, 0, none⟩ (.int .i64 n)).setCell ⟨w.heap.size + 2, 1, none⟩ (.slice a2 gs.length c2)).setCell ⟨w.heap.size + 2, 2, none⟩ (.slice a3 qs.length c3)).setCell ⟨w.heap.size + 2, 3, none⟩ (.int .i64 g))) := by
    intro W B code hB hW hRe
    obtain ⟨-, -, h3, h4, h5⟩ := HK.out W B hB hW
    refine (copyI_c n g _ _ gs qs W (HH.out.1.below h4) (HH.out.2.below h4) la lq).mono ?_
    rintro e w' ⟨v1, v2, rfl, ho, hb⟩
    obtain ⟨a2, c2, rfl⟩ := ho.1.form
    obtain ⟨a3, c3, rfl⟩ := ho.2.1.form
    have hr := refused (n := n) (g := g) (code := code) (B := B) (by omega) h4 (by omega) h3 ho hb
    exact ⟨a2, c2, a3, c3, rfl, h3.below hb h3.lt, hr.1, hRe ▸ hr.2⟩
  obtain ⟨x0, x1, x2, x3⟩ : (W0.cell? ⟨w.heap.size, 0, none⟩ = some (.int .i64 n) ∧ W0.cell? ⟨w.heap.size, 1, none⟩ = some (.slice a0 gs.length p0) ∧ W0.cell? ⟨w.heap.size, 2, none⟩ = some (.slice a1 qs.length p1) ∧ W0.cell? ⟨w.heap.size, 3, none⟩ = some (.int .i64 g)) := by
    obtain ⟨h1, -⟩ := HK.out W0 _ (Nat.le_refl _) (Below.refl _ _)
    exact ⟨h1.cell 0, h1.cell 1, h1.cell 2, h1.cell 3⟩
  go_enter Try.func14, Try.ntmps14
  go_wp2_with (fail)
  rw [HW0.out]
  have hb0 : Below w.heap.size w W0 := (HK.out W0 _ (Nat.le_refl _) (Below.refl _ _)).2.2.2.1
  refine (deskI_c n g _ _ gs qs W0 (HH.out.1.below hb0) (HH.out.2.below hb0)).mono ?_
  rintro e w1 ⟨r, rfl, hr, b1⟩
  have B1 : Hid (Below W0.heap.size W0 w1) := b1
  have HDK : Hid (r = true ↔ DkOk n g gs qs) := hr
  obtain ⟨j0, j1, j2, j3, j4⟩ := HK.out w1 _ (Nat.le_refl _) b1
  have y0 := j0.cell 0
  have y1 := j0.cell 1
  have y2 := j0.cell 2
  have y3 := j0.cell 3
  have u0 := j1.cell 0
  have u1 := j1.cell 1
  have u2 := j1.cell 2
  have u3 := j1.cell 3
  have u4 := j1.cell 4
  simp at y0 y1 y2 y3 u0 u1 u2 u3 u4
  have HB1 : Hid (Below w.heap.size w w1) := j3
  have hj4 : w.heap.size + 3 ≤ w1.heap.size := j4
  clear x0 x1 x2 x3 hr b1 hb0 j0 j1 j2 j3 j4
  cases r with
  | false =>
    have HRE : Hid (R = ((n, g, gs, qs), [], 1)) := by
      show R = _
      rw [← HR.out, doF, if_neg (fun h => absurd (HDK.out.2 h.1) (by simp))]
    go_wp2_with (fail)
    refine (HREF.out w1 _ 1 (Nat.le_refl _) B1.out HRE.out).mono ?_
    rintro e w2 ⟨a2, c2, a3, c3, rfl, kk, h1, h2⟩
    have e0 := kk.cell 0
    have e1 := kk.cell 1
    have e2 := kk.cell 2
    have e3 := kk.cell 3
    have f0 := kk.frozen 0
    have f1 := kk.frozen 1
    have f2 := kk.frozen 2
    have f3 := kk.frozen 3
    simp at e0 e1 e2 e3
    have H1 : Hid _ := h1
    have H2 : Hid _ := h2
    clear kk h1 h2 y0 y1 y2 y3 u0 u1 u2 u3 u4
    go_wp2
    exact bodyPost_ret (v := .tuple #[.agg (D4 n (.slice a2 gs.length c2) (.slice a3 qs.length c3) g), .slice none 0 0, .int .i64 1]) (results_D3 rfl _ _ _ _ _ _ _ _ _ rfl rfl rfl H1.out) rfl H2.out
  | true =>
  have HD : Hid (DkOk n g gs qs) := HDK.out.1 rfl
  clear HDK
  go_wp2_with (fail)
  refine (opOk_c n g _ _ gs qs k t a s p w1 (HH.out.1.below HB1.out) (HH.out.2.below HB1.out)).mono ?_
  rintro e w2 ⟨rfl, b2⟩
  have B2 : Hid (Below W0.heap.size W0 w2) := belowCall B1.out b2 B1.out.size
  obtain ⟨j0, j1, j2, j3, j4⟩ := HK.out w2 _ (Nat.le_refl _) B2.out
  clear y0 y1 y2 y3 u0 u1 u2 u3 u4
  have y0 := j0.cell 0
  have y1 := j0.cell 1
  have y2 := j0.cell 2
  have y3 := j0.cell 3
  simp at y0 y1 y2 y3
  have HB2 : Hid (Below w.heap.size w w2) := j3
  obtain ⟨q, hqq⟩ : ∃ q, opB n gs qs k t a s p = q := ⟨_, rfl⟩
  have HQ : Hid (opB n gs qs k t a s p = q) := hqq
  rw [hqq]
  clear b2 j0 j1 j2 j3 j4 hqq B1 HB1 hj4
  cases q with
  | false =>
    have HRE : Hid (R = ((n, g, gs, qs), [], 1)) := by
      show R = _
      rw [← HR.out, doF, if_neg (fun h => absurd h.2 (by rw [HQ.out]; simp))]
    go_wp2_with (fail)
    refine (HREF.out w2 _ 1 (Nat.le_refl _) B2.out HRE.out).mono ?_
    rintro e w3 ⟨a2, c2, a3, c3, rfl, kk, h1, h2⟩
    have e0 := kk.cell 0
    have e1 := kk.cell 1
    have e2 := kk.cell 2
    have e3 := kk.cell 3
    have f0 := kk.frozen 0
    have f1 := kk.frozen 1
    have f2 := kk.frozen 2
    have f3 := kk.frozen 3
    simp at e0 e1 e2 e3
    have H1 : Hid _ := h1
    have H2 : Hid _ := h2
    clear kk h1 h2 y0 y1 y2 y3
    go_wp2
    exact bodyPost_ret (v := .tuple #[.agg (D4 n (.slice a2 gs.length c2) (.slice a3 qs.length c3) g), .slice none 0 0, .int .i64 1]) (results_D3 rfl _ _ _ _ _ _ _ _ _ rfl rfl rfl H1.out) rfl H2.out
  | true =>
  have HR2 : Hid (R = (match beg t gs qs k a s p with
    | none => ((n, g, gs, qs), [], 3)
    | some (gs1, qs1) => if 40 < (giveN t gs.length gs1 qs1).2.1.length ∨ 1000000 < g + (giveN t gs.length gs1 qs1).2.2.length then ((n, g, gs, qs), [], 2)
      else ((t, g + (giveN t gs.length gs1 qs1).2.2.length, (giveN t gs.length gs1 qs1).1, (giveN t gs.length gs1 qs1).2.1), (giveN t gs.length gs1 qs1).2.2, 0))) := by
    show R = _
    rw [← HR.out, doF, if_pos ⟨HD.out, HQ.out⟩]
    rcases beg t gs qs k a s p with _ | ⟨_, _⟩ <;> rfl
  go_wp2_with (fail)
  refine (openDesk_c n g _ _ gs qs w2 (HH.out.1.below HB2.out) (HH.out.2.below HB2.out) la).mono ?_
  rintro e w3 ⟨L, va', rfl, l3, b3⟩
  have B3 : Hid (Below W0.heap.size W0 w3) := belowCall B2.out b3 B2.out.size
  have hW02 : W0.heap.size ≤ w2.heap.size := B2.out.size
  obtain ⟨j0, j1, j2, j3, j4⟩ := HK.out w3 _ (Nat.le_refl _) B3.out
  clear y0 y1 y2 y3
  have u0 := j1.cell 0
  have u1 := j1.cell 1
  have u2 := j1.cell 2
  have u3 := j1.cell 3
  have u4 := j1.cell 4
  simp at u0 u1 u2 u3 u4
  have L3 : Hid (Lv w2.heap.size w3 L n g va' (.slice a1 qs.length p1) (.slice none 0 0) gs qs []) := l3
  obtain ⟨hk1, hk2, hk3⟩ := opB_kind HQ.out
  clear b3 j0 j1 j2 j3 j4 l3
  go_wp2_with (fail)
  refine (begin_c w2.heap.size L n g va' _ _ gs qs [] k t a s p w3 L3.out lq la hk1).mono ?_
  rintro e w4 ⟨b4, hr4⟩
  have B4 : Hid (Below W0.heap.size W0 w4) := B3.out.trans (b4.mono hW02)
  clear u0 u1 u2 u3 u4
  obtain ⟨j0, j1, j2, j3, j4⟩ := HK.out w4 _ (Nat.le_refl _) B4.out
  have y0 := j0.cell 0
  have y1 := j0.cell 1
  have y2 := j0.cell 2
  have y3 := j0.cell 3
  simp at y0 y1 y2 y3
  clear b4 j0 j1 j2 j3 j4 L3
  rcases hr4 with ⟨hbn, rfl⟩ | ⟨gs1, qs1, hbs, rfl, va4, vq4, l4⟩
  · have HRE : Hid (R = ((n, g, gs, qs), [], 3)) := by
      show R = _
      rw [HR2.out, hbn]
    clear HR2
    go_wp2_with (fail)
    refine (HREF.out w4 _ 3 (Nat.le_refl _) B4.out HRE.out).mono ?_
    rintro e w5 ⟨a2, c2, a3, c3, rfl, kk, h1, h2⟩
    have e0 := kk.cell 0
    have e1 := kk.cell 1
    have e2 := kk.cell 2
    have e3 := kk.cell 3
    have f0 := kk.frozen 0
    have f1 := kk.frozen 1
    have f2 := kk.frozen 2
    have f3 := kk.frozen 3
    simp at e0 e1 e2 e3
    have H1 : Hid _ := h1
    have H2 : Hid _ := h2
    clear kk h1 h2 y0 y1 y2 y3 hbn
    go_wp2
    exact bodyPost_ret (v := .tuple #[.agg (D4 n (.slice a2 gs.length c2) (.slice a3 qs.length c3) g), .slice none 0 0, .int .i64 3]) (results_D3 rfl _ _ _ _ _ _ _ _ _ rfl rfl rfl H1.out) rfl H2.out
  · obtain ⟨hsk1, hca1, hgl1, hql1⟩ := beg_ok hbs HD.out.2.2.2.2.1.sk HD.out.ca hk2 hk3
    obtain ⟨gl1, gl2, gl3⟩ := giveN_len t gs.length gs1 qs1 hca1
    obtain ⟨G, hG⟩ : ∃ G, giveN t gs.length gs1 qs1 = G := ⟨_, rfl⟩
    have HR3 : Hid (R = if 40 < G.2.1.length ∨ 1000000 < g + G.2.2.length then ((n, g, gs, qs), [], 2) else ((t, g + G.2.2.length, G.1, G.2.1), G.2.2, 0)) := by
      show R = _
      rw [HR2.out, hbs]; simp only [hG]
    rw [hG] at gl1 gl2 gl3
    have hgd := HD.out.2.2.2.1
    have hq40 := HD.out.2.1
    have HGA : Hid (Calls Try.prog 49 #[.pointer (some ⟨L, 0, none⟩)] w4 fun e w' => e = .returned (.tuple #[]) ∧ (∃ va' vq' vc', Lv w2.heap.size w' L t (g + G.2.2.length) va' vq' vc' G.1 G.2.1 G.2.2) ∧ Below w2.heap.size w4 w') := by
      have := giveAll_c w2.heap.size L t g va4 vq4 (.slice none 0 0) gs1 qs1 w4 l4 hsk1 hca1 (by omega) (by omega) hgd.1 (by omega)
      rw [hgl1, hG] at this
      exact this
    clear hsk1 hca1 hG HR2 hbs l4
    go_wp2_with (fail)
    refine HGA.out.mono ?_
    rintro e w5 ⟨rfl, ⟨va5, vq5, vc5, l5⟩, b5⟩
    have B5 : Hid (Below W0.heap.size W0 w5) := B4.out.trans (b5.mono hW02)
    clear y0 y1 y2 y3
    obtain ⟨j0, j1, j2, j3, j4⟩ := HK.out w5 _ (Nat.le_refl _) B5.out
    have y0 := j0.cell 0
    have y1 := j0.cell 1
    have y2 := j0.cell 2
    have y3 := j0.cell 3
    simp at y0 y1 y2 y3
    have L5' : Hid (Lv w2.heap.size w5 L t (g + G.2.2.length) va5 vq5 vc5 G.1 G.2.1 G.2.2) := l5
    have v2 := l5.blk.cell 2
    have v3 := l5.blk.cell 3
    obtain ⟨aq5, cq5, hvq5, -⟩ := l5.qu
    simp at v2 v3
    rw [hvq5] at v2
    obtain ⟨mq, hmq⟩ : ∃ mq, G.2.1.length = mq := ⟨_, rfl⟩
    obtain ⟨mc, hmc⟩ : ∃ mc, G.2.2.length = mc := ⟨_, rfl⟩
    have HMM : Hid (G.2.1.length = mq ∧ G.2.2.length = mc) := ⟨hmq, hmc⟩
    rw [hmq] at v2
    rw [hmc] at v3
    rw [hmq, hmc] at HR3
    clear l5 b5 j0 j1 j2 j3 j4 HGA hvq5 hmq hmc gl1 gl2 gl3 hq40
    by_cases hfull : 40 < mq ∨ 1000000 < g + mc
    · have HRE : Hid (R = ((n, g, gs, qs), [], 2)) := by show R = _; rw [HR3.out, if_pos hfull]
      by_cases h40 : 40 < mq
      · have h40' : (mq : Int) > 40 := by omega
        clear HR3 hfull
        go_wp2_with (fail)
        refine (HREF.out w5 _ 2 (Nat.le_refl _) B5.out HRE.out).mono ?_
        rintro e w6 ⟨a2, c2, a3, c3, rfl, kk, h1, h2⟩
        have e0 := kk.cell 0
        have e1 := kk.cell 1
        have e2 := kk.cell 2
        have e3 := kk.cell 3
        have f0 := kk.frozen 0
        have f1 := kk.frozen 1
        have f2 := kk.frozen 2
        have f3 := kk.frozen 3
        simp at e0 e1 e2 e3
        have H1 : Hid _ := h1
        have H2 : Hid _ := h2
        clear kk h1 h2 y0 y1 y2 y3
        go_wp2
        exact bodyPost_ret (v := .tuple #[.agg (D4 n (.slice a2 gs.length c2) (.slice a3 qs.length c3) g), .slice none 0 0, .int .i64 2]) (results_D3 rfl _ _ _ _ _ _ _ _ _ rfl rfl rfl H1.out) rfl H2.out
      · have h40' : ¬ (mq : Int) > 40 := by omega
        have hgv : g + (mc : Int) > 1000000 := by omega
        clear HR3 hfull
        go_wp2_with (fail)
        refine (HREF.out w5 _ 2 (Nat.le_refl _) B5.out HRE.out).mono ?_
        rintro e w6 ⟨a2, c2, a3, c3, rfl, kk, h1, h2⟩
        have e0 := kk.cell 0
        have e1 := kk.cell 1
        have e2 := kk.cell 2
        have e3 := kk.cell 3
        have f0 := kk.frozen 0
        have f1 := kk.frozen 1
        have f2 := kk.frozen 2
        have f3 := kk.frozen 3
        simp at e0 e1 e2 e3
        have H1 : Hid _ := h1
        have H2 : Hid _ := h2
        clear kk h1 h2 y0 y1 y2 y3
        go_wp2
        exact bodyPost_ret (v := .tuple #[.agg (D4 n (.slice a2 gs.length c2) (.slice a3 qs.length c3) g), .slice none 0 0, .int .i64 2]) (results_D3 rfl _ _ _ _ _ _ _ _ _ rfl rfl rfl H1.out) rfl H2.out
    · have HRE : Hid (R = ((t, g + mc, G.1, G.2.1), G.2.2, 0)) := by show R = _; rw [HR3.out, if_neg hfull]
      have h40' : ¬ (mq : Int) > 40 := by omega
      have hgv : ¬ g + (mc : Int) > 1000000 := by omega
      clear HR3 hfull
      go_wp2_with (fail)
      obtain ⟨ac, cc, hvc, -⟩ := own_form L5'.out.ca
      obtain ⟨S, hS⟩ : ∃ S : World → Prop, ∀ W, S W ↔ Blk W L (L5 t va5 vq5 (g + G.2.2.length) vc5) 83 := ⟨_, fun _ => Iff.rfl⟩
      have z4 : ∀ W : At S, W.wd.cell? ⟨L, 4, none⟩ = some (.slice ac mc cc) := fun W => by
        have h1 := Blk.cell ((hS _).1 W.ok) 4
        rw [hvc, HMM.out.2] at h1
        exact h1
      have HVC : Hid (vc5 = .slice ac mc cc) := by show vc5 = _; rw [hvc, HMM.out.2]
      have HS : Hid (∀ W, S W ↔ Blk W L (L5 t va5 vq5 (g + G.2.2.length) vc5) 83) := hS
      have ne : Nonempty (At S) := ⟨⟨w5, (hS _).2 L5'.out.blk⟩⟩
      clear hvc hS y0 y1 y2 y3 v2 v3
      refine region_mixA [true, false, true, true, true, true, false, false, false] 7 2 S (by kernel_rfl) rfl (by kernel_rfl) (fun _ _ _ _ _ h => h) ((HS.out _).2 L5'.out.blk.drew) ?_
      simp only [selT, selF]
      repeat (go_big_quiet_step (fail))
      refine wpQuiet_nil ?_
      refine tail_step ?_
      go_wp2_with (fail)
      refine (asDesk_c w2.heap.size L t (g + G.2.2.length) va5 vq5 vc5 G.1 G.2.1 G.2.2 w5.drew L5'.out.drew (by have := HMM.out.1; omega)).mono ?_
      rintro e w6 ⟨vq6, rfl, o6, b6⟩
      have b6' : Below w5.heap.size w5 w6 := (Below.refl _ _).drew.trans b6
      have HB6 : Hid (Below w5.heap.size w5 w6) := b6'
      have B6 : Below W0.heap.size W0 w6 := belowCall B5.out b6' B5.out.size
      obtain ⟨j0, j1, j2, j3, j4⟩ := HK.out w6 _ (Nat.le_refl _) B6
      have e0 := j2.cell 0
      have e1 := j2.cell 1
      have e2 := j2.cell 2
      have e3 := j2.cell 3
      have f0 := j2.frozen 0
      have f1 := j2.frozen 1
      have f2 := j2.frozen 2
      have f3 := j2.frozen 3
      simp at e0 e1 e2 e3
      have l6 := L5'.out.below b6'
      have hw52 : w2.heap.size ≤ w5.heap.size := Nat.le_trans L5'.out.lb (Nat.le_of_lt L5'.out.blk.lt)
      obtain ⟨a6, c6, hva6⟩ := l6.ag.form
      obtain ⟨a7, c7, rfl⟩ := o6.form
      obtain ⟨mg, hmg⟩ : ∃ mg, G.1.length = mg := ⟨_, rfl⟩
      have HMG : Hid (G.1.length = mg) := hmg
      rw [hmg] at hva6
      have hFin : ∀ W7, W7 = (((w6.setCell ⟨w.heap.size + 2, 0, none⟩ (.int .i64 t)).setCell ⟨w.heap.size + 2, 1, none⟩ va5).setCell ⟨w.heap.size + 2, 2, none⟩ (.slice a7 G.2.1.length c7)).setCell ⟨w.heap.size + 2, 3, none⟩ (.int .i64 (g + G.2.2.length)) →
          Blk W7 (w.heap.size + 2) (D4 t va5 (.slice a7 G.2.1.length c7) (g + G.2.2.length)) 27 ∧ DdR w R (.returned (.tuple #[.agg (D4 t va5 (.slice a7 G.2.1.length c7) (g + G.2.2.length)), vc5, .int .i64 0])) W7 := by
        rintro W7 rfl
        have gf : w6.grownBy ((((w6.setCell ⟨w.heap.size + 2, 0, none⟩ (.int .i64 t)).setCell ⟨w.heap.size + 2, 1, none⟩ va5).setCell ⟨w.heap.size + 2, 2, none⟩ (.slice a7 G.2.1.length c7)).setCell ⟨w.heap.size + 2, 3, none⟩ (.int .i64 (g + G.2.2.length))) (some (w.heap.size + 2)) := grown_trans (grown_trans (grown_trans (grown_set' _ _ _ _) (grown_set' _ _ _ _)) (grown_set' _ _ _ _)) (grown_set' _ _ _ _)
        have hS3 : w.heap.size + 3 ≤ w2.heap.size := by have := HS0.out; omega
        have hav : va5.ownBlock = none ∨ va5.ownBlock ≠ some (w.heap.size + 2) := by
          cases hx : va5.ownBlock with
          | none => exact .inl rfl
          | some kk => exact .inr (fun e => by have := (l6.ag.lt kk hx).1; cases e; omega)
        have hcv : vc5.ownBlock = none ∨ vc5.ownBlock ≠ some (w.heap.size + 2) := by
          cases hx : vc5.ownBlock with
          | none => exact .inl rfl
          | some kk => exact .inr (fun e => by have := (World.ownsRow.lt l6.ca kk hx).1; cases e; omega)
        have hqv : (Value.slice a7 G.2.1.length c7).ownBlock = none ∨ (Value.slice a7 G.2.1.length c7).ownBlock ≠ some (w.heap.size + 2) := by
          cases hx : (Value.slice a7 G.2.1.length c7).ownBlock with
          | none => exact .inl rfl
          | some kk => exact .inr (fun e => by have h1 : w5.heap.size ≤ kk := (o6.lt kk hx).1; cases e; omega)
        have hap := apart_new (w := w5) (b := w5.heap.size) (u := va5) (v := .slice a7 G.2.1.length c7) (fun kk e => (L5'.out.ag.lt kk e).2) (Nat.le_refl _) (fun kk e => (o6.lt kk e).1)
        refine ⟨(((j2.set 0 _).set 1 _).set 2 _).set 3 _, va5, .slice a7 G.2.1.length c7, vc5, ?_, ⟨?_, ?_, hap⟩, ?_, ?_, ?_⟩
        · rw [HRE.out, HMM.out.2]
        · rw [HRE.out]; exact World.ownsRow.kept (l6.ag.mono (by omega)) gf hav
        · rw [HRE.out]; exact World.ownsRow.kept (o6.mono (show w.heap.size ≤ w5.drew.heap.size from (by show w.heap.size ≤ w5.heap.size; omega))) gf hqv
        · rw [HRE.out]; exact World.ownsRow.kept (Ow.mono l6.ca (by omega)) gf hcv
        · intro kk hkk hin
          rcases hin with hin | hin
          · rcases L5'.out.nca with h | h
            · rw [h] at hkk; cases hkk
            · exact h (by rw [hkk, hin])
          · have h1 : w5.heap.size ≤ kk := (o6.lt kk hin).1
            have h2 := (World.ownsRow.lt L5'.out.ca kk hkk).2
            omega
        · exact (((j3.setCell (by dsimp only; omega) _).setCell (by dsimp only; omega) _).setCell (by dsimp only; omega) _).setCell (by dsimp only; omega) _
      obtain ⟨F1, F2⟩ := hFin _ rfl
      rw [hva6, HVC.out, HMM.out.1, HMM.out.2] at F2
      rw [hva6, HMM.out.1, HMM.out.2] at F1
      have H1 : Hid _ := F1
      have H2 : Hid _ := F2
      have S6 : Hid (S w6) := (HS.out _).2 l6.blk
      have hLne : L ≠ w.heap.size + 2 := by have := L5'.out.lb; have := HS0.out; omega
      have S7 : Hid (S ((((w6.setCell ⟨w.heap.size + 2, 0, none⟩ (.int .i64 t)).setCell ⟨w.heap.size + 2, 1, none⟩ (.slice a6 mg c6)).setCell ⟨w.heap.size + 2, 2, none⟩ (.slice a7 mq c7)).setCell ⟨w.heap.size + 2, 3, none⟩ (.int .i64 (g + mc)))) := (HS.out _).2 ((((l6.blk.other _ _ hLne).other _ _ hLne).other _ _ hLne).other _ _ hLne)
      rw [HMM.out.1, HMM.out.2, hva6]
      clear F1 F2 hFin o6 b6 b6' B6 j0 j1 j2 j3 j4 l6 z4 ne hva6 hmg
      go_wp2
      refine ⟨S6.out, tail_step ?_⟩
      go_wp2
      refine ⟨S7.out, tail_end ?_⟩
      go_wp2
      exact bodyPost_ret (v := .tuple #[.agg (D4 t (.slice a6 mg c6) (.slice a7 mq c7) (g + mc)), .slice ac mc cc, .int .i64 0]) (results_D3 rfl _ _ _ _ _ _ _ _ _ rfl rfl rfl H1.out) rfl H2.out
end Go.Proofs.Ytpmmgbinogokfaa

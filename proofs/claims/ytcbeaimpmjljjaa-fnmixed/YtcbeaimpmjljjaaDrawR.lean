/- draw any panel, and how many lines it may have; no condition. -/
import Derived.Test.YtcbeaimpmjljjaaDrawN
namespace Go.Proofs.Ytcbeaimpmjljjaa
open Go.RowKit Go.ChangeShapes Go.WideShapes Go.ChangeAt
set_option linter.unusedVariables false
set_option linter.unusedSimpArgs false
set_option maxRecDepth 8000
set_option maxHeartbeats 1600000 in
theorem pickIn_c (g : Nat) (cv : Value) (zs : List Int) (v : Value) (ys : List Int) (w : World) (h : Dr w g cv zs) (hv : Rd .i64 w v ys) (hap : v.ownBlock = none ∨ v.ownBlock ≠ some g) (hl : 0 < ys.length) (hl2 : ys.length ≤ 1048576) :
   Calls Try.prog 68 #[.pointer (some ⟨g, 0, none⟩), v] w fun e w' => ∃ x : Int, e = .returned (.int .i64 x) ∧ x ∈ ys ∧ Dr w' g cv zs ∧ w.grownBy w' (some g) := by
  have hv' := hv
  obtain ⟨a, cap, rfl, h1, h2, h3⟩ := hv
  unfold maxLen at h2
  go_enter Try.func68, Try.ntmps68
  go_wp2_with fail
  refine (below_c g cv zs _ _ h (by omega)).mono ?_
  rintro e w1 ⟨x, rfl, x0, x1, x2, d1, g1⟩
  have x1' := x1 (by omega)
  obtain ⟨xn, rfl⟩ := Int.eq_ofNat_of_zero_le x0
  obtain ⟨a', cap', he, _, _, h3'⟩ := hv'.grown g1 hap
  simp only [Value.slice.injEq] at he
  obtain ⟨rfl, _, rfl⟩ := he
  rcases h3' with h3' | ⟨b, off, rfl, h4⟩
  · subst h3'; simp at hl
  have hc := h4 xn (by omega)
  have hmem : ys.getD xn 0 ∈ ys := by
    have hxl : xn < ys.length := by omega
    rw [List.getD_eq_getElem?_getD, List.getElem?_eq_getElem hxl]; exact List.getElem_mem hxl
  generalize ys.getD xn 0 = y at hc hmem
  clear h3 h4 x1 x2 hv'
  go_wp2
  go_ret
  exact ⟨_, rfl, hmem, d1, g1⟩
set_option maxHeartbeats 6400000 in
theorem drawAnyB_c (g : Nat) (cv : Value) (zs : List Int) (w : World) (h : Dr w g cv zs) :
   Calls Try.prog 48 #[.pointer (some ⟨g, 0, none⟩), cv] w fun e w' => ∃ (n : Int) (V : Value) (cs : Calls2), e = .returned (.agg #[.int .i64 n, V]) ∧ OwC w.heap.size w' V cs ∧ Lim 50 20 cs ∧ n ≤ 41 ∧ Dr w' g cv zs ∧ w.grownBy w' (some g) := by
  have hgl := h.lt
  obtain ⟨ac, cc, hcv, -⟩ := h.rd
  subst hcv
  have kb : Below w.heap.size w (w.alloc (Obj.cells #[.int .i64 0, .slice none 0 0] 26)) := (Below.refl _ _).alloc (Nat.le_refl _) _
  have HD : Hid (Dr (w.alloc (Obj.cells #[.int .i64 0, .slice none 0 0] 26)) g (.slice ac zs.length cc) zs) := h.below kb
  have H0 : Hid (Dr w g (.slice ac zs.length cc) zs) := h
  have HK : Hid (Blk (w.alloc (Obj.cells #[.int .i64 0, .slice none 0 0] 26)) w.heap.size #[.int .i64 0, .slice none 0 0] 26 ∧ Below w.heap.size w (w.alloc (Obj.cells #[.int .i64 0, .slice none 0 0] 26))) := ⟨Blk.new _ _ _, kb⟩
  clear h kb
  go_enter Try.func48, Try.ntmps48
  go_wp2_with (fail)
  refine (draw_c g _ zs _ HD.out).mono ?_
  rintro e w2 ⟨n, V, cs, rfl, o2, l2, n1, n2, d2, g2⟩
  obtain ⟨lv, hlen, hrow, hown⟩ := o2
  obtain ⟨a2, c2, hV, v1, v2, v3⟩ := own_form hrow
  subst hV
  have gg : w.grownBy w2 (some g) := grown_trans ⟨HK.out.2.os, HK.out.2.tape, HK.out.2.output, HK.out.2.size, fun j hj _ => HK.out.2.block j hj⟩ g2
  have k2 : Blk w2 w.heap.size #[.int .i64 0, .slice none 0 0] 26 := HK.out.1.grownE g2 (by omega)
  have hs2 : w.heap.size < w2.heap.size := k2.lt
  obtain ⟨W3, hW3⟩ : ∃ W3, w2.alloc (Obj.cells #[.int .i64 n, .slice a2 lv.length c2] 26) = W3 := ⟨_, rfl⟩
  obtain ⟨b5, hb5⟩ : ∃ b5, b5 = w2.heap.size := ⟨_, rfl⟩
  have ba : Below w2.heap.size w2 W3 := hW3 ▸ (Below.refl _ _).alloc (Nat.le_refl _) _
  have esz : (w.alloc (Obj.cells #[.int .i64 0, .slice none 0 0] 26)).heap.size = w.heap.size + 1 := by simp
  rw [esz] at hrow hown
  have D3 : Hid (Da w g b5 (.slice ac zs.length cc) zs W3 n (.slice a2 lv.length c2) lv cs) := by
    have hg : w2.grownBy W3 none := ⟨ba.os, ba.tape, ba.output, ba.size, fun k hk _ => ba.block k hk⟩
    refine ⟨d2.below ba, grown_then_below gg (ba.mono (by omega)), k2.below ba hs2, hb5 ▸ hW3 ▸ Blk.new _ _ _, World.ownsRow.kept hrow hg (by cases (Value.slice a2 lv.length c2).ownBlock <;> simp), hlen, hown.grown hg (.inl rfl), fun e => ?_, fun y hy e => ?_, by omega⟩
    · have := (World.ownsRow.lt hrow _ e).2; omega
    · obtain ⟨i, hi, rfl⟩ := List.getElem_of_mem hy
      have := (World.ownsRow.lt (hown i hi (by omega)).2.1 _ e).2
      omega
  have HL : Hid (Lim 41 9 cs) := l2
  have HLEN : Hid (lv.length = cs.length) := hlen
  have HW3 : Hid (w2.alloc (Obj.cells #[.int .i64 n, .slice a2 lv.length c2] 26) = W3) := hW3
  have HB5 : Hid (b5 = w2.heap.size) := hb5
  clear HD HK d2 g2 k2 gg hrow hown hW3 ba hb5 l2 hlen
  go_wp2_with (fail)
  rw [HW3.out, ← HB5.out]
  refine (below_c g _ zs 25 _ D3.out.dr (by decide)).mono ?_
  rintro e w4 ⟨x, rfl, x1, x2, -, d4, g4⟩
  have D4 : Hid (Da w g b5 (.slice ac zs.length cc) zs w4 n (.slice a2 lv.length c2) lv cs) := D3.out.call H0.out d4 g4
  have hx := x2 (by decide)
  clear HW3 HB5 D3 d4 g4 x2 esz
  have c0 := D4.out.box.cell 0
  have c1 := D4.out.box.cell 1
  have e0 := D4.out.box.frozen 0
  have e1 := D4.out.box.frozen 1
  have r0 := D4.out.res.cell 0
  have r1 := D4.out.res.cell 1
  have f0 := D4.out.res.frozen 0
  have f1 := D4.out.res.frozen 1
  simp at c0 c1 r0 r1
  have hge := D4.out.ge
  have nb1 : ¬ (w.heap.size = b5) := by omega
  have nb2 : ¬ (b5 = w.heap.size) := by omega
  have hb5l : b5 < w4.heap.size := D4.out.box.lt
  have hwl : w.heap.size < w4.heap.size := D4.out.res.lt
  have FIN : Hid (∀ W n V lv cs, Da w g b5 (.slice ac zs.length cc) zs W n V lv cs → Lim 50 20 cs → n ≤ 41 → ∀ W4, (W.setCell ⟨w.heap.size, 0, none⟩ (.int .i64 n)).setCell ⟨w.heap.size, 1, none⟩ V = W4 → Blk W4 w.heap.size #[.int .i64 n, V] 26 ∧ ∃ (n' : Int) (V' : Value) (cs' : Calls2), Ending.returned (.agg #[.int .i64 n, V]) = .returned (.agg #[.int .i64 n', V']) ∧ OwC w.heap.size W4 V' cs' ∧ Lim 50 20 cs' ∧ n' ≤ 41 ∧ Dr W4 g (.slice ac zs.length cc) zs ∧ w.grownBy W4 (some g)) := fun W n V lv cs hd hl hnn W4 e => by
    obtain ⟨q1, q2, q3, q4⟩ := hd.done H0.out W4 e
    exact ⟨q1, n, V, cs, rfl, q2, hl, hnn, q3, q4⟩
  have HNB : Hid (n ≤ 41) := (by omega : n ≤ 41)
  have HLM : Hid (Lim 50 20 cs) := HL.out.mono (by decide) (by decide)
  by_cases h0 : x = 0
  · subst h0
    have ba : Below w4.heap.size w4 (w4.alloc (Obj.cells #[.int .i64 0, .int .i64 1, .int .i64 40, .int .i64 41] 3)) := (Below.refl _ _).alloc (Nat.le_refl _) _
    have kl : Blk (w4.alloc (Obj.cells #[.int .i64 0, .int .i64 1, .int .i64 40, .int .i64 41] 3)) w4.heap.size #[.int .i64 0, .int .i64 1, .int .i64 40, .int .i64 41] 3 := Blk.new _ _ _
    have HR : Hid (Rd .i64 (w4.alloc (Obj.cells #[.int .i64 0, .int .i64 1, .int .i64 40, .int .i64 41] 3)) (.slice (some ⟨w4.heap.size, 0, none⟩) 4 4) [0, 1, 40, 41]) := by
      refine ⟨_, 4, rfl, by simp, by simp [maxLen], .inr ⟨w4.heap.size, 0, rfl, fun i hi => ?_⟩⟩
      have hi4 : i < 4 := by simpa using hi
      rw [Nat.zero_add, kl.cell i]
      rcases i with _ | _ | _ | _ | i
      · rfl
      · rfl
      · rfl
      · rfl
      · omega
    have D5 : Hid (Da w g b5 (.slice ac zs.length cc) zs (w4.alloc (Obj.cells #[.int .i64 0, .int .i64 1, .int .i64 40, .int .i64 41] 3)) n (.slice a2 lv.length c2) lv cs) := D4.out.below H0.out ba
    have hgw : g < w4.heap.size := D4.out.dr.lt
    clear ba kl D4
    go_wp2_with (fail)
    refine (pickIn_c g _ zs _ [0, 1, 40, 41] _ D5.out.dr HR.out (.inr (by simp [Value.ownBlock]; omega)) (by decide) (by decide)).mono ?_
    rintro e w5 ⟨y, rfl, hy, d5, g5⟩
    have HNB : Hid (y ≤ 41) := (by simp at hy; omega : y ≤ 41)
    clear hy
    have D6 : Hid (Da w g b5 (.slice ac zs.length cc) zs w5 n (.slice a2 lv.length c2) lv cs) := D5.out.call H0.out d5 g5
    have D7 : Hid (Da w g b5 (.slice ac zs.length cc) zs (w5.setCell ⟨b5, 0, none⟩ (.int .i64 y)) y (.slice a2 lv.length c2) lv cs) := D6.out.lines H0.out y
    clear D5 d5 g5 HR c0 c1 e0 e1 r0 r1 f0 f1 hb5l hwl hgw
    have c0 := D6.out.box.cell 0
    have c1 := D6.out.box.cell 1
    have e0 := D6.out.box.frozen 0
    have r0 := D6.out.res.cell 0
    have r1 := D6.out.res.cell 1
    have f0 := D6.out.res.frozen 0
    have f1 := D6.out.res.frozen 1
    simp at c0 c1 r0 r1
    clear D6
    go_wp2
    exact bodyPost_ret (v := .agg #[.int .i64 y, .slice a2 lv.length c2]) (results_cell_row rfl _ _ _ 26 _ (0, 0) _ rfl (FIN.out _ _ _ _ _ D7.out HLM.out HNB.out _ rfl).1 Try.underlying26 rfl size26') rfl (FIN.out _ _ _ _ _ D7.out HLM.out HNB.out _ rfl).2
  by_cases h1 : x = 1
  · subst h1
    by_cases hlp : lv.length = 0
    · have hlz : ¬ (0 < (lv.length : Int)) := by omega
      clear hlp
      go_wp2
      exact bodyPost_ret (v := .agg #[.int .i64 n, .slice a2 lv.length c2]) (results_cell_row rfl _ _ _ 26 _ (0, 0) _ rfl (FIN.out _ _ _ _ _ D4.out HLM.out HNB.out _ rfl).1 Try.underlying26 rfl size26') rfl (FIN.out _ _ _ _ _ D4.out HLM.out HNB.out _ rfl).2
    · have hlz : (0 : Int) < lv.length := by omega
      have hlv : 0 < lv.length := by omega
      have hcl : 0 < cs.length := by have := HLEN.out; omega
      obtain ⟨gc, rfl⟩ : ∃ gc, a2 = some ⟨gc, 0, none⟩ := by
        rcases v3 with h | h
        · omega
        · exact h
      obtain ⟨Y, hY⟩ : ∃ Y, lv[0].2 = Y := ⟨_, rfl⟩
      obtain ⟨q1, q2, q3, -⟩ := D4.out.own 0 hlv hcl
      rw [hY] at q2
      obtain ⟨ay, cy, hY2, y1, y2, -⟩ := own_form q2
      subst hY2
      have hp := pr_at Prod.fst Prod.snd lv 0 hlv
      have g0 : w4.cell? ⟨gc, 0, none⟩ = some (.bool cs[0].1) := by rw [← q1]; exact (World.ownsRow.cellAt D4.out.row 0 (by omega)).trans hp.1
      have g1 : w4.cell? ⟨gc, 1, none⟩ = some (.slice ay cs[0].2.length cy) := by rw [← hY]; exact (World.ownsRow.cellAt D4.out.row 1 (by omega)).trans hp.2
      have h1gc := World.ownsRow.lt D4.out.row gc rfl
      obtain ⟨p0, hp0⟩ : ∃ p, cs[0].1 = p := ⟨_, rfl⟩
      obtain ⟨l0, hl0⟩ : ∃ p, cs[0].2 = p := ⟨_, rfl⟩
      have HL0 : Hid (cs[0].1 = p0 ∧ cs[0].2 = l0) := ⟨hp0, hl0⟩
      rw [hp0] at g0
      rw [hl0] at g1 hY y1 q2
      have hl9 : l0.length ≤ 9 := by rw [← hl0]; exact HL.out.2 _ (List.getElem_mem hcl)
      have HY : Hid (lv[0].2 = .slice ay l0.length cy) := hY
      have HQ2 : Hid (Op lf lg 42 (w.heap.size + 1) w4 (.slice ay l0.length cy) l0) := q2
      have hne : ¬ (gc = b5) := fun e => D4.out.voff (by rw [e]; rfl)
      have hne2 : ¬ (b5 = gc) := fun e => hne e.symm
      clear q1 q2 q3 hp hp0 hl0 hY hlp
      obtain ⟨S, hS⟩ : ∃ S : World → Prop, ∀ W, S W ↔ (W.cell? ⟨b5, 0, none⟩ = some (.int .i64 n) ∧ W.cell? ⟨b5, 1, none⟩ = some (.slice (some ⟨gc, 0, none⟩) lv.length c2) ∧ W.cell? ⟨gc, 1, none⟩ = some (.slice ay l0.length cy)) := ⟨_, fun _ => Iff.rfl⟩
      have HSI : Hid (∀ W, W.cell? ⟨b5, 0, none⟩ = some (.int .i64 n) → W.cell? ⟨b5, 1, none⟩ = some (.slice (some ⟨gc, 0, none⟩) lv.length c2) → W.cell? ⟨gc, 1, none⟩ = some (.slice ay l0.length cy) → S W) := fun W a b c => (hS W).2 ⟨a, b, c⟩
      have s0 : ∀ W : At S, W.wd.cell? ⟨b5, 0, none⟩ = some (.int .i64 n) := fun W => ((hS _).1 W.ok).1
      have s1 : ∀ W : At S, W.wd.cell? ⟨b5, 1, none⟩ = some (.slice (some ⟨gc, 0, none⟩) lv.length c2) := fun W => ((hS _).1 W.ok).2.1
      have s2 : ∀ W : At S, W.wd.cell? ⟨gc, 1, none⟩ = some (.slice ay l0.length cy) := fun W => ((hS _).1 W.ok).2.2
      have HS4 : Hid (S w4.drew) := HSI.out _ c0 c1 g1
      have ne : Nonempty (At S) := ⟨⟨_, HS4.out⟩⟩
      clear hS
      go_wp2
      refine region_mixA [true, true, true, true, true, true, true, true, true, true, true, false, false, false, false, false, false, false] 15 4 S (by kernel_rfl) rfl (by kernel_rfl) (fun _ _ _ _ _ h => h) HS4.out ?_
      simp only [selT, selF]
      repeat (go_big_quiet_step (fail))
      refine wpQuiet_nil ?_
      clear ne s0 s1 s2
      have D5 : Hid (Da w g b5 (.slice ac zs.length cc) zs w4.drew n (.slice (some ⟨gc, 0, none⟩) lv.length c2) lv cs) := D4.out.below H0.out (Below.refl _ _).drew
      clear c0 c1 e0 e1 r0 r1 f0 f1 g0 g1 hb5l hwl HS4 HQ2 D4
      refine tail_step ?_
      go_wp2_with (fail)
      refine (below_c g _ zs (n + 1) _ D5.out.dr (by omega)).mono ?_
      rintro e w5 ⟨y, rfl, -, -, -, d5, g5⟩
      have D6 : Hid (Da w g b5 (.slice ac zs.length cc) zs w5 n (.slice (some ⟨gc, 0, none⟩) lv.length c2) lv cs) := D5.out.call H0.out d5 g5
      have b6 := D6.out.box.cell 0
      have b7 := D6.out.box.cell 1
      simp at b6 b7
      have gY : w5.cell? ⟨gc, 1, none⟩ = some (.slice ay l0.length cy) := by rw [← HY.out]; exact (World.ownsRow.cellAt D6.out.row 1 (by omega)).trans (pr_at Prod.fst Prod.snd lv 0 hlv).2
      have HS5 : Hid (S w5) := HSI.out _ b6 b7 gY
      have ba : Below w5.heap.size w5 (w5.alloc (Obj.cells #[.int .i64 y, .bool false] 42)) := (Below.refl _ _).alloc (Nat.le_refl _) _
      have kl : Blk (w5.alloc (Obj.cells #[.int .i64 y, .bool false] 42)) w5.heap.size #[.int .i64 y, .bool false] 42 := Blk.new _ _ _
      have HS6 : Hid (S (w5.alloc (Obj.cells #[.int .i64 y, .bool false] 42))) := HSI.out _ ((ba.cell D6.out.box.lt).trans b6) ((ba.cell D6.out.box.lt).trans b7) ((ba.cell (World.ownsRow.lt D6.out.row gc rfl).2).trans gY)
      have D7 : Hid (Da w g b5 (.slice ac zs.length cc) zs (w5.alloc (Obj.cells #[.int .i64 y, .bool false] 42)) n (.slice (some ⟨gc, 0, none⟩) lv.length c2) lv cs) := D6.out.below H0.out ba
      have HO7 : Hid (Op lf lg 42 (w.heap.size + 1) (w5.alloc (Obj.cells #[.int .i64 y, .bool false] 42)) (.slice ay l0.length cy) l0) := by
        have := (D7.out.own 0 hlv hcl).2.1
        rw [HY.out, HL0.out.2] at this
        exact this
      have HR : Hid (Rp lf lg (w5.alloc (Obj.cells #[.int .i64 y, .bool false] 42)) (.slice (some ⟨w5.heap.size, 0, none⟩) 1 1) [(y, false)]) := by
        refine ⟨_, 1, rfl, by simp, by simp [maxLen], .inr ⟨w5.heap.size, 0, rfl, fun i hi => ?_⟩⟩
        obtain rfl : i = 0 := by simp at hi; omega
        have u0 := kl.cell 0
        have u1 := kl.cell 1
        exact ⟨u0, u1⟩
      have hsw : w.heap.size < w5.heap.size := D6.out.res.lt
      clear D5 D6 d5 g5 b6 b7 gY ba kl
      go_wp2_with (fail)
      refine ⟨HS5.out, tail_step ?_⟩
      go_wp2_with (fail)
      refine ⟨HS5.out, tail_step ?_⟩
      go_wp2_with (fail)
      refine ⟨HS6.out, tail_step ?_⟩
      go_wp2_with (at_builtin; refine appLegs rfl _ _ rfl (w.heap.size + 1) _ l0 rfl HO7.out _ [(y, false)] rfl HR.out (by simp; omega) (by simp; omega) ?_)
      intro v' w6 ho hg hv
      obtain ⟨⟨t0, t1, t2, t3⟩, hfin⟩ := D7.out.leg H0.out hlv hcl HY.out ho hg (by rw [show (w5.alloc (Obj.cells #[.int .i64 y, .bool false] 42)).heap.size = w5.heap.size + 1 by simp]; exact hv)
      have HFF : Hid (Da w g b5 (.slice ac zs.length cc) zs (w6.setCell ⟨gc, 1, none⟩ v') n (.slice (some ⟨gc, 0, none⟩) lv.length c2) (lv.set 0 (.bool cs[0].1, v')) (cs.set 0 (cs[0].1, l0 ++ [(y, false)]))) := hfin
      have HS7 : Hid (S w6) := HSI.out _ t0 t1 t2
      have HLM2 : Hid (Lim 50 20 (cs.set 0 (cs[0].1, l0 ++ [(y, false)]))) := HLM.out.set 0 _ (by simp; omega)
      have q6 : Blk w6 w.heap.size #[.int .i64 0, .slice none 0 0] 26 := (hg.block w.heap.size D7.out.res.lt (fun e => by have := (World.ownsRow.lt HO7.out _ e.symm).1; omega)).trans D7.out.res
      have r0 := q6.cell 0
      have r1 := q6.cell 1
      have f0 := q6.frozen 0
      have f1 := q6.frozen 1
      simp at r0 r1
      have hng : ¬ (gc = w.heap.size) := by omega
      have hng2 : ¬ (w.heap.size = gc) := by omega
      obtain ⟨a4, c4, hv5, -, -, -⟩ := own_form ho
      rw [show (l0 ++ [(y, false)]).length = l0.length + 1 by simp] at hv5
      subst hv5
      clear ho hg hv hfin HO7 HR D7 q6 HS5 HS6
      go_wp2
      refine ⟨HS7.out, tail_end ?_⟩
      go_wp2
      exact bodyPost_ret (v := .agg #[.int .i64 n, .slice (some ⟨gc, 0, none⟩) lv.length c2]) (results_cell_row rfl _ _ _ 26 _ (0, 0) _ rfl (FIN.out _ _ _ _ _ HFF.out HLM2.out HNB.out _ rfl).1 Try.underlying26 rfl size26') rfl (FIN.out _ _ _ _ _ HFF.out HLM2.out HNB.out _ rfl).2
  by_cases h2 : x = 2
  · subst h2
    by_cases hlp : lv.length = 0
    · have hlz : ¬ (0 < (lv.length : Int)) := by omega
      clear hlp
      go_wp2
      exact bodyPost_ret (v := .agg #[.int .i64 n, .slice a2 lv.length c2]) (results_cell_row rfl _ _ _ 26 _ (0, 0) _ rfl (FIN.out _ _ _ _ _ D4.out HLM.out HNB.out _ rfl).1 Try.underlying26 rfl size26') rfl (FIN.out _ _ _ _ _ D4.out HLM.out HNB.out _ rfl).2
    · have hlz : (0 : Int) < lv.length := by omega
      have hlv : 0 < lv.length := by omega
      have hcl : 0 < cs.length := by have := HLEN.out; omega
      obtain ⟨gc, rfl⟩ : ∃ gc, a2 = some ⟨gc, 0, none⟩ := by
        rcases v3 with h | h
        · omega
        · exact h
      obtain ⟨Y, hY⟩ : ∃ Y, lv[0].2 = Y := ⟨_, rfl⟩
      obtain ⟨q1, q2, q3, -⟩ := D4.out.own 0 hlv hcl
      rw [hY] at q2
      obtain ⟨ay, cy, hY2, y1, y2, -⟩ := own_form q2
      subst hY2
      have hp := pr_at Prod.fst Prod.snd lv 0 hlv
      have g0 : w4.cell? ⟨gc, 0, none⟩ = some (.bool cs[0].1) := by rw [← q1]; exact (World.ownsRow.cellAt D4.out.row 0 (by omega)).trans hp.1
      have g1 : w4.cell? ⟨gc, 1, none⟩ = some (.slice ay cs[0].2.length cy) := by rw [← hY]; exact (World.ownsRow.cellAt D4.out.row 1 (by omega)).trans hp.2
      have h1gc := World.ownsRow.lt D4.out.row gc rfl
      obtain ⟨p0, hp0⟩ : ∃ p, cs[0].1 = p := ⟨_, rfl⟩
      obtain ⟨l0, hl0⟩ : ∃ p, cs[0].2 = p := ⟨_, rfl⟩
      have HL0 : Hid (cs[0].1 = p0 ∧ cs[0].2 = l0) := ⟨hp0, hl0⟩
      rw [hp0] at g0
      rw [hl0] at g1 hY y1 q2
      have hl9 : l0.length ≤ 9 := by rw [← hl0]; exact HL.out.2 _ (List.getElem_mem hcl)
      have HY : Hid (lv[0].2 = .slice ay l0.length cy) := hY
      have HQ2 : Hid (Op lf lg 42 (w.heap.size + 1) w4 (.slice ay l0.length cy) l0) := q2
      have hne : ¬ (gc = b5) := fun e => D4.out.voff (by rw [e]; rfl)
      have hne2 : ¬ (b5 = gc) := fun e => hne e.symm
      clear q1 q2 q3 hp hp0 hl0 hY hlp
      obtain ⟨S, hS⟩ : ∃ S : World → Prop, ∀ W, S W ↔ Below w4.heap.size w4 W := ⟨_, fun _ => Iff.rfl⟩
      have s1 : ∀ W : At S, W.wd.cell? ⟨b5, 1, none⟩ = some (.slice (some ⟨gc, 0, none⟩) lv.length c2) := fun W => (((hS _).1 W.ok).cell hb5l).trans c1
      have s2 : ∀ W : At S, W.wd.cell? ⟨gc, 0, none⟩ = some (.bool p0) := fun W => (((hS _).1 W.ok).cell h1gc.2).trans g0
      have HS4 : Hid (S w4.drew) := (hS _).2 (Below.refl _ _).drew
      have ne : Nonempty (At S) := ⟨⟨_, HS4.out⟩⟩
      clear hS
      go_wp2
      have D5 : Hid (Da w g b5 (.slice ac zs.length cc) zs w4.drew n (.slice (some ⟨gc, 0, none⟩) lv.length c2) lv cs) := D4.out.below H0.out (Below.refl _ _).drew
      have D6 : Hid (Da w g b5 (.slice ac zs.length cc) zs (w4.drew.setCell ⟨gc, 0, none⟩ (.bool !p0)) n (.slice (some ⟨gc, 0, none⟩) lv.length c2) (lv.set 0 (.bool !p0, lv[0].2)) (cs.set 0 (!p0, cs[0].2))) := D5.out.flag H0.out hlv hcl (!p0)
      have HLM2 : Hid (Lim 50 20 (cs.set 0 (!p0, cs[0].2))) := HLM.out.set 0 _ (show cs[0].2.length ≤ 20 from HLM.out.2 _ (List.getElem_mem hcl))
      have gf : w4.frozen? ⟨gc, 0, none⟩ = false := World.ownsRow.frozenAt D4.out.row 0
      have hng : ¬ (gc = w.heap.size) := by omega
      have hng2 : ¬ (w.heap.size = gc) := by omega
      refine region_mixA [true, true, true, true, true, true, true, true, false, false, false] 8 0 S (by kernel_rfl) rfl (by kernel_rfl) (fun _ _ _ _ _ h => h) HS4.out ?_
      simp only [selT, selF]
      repeat (go_big_quiet_step (fail))
      refine wpQuiet_nil ?_
      refine tail_end ?_
      clear ne s1 s2 HS4
      go_wp2
      exact bodyPost_ret (v := .agg #[.int .i64 n, .slice (some ⟨gc, 0, none⟩) lv.length c2]) (results_cell_row rfl _ _ _ 26 _ (0, 0) _ rfl (FIN.out _ _ _ _ _ D6.out HLM2.out HNB.out _ rfl).1 Try.underlying26 rfl size26') rfl (FIN.out _ _ _ _ _ D6.out HLM2.out HNB.out _ rfl).2
  by_cases h3 : x = 3
  · subst h3
    obtain ⟨i1, hi1, hy0, hy1, hy2⟩ := info_parts infoCall
    have hO5 : Op lf lg 42 (w.heap.size + 1) ((w4.alloc (Obj.cells #[.int .i64 0, .bool false] 42)).alloc (Obj.cells #[.bool false, .slice (some ⟨w4.heap.size, 0, none⟩) 1 1] 45)) (.slice (some ⟨w4.heap.size, 0, none⟩) 1 1) [(0, false)] := World.ownsRow.alloc (World.ownsRow_lit w4 #[.int .i64 0, .bool false] 1 (by omega) (by simp [maxLen]) (by simp)) _
    have HB5 : Hid (Below w4.heap.size w4 ((w4.alloc (Obj.cells #[.int .i64 0, .bool false] 42)).alloc (Obj.cells #[.bool false, .slice (some ⟨w4.heap.size, 0, none⟩) 1 1] 45))) := ((Below.refl _ _).alloc (by simp) _).alloc (by simp) _
    have HO5 : Hid (Op lf lg 42 (w.heap.size + 1) ((w4.alloc (Obj.cells #[.int .i64 0, .bool false] 42)).alloc (Obj.cells #[.bool false, .slice (some ⟨w4.heap.size, 0, none⟩) 1 1] 45)) (.slice (some ⟨w4.heap.size, 0, none⟩) 1 1) [(0, false)]) := hO5
    have R5 : Hid (((w4.alloc (Obj.cells #[.int .i64 0, .bool false] 42)).alloc (Obj.cells #[.bool false, .slice (some ⟨w4.heap.size, 0, none⟩) 1 1] 45)).ownsRow (w.heap.size + 1) 45 2 (.slice a2 lv.length c2) lv.length (pr Prod.fst Prod.snd lv)) := (D4.out.below H0.out HB5.out).row
    have hl41 : lv.length ≤ 41 := by have := HL.out.1; have := HLEN.out; omega
    clear hO5
    go_wp2_with (at_builtin; refine wpList_append_lies _ rfl _ _ 24 rfl (w.heap.size + 1) 45 i1 (.agg #[.bool false, .slice none 0 0]) 2 32 Try.underlying24 hi1 hy0 hy1 hy2 rfl (by decide) _ _ _ rfl R5.out ⟨w4.heap.size + 1, 0, none⟩ 1 1 [.bool false, .slice (some ⟨w4.heap.size, 0, none⟩) 1 1] rfl rfl (World.news_of_block (Blk.newAt _ (w4.heap.size + 1) _ 45 (by simp))) (by intro u hu; simp at hu; rcases hu with rfl | rfl <;> rfl) (by decide) (by unfold maxLen; omega) (by omega) (by simp; omega) (w4.heap.size + 1 + 1) (by simp) ?_)
    intro g6 cap6 w6 ho hgr hloc hlt2
    obtain ⟨⟨t0, t1, t2⟩, ⟨t3, t4, t5, t6⟩, hfin⟩ := D4.out.push (c := (false, [(0, false)])) (nv := .slice (some ⟨g6, 0, none⟩) (lv.length + 1) cap6) H0.out HB5.out HO5.out (fun k e => by have := Option.some.inj e; dsimp only at this; omega) hgr (by
      rcases hloc with e | e
      · left; rw [e]; rfl
      · right; rw [e]; simp [Value.ownBlock]) ho
    have HFF : Hid (Da w g b5 (.slice ac zs.length cc) zs (w6.setCell ⟨b5, 1, none⟩ (.slice (some ⟨g6, 0, none⟩) (lv.length + 1) cap6)) n (.slice (some ⟨g6, 0, none⟩) (lv.length + 1) cap6) (lv ++ [(.bool false, .slice (some ⟨w4.heap.size, 0, none⟩) 1 1)]) (cs ++ [(false, [(0, false)])])) := hfin
    have HLM2 : Hid (Lim 50 20 (cs ++ [(false, [(0, false)])])) := ⟨by have := HL.out.1; simp; omega, fun c hc => by
      rcases List.mem_append.1 hc with hc | hc
      · exact HLM.out.2 c hc
      · obtain rfl := List.mem_singleton.1 hc; simp⟩
    clear ho hgr hloc hlt2 hfin R5 HO5 HB5 c0 c1 e0 e1 r0 r1 f0 f1 hb5l hwl D4
    go_wp2
    exact bodyPost_ret (v := .agg #[.int .i64 n, .slice (some ⟨g6, 0, none⟩) (lv.length + 1) cap6]) (results_cell_row rfl _ _ _ 26 _ (0, 0) _ rfl (FIN.out _ _ _ _ _ HFF.out HLM2.out HNB.out _ rfl).1 Try.underlying26 rfl size26') rfl (FIN.out _ _ _ _ _ HFF.out HLM2.out HNB.out _ rfl).2
  · go_wp2
    exact bodyPost_ret (v := .agg #[.int .i64 n, .slice a2 lv.length c2]) (results_cell_row rfl _ _ _ 26 _ (0, 0) _ rfl (FIN.out _ _ _ _ _ D4.out HLM.out HNB.out _ rfl).1 Try.underlying26 rfl size26') rfl (FIN.out _ _ _ _ _ D4.out HLM.out HNB.out _ rfl).2
end Go.Proofs.Ytcbeaimpmjljjaa

/- The contract of the model's way of joining two lines; no condition but that no call has more than eight legs. -/
import Derived.Test.YtcbeaimpmjljjaaPw
namespace Go.Proofs.Ytcbeaimpmjljjaa
open Go.RowKit Go.ChangeShapes Go.WideShapes Go.ChangeAt
set_option linter.unusedVariables false
set_option linter.unusedSimpArgs false
set_option maxRecDepth 8000
def lsAt (cs : Calls2) (i : Nat) : Legs2 := (cs.getD i (false, [])).2
def joinM (cs : Calls2) (a b : Int) : Calls2 × Int :=
  match callAt cs a, callAt cs b with
  | none, none => (cs ++ [(false, [(a, false), (b, false)])], 0)
  | some i, none => if (lsAt cs i).length + 1 > 8 then (cs, 3) else (cs.set i (false, lsAt cs i ++ [(b, false)]), 0)
  | none, some k => if (lsAt cs k).length + 1 > 8 then (cs, 3) else (cs.set k (false, lsAt cs k ++ [(a, false)]), 0)
  | some i, some k => if i = k then (cs, 2) else if (lsAt cs i).length + (lsAt cs k).length > 8 then (cs, 3) else ((cs.set i (false, lsAt cs i ++ lsAt cs k)).eraseIdx k, 0)
theorem callAt_lt {cs : Calls2} {l : Int} {i : Nat} (h : callAt cs l = some i) : i < cs.length := by
  rw [callAt, List.findIdx?_eq_some_iff_getElem] at h
  exact h.1
theorem lsAt_eq {cs : Calls2} {i : Nat} (h : i < cs.length) : lsAt cs i = cs[i].2 := by
  rw [lsAt, List.getD_eq_getElem?_getD, List.getElem?_eq_getElem h]; rfl
theorem Pw.start {n : Int} {base : Nat} {w W0 : World} {v : Value} {cs : Calls2} {lv : List (Value × Value)} (hl : lv.length = cs.length) (hO : Op Prod.fst Prod.snd 45 base w v lv) (hL : OwL base w v.ownBlock lv cs) (hbase : base ≤ w.heap.size)
    (hW0 : (w.alloc (Obj.cells #[.int .i64 n, v] 26)).alloc (Obj.cells #[.int .i64 0, .slice none 0 0] 26) = W0) : Pw n base w W0 v lv cs := by
  have kb : Below w.heap.size w W0 := hW0 ▸ ((Below.refl _ _).alloc (Nat.le_refl _) _).alloc (by simp) _
  refine ⟨hW0 ▸ (Blk.newAt _ _ _ 26 rfl).alloc _, hW0 ▸ Blk.newAt _ _ _ 26 (by simp), Op.below hO kb, hl, hL.grown (below_grown kb) (.inl rfl), kb.mono hbase, ⟨fun e => ?_, fun e => ?_⟩, fun y hy => ⟨fun e => ?_, fun e => ?_⟩⟩
  · have := (World.ownsRow.lt hO _ e).2; omega
  · have := (World.ownsRow.lt hO _ e).2; omega
  · obtain ⟨t, ht, rfl⟩ := List.getElem_of_mem hy
    have := (World.ownsRow.lt (hL t ht (by omega)).2.1 _ e).2; omega
  · obtain ⟨t, ht, rfl⟩ := List.getElem_of_mem hy
    have := (World.ownsRow.lt (hL t ht (by omega)).2.1 _ e).2; omega
theorem PanR.alloc {n : Int} {base : Nat} {w W : World} {r : Calls2 × Int} {e : Ending} (h : PanR n base w r e W) (hb : base ≤ W.heap.size) (o : Obj) : PanR n base w r e (W.alloc o) := by
  obtain ⟨v', h1, h2, h3⟩ := h
  exact ⟨v', h1, h2.below ((Below.refl _ _).alloc (Nat.le_refl _) _), h3.alloc hb _⟩
set_option maxHeartbeats 3200000 in
theorem join_c (n : Int) (v : Value) (cs : Calls2) (x y : Int) (base : Nat) (w : World) (h : OwC base w v cs) (hbase : base ≤ w.heap.size) (hn : cs.length ≤ 4194304) (h8 : ∀ c ∈ cs, c.2.length ≤ 8) :
   Calls Try.prog 59 #[.agg #[.int .i64 n, v], .int .i64 x, .int .i64 y] w (PanR n base w (joinM cs x y)) := by
  have hrd := h.rd
  obtain ⟨lv, hl, hO, hL⟩ := h
  obtain ⟨av, cap, hv, hc1, hc2, hc3⟩ := own_form hO
  subst hv
  obtain ⟨W0, hW0⟩ : ∃ W0, (w.alloc (Obj.cells #[.int .i64 n, .slice av lv.length cap] 26)).alloc (Obj.cells #[.int .i64 0, .slice none 0 0] 26) = W0 := ⟨_, rfl⟩
  have kb : Below w.heap.size w W0 := hW0 ▸ ((Below.refl _ _).alloc (Nat.le_refl _) _).alloc (by simp) _
  have HP : Hid (Pw n base w W0 (.slice av lv.length cap) lv cs) := Pw.start hl hO hL hbase hW0
  have hs0 : W0.heap.size = w.heap.size + 2 := by rw [← hW0]; simp
  have HW : Hid ((w.alloc (Obj.cells #[.int .i64 n, .slice av lv.length cap] 26)).alloc (Obj.cells #[.int .i64 0, .slice none 0 0] 26) = W0) := hW0
  have HF : Hid (∀ z W1, Below W0.heap.size W0 W1 → Calls Try.prog 61 #[.agg #[.int .i64 n, .slice av lv.length cap], .int .i64 z] W1 fun e w' => ∃ i k : Int, e = .returned (.tuple #[.int .i64 i, .int .i64 k]) ∧ Found cs z i k ∧ Below W1.heap.size W1 w') := fun z W1 hb => find_c n _ cs z W1 ((hrd.below kb).below hb)
  have hlc : lv.length ≤ 4194304 := by omega
  have HLL : Hid (lv.length = cs.length) := hl
  clear hW0 kb hO hL hrd hl
  go_enter Try.func59, Try.ntmps59
  go_wp2_with (fail)
  rw [HW.out]
  refine (HF.out _ _ (Below.refl _ _)).mono ?_
  rintro e w1 ⟨i0, k0, rfl, hf, hb⟩
  obtain ⟨rfl, rfl⟩ := found_eq hf
  obtain ⟨k0', hk0'⟩ : ∃ k, lidx cs x = k := ⟨_, rfl⟩
  obtain ⟨i0', hi0'⟩ : ∃ k, cidx cs x = k := ⟨_, rfl⟩
  rw [hk0', hi0']
  have c0 := (HP.out.below hbase hb).box.cell 0
  have c1 := (HP.out.below hbase hb).box.cell 1
  simp at c0 c1
  have HI0 : Hid (cidx cs x = i0') := hi0'
  have HB1 : Hid (Below W0.heap.size W0 w1) := hb
  clear hf hk0' hi0' hb HW
  go_wp2_with (fail)
  refine (HF.out _ _ HB1.out).mono ?_
  rintro e w2 ⟨i1, k1, rfl, hf, hb⟩
  obtain ⟨rfl, rfl⟩ := found_eq hf
  obtain ⟨k1', hk1'⟩ : ∃ k, lidx cs y = k := ⟨_, rfl⟩
  obtain ⟨i1', hi1'⟩ : ∃ k, cidx cs y = k := ⟨_, rfl⟩
  rw [hk1', hi1']
  have P2 : Pw n base w w2 (.slice av lv.length cap) lv cs := (HP.out.below hbase HB1.out).below hbase hb
  have HI1 : Hid (cidx cs y = i1') := hi1'
  have HP2 : Hid (Pw n base w w2 (.slice av lv.length cap) lv cs) := P2
  have hs2 := P2.size
  have hq01 : w.heap.size < w2.heap.size := by omega
  have hq02 : w.heap.size + 1 < w2.heap.size := by omega
  clear hf hk1' hi1' hb c0 c1 HB1 HF HP
  have c0 := P2.box.cell 0
  have c1 := P2.box.cell 1
  have d0 := P2.res.cell 0
  have d1 := P2.res.cell 1
  have f0 := P2.res.frozen 0
  have f1 := P2.res.frozen 1
  simp at c0 c1 d0 d1
  clear P2
  have SAME : Hid (∀ (c : Int) W1 W4, Below w2.heap.size w2 W1 → (W1.setCell ⟨w.heap.size + 1, 0, none⟩ (.int .i64 n)).setCell ⟨w.heap.size + 1, 1, none⟩ (.slice av lv.length cap) = W4 → Blk W4 (w.heap.size + 1) #[.int .i64 n, .slice av lv.length cap] 26 ∧ (joinM cs x y = (cs, c) → PanR n base w (joinM cs x y) (.returned (.tuple #[.agg #[.int .i64 n, .slice av lv.length cap], .int .i64 c])) W4)) := fun c W1 W4 hb e => (HP2.out.below hbase hb).done hbase c W4 e
  have B2 : Hid (Below w2.heap.size w2 w2) := Below.refl _ _
  cases hca : callAt cs x with
  | none =>
    have e0 := HI0.out
    rw [cidx_none hca] at e0
    subst e0
    cases hcb : callAt cs y with
    | none =>
      have e1 := HI1.out
      rw [cidx_none hcb] at e1
      subst e1
      have HM : Hid (joinM cs x y = (cs ++ [(false, [(x, false), (y, false)])], 0)) := by
        show joinM cs x y = _
        simp [joinM, hca, hcb]
      obtain ⟨i1, hi1, hy0, hy1, hy2⟩ := info_parts infoCall
      have hO5 : Op lf lg 42 base ((w2.alloc (Obj.cells #[.int .i64 x, .bool false, .int .i64 y, .bool false] 42)).alloc (Obj.cells #[.bool false, .slice (some ⟨w2.heap.size, 0, none⟩) 2 2] 45)) (.slice (some ⟨w2.heap.size, 0, none⟩) 2 2) [(x, false), (y, false)] := World.ownsRow.alloc (World.ownsRow_lit w2 #[.int .i64 x, .bool false, .int .i64 y, .bool false] 2 (by omega) (by simp [maxLen]) (by simp)) _
      have HB5 : Hid (Below w2.heap.size w2 ((w2.alloc (Obj.cells #[.int .i64 x, .bool false, .int .i64 y, .bool false] 42)).alloc (Obj.cells #[.bool false, .slice (some ⟨w2.heap.size, 0, none⟩) 2 2] 45))) := ((Below.refl _ _).alloc (by simp) _).alloc (by simp) _
      have HO5 : Hid _ := hO5
      have R5 : Hid (((w2.alloc (Obj.cells #[.int .i64 x, .bool false, .int .i64 y, .bool false] 42)).alloc (Obj.cells #[.bool false, .slice (some ⟨w2.heap.size, 0, none⟩) 2 2] 45)).ownsRow base 45 2 (.slice av lv.length cap) lv.length (pr Prod.fst Prod.snd lv)) := (HP2.out.below hbase HB5.out).row
      clear hca hcb hO5
      go_wp2_with (at_builtin; refine wpList_append_lies _ rfl _ _ 24 rfl base 45 i1 (.agg #[.bool false, .slice none 0 0]) 2 32 Try.underlying24 hi1 hy0 hy1 hy2 rfl (by decide) _ _ _ rfl R5.out ⟨w2.heap.size + 1, 0, none⟩ 1 1 [.bool false, .slice (some ⟨w2.heap.size, 0, none⟩) 2 2] rfl rfl (World.news_of_block (Blk.newAt _ (w2.heap.size + 1) _ 45 (by simp))) (by intro u hu; simp at hu; rcases hu with rfl | rfl <;> rfl) (by decide) (by unfold maxLen; omega) (by omega) (by simp; omega) (w2.heap.size + 1 + 1) (by simp) ?_)
      intro g2 cap2 w6 ho hgr hloc hlt2
      obtain ⟨⟨t0, t1, t2⟩, ⟨t3, t4, t5, t6⟩, hfin⟩ := HP2.out.push (c := (false, [(x, false), (y, false)])) (nv := .slice (some ⟨g2, 0, none⟩) (lv.length + 1) cap2) hbase HB5.out HO5.out (fun k e => by have := Option.some.inj e; dsimp only at this; omega) hgr (by
        rcases hloc with e | e
        · left; rw [e]; rfl
        · right; rw [e]; simp [Value.ownBlock]) ho
      have HFF : Hid _ := hfin
      clear ho hgr hloc hlt2 hfin R5 HO5 HB5 c0 c1 d0 d1 f0 f1
      go_wp2
      exact bodyPost_ret (v := .tuple #[.agg #[.int .i64 n, .slice (some ⟨g2, 0, none⟩) (lv.length + 1) cap2], .int .i64 0]) (results_26 rfl _ _ _ _ _ _ rfl rfl (HFF.out.done (r := joinM cs x y) hbase 0 _ rfl).1) rfl ((HFF.out.done hbase 0 _ rfl).2 HM.out)
    | some k =>
      have e1 := HI1.out
      rw [cidx_some hcb] at e1
      subst e1
      have hic : k < cs.length := callAt_lt hcb
      have hil : k < lv.length := by have := HLL.out; omega
      obtain ⟨g, rfl⟩ : ∃ g, av = some ⟨g, 0, none⟩ := by
        rcases hc3 with h | h
        · omega
        · exact h
      have P2 := HP2.out
      obtain ⟨ls, hls⟩ : ∃ p, cs[k].2 = p := ⟨_, rfl⟩
      obtain ⟨Y, hY⟩ : ∃ p, lv[k].2 = p := ⟨_, rfl⟩
      obtain ⟨hq1, hq2, -, -⟩ := P2.own k hil hic
      have hl8 : ls.length ≤ 8 := by rw [← hls]; exact h8 _ (List.getElem_mem hic)
      rw [hY, hls] at hq2
      obtain ⟨ay, cy, e, hy1, hy2, -⟩ := own_form hq2
      subst e
      have hp := pr_at Prod.fst Prod.snd lv k hil
      have g1 : w2.cell? ⟨g, k * 2 + 1, none⟩ = some (.slice ay ls.length cy) := by rw [← hY]; exact (World.ownsRow.cellAt P2.row (k * 2 + 1) (by omega)).trans hp.2
      have hlsa : lsAt cs k = ls := by rw [lsAt_eq hic, hls]
      have hgo : g ≠ w.heap.size ∧ g ≠ w.heap.size + 1 := ⟨fun e => P2.voff.1 (by rw [e]; rfl), fun e => P2.voff.2 (by rw [e]; rfl)⟩
      have hgl := (World.ownsRow.lt P2.row g rfl).2
      have HBW : Hid (Below w2.heap.size w2 ((w2.alloc (Obj.cells #[.int .i64 y, .bool false] 42)).alloc (Obj.cells #[.int .i64 x, .bool false] 42))) := (((Below.refl _ _).alloc (by simp) _).alloc (by simp) _)
      by_cases hfull : ls.length + 1 > 8
      · have HM : Hid (joinM cs x y = (cs, 3)) := by
          show joinM cs x y = (cs, 3)
          simp [joinM, hca, hcb, hlsa]
          omega
        have hfz : 8 < (ls.length : Int) + 1 := by omega
        clear P2 hq1 hq2 hp hls hY hfull hlsa hca hcb
        go_wp2
        exact bodyPost_ret (v := .tuple #[.agg #[.int .i64 n, .slice (some ⟨g, 0, none⟩) lv.length cap], .int .i64 3]) (results_26 rfl _ _ _ _ _ _ rfl rfl (((SAME.out 3 w2 _ B2.out rfl).1.alloc _).alloc _)) rfl (PanR.alloc (PanR.alloc ((SAME.out 3 w2 _ B2.out rfl).2 HM.out) (by simp; omega) _) (by simp; omega) _)
      · have hM : joinM cs x y = (cs.set k (false, ls ++ [(x, false)]), 0) := by
          simp [joinM, hca, hcb, hlsa]
          omega
        have HM : Hid (joinM cs x y = (cs.set k (false, ls ++ [(x, false)]), 0)) := hM
        have hfz : ¬ (8 < (ls.length : Int) + 1) := by omega
        obtain ⟨W1, hW1⟩ : ∃ W1, ((w2.alloc (Obj.cells #[.int .i64 y, .bool false] 42)).alloc (Obj.cells #[.int .i64 x, .bool false] 42)) = W1 := ⟨_, rfl⟩
        have kb1 : Below w2.heap.size w2 W1 := hW1 ▸ HBW.out
        have kbd : Below w2.heap.size w2 W1.drew := kb1.drew
        have hs1 : w2.heap.size ≤ W1.heap.size := kb1.size
        have P1 : Pw n base w W1.drew (.slice (some ⟨g, 0, none⟩) lv.length cap) lv cs := P2.below hbase kbd
        have HY1 : Hid (Op lf lg 42 base W1.drew (.slice ay ls.length cy) ls) := Op.below hq2 kbd
        have HR1 : Hid (Rp lf lg W1.drew (.slice (some ⟨w2.heap.size + 1, 0, none⟩) 1 1) [(x, false)]) := by
          refine ⟨_, 1, rfl, by simp, by simp [maxLen], .inr ⟨w2.heap.size + 1, 0, rfl, fun i hi => ?_⟩⟩
          have hk : Blk W1 (w2.heap.size + 1) #[.int .i64 x, .bool false] 42 := hW1 ▸ Blk.newAt _ _ _ 42 (by simp)
          obtain rfl : i = 0 := by simp at hi; omega
          have u0 := hk.cell 0
          have u1 := hk.cell 1
          simp at u0 u1
          exact ⟨by simpa using u0, by simpa using u1⟩
        have HP1 : Hid (Pw n base w W1.drew (.slice (some ⟨g, 0, none⟩) lv.length cap) lv cs) := P1
        have HYE : Hid (lv[k].2 = .slice ay ls.length cy) := hY
        have HW1 : Hid (((w2.alloc (Obj.cells #[.int .i64 y, .bool false] 42)).alloc (Obj.cells #[.int .i64 x, .bool false] 42)) = W1) := hW1
        have e1 : W1.cell? ⟨w.heap.size, 1, none⟩ = some (.slice (some ⟨g, 0, none⟩) lv.length cap) := by rw [kb1.cell (by dsimp only; omega)]; exact c1
        have e2 : W1.cell? ⟨g, k * 2 + 1, none⟩ = some (.slice ay ls.length cy) := by rw [kb1.cell (by dsimp only; omega)]; exact g1
        obtain ⟨S, hS⟩ : ∃ S : World → Prop, ∀ W, S W ↔ W.cell? ⟨w.heap.size, 1, none⟩ = some (.slice (some ⟨g, 0, none⟩) lv.length cap) ∧ W.cell? ⟨g, k * 2 + 1, none⟩ = some (.slice ay ls.length cy) := ⟨_, fun _ => Iff.rfl⟩
        have z0 : ∀ W : At S, W.wd.cell? ⟨w.heap.size, 1, none⟩ = some (.slice (some ⟨g, 0, none⟩) lv.length cap) := fun W => ((hS _).1 W.ok).1
        have z1 : ∀ W : At S, W.wd.cell? ⟨g, k * 2 + 1, none⟩ = some (.slice ay ls.length cy) := fun W => ((hS _).1 W.ok).2
        have HSI : Hid (∀ W, W.cell? ⟨w.heap.size, 1, none⟩ = some (.slice (some ⟨g, 0, none⟩) lv.length cap) → W.cell? ⟨g, k * 2 + 1, none⟩ = some (.slice ay ls.length cy) → S W) := fun W h1 h2 => (hS W).2 ⟨h1, h2⟩
        have HS1 : Hid (S W1.drew) := HSI.out _ e1 e2
        have ne2 : Nonempty (At S) := ⟨⟨_, HS1.out⟩⟩
        have n1 : ¬ g = w.heap.size := hgo.1
        have n2 : ¬ w.heap.size = g := fun e => hgo.1 e.symm
        have n3 : ¬ g = w.heap.size + 1 := hgo.2
        have n4 : ¬ w.heap.size + 1 = g := fun e => hgo.2 e.symm
        clear hS P1 P2 hq1 hq2 hp hls hY hfull hM hlsa hca hcb hW1 kb1 kbd e1 e2 hgo
        go_wp2
        rw [HW1.out]
        clear c0 c1 d0 d1 f0 f1 g1
        refine region_mixA [true, true, true, true, true, true, true, true, true, true, false, false, false, false] 11 1 S (by kernel_rfl) rfl (by kernel_rfl) (fun _ _ _ _ _ h => h) HS1.out ?_
        simp only [selT, selF]
        repeat (go_big_quiet_step (fail))
        refine wpQuiet_nil ?_
        refine tail_step ?_
        go_wp2_with (at_builtin; refine appLegs rfl _ _ rfl base _ ls rfl HY1.out _ [(x, false)] rfl HR1.out (by simp; omega) (by show base ≤ W1.heap.size; omega) ?_)
        intro v' w4 ho4 hg4 hv4
        obtain ⟨⟨⟨t0, t1⟩, ⟨t2, t3, t4, t5⟩, ⟨⟨u6, t6⟩, t7, t8, t9⟩⟩, hfin⟩ := HP1.out.come hbase hil HYE.out ho4 hg4 hv4
        have HFF : Hid _ := hfin
        have HS4 : Hid (S w4) := HSI.out _ t1 t7
        obtain ⟨a4, c4, hv5, -, -, -⟩ := own_form ho4
        rw [show (ls ++ [(x, false)]).length = ls.length + 1 by simp] at hv5
        subst hv5
        clear ho4 hg4 hv4 hfin HY1 HR1
        go_wp2
        refine ⟨HS4.out, tail_end ?_⟩
        go_wp2
        exact bodyPost_ret (v := .tuple #[.agg #[.int .i64 n, .slice (some ⟨g, 0, none⟩) lv.length cap], .int .i64 0]) (results_26 rfl _ _ _ _ _ _ rfl rfl (HFF.out.done (r := joinM cs x y) hbase 0 _ rfl).1) rfl ((HFF.out.done hbase 0 _ rfl).2 HM.out)
  | some i =>
    have e0 := HI0.out
    rw [cidx_some hca] at e0
    subst e0
    cases hcb : callAt cs y with
    | none =>
      have e1 := HI1.out
      rw [cidx_none hcb] at e1
      subst e1
      have hic : i < cs.length := callAt_lt hca
      have hil : i < lv.length := by have := HLL.out; omega
      obtain ⟨g, rfl⟩ : ∃ g, av = some ⟨g, 0, none⟩ := by
        rcases hc3 with h | h
        · omega
        · exact h
      have P2 := HP2.out
      obtain ⟨ls, hls⟩ : ∃ p, cs[i].2 = p := ⟨_, rfl⟩
      obtain ⟨Y, hY⟩ : ∃ p, lv[i].2 = p := ⟨_, rfl⟩
      obtain ⟨hq1, hq2, -, -⟩ := P2.own i hil hic
      have hl8 : ls.length ≤ 8 := by rw [← hls]; exact h8 _ (List.getElem_mem hic)
      rw [hY, hls] at hq2
      obtain ⟨ay, cy, e, hy1, hy2, -⟩ := own_form hq2
      subst e
      have hp := pr_at Prod.fst Prod.snd lv i hil
      have g1 : w2.cell? ⟨g, i * 2 + 1, none⟩ = some (.slice ay ls.length cy) := by rw [← hY]; exact (World.ownsRow.cellAt P2.row (i * 2 + 1) (by omega)).trans hp.2
      have hlsa : lsAt cs i = ls := by rw [lsAt_eq hic, hls]
      have hgo : g ≠ w.heap.size ∧ g ≠ w.heap.size + 1 := ⟨fun e => P2.voff.1 (by rw [e]; rfl), fun e => P2.voff.2 (by rw [e]; rfl)⟩
      have hgl := (World.ownsRow.lt P2.row g rfl).2
      have HBW : Hid (Below w2.heap.size w2 (w2.alloc (Obj.cells #[.int .i64 y, .bool false] 42))) := ((Below.refl _ _).alloc (by simp) _)
      by_cases hfull : ls.length + 1 > 8
      · have HM : Hid (joinM cs x y = (cs, 3)) := by
          show joinM cs x y = (cs, 3)
          simp [joinM, hca, hcb, hlsa]
          omega
        have hfz : 8 < (ls.length : Int) + 1 := by omega
        clear P2 hq1 hq2 hp hls hY hfull hlsa hca hcb
        go_wp2
        exact bodyPost_ret (v := .tuple #[.agg #[.int .i64 n, .slice (some ⟨g, 0, none⟩) lv.length cap], .int .i64 3]) (results_26 rfl _ _ _ _ _ _ rfl rfl ((SAME.out 3 w2 _ B2.out rfl).1.alloc _)) rfl (PanR.alloc ((SAME.out 3 w2 _ B2.out rfl).2 HM.out) (by simp; omega) _)
      · have hM : joinM cs x y = (cs.set i (false, ls ++ [(y, false)]), 0) := by
          simp [joinM, hca, hcb, hlsa]
          omega
        have HM : Hid (joinM cs x y = (cs.set i (false, ls ++ [(y, false)]), 0)) := hM
        have hfz : ¬ (8 < (ls.length : Int) + 1) := by omega
        obtain ⟨W1, hW1⟩ : ∃ W1, (w2.alloc (Obj.cells #[.int .i64 y, .bool false] 42)) = W1 := ⟨_, rfl⟩
        have kb1 : Below w2.heap.size w2 W1 := hW1 ▸ HBW.out
        have kbd : Below w2.heap.size w2 W1.drew := kb1.drew
        have hs1 : w2.heap.size ≤ W1.heap.size := kb1.size
        have P1 : Pw n base w W1.drew (.slice (some ⟨g, 0, none⟩) lv.length cap) lv cs := P2.below hbase kbd
        have HY1 : Hid (Op lf lg 42 base W1.drew (.slice ay ls.length cy) ls) := Op.below hq2 kbd
        have HR1 : Hid (Rp lf lg W1.drew (.slice (some ⟨w2.heap.size, 0, none⟩) 1 1) [(y, false)]) := by
          refine ⟨_, 1, rfl, by simp, by simp [maxLen], .inr ⟨w2.heap.size, 0, rfl, fun i hi => ?_⟩⟩
          have hk : Blk W1 (w2.heap.size) #[.int .i64 y, .bool false] 42 := hW1 ▸ Blk.newAt _ _ _ 42 (by simp)
          obtain rfl : i = 0 := by simp at hi; omega
          have u0 := hk.cell 0
          have u1 := hk.cell 1
          simp at u0 u1
          exact ⟨by simpa using u0, by simpa using u1⟩
        have HP1 : Hid (Pw n base w W1.drew (.slice (some ⟨g, 0, none⟩) lv.length cap) lv cs) := P1
        have HYE : Hid (lv[i].2 = .slice ay ls.length cy) := hY
        have HW1 : Hid ((w2.alloc (Obj.cells #[.int .i64 y, .bool false] 42)) = W1) := hW1
        have e1 : W1.cell? ⟨w.heap.size, 1, none⟩ = some (.slice (some ⟨g, 0, none⟩) lv.length cap) := by rw [kb1.cell (by dsimp only; omega)]; exact c1
        have e2 : W1.cell? ⟨g, i * 2 + 1, none⟩ = some (.slice ay ls.length cy) := by rw [kb1.cell (by dsimp only; omega)]; exact g1
        obtain ⟨S, hS⟩ : ∃ S : World → Prop, ∀ W, S W ↔ W.cell? ⟨w.heap.size, 1, none⟩ = some (.slice (some ⟨g, 0, none⟩) lv.length cap) ∧ W.cell? ⟨g, i * 2 + 1, none⟩ = some (.slice ay ls.length cy) := ⟨_, fun _ => Iff.rfl⟩
        have z0 : ∀ W : At S, W.wd.cell? ⟨w.heap.size, 1, none⟩ = some (.slice (some ⟨g, 0, none⟩) lv.length cap) := fun W => ((hS _).1 W.ok).1
        have z1 : ∀ W : At S, W.wd.cell? ⟨g, i * 2 + 1, none⟩ = some (.slice ay ls.length cy) := fun W => ((hS _).1 W.ok).2
        have HSI : Hid (∀ W, W.cell? ⟨w.heap.size, 1, none⟩ = some (.slice (some ⟨g, 0, none⟩) lv.length cap) → W.cell? ⟨g, i * 2 + 1, none⟩ = some (.slice ay ls.length cy) → S W) := fun W h1 h2 => (hS W).2 ⟨h1, h2⟩
        have HS1 : Hid (S W1.drew) := HSI.out _ e1 e2
        have ne2 : Nonempty (At S) := ⟨⟨_, HS1.out⟩⟩
        have n1 : ¬ g = w.heap.size := hgo.1
        have n2 : ¬ w.heap.size = g := fun e => hgo.1 e.symm
        have n3 : ¬ g = w.heap.size + 1 := hgo.2
        have n4 : ¬ w.heap.size + 1 = g := fun e => hgo.2 e.symm
        clear hS P1 P2 hq1 hq2 hp hls hY hfull hM hlsa hca hcb hW1 kb1 kbd e1 e2 hgo
        go_wp2
        rw [HW1.out]
        clear c0 c1 d0 d1 f0 f1 g1
        refine region_mixA [true, true, true, true, true, true, true, true, true, true, false, false, false, false] 11 1 S (by kernel_rfl) rfl (by kernel_rfl) (fun _ _ _ _ _ h => h) HS1.out ?_
        simp only [selT, selF]
        repeat (go_big_quiet_step (fail))
        refine wpQuiet_nil ?_
        refine tail_step ?_
        go_wp2_with (at_builtin; refine appLegs rfl _ _ rfl base _ ls rfl HY1.out _ [(y, false)] rfl HR1.out (by simp; omega) (by show base ≤ W1.heap.size; omega) ?_)
        intro v' w4 ho4 hg4 hv4
        obtain ⟨⟨⟨t0, t1⟩, ⟨t2, t3, t4, t5⟩, ⟨⟨u6, t6⟩, t7, t8, t9⟩⟩, hfin⟩ := HP1.out.come hbase hil HYE.out ho4 hg4 hv4
        have HFF : Hid _ := hfin
        have HS4 : Hid (S w4) := HSI.out _ t1 t7
        obtain ⟨a4, c4, hv5, -, -, -⟩ := own_form ho4
        rw [show (ls ++ [(y, false)]).length = ls.length + 1 by simp] at hv5
        subst hv5
        clear ho4 hg4 hv4 hfin HY1 HR1
        go_wp2
        refine ⟨HS4.out, tail_end ?_⟩
        go_wp2
        exact bodyPost_ret (v := .tuple #[.agg #[.int .i64 n, .slice (some ⟨g, 0, none⟩) lv.length cap], .int .i64 0]) (results_26 rfl _ _ _ _ _ _ rfl rfl (HFF.out.done (r := joinM cs x y) hbase 0 _ rfl).1) rfl ((HFF.out.done hbase 0 _ rfl).2 HM.out)
    | some k =>
      have e1 := HI1.out
      rw [cidx_some hcb] at e1
      subst e1
      by_cases hik : i = k
      · subst hik
        have HM : Hid (joinM cs x y = (cs, 2)) := by
          show joinM cs x y = (cs, 2)
          simp [joinM, hca, hcb]
        clear hca hcb
        go_wp2
        exact bodyPost_ret (v := .tuple #[.agg #[.int .i64 n, .slice av lv.length cap], .int .i64 2]) (results_26 rfl _ _ _ _ _ _ rfl rfl (SAME.out 2 w2 _ B2.out rfl).1) rfl ((SAME.out 2 w2 _ B2.out rfl).2 HM.out)
      · have hic : i < cs.length := callAt_lt hca
        have hkc : k < cs.length := callAt_lt hcb
        have hil : i < lv.length := by have := HLL.out; omega
        have hkl : k < lv.length := by have := HLL.out; omega
        obtain ⟨g, rfl⟩ : ∃ g, av = some ⟨g, 0, none⟩ := by
          rcases hc3 with h | h
          · omega
          · exact h
        have P2 := HP2.out
        obtain ⟨ls, hls⟩ : ∃ p, cs[i].2 = p := ⟨_, rfl⟩
        obtain ⟨Y, hY⟩ : ∃ p, lv[i].2 = p := ⟨_, rfl⟩
        obtain ⟨hq1, hq2, -, -⟩ := P2.own i hil hic
        have hl8 : ls.length ≤ 8 := by rw [← hls]; exact h8 _ (List.getElem_mem hic)
        rw [hY, hls] at hq2
        obtain ⟨ay, cy, e, hy1, hy2, -⟩ := own_form hq2
        subst e
        have hp := pr_at Prod.fst Prod.snd lv i hil
        have g1 : w2.cell? ⟨g, i * 2 + 1, none⟩ = some (.slice ay ls.length cy) := by rw [← hY]; exact (World.ownsRow.cellAt P2.row (i * 2 + 1) (by omega)).trans hp.2
        have hlsa : lsAt cs i = ls := by rw [lsAt_eq hic, hls]
        obtain ⟨ls2, hls2⟩ : ∃ p, cs[k].2 = p := ⟨_, rfl⟩
        obtain ⟨Y2, hY2⟩ : ∃ p, lv[k].2 = p := ⟨_, rfl⟩
        obtain ⟨hr1, hr2, -, -⟩ := P2.own k hkl hkc
        have hl82 : ls2.length ≤ 8 := by rw [← hls2]; exact h8 _ (List.getElem_mem hkc)
        rw [hY2, hls2] at hr2
        obtain ⟨a2, c2, e, hz1, hz2, -⟩ := own_form hr2
        subst e
        have hp2 := pr_at Prod.fst Prod.snd lv k hkl
        have g2 : w2.cell? ⟨g, k * 2 + 1, none⟩ = some (.slice a2 ls2.length c2) := by rw [← hY2]; exact (World.ownsRow.cellAt P2.row (k * 2 + 1) (by omega)).trans hp2.2
        have hlsb : lsAt cs k = ls2 := by rw [lsAt_eq hkc, hls2]
        have hikz : ¬ ((i : Int) = (k : Int)) := by omega
        have hgo : g ≠ w.heap.size ∧ g ≠ w.heap.size + 1 := ⟨fun e => P2.voff.1 (by rw [e]; rfl), fun e => P2.voff.2 (by rw [e]; rfl)⟩
        have hgl := (World.ownsRow.lt P2.row g rfl).2
        have HBW : Hid (Below w2.heap.size w2 (w2.alloc (Obj.cells #[.int .i64 y, .bool false] 42))) := ((Below.refl _ _).alloc (by simp) _)
        by_cases hfull : ls.length + ls2.length > 8
        · have HM : Hid (joinM cs x y = (cs, 3)) := by
            show joinM cs x y = (cs, 3)
            simp [joinM, hca, hcb, hlsa, hlsb, hik]
            omega
          have hfz : 8 < (ls.length : Int) + (ls2.length : Int) := by omega
          clear P2 hq1 hq2 hp hls hY hfull hlsa hca hcb hr1 hr2 hp2 hls2 hY2 hlsb
          go_wp2
          exact bodyPost_ret (v := .tuple #[.agg #[.int .i64 n, .slice (some ⟨g, 0, none⟩) lv.length cap], .int .i64 3]) (results_26 rfl _ _ _ _ _ _ rfl rfl ((SAME.out 3 w2 _ B2.out rfl).1.alloc _)) rfl (PanR.alloc ((SAME.out 3 w2 _ B2.out rfl).2 HM.out) (by simp; omega) _)
        · have hM : joinM cs x y = ((cs.set i (false, ls ++ ls2)).eraseIdx k, 0) := by
            simp [joinM, hca, hcb, hlsa, hlsb, hik]
            omega
          have HM : Hid (joinM cs x y = ((cs.set i (false, ls ++ ls2)).eraseIdx k, 0)) := hM
          have hfz : ¬ (8 < (ls.length : Int) + (ls2.length : Int)) := by omega
          obtain ⟨W1, hW1⟩ : ∃ W1, (w2.alloc (Obj.cells #[.int .i64 y, .bool false] 42)) = W1 := ⟨_, rfl⟩
          have kb1 : Below w2.heap.size w2 W1 := hW1 ▸ HBW.out
          have kbd : Below w2.heap.size w2 W1.drew := kb1.drew
          have hs1 : w2.heap.size ≤ W1.heap.size := kb1.size
          have P1 : Pw n base w W1.drew (.slice (some ⟨g, 0, none⟩) lv.length cap) lv cs := P2.below hbase kbd
          have HY1 : Hid (Op lf lg 42 base W1.drew (.slice ay ls.length cy) ls) := Op.below hq2 kbd
          have HR1 : Hid (Rp lf lg W1.drew (.slice a2 ls2.length c2) ls2) := (Op.below hr2 kbd).rd
          have HP1 : Hid (Pw n base w W1.drew (.slice (some ⟨g, 0, none⟩) lv.length cap) lv cs) := P1
          have HYE : Hid (lv[i].2 = .slice ay ls.length cy) := hY
          have HW1 : Hid ((w2.alloc (Obj.cells #[.int .i64 y, .bool false] 42)) = W1) := hW1
          have e1 : W1.cell? ⟨w.heap.size, 1, none⟩ = some (.slice (some ⟨g, 0, none⟩) lv.length cap) := by rw [kb1.cell (by dsimp only; omega)]; exact c1
          have e2 : W1.cell? ⟨g, i * 2 + 1, none⟩ = some (.slice ay ls.length cy) := by rw [kb1.cell (by dsimp only; omega)]; exact g1
          obtain ⟨S, hS⟩ : ∃ S : World → Prop, ∀ W, S W ↔ W.cell? ⟨w.heap.size, 1, none⟩ = some (.slice (some ⟨g, 0, none⟩) lv.length cap) ∧ W.cell? ⟨g, i * 2 + 1, none⟩ = some (.slice ay ls.length cy) := ⟨_, fun _ => Iff.rfl⟩
          have z0 : ∀ W : At S, W.wd.cell? ⟨w.heap.size, 1, none⟩ = some (.slice (some ⟨g, 0, none⟩) lv.length cap) := fun W => ((hS _).1 W.ok).1
          have z1 : ∀ W : At S, W.wd.cell? ⟨g, i * 2 + 1, none⟩ = some (.slice ay ls.length cy) := fun W => ((hS _).1 W.ok).2
          have HSI : Hid (∀ W, W.cell? ⟨w.heap.size, 1, none⟩ = some (.slice (some ⟨g, 0, none⟩) lv.length cap) → W.cell? ⟨g, i * 2 + 1, none⟩ = some (.slice ay ls.length cy) → S W) := fun W h1 h2 => (hS W).2 ⟨h1, h2⟩
          have HS1 : Hid (S W1.drew) := HSI.out _ e1 e2
          have ne2 : Nonempty (At S) := ⟨⟨_, HS1.out⟩⟩
          have n1 : ¬ g = w.heap.size := hgo.1
          have n2 : ¬ w.heap.size = g := fun e => hgo.1 e.symm
          have n3 : ¬ g = w.heap.size + 1 := hgo.2
          have n4 : ¬ w.heap.size + 1 = g := fun e => hgo.2 e.symm
          clear hS P1 P2 hq1 hq2 hp hls hY hfull hM hlsa hca hcb hW1 kb1 kbd e1 e2 hgo hr1 hr2 hp2 hls2 hY2 hlsb
          go_wp2
          rw [HW1.out]
          clear c0 c1 d0 d1 f0 f1 g1 g2
          refine region_mixA [true, true, true, true, true, true, true, true, true, true, false, false, false, false] 11 1 S (by kernel_rfl) rfl (by kernel_rfl) (fun _ _ _ _ _ h => h) HS1.out ?_
          simp only [selT, selF]
          repeat (go_big_quiet_step (fail))
          refine wpQuiet_nil ?_
          refine tail_step ?_
          go_wp2_with (at_builtin; refine appLegs rfl _ _ rfl base _ ls rfl HY1.out _ ls2 rfl HR1.out (by omega) (by show base ≤ W1.heap.size; omega) ?_)
          intro v' w4 ho4 hg4 hv4
          obtain ⟨⟨⟨t0, t1⟩, ⟨t2, t3, t4, t5⟩, ⟨⟨u6, t6⟩, t7, t8, t9⟩⟩, hfin⟩ := HP1.out.come hbase hil HYE.out ho4 hg4 hv4
          have HFF : Hid _ := hfin
          have HS4 : Hid (S w4) := HSI.out _ t1 t7
          obtain ⟨a4, c4, hv5, -, -, -⟩ := own_form ho4
          rw [show (ls ++ ls2).length = ls.length + ls2.length by simp] at hv5
          subst hv5
          clear ho4 hg4 hv4 hfin HY1 HR1
          go_wp2
          refine ⟨HS4.out, tail_end ?_⟩
          go_wp2
          obtain ⟨W5, hW5⟩ : ∃ W5, (w4.setCell ⟨g, i * 2 + 1, none⟩ (.slice a4 (ls.length + ls2.length) c4)).setCell ⟨g, i * 2, none⟩ (.bool false) = W5 := ⟨_, rfl⟩
          rw [hW5]
          obtain ⟨lv', hlv'⟩ : ∃ l, lv.set i (.bool false, .slice a4 (ls.length + ls2.length) c4) = l := ⟨_, rfl⟩
          have P5 := HFF.out
          rw [hW5, hlv'] at P5
          have hlen : lv'.length = lv.length := by rw [← hlv', List.length_set]
          have P6 : Pw n base w W5.drew (.slice (some ⟨g, 0, none⟩) lv'.length cap) lv' (cs.set i (false, ls ++ ls2)) := by
            rw [hlen]; exact P5.below hbase (Below.refl _ _).drew
          have HP6 : Hid (Pw n base w W5.drew (.slice (some ⟨g, 0, none⟩) lv'.length cap) lv' (cs.set i (false, ls ++ ls2))) := P6
          have hsz5 := P5.size
          have HROW : Hid (W5.drew.ownsRow base 45 2 (.slice (some ⟨g, 0, none⟩) lv.length cap) lv.length (pr Prod.fst Prod.snd lv')) := by have := P6.row; rw [hlen] at this; exact this
          have HONE : Hid (∀ u ∈ pr Prod.fst Prod.snd lv', u.oneCell' = true) := P5.own.one P5.len
          have HLEN : Hid (lv'.length = lv.length) := hlen
          have j1 := P5.box.cell 1
          simp at j1
          have HJ1 : Hid (W5.cell? ⟨w.heap.size, 1, none⟩ = some (.slice (some ⟨g, 0, none⟩) lv.length cap)) := j1
          obtain ⟨S2, hS2⟩ : ∃ S : World → Prop, ∀ W, S W ↔ W.cell? ⟨w.heap.size, 1, none⟩ = some (.slice (some ⟨g, 0, none⟩) lv.length cap) := ⟨_, fun _ => Iff.rfl⟩
          have z2 : ∀ W : At S2, W.wd.cell? ⟨w.heap.size, 1, none⟩ = some (.slice (some ⟨g, 0, none⟩) lv.length cap) := fun W => (hS2 _).1 W.ok
          have HSI2 : Hid (∀ W, W.cell? ⟨w.heap.size, 1, none⟩ = some (.slice (some ⟨g, 0, none⟩) lv.length cap) → S2 W) := fun W h => (hS2 W).2 h
          have ne3 : Nonempty (At S2) := ⟨⟨W5, HSI2.out _ j1⟩⟩
          clear hW5 hlv' P5 P6 hlen j1 hS2 HFF t0 t1 t2 t3 t4 t5 t6 t7 t8 t9 z0 z1 ne2 HS4 HS1 HSI HP1 HYE
          refine region_mixA [true, true, true, true, true, true, true, true, true, false, false, false] 10 1 S2 (by kernel_rfl) rfl (by kernel_rfl) (fun _ _ _ _ _ h => h) (HSI2.out _ HJ1.out) ?_
          simp only [selT, selF]
          repeat (go_big_quiet_step (fail))
          refine wpQuiet_nil ?_
          obtain ⟨ad2, had2⟩ : ∃ ad, (if cap = k + 1 then some (⟨g, 0, none⟩ : Addr) else some ⟨g, (k + 1) * 2, none⟩) = ad := ⟨_, rfl⟩
          rw [had2]
          have HAD2 : Hid _ := had2
          clear had2
          refine tail_step ?_
          go_wp2_with (at_builtin; refine appCut Try.underlying24 infoCall rfl (by decide) rfl _ _ rfl base g lv.length cap k lv' HROW.out HLEN.out hkl hlc rfl ad2 HAD2.out rfl HONE.out (by show base ≤ W5.heap.size; omega) ?_)
          intro b6 c6 w6 x6 hg6 hb6 hbl6 hc6 hc7
          have hcut := HP6.out.cut hbase (k := k) (b4 := b6) (c4 := c6) (w4 := w6) (by rw [HLEN.out]; exact hkl) (by rw [HLEN.out]; exact x6) hg6 (by simpa using hb6)
          rw [HLEN.out] at hcut
          obtain ⟨⟨i0, i1, i2⟩, ⟨i3, i4, i5, i6⟩, hfin6⟩ := hcut
          have HF6 : Hid _ := hfin6
          have U6 : Hid (S2 w6) := HSI2.out _ i1
          clear x6 hg6 hb6 hbl6 hfin6 HROW HONE HP6 HJ1
          go_wp2
          refine ⟨U6.out, tail_end ?_⟩
          go_wp2
          exact bodyPost_ret (v := .tuple #[.agg #[.int .i64 n, .slice (some ⟨b6, 0, none⟩) (lv.length - 1) c6], .int .i64 0]) (results_26 rfl _ _ _ _ _ _ rfl rfl (HF6.out.done (r := joinM cs x y) hbase 0 _ rfl).1) rfl ((HF6.out.done hbase 0 _ rfl).2 HM.out)
end Go.Proofs.Ytcbeaimpmjljjaa

/- A panel that the model works on: what its operations leave of it; no condition. -/
import Derived.Test.YtcbeaimpmjljjaaPick
namespace Go.Proofs.Ytcbeaimpmjljjaa
open Go.RowKit Go.ChangeShapes Go.WideShapes Go.ChangeAt
set_option linter.unusedVariables false
set_option linter.unusedSimpArgs false
set_option maxRecDepth 8000
/-- a panel at work: its box, the cell of the result, its calls -/
structure Pw (n : Int) (base : Nat) (w : World) (W : World) (V : Value) (lv : List (Value × Value)) (cs : Calls2) : Prop where
  box : Blk W w.heap.size #[.int .i64 n, V] 26
  res : Blk W (w.heap.size + 1) #[.int .i64 0, .slice none 0 0] 26
  row : W.ownsRow base 45 2 V lv.length (pr Prod.fst Prod.snd lv)
  len : lv.length = cs.length
  own : OwL base W V.ownBlock lv cs
  bel : Below base w W
  voff : V.ownBlock ≠ some w.heap.size ∧ V.ownBlock ≠ some (w.heap.size + 1)
  loff : ∀ y ∈ lv, y.2.ownBlock ≠ some w.heap.size ∧ y.2.ownBlock ≠ some (w.heap.size + 1)
section
variable {n : Int} {base : Nat} {w W W' : World} {V : Value} {lv : List (Value × Value)} {cs : Calls2}
theorem Pw.size (h : Pw n base w W V lv cs) : w.heap.size + 2 ≤ W.heap.size := by have := h.res.lt; omega
theorem Pw.below (h : Pw n base w W V lv cs) (hbase : base ≤ w.heap.size) (hb : Below W.heap.size W W') : Pw n base w W' V lv cs :=
  ⟨h.box.below hb h.box.lt, h.res.below hb h.res.lt, World.ownsRow.kept h.row (below_grown hb) (by cases V.ownBlock <;> simp), h.len, h.own.grown (below_grown hb) (.inl rfl), h.bel.trans (hb.mono (by have := h.size; omega)), h.voff, h.loff⟩
theorem Pw.done (h : Pw n base w W V lv cs) (hbase : base ≤ w.heap.size) {r : Calls2 × Int} (c : Int) : ∀ W4, (W.setCell ⟨w.heap.size + 1, 0, none⟩ (.int .i64 n)).setCell ⟨w.heap.size + 1, 1, none⟩ V = W4 →
    Blk W4 (w.heap.size + 1) #[.int .i64 n, V] 26 ∧ (r = (cs, c) → PanR n base w r (.returned (.tuple #[.agg #[.int .i64 n, V], .int .i64 c])) W4) := by
  rintro _ rfl
  refine ⟨?_, fun e => ⟨_, by rw [e], ?_, (h.bel.setCell (by dsimp only; omega) _).setCell (by dsimp only; omega) _⟩⟩
  · have := (h.res.set 0 (.int .i64 n)).set 1 V
    simpa using this
  · rw [e]
    have hh : ∀ y ∈ lv, y.2.ownBlock ≠ some (w.heap.size + 1) := fun y hy => (h.loff y hy).2
    exact ⟨lv, h.len, World.ownsRow.kept (World.ownsRow.kept h.row (grown_set _ _ _ _) (.inr h.voff.2)) (grown_set _ _ _ _) (.inr h.voff.2), (h.own.off (grown_set _ _ _ _) hh).off (grown_set _ _ _ _) hh⟩
/-- legs were put behind those of the i-th call -/
theorem Pw.come {g cap : Nat} (h : Pw n base w W (.slice (some ⟨g, 0, none⟩) lv.length cap) lv cs) (hbase : base ≤ w.heap.size) {i : Nat} (hi : i < lv.length) {y : Value} (hy : lv[i].2 = y) {ls' : Legs2} {v' : Value} {w4 : World}
    (ho : Op lf lg 42 base w4 v' ls') (hg : W.grownBy w4 y.ownBlock) (hv : v'.ownBlock = y.ownBlock ∨ v'.ownBlock = some W.heap.size) :
    ((w4.cell? ⟨w.heap.size, 0, none⟩ = some (.int .i64 n) ∧ w4.cell? ⟨w.heap.size, 1, none⟩ = some (.slice (some ⟨g, 0, none⟩) lv.length cap)) ∧ (w4.cell? ⟨w.heap.size + 1, 0, none⟩ = some (.int .i64 0) ∧ w4.cell? ⟨w.heap.size + 1, 1, none⟩ = some (.slice none 0 0) ∧ w4.frozen? ⟨w.heap.size + 1, 0, none⟩ = false ∧ w4.frozen? ⟨w.heap.size + 1, 1, none⟩ = false) ∧
      ((∃ u, w4.cell? ⟨g, i * 2, none⟩ = some u) ∧ w4.cell? ⟨g, i * 2 + 1, none⟩ = some y ∧ w4.frozen? ⟨g, i * 2, none⟩ = false ∧ w4.frozen? ⟨g, i * 2 + 1, none⟩ = false)) ∧
    Pw n base w ((w4.setCell ⟨g, i * 2 + 1, none⟩ v').setCell ⟨g, i * 2, none⟩ (.bool false)) (.slice (some ⟨g, 0, none⟩) lv.length cap) (lv.set i (.bool false, v')) (cs.set i (false, ls')) := by
  have hsz := h.size
  obtain ⟨hq1, hq2, hq3, hq4⟩ := h.own i hi (by have := h.len; omega)
  rw [hy] at hq2 hq3
  have hyo := h.loff lv[i] (List.getElem_mem hi)
  rw [hy] at hyo
  have hgo : g ≠ w.heap.size ∧ g ≠ w.heap.size + 1 := ⟨fun e => h.voff.1 (by rw [e]; rfl), fun e => h.voff.2 (by rw [e]; rfl)⟩
  have hgb := World.ownsRow.lt h.row g rfl
  have r0 : Blk w4 w.heap.size _ _ := (hg.block w.heap.size (by omega) (fun e => hyo.1 e.symm)).trans h.box
  have r1 : Blk w4 (w.heap.size + 1) _ _ := (hg.block (w.heap.size + 1) (by omega) (fun e => hyo.2 e.symm)).trans h.res
  have r2 : w4.ownsRow base 45 2 (.slice (some ⟨g, 0, none⟩) lv.length cap) lv.length (pr Prod.fst Prod.snd lv) := World.ownsRow.kept h.row hg (by
    rcases hq3 with e | e
    · rw [e]; exact .inr (by simp [Value.ownBlock])
    · exact .inr fun e2 => e e2.symm)
  have u0 := r0.cell 0
  have u1 := r0.cell 1
  have u2 := r1.cell 0
  have u3 := r1.cell 1
  simp at u0 u1 u2 u3
  have hp := pr_at Prod.fst Prod.snd lv i hi
  refine ⟨⟨⟨u0, u1⟩, ⟨u2, u3, r1.frozen 0, r1.frozen 1⟩, ⟨⟨_, (World.ownsRow.cellAt r2 (i * 2) (by omega)).trans hp.1⟩, ?_, World.ownsRow.frozenAt r2 _, World.ownsRow.frozenAt r2 _⟩⟩, ?_⟩
  · rw [World.ownsRow.cellAt r2 (i * 2 + 1) (by omega), hp.2, hy]
  · obtain ⟨z1, z2⟩ := OwL.come h.own h.len h.row hi ho (by rw [hy]; exact hg) (by rw [hy]; exact hv)
    have hyb : ∀ k, y.ownBlock = some k → base ≤ k := fun k e => (World.ownsRow.lt hq2 k e).1
    refine ⟨(r0.other _ _ (fun e => hgo.1 e.symm)).other _ _ (fun e => hgo.1 e.symm), (r1.other _ _ (fun e => hgo.2 e.symm)).other _ _ (fun e => hgo.2 e.symm), ?_, by simp [h.len], z1, ?_, h.voff, fun t ht => ?_⟩
    · rw [List.length_set]; exact z2
    · exact ((h.bel.trans (grown_below hg (by omega) hyb)).setCell hgb.1 _).setCell hgb.1 _
    · rcases List.mem_or_eq_of_mem_set ht with ht | rfl
      · exact h.loff t ht
      · rcases hv with e | e
        · dsimp only; rw [e]; exact hyo
        · dsimp only; rw [e]; exact ⟨fun e => by have := Option.some.inj e; omega, fun e => by have := Option.some.inj e; omega⟩
/-- the k-th call was cut out -/
theorem Pw.cut {g cap : Nat} (h : Pw n base w W (.slice (some ⟨g, 0, none⟩) lv.length cap) lv cs) (hbase : base ≤ w.heap.size) {k : Nat} (hk : k < lv.length) {b4 c4 : Nat} {w4 : World}
    (ho : w4.ownsRow base 45 2 (.slice (some ⟨b4, 0, none⟩) (lv.length - 1) c4) (lv.length - 1) (pr Prod.fst Prod.snd (lv.eraseIdx k))) (hg : W.grownBy w4 (some g)) (hb : b4 = g ∨ b4 = W.heap.size) :
    (w4.cell? ⟨w.heap.size, 0, none⟩ = some (.int .i64 n) ∧ w4.cell? ⟨w.heap.size, 1, none⟩ = some (.slice (some ⟨g, 0, none⟩) lv.length cap) ∧ w4.frozen? ⟨w.heap.size, 1, none⟩ = false) ∧ (w4.cell? ⟨w.heap.size + 1, 0, none⟩ = some (.int .i64 0) ∧ w4.cell? ⟨w.heap.size + 1, 1, none⟩ = some (.slice none 0 0) ∧ w4.frozen? ⟨w.heap.size + 1, 0, none⟩ = false ∧ w4.frozen? ⟨w.heap.size + 1, 1, none⟩ = false) ∧
    Pw n base w (w4.setCell ⟨w.heap.size, 1, none⟩ (.slice (some ⟨b4, 0, none⟩) (lv.length - 1) c4)) (.slice (some ⟨b4, 0, none⟩) (lv.length - 1) c4) (lv.eraseIdx k) (cs.eraseIdx k) := by
  have hsz := h.size
  have hgo : g ≠ w.heap.size ∧ g ≠ w.heap.size + 1 := ⟨fun e => h.voff.1 (by rw [e]; rfl), fun e => h.voff.2 (by rw [e]; rfl)⟩
  have hgb := World.ownsRow.lt h.row g rfl
  have r0 : Blk w4 w.heap.size _ _ := (hg.block w.heap.size (by omega) (fun e => hgo.1 (Option.some.inj e).symm)).trans h.box
  have r1 : Blk w4 (w.heap.size + 1) _ _ := (hg.block (w.heap.size + 1) (by omega) (fun e => hgo.2 (Option.some.inj e).symm)).trans h.res
  have u0 := r0.cell 0
  have u1 := r0.cell 1
  have u2 := r1.cell 0
  have u3 := r1.cell 1
  simp at u0 u1 u2 u3
  have hel : (lv.eraseIdx k).length = lv.length - 1 := List.length_eraseIdx_of_lt hk
  have hec : (cs.eraseIdx k).length = lv.length - 1 := by rw [List.length_eraseIdx_of_lt (by have := h.len; omega), h.len]
  have hb4 : b4 ≠ w.heap.size ∧ b4 ≠ w.heap.size + 1 := by omega
  have hoff : ∀ y ∈ lv.eraseIdx k, y.2.ownBlock ≠ some w.heap.size ∧ y.2.ownBlock ≠ some (w.heap.size + 1) := fun y hy => h.loff y (List.mem_of_mem_eraseIdx hy)
  have hvo : (Value.slice (some ⟨b4, 0, none⟩) (lv.length - 1) c4).ownBlock ≠ some w.heap.size ∧ (Value.slice (some ⟨b4, 0, none⟩) (lv.length - 1) c4).ownBlock ≠ some (w.heap.size + 1) := by simp [Value.ownBlock]; omega
  have L4 : OwL base w4 (some b4) (lv.eraseIdx k) (cs.eraseIdx k) := by
    refine OwL.reblk (h.own.erase h.len k) (by omega) hg ?_
    rcases hb with e | e
    · left; rw [e]; rfl
    · right; rw [e]
  refine ⟨⟨u0, u1, r0.frozen 1⟩, ⟨u2, u3, r1.frozen 0, r1.frozen 1⟩, ?_, r1.other _ _ (by dsimp only; omega), ?_, by omega, L4.off (grown_set _ _ _ _) (fun y hy => (hoff y hy).1), ?_, hvo, hoff⟩
  · have := r0.set 1 (.slice (some ⟨b4, 0, none⟩) (lv.length - 1) c4)
    simpa using this
  · rw [hel]; exact World.ownsRow.kept ho (grown_set _ _ _ _) (.inr hvo.1)
  · exact (h.bel.trans (grown_below hg (by omega) (fun k e => by cases e; exact hgb.1))).setCell (by dsimp only; omega) _
/-- one more call, its legs in new memory -/
theorem Pw.push {nv v' : Value} {w5 w6 : World} {c : Bool × Legs2} (h : Pw n base w W V lv cs) (hbase : base ≤ w.heap.size) (hB5 : Below W.heap.size W w5) (hO5 : Op lf lg 42 base w5 v' c.2) (hvn : ∀ k, v'.ownBlock = some k → W.heap.size ≤ k) (g6 : w5.grownBy w6 V.ownBlock)
    (hnv : nv.ownBlock = V.ownBlock ∨ nv.ownBlock = some w5.heap.size) (hr : w6.ownsRow base 45 2 nv (lv.length + 1) (pr Prod.fst Prod.snd lv ++ [.bool c.1, v'])) :
    (w6.cell? ⟨w.heap.size, 0, none⟩ = some (.int .i64 n) ∧ w6.cell? ⟨w.heap.size, 1, none⟩ = some V ∧ w6.frozen? ⟨w.heap.size, 1, none⟩ = false) ∧ (w6.cell? ⟨w.heap.size + 1, 0, none⟩ = some (.int .i64 0) ∧ w6.cell? ⟨w.heap.size + 1, 1, none⟩ = some (.slice none 0 0) ∧ w6.frozen? ⟨w.heap.size + 1, 0, none⟩ = false ∧ w6.frozen? ⟨w.heap.size + 1, 1, none⟩ = false) ∧
    Pw n base w (w6.setCell ⟨w.heap.size, 1, none⟩ nv) nv (lv ++ [(.bool c.1, v')]) (cs ++ [c]) := by
  have hsz := h.size
  have h5 := h.below hbase hB5
  have hs5 := hB5.size
  have r0 : Blk w6 w.heap.size _ _ := (g6.block w.heap.size (by omega) (fun e => h.voff.1 e.symm)).trans h5.box
  have r1 : Blk w6 (w.heap.size + 1) _ _ := (g6.block (w.heap.size + 1) (by omega) (fun e => h.voff.2 e.symm)).trans h5.res
  have u0 := r0.cell 0
  have u1 := r0.cell 1
  have u2 := r1.cell 0
  have u3 := r1.cell 1
  simp at u0 u1 u2 u3
  have L := h.own.push (nv := nv) h.len (fun k e => (World.ownsRow.lt h.row k e).2) hB5 hO5 hvn g6 hnv
  have hoff : ∀ y ∈ lv ++ [(Value.bool c.1, v')], y.2.ownBlock ≠ some w.heap.size ∧ y.2.ownBlock ≠ some (w.heap.size + 1) := fun y hy => by
    rcases List.mem_append.1 hy with hy | hy
    · exact h.loff y hy
    · simp at hy; subst hy
      exact ⟨fun e => by have := hvn _ e; omega, fun e => by have := hvn _ e; omega⟩
  have hvo : nv.ownBlock ≠ some w.heap.size ∧ nv.ownBlock ≠ some (w.heap.size + 1) := by
    rcases hnv with e | e
    · rw [e]; exact h.voff
    · rw [e]; exact ⟨fun e => by have := Option.some.inj e; omega, fun e => by have := Option.some.inj e; omega⟩
  refine ⟨⟨u0, u1, r0.frozen 1⟩, ⟨u2, u3, r1.frozen 0, r1.frozen 1⟩, ?_, r1.other _ _ (by dsimp only; omega), ?_, by simp [h.len], L.off (grown_set _ _ _ _) (fun y hy => (hoff y hy).1), ?_, hvo, hoff⟩
  · have := r0.set 1 nv
    simpa using this
  · rw [pr_append, List.length_append]; exact World.ownsRow.kept hr (grown_set _ _ _ _) (.inr hvo.1)
  · exact (h5.bel.trans (grown_below g6 (by omega) (fun k e => (World.ownsRow.lt h.row k e).1))).setCell (by dsimp only; omega) _
end
end Go.Proofs.Ytcbeaimpmjljjaa

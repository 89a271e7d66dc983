/- What the model's Connect stands on; no condition. -/
import Derived.Test.YtikhfeafbckjlaaDoorFCoI
import Derived.Test.YtikhfeafbckjlaaDoorFRelM
import Derived.Test.YtikhfeafbckjlaaDoorFChM
namespace Go.Proofs.YtikhfeafbckjlaaDoor
open Go.RowKit Go.ChangeShapes Go.WideShapes Go.ChangeAt
set_option linter.unusedVariables false
set_option linter.unusedSimpArgs false
set_option maxRecDepth 8000
/-- the model's fabric at work: its box, the answer's place, the paths, the moves beside -/
structure Rm (s p m : Int) (w W : World) (V : Value) (ls : Tri) (N : Value) (ms : Mvs) : Prop where
  box : Blk W w.heap.size (F4 s p m V) 26
  res : Blk W (w.heap.size + 1) (F4 0 0 0 (.slice none 0 0)) 26
  own : Ot 35 (w.heap.size + 2) W V ls
  non : Op mf mg 74 (w.heap.size + 2) W N ms
  ne : ∀ k, V.ownBlock = some k → N.ownBlock ≠ some k
  bel : Below w.heap.size w W
section
variable {s p m : Int} {w W W' : World} {V N : Value} {ls ls' : Tri} {ms : Mvs}
theorem Rm.below (h : Rm s p m w W V ls N ms) (hb : Below W.heap.size W W') : Rm s p m w W' V ls N ms :=
  ⟨h.box.below hb h.box.lt, h.res.below hb h.res.lt, h.own.below hb, Op.below h.non hb, h.ne, h.bel.trans (hb.mono h.bel.size)⟩
theorem Rm.other (h : Rm s p m w W V ls N ms) {N' : Value} {ms' : Mvs} {W0 : World} (hb : Below W0.heap.size W0 W) (hV : ∀ k, V.ownBlock = some k → k < W0.heap.size) (ho : Op mf mg 74 W0.heap.size W N' ms') (hw : w.heap.size + 2 ≤ W0.heap.size) : Rm s p m w W V ls N' ms' :=
  ⟨h.box, h.res, h.own, Op.mono ho hw, fun k e e2 => by have := hV k e; have := (World.ownsRow.lt ho k e2).1; omega, h.bel⟩
theorem Rm.app {w2 : World} {nv : Value} {o : Obj} (h : Rm s p m w W V ls N ms) (ho : Ot 35 (w.heap.size + 2) w2 nv ls') (hg : (W.alloc o).grownBy w2 V.ownBlock) (hv : nv.ownBlock = V.ownBlock ∨ nv.ownBlock = some (W.alloc o).heap.size) :
    (Blk w2 w.heap.size (F4 s p m V) 26 ∧ Blk w2 (w.heap.size + 1) (F4 0 0 0 (.slice none 0 0)) 26) ∧ Rm s p m w (w2.setCell ⟨w.heap.size, 3, none⟩ nv) nv ls' N ms := by
  have hob : ∀ k, V.ownBlock = some k → w.heap.size + 2 ≤ k := fun k e => (World.ownsRow.lt h.own k e).1
  have b1 : Below W.heap.size W (W.alloc o) := (Below.refl _ _).alloc (Nat.le_refl _) _
  have bx1 := h.box.below b1 h.box.lt
  have rs1 := h.res.below b1 h.res.lt
  have m1 := Op.below h.non b1
  have bl1 : Below w.heap.size w (W.alloc o) := belowCall h.bel b1 h.bel.size
  have bx2 : Blk w2 w.heap.size (F4 s p m V) 26 := (hg.block _ bx1.lt (fun e => by have := hob _ e.symm; omega)).trans bx1
  have rs2 : Blk w2 (w.heap.size + 1) (F4 0 0 0 (.slice none 0 0)) 26 := (hg.block _ rs1.lt (fun e => by have := hob _ e.symm; omega)).trans rs1
  have m2 : Op mf mg 74 (w.heap.size + 2) w2 N ms := World.ownsRow.kept m1 hg (by
    cases hx : N.ownBlock with
    | none => exact .inl rfl
    | some k => exact .inr (fun e => h.ne k e.symm hx))
  have bl2 : Below w.heap.size w w2 := bl1.trans (grown_below hg bl1.size (fun k e => by have := hob _ e; omega))
  have hNk : ∀ k, N.ownBlock = some k → w.heap.size + 2 ≤ k ∧ k < W.heap.size := fun k e => World.ownsRow.lt h.non k e
  have hnb : ∀ k, nv.ownBlock = some k → w.heap.size + 2 ≤ k := fun k e => (World.ownsRow.lt ho k e).1
  refine ⟨⟨bx2, rs2⟩, ?_, rs2.other _ _ (by dsimp only; omega), World.ownsRow.kept ho (grown_set _ _ _ _) (.inr (fun e => by have := hnb _ e; omega)), World.ownsRow.kept m2 (grown_set _ _ _ _) (.inr (fun e => by have := hNk _ e; omega)), fun k hk => ?_, bl2.setCell (by dsimp only; omega) _⟩
  · have := bx2.set 3 nv
    simpa using this
  · rcases hv with e | e
    · exact h.ne k (e ▸ hk)
    · rw [e] at hk; cases hk
      intro e2
      have h1 := hNk _ e2
      have h2 := b1.size
      omega
/-- a path's Mid is stored -/
theorem Rm.store {g n cap : Nat} (h : Rm s p m w W (.slice (some ⟨g, 0, none⟩) n cap) ls N ms) (hn : ls.length = n) (i : Nat) (hi : i < ls.length) (z : Int) : Rm s p m w (W.setCell ⟨g, i * 3 + 2, none⟩ (.int .i64 z)) (.slice (some ⟨g, 0, none⟩) n cap) (ls.set i (ls[i].1, ls[i].2.1, z)) N ms := by
  subst hn
  have hgl := World.ownsRow.lt h.own g rfl
  have s1 := (World.ownsRow.stored h.own (i * 3 + 2) (.int .i64 z)).1
  rw [tr_set2 ls i hi z] at s1
  refine ⟨h.box.other _ _ (by dsimp only; omega), h.res.other _ _ (by dsimp only; omega), by rw [Ot, List.length_set]; exact s1, World.ownsRow.kept h.non (grown_set _ _ _ _) (.inr (h.ne g rfl)), h.ne, h.bel.setCell (by dsimp only; omega) _⟩
end
theorem frV_succ (q : Nat → Bool) (k : Nat) : frV q (k + 1) = if 0 ≤ frV q k then frV q k else if q k = true then (k : Int) else -1 := by
  unfold frV
  rw [List.range_succ, List.find?_append]
  cases hf : (List.range k).find? q with
  | some i =>
    simp only [Option.or_some, Option.some_or]
    rw [if_pos (by omega)]
  | none =>
    simp only [Option.none_or]
    rw [if_neg (by decide)]
    cases hq : q k <;> simp [hq]
theorem ixV_any {q : Int × Int × Int → Bool} {ps : Tri} : decide (ixV q ps < 0) = !ps.any q := by
  unfold ixV
  cases hf : ps.findIdx? q with
  | none =>
    have : ps.any q = false := by
      rw [List.any_eq_false]
      intro x hx
      have := List.findIdx?_eq_none_iff.1 hf x hx
      simp [this]
    rw [this]; rfl
  | some k =>
    have : ps.any q = true := by
      have := List.findIdx?_isSome (p := q) (xs := ps)
      rw [hf] at this
      exact this.symm
    rw [this]
    dsimp only
    simp only [Bool.not_true, decide_eq_false_iff_not]; omega
theorem frV_no {q : Nat → Bool} {k : Nat} (h : ∀ i, i < k → q i = false) : frV q k < 0 := by
  unfold frV
  have : (List.range k).find? q = none := by
    rw [List.find?_eq_none]
    intro x hx
    rw [h x (List.mem_range.1 hx)]; simp
  rw [this]; decide
theorem frV_is {q : Nat → Bool} {k M : Nat} (h : ∀ i, i < k → q i = false) (hk : q k = true) (hM : k < M) : frV q M = k := by
  unfold frV
  have : (List.range M).find? q = some k := by
    rw [List.find?_eq_some_iff_getElem]
    exact ⟨hk, k, by simpa using hM, by simp, fun j hj => by simp [h j hj]⟩
  rw [this]
theorem mv_take {L : Tri} {f z : Int} {i : Nat} (h : i < L.length) : (mv1 L (f, z)).take (i + 1) ++ L.drop (i + 1) = if L[i].1 = f then ((mv1 L (f, z)).take i ++ L.drop i).set i (L[i].1, L[i].2.1, z) else (mv1 L (f, z)).take i ++ L.drop i := by
  have hl : i < (mv1 L (f, z)).length := by rw [mv1_len]; exact h
  have h1 : (mv1 L (f, z))[i] = if (L[i].1 == f) = true then (L[i].1, L[i].2.1, z) else L[i] := by simp [mv1]
  rw [List.take_succ_eq_append_getElem hl, List.append_assoc]
  split
  · rename_i hf
    have e0 : ((mv1 L (f, z)).take i).length = i := by simp [mv1_len]; omega
    rw [List.set_append, if_neg (by rw [e0]; omega), e0, Nat.sub_self, List.drop_eq_getElem_cons h, h1, if_pos (by simpa using hf)]; rfl
  · rename_i hf
    rw [h1, if_neg (by simpa using hf), List.drop_eq_getElem_cons h (i := i)]; rfl
theorem mv_mid {L : Tri} {f z : Int} {i : Nat} (h : i < L.length) (h' : i < ((mv1 L (f, z)).take i ++ L.drop i).length) : ((mv1 L (f, z)).take i ++ L.drop i)[i] = L[i] := by
  rw [List.getElem_append_right (by simp [mv1_len]; omega)]
  simp [mv1_len, Nat.min_eq_left (Nat.le_of_lt h)]
theorem mv_len {L : Tri} {f z : Int} {i : Nat} (h : i ≤ L.length) : ((mv1 L (f, z)).take i ++ L.drop i).length = L.length := by
  simp [mv1_len]; omega
end Go.Proofs.YtikhfeafbckjlaaDoor

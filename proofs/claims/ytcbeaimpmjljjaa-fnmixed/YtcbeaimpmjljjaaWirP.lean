/- The program's own panel with one call more, or with a call's legs told anew; no condition. -/
import Derived.Test.YtcbeaimpmjljjaaOver
namespace Go.Proofs.Ytcbeaimpmjljjaa
open Go.RowKit Go.ChangeShapes Go.WideShapes Go.ChangeAt
set_option linter.unusedVariables false
set_option linter.unusedSimpArgs false
theorem Wr.lt {base : Nat} {ρ : Nat → Tag} {chs : List Nat} {w : World} {g : Nat} {ps : List Nat} {cs : Calls2} (h : Wr base ρ chs w g ps cs) : ∀ p ∈ ps, p < w.heap.size := by
  intro p hp
  obtain ⟨i, hi, rfl⟩ := List.getElem_of_mem hp
  obtain ⟨lv, hb, -⟩ := h.call i hi (by have := h.len; omega)
  exact hb.lt
theorem Wr.tag {base : Nat} {ρ : Nat → Tag} {chs : List Nat} {w : World} {g : Nat} {ps : List Nat} {cs : Calls2} (h : Wr base ρ chs w g ps cs) : ∀ p ∈ ps, ρ p = .call p := by
  intro p hp
  obtain ⟨i, hi, rfl⟩ := List.getElem_of_mem hp
  obtain ⟨lv, hb, h1, h2, -⟩ := h.call i hi (by have := h.len; omega)
  exact h2
theorem Wr.push {base : Nat} {ρ : Nat → Tag} {chs : List Nat} {w w4 : World} {g : Nat} {ps : List Nat} {cs : Calls2} (h : Wr base ρ chs w g ps cs) (hbw : base ≤ w.heap.size) {wv : Value} {gm : Nat} {cv : Value} (hB : Blk w g #[wv, .map (some gm), cv] 103)
    (hk : Keeps ρ (fun t => t = .calls) w w4) (p : Nat) (hp : w.heap.size ≤ p) (pk : Bool) (v0 : Value) (ls : Legs2) (hb : Blk w4 p #[.bool pk, v0] 125) (v' : Value) (hr : w4.ownsRow base 95 1 v' (ps.length + 1) (ps.map ptr ++ [ptr p]))
    (hloc : ∀ k, v'.ownBlock = some k → cv.ownBlock = some k ∨ (w.heap.size ≤ k ∧ k ≠ p)) (h0 : Op (wl chs) lg 128 base w4 v0 ls) (hl0 : ∀ k, v0.ownBlock = some k → w.heap.size ≤ k ∧ k ≠ p ∧ v'.ownBlock ≠ some k) (hl : ∀ x ∈ ls, 0 ≤ x.1 ∧ x.1 < chs.length) :
    ∃ ρ', (∀ k, k < w.heap.size → ρ' k = ρ k) ∧ Wr base ρ' chs (w4.setCell ⟨g, 2, none⟩ v') g (ps ++ [p]) (cs ++ [(pk, ls)]) := by
  obtain ⟨wv0, gm0, cv0, b0, b1, b2, r1, o1, m1, m2, m3, r2, o2⟩ := h.ex
  have e := blk_same b0 hB
  simp at e
  obtain ⟨rfl, rfl, rfl⟩ := e
  have hgl := b0.lt
  have hgp : g ≠ p := by omega
  let ρ' : Nat → Tag := fun k => if k < w.heap.size then ρ k else if k = p then .call p else if v0.ownBlock = some k then .legs p else .calls
  have hag : ∀ k, k < w.heap.size → ρ' k = ρ k := fun k hk => by simp [ρ', hk]
  have hρp : ρ' p = .call p := by simp [ρ', show ¬ p < w.heap.size by omega]
  have hcv : On ρ' v' .calls := by
    intro k hk'
    rcases hloc k hk' with hq | ⟨hq1, hq2⟩
    · have := (World.ownsRow.lt r2 k hq).2
      rw [hag k this]; exact o2 k hq
    · have : v0.ownBlock ≠ some k := fun e => (hl0 k e).2.2 hk'
      simp [ρ', show ¬ k < w.heap.size by omega, hq2, this]
  have hv0 : On ρ' v0 (.legs p) := by
    intro k hk'
    obtain ⟨h1, h2, h3⟩ := hl0 k hk'
    simp [ρ', show ¬ k < w.heap.size by omega, h2, hk']
  have hk2 : Keeps ρ (fun t => t = .root ∨ t = .calls) w (w4.setCell ⟨g, 2, none⟩ v') := by
    refine ⟨by simp; exact hk.1, fun k hk1 hn => ?_⟩
    rw [heap_setCell_other w4 ⟨g, 2, none⟩ k v' (fun e => hn (by rw [e]; exact .inl b2))]
    exact hk.2 k hk1 (fun e => hn (.inr e))
  have hb4 : Blk w4 g #[wv0, .map (some gm0), cv0] 103 := blk_keeps hk b0 (by rw [b2]; simp)
  have hset := hb4.set 2 v'
  refine ⟨ρ', hag, h.re hk2 ⟨by simp, by simp⟩ hag b0 (by simpa using hset) ?_ hcv (by simp [h.len]) ?_ ?_ ?_⟩
  · have := World.ownsRow.kept hr (grown_set w4 g 2 v') (by
      cases hv : v'.ownBlock with
      | none => exact .inl rfl
      | some k =>
        refine .inr fun e => ?_
        cases e
        have := hcv _ hv
        rw [hag g hgl, b2] at this; cases this)
    simpa using this
  · rw [List.nodup_append]
    refine ⟨h.nd, by simp, fun a ha b hb => ?_⟩
    simp at hb; subst hb
    have := h.lt a ha
    omega
  · intro i hi hi'
    by_cases hil : i < ps.length
    · have hil' : i < cs.length := by have := h.len; omega
      simp only [List.getElem_append_left hil, List.getElem_append_left hil']
      exact (h.call i hil hil').keeps hk2 (by simp) (by simp) hag
    · have hie : i = ps.length := by simp at hi; omega
      have hie' : i = cs.length := by have := h.len; omega
      subst hie
      simp only [List.getElem_append_right (Nat.le_refl _), Nat.sub_self, List.getElem_cons_zero]
      simp only [List.getElem_append_right (show cs.length ≤ ps.length by omega), show ps.length - cs.length = 0 by omega, List.getElem_cons_zero]
      refine ⟨v0, hb.other _ _ (by simp; omega), by omega, hρp, World.ownsRow.kept h0 (grown_set w4 g 2 v') ?_, hv0⟩
      cases hv : v0.ownBlock with
      | none => exact .inl rfl
      | some k =>
        refine .inr fun e => ?_
        cases e
        have := (hl0 g hv).1
        omega
  · intro c hc
    rcases List.mem_append.1 hc with hc | hc
    · exact h.lines c hc
    · simp at hc; subst hc; exact hl
theorem Wr.legs {base : Nat} {ρ : Nat → Tag} {chs : List Nat} {w w4 : World} {g : Nat} {ps : List Nat} {cs : Calls2} (h : Wr base ρ chs w g ps cs) (i : Nat) (hi : i < ps.length) {pk : Bool} {lv : Value} (hB : Blk w ps[i] #[.bool pk, lv] 125)
    (hk : Keeps ρ (fun t => t = .legs ps[i]) w w4) (v' : Value) (ls' : Legs2) (hr : Op (wl chs) lg 128 base w4 v' ls') (hloc : ∀ k, v'.ownBlock = some k → lv.ownBlock = some k ∨ w.heap.size ≤ k) (hl : ∀ x ∈ ls', 0 ≤ x.1 ∧ x.1 < chs.length) :
    ∃ ρ', (∀ k, k < w.heap.size → ρ' k = ρ k) ∧ Wr base ρ' chs (w4.setCell ⟨ps[i], 1, none⟩ v') g ps (cs.set i (pk, ls')) := by
  obtain ⟨lv0, b0, b1, b2, r1, o1⟩ := h.call i hi (by have := h.len; omega)
  have e := blk_same b0 hB
  simp at e
  obtain ⟨e1, rfl⟩ := e
  have hlt := b0.lt
  let ρ' : Nat → Tag := fun k => if k < w.heap.size then ρ k else .legs ps[i]
  have hag : ∀ k, k < w.heap.size → ρ' k = ρ k := fun k hk => by simp [ρ', hk]
  have hon : On ρ' v' (.legs ps[i]) := by
    intro k hk'
    rcases hloc k hk' with hq | hq
    · have := (World.ownsRow.lt r1 k hq).2
      rw [hag k this]; exact o1 k hq
    · simp [ρ', show ¬ k < w.heap.size by omega]
  have hk2 : Keeps ρ (fun t => t = .call ps[i] ∨ t = .legs ps[i]) w (w4.setCell ⟨ps[i], 1, none⟩ v') := by
    refine ⟨by simp; exact hk.1, fun k hk1 hn => ?_⟩
    rw [heap_setCell_other w4 ⟨ps[i], 1, none⟩ k v' (fun e => hn (by rw [e]; exact .inl b2))]
    exact hk.2 k hk1 (fun e => hn (.inr e))
  have hb4 : Blk w4 ps[i] #[.bool pk, lv0] 125 := blk_keeps hk hB (by rw [b2]; simp)
  have hset := hb4.set 1 v'
  refine ⟨ρ', hag, h.put i hi hk2 hag _ ⟨v', by simpa using hset, b1, by rw [hag _ hlt]; exact b2, World.ownsRow.kept hr (grown_set w4 ps[i] 1 v') ?_, hon⟩ hl⟩
  cases hv : v'.ownBlock with
  | none => exact .inl rfl
  | some k =>
    refine .inr fun e => ?_
    cases e
    have := hon _ hv
    rw [hag _ hlt, b2] at this; cases this
end Go.Proofs.Ytcbeaimpmjljjaa

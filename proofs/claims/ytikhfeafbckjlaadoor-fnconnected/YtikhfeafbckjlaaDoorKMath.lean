/- What the moves of a chain come to; no condition. -/
import Derived.Test.YtikhfeafbckjlaaDoorNMath
namespace Go.Proofs.YtikhfeafbckjlaaDoor
open Go.RowKit Go.ChangeShapes Go.WideShapes Go.ChangeAt
set_option linter.unusedVariables false
set_option linter.unusedSimpArgs false
set_option maxRecDepth 8000
/-- the other one of two -/
def sw (h t z : Int) : Int := if z = h then t else h
theorem par_sw {h t : Int} (hne : h ≠ t) (k : Nat) : par k t h = sw h t (par k h t) := by
  unfold par sw
  by_cases e : k % 2 = 0
  · rw [if_pos e, if_pos e, if_pos rfl]
  · rw [if_neg e, if_neg e, if_neg (fun e => hne e.symm)]
theorem par_or {α : Type} (k : Nat) (x y : α) : par k x y = x ∨ par k x y = y := by unfold par; split <;> simp
section
variable {p : Int} {ps : Tri} {h t : Int} {o : Bool} {c0 : Int}
/-- is the path with that place moved? -/
def cB (p : Int) (ps : Tri) (h t : Int) (o : Bool) (c0 : Int) (K i : Nat) : Bool := (List.range K).any fun k => stt p ps h t o c0 k == (i : Int)
theorem cB_iff {K i : Nat} : cB p ps h t o c0 K i = true ↔ ∃ k, k < K ∧ stt p ps h t o c0 k = (i : Int) := by
  simp only [cB, List.any_eq_true, List.mem_range, beq_iff_eq]
theorem cB_succ {K i : Nat} : cB p ps h t o c0 (K + 1) i = (cB p ps h t o c0 K i || stt p ps h t o c0 K == (i : Int)) := by
  simp [cB, List.range_succ]
theorem from_inj (hnd : (ps.map (·.1)).Nodup) {i j : Nat} (hi : i < ps.length) (hj : j < ps.length) (e : ps[i].1 = ps[j].1) : i = j := by
  refine Classical.byContradiction fun hne => ?_
  have h1 : (ps.map (·.1))[i]'(by simpa using hi) = (ps.map (·.1))[j]'(by simpa using hj) := by simpa using e
  rcases Nat.lt_or_gt_of_ne hne with h | h
  · exact (List.pairwise_iff_getElem.1 hnd) i j (by simpa using hi) (by simpa using hj) h h1
  · exact (List.pairwise_iff_getElem.1 hnd) j i (by simpa using hj) (by simpa using hi) h h1.symm
theorem movL_get (H : ChOk p ps h t o c0) (hnd : (ps.map (·.1)).Nodup) : ∀ K, (∀ i, i < K → 0 ≤ stt p ps h t o c0 i) → ∀ i : Nat, (movL (mvL p ps h t o c0 K) ps)[i]? = (ps[i]?).map fun x => if cB p ps h t o c0 K i = true then (x.1, x.2.1, sw h t x.2.2) else x
  | 0, _, i => by
    have : movL (mvL p ps h t o c0 0) ps = ps := rfl
    rw [this]
    cases ps[i]? <;> simp [cB]
  | K + 1, hK, i => by
    have ih := movL_get H hnd K (fun i hi => hK i (by omega)) i
    rw [mvL_succ, movL_snoc, mv1, List.getElem?_map, ih]
    by_cases hi : i < ps.length
    case neg => rw [List.getElem?_eq_none (by omega)]; rfl
    have hp := hK K (by omega)
    obtain ⟨s1, s2⟩ := stt_in H K hp
    rw [List.getElem?_eq_getElem hi, Option.map_some, Option.map_some, Option.map_some, cB_succ]
    congr 1
    rw [pAt_eq s1]
    rw [pAt_eq s1] at s2
    by_cases he : stt p ps h t o c0 K = (i : Int)
    · have e1 : (stt p ps h t o c0 K).toNat = i := by omega
      have e2 : ps[(stt p ps h t o c0 K).toNat] = ps[i] := by simp [e1]
      rw [e2] at s2 ⊢
      have hb : (stt p ps h t o c0 K == (i : Int)) = true := by simpa using he
      rw [hb, Bool.or_true, if_pos rfl, par_sw H.ne, ← s2]
      split <;> simp
    · have hb : (stt p ps h t o c0 K == (i : Int)) = false := by simpa using he
      rw [hb, Bool.or_false]
      have hn : ¬ (ps[i].1 = (ps[(stt p ps h t o c0 K).toNat]).1) := fun e => he (by
        have := from_inj hnd hi s1 e
        omega)
      split
      · rename_i hc
        rw [if_neg (by simpa [hc] using hn)]
      · rename_i hc
        rw [if_neg (by simpa [hc] using hn)]
theorem ixV_is {q : Int × Int × Int → Bool} {j : Nat} (hj : j < ps.length) (hq : q ps[j] = true) (hu : ∀ i (hi : i < ps.length), q ps[i] = true → i = j) : ixV q ps = (j : Int) := by
  have h0 : 0 ≤ ixV q ps := by
    have h1 : decide (ixV q ps < 0) = false := by
      rw [ixV_any]
      have : ps.any q = true := List.any_eq_true.2 ⟨_, List.getElem_mem hj, hq⟩
      rw [this]; rfl
    have := of_decide_eq_false h1
    omega
  obtain ⟨h1, h2⟩ := ixV_pos h0
  rw [pAt_eq h1] at h2
  have := hu _ h1 h2
  omega
/-- what stands beside a path that is moved, with the other Mid, is moved too -/
theorem closed (H : ChOk p ps h t o c0) {K : Nat} (hK : KF p ps h t o c0 K) {i j : Nat} (hi : i < ps.length) (hj : j < ps.length) (hc : cB p ps h t o c0 K i = true) (hm : ps[j].2.2 = sw h t ps[i].2.2) (hs : ps[i].1 / p = ps[j].1 / p ∨ ps[i].2.1 / p = ps[j].2.1 / p) : cB p ps h t o c0 K j = true := by
  obtain ⟨k, hk, e⟩ := cB_iff.1 hc
  have hk0 : 0 ≤ stt p ps h t o c0 k := hK.2 k hk
  obtain ⟨s1, s2⟩ := stt_in H k hk0
  have e1 : (stt p ps h t o c0 k).toNat = i := by omega
  have e2 : pAt ps (stt p ps h t o c0 k) = ps[i] := by rw [pAt_eq s1]; simp [e1]
  rw [e2] at s2
  rw [s2, ← par_sw H.ne] at hm
  rw [cB_iff]
  have fwd : stt p ps h t o c0 (k + 1) = (j : Int) → ∃ k, k < K ∧ stt p ps h t o c0 k = (j : Int) := fun e3 => by
    refine ⟨k + 1, ?_, e3⟩
    refine Classical.byContradiction fun hn => ?_
    have e4 : k + 1 = K := by omega
    have := hK.1
    rw [← e4, e3] at this
    omega
  have bwd : ∀ k', k = k' + 1 → (par k' o (!o) = true → ps[i].1 / p = ps[j].1 / p) → (par k' o (!o) = false → ps[i].2.1 / p = ps[j].2.1 / p) → ∃ k, k < K ∧ stt p ps h t o c0 k = (j : Int) := fun k' hk' h1 h2 => by
    subst hk'
    have hp := stt_prev hk0
    obtain ⟨r1, r2⟩ := stt_in H k' hp
    have en := stt_nxt hp
    have l := nxt_pos (en ▸ hk0)
    rw [← en, e2] at l
    have hmid : (pAt ps (stt p ps h t o c0 k')).2.2 = ps[j].2.2 := by rw [r2, hm, par_succ]
    rw [pAt_eq r1] at hmid l
    have hu := H.uniq _ _ r1 hj hmid (by
      cases ho : par k' o (!o) with
      | true => exact .inl ((l.2.2.1 ho).symm.trans (h1 ho))
      | false => exact .inr ((l.2.2.2 ho).symm.trans (h2 ho)))
    exact ⟨k', by omega, by omega⟩
  have en := stt_nxt hk0
  rw [e2] at en
  have hfor : (par k o (!o) = true ∧ ps[i].1 / p = ps[j].1 / p) ∨ (par k o (!o) = false ∧ ps[i].2.1 / p = ps[j].2.1 / p) → ∃ k, k < K ∧ stt p ps h t o c0 k = (j : Int) := by
    rintro (⟨h1, h2⟩ | ⟨h1, h2⟩)
    · refine fwd ?_
      rw [en, h1]
      refine ixV_is hj (by simp [inQ, h2, hm]) (fun i' hi' hq => ?_)
      simp only [inQ, Bool.and_eq_true, beq_iff_eq] at hq
      exact H.uniq _ _ hi' hj (by rw [hq.2, hm]) (.inl (hq.1.trans h2))
    · refine fwd ?_
      rw [en, h1]
      refine ixV_is hj (by simp [outQ, h2, hm]) (fun i' hi' hq => ?_)
      simp only [outQ, Bool.and_eq_true, beq_iff_eq] at hq
      exact H.uniq _ _ hi' hj (by rw [hq.2, hm]) (.inr (hq.1.trans h2))
  have hback : (par k o (!o) = true ∧ ps[i].2.1 / p = ps[j].2.1 / p) ∨ (par k o (!o) = false ∧ ps[i].1 / p = ps[j].1 / p) → ∃ k, k < K ∧ stt p ps h t o c0 k = (j : Int) := by
    intro hb
    cases k with
    | zero =>
      exfalso
      have st := (H.start hk0).2.2
      have ec : pAt ps c0 = ps[i] := e2
      have pz : par 0 o (!o) = o := rfl
      have mz : par 0 t h = t := rfl
      rw [pz] at hb
      rw [mz] at hm
      rw [ec] at st
      rcases hb with ⟨h1, h2⟩ | ⟨h1, h2⟩
      · have := List.any_eq_false.1 (st.1 h1) _ (List.getElem_mem hj)
        simp [outQ, h2, hm] at this
      · have := List.any_eq_false.1 (st.2 h1) _ (List.getElem_mem hj)
        simp [inQ, h2, hm] at this
    | succ k' =>
      refine bwd k' rfl (fun ho => ?_) (fun ho => ?_)
      · rcases hb with ⟨h1, h2⟩ | ⟨h1, h2⟩
        · rw [par_not, ho] at h1; cases h1
        · exact h2
      · rcases hb with ⟨h1, h2⟩ | ⟨h1, h2⟩
        · exact h2
        · rw [par_not, ho] at h1; cases h1
  cases ho : par k o (!o) with
  | true =>
    rcases hs with hs | hs
    · exact hfor (.inl ⟨ho, hs⟩)
    · exact hback (.inl ⟨ho, hs⟩)
  | false =>
    rcases hs with hs | hs
    · exact hback (.inr ⟨ho, hs⟩)
    · exact hfor (.inr ⟨ho, hs⟩)
theorem cB_mid (H : ChOk p ps h t o c0) {K : Nat} (hK : KF p ps h t o c0 K) {i : Nat} (hi : i < ps.length) (hc : cB p ps h t o c0 K i = true) : ps[i].2.2 = h ∨ ps[i].2.2 = t := by
  obtain ⟨k, hk, e⟩ := cB_iff.1 hc
  obtain ⟨s1, s2⟩ := stt_in H k (hK.2 k hk)
  have e1 : (stt p ps h t o c0 k).toNat = i := by omega
  rw [pAt_eq s1] at s2
  have e2 : ps[(stt p ps h t o c0 k).toNat] = ps[i] := by simp [e1]
  rw [e2] at s2
  rw [s2]; exact par_or k h t
end
end Go.Proofs.YtikhfeafbckjlaaDoor
namespace Go.Proofs.YtikhfeafbckjlaaDoor
open Go.RowKit Go.ChangeShapes Go.WideShapes Go.ChangeAt
set_option linter.unusedVariables false
set_option linter.unusedSimpArgs false
set_option maxRecDepth 8000
section
variable {s p m : Int} {ps : Tri} {h t : Int} {o : Bool} {c0 : Int} {f g : Int}
theorem moved_at (H : ChOk p ps h t o c0) (hnd : (ps.map (·.1)).Nodup) {K : Nat} (hK : KF p ps h t o c0 K) {i : Nat} (hi : i < ps.length) (hi' : i < (movL (mvL p ps h t o c0 K) ps).length) :
    (movL (mvL p ps h t o c0 K) ps)[i] = if cB p ps h t o c0 K i = true then (ps[i].1, ps[i].2.1, sw h t ps[i].2.2) else ps[i] := by
  have := movL_get H hnd K hK.2 i
  rw [List.getElem?_eq_getElem hi, List.getElem?_eq_getElem hi', Option.map_some] at this
  exact Option.some.inj this
theorem FOk.ap (ho : FOk s p m ps) (hf : FEnd (s * p) f) (hg : FEnd (s * p) g) (hb : ¬ Busy f g ps) {z : Int} (hz : 0 ≤ z ∧ z ≤ m - 1) (hn : ∀ i (hi : i < ps.length), ps[i].2.2 = z → ¬ (f / p = ps[i].1 / p) ∧ ¬ (g / p = ps[i].2.1 / p)) : FOk s p m (ps ++ [(f, g, z)]) := by
  refine ⟨ho.1, ho.2.1, ho.2.2.1, fun i hi _ => ?_⟩
  by_cases hlt : i < ps.length
  · rw [List.getElem_append_left hlt]
    have := ho.2.2.2 i hlt hlt
    refine ⟨this.1, fun k hk => ?_⟩
    rw [List.getElem_append_left (by omega)]
    exact this.2 k hk
  · obtain rfl : i = ps.length := by simp at hi; omega
    rw [List.getElem_append_right (Nat.le_refl _)]
    simp only [Nat.sub_self, List.getElem_cons_zero]
    refine ⟨⟨hf, hg, hz.1, hz.2⟩, fun k hk => ?_⟩
    rw [List.getElem_append_left hk]
    rintro (e | e | ⟨e1, e2⟩)
    · exact hb ⟨_, List.getElem_mem hk, .inl e.symm⟩
    · exact hb ⟨_, List.getElem_mem hk, .inr e.symm⟩
    · have := hn k hk e1.symm
      rcases e2 with e2 | e2
      · exact this.1 e2
      · exact this.2 e2
theorem FOk.pre {qs : Tri} {x : Int × Int × Int} (ho : FOk s p m (qs ++ [x])) : FOk s p m qs := by
  refine ⟨ho.1, ho.2.1, ho.2.2.1, fun i hi _ => ?_⟩
  have := ho.2.2.2 i (by simp; omega) (by simp; omega)
  rw [List.getElem_append_left hi] at this
  refine ⟨this.1, fun k hk => ?_⟩
  have h2 := this.2 k hk
  rw [List.getElem_append_left (by omega)] at h2
  exact h2
theorem FOk.mv (ho : FOk s p m ps) (H : ChOk p ps h t o c0) {K : Nat} (hK : KF p ps h t o c0 K) (hh : 0 ≤ h ∧ h ≤ m - 1) (ht : 0 ≤ t ∧ t ≤ m - 1) : FOk s p m (movL (mvL p ps h t o c0 K) ps) := by
  have hnd := ho.froms
  refine ⟨ho.1, ho.2.1, ho.2.2.1, fun i hi _ => ?_⟩
  have hi0 : i < ps.length := by rw [movL_len] at hi; exact hi
  have hoi := ho.2.2.2 i hi0 hi0
  rw [moved_at H hnd hK hi0 hi]
  constructor
  · obtain ⟨a1, a2, a3, a4⟩ := hoi.1
    split
    · refine ⟨a1, a2, ?_⟩
      dsimp only [sw]
      split
      · exact ht
      · exact hh
    · exact ⟨a1, a2, a3, a4⟩
  · intro k hk
    have hk0 : k < ps.length := by omega
    have hok := hoi.2 k hk
    rw [moved_at H hnd hK hk0 (by rw [movL_len]; exact hk0)]
    cases ci : cB p ps h t o c0 K i <;> cases ck : cB p ps h t o c0 K k
    · simpa using hok
    · simp only [Bool.false_eq_true, if_false, if_true]
      rintro (e | e | ⟨e1, e2⟩)
      · exact hok (.inl e)
      · exact hok (.inr (.inl e))
      · dsimp only at e1 e2
        have := closed H hK hk0 hi0 ck e1 (e2.elim (fun e => .inl e.symm) (fun e => .inr e.symm))
        rw [ci] at this; cases this
    · simp only [Bool.false_eq_true, if_false, if_true]
      rintro (e | e | ⟨e1, e2⟩)
      · exact hok (.inl e)
      · exact hok (.inr (.inl e))
      · dsimp only at e1 e2
        have := closed H hK hi0 hk0 ci e1.symm e2
        rw [ck] at this; cases this
    · simp only [if_true]
      rintro (e | e | ⟨e1, e2⟩)
      · exact hok (.inl e)
      · exact hok (.inr (.inl e))
      · dsimp only at e1 e2
        refine hok (.inr (.inr ⟨?_, e2⟩))
        have b1 := cB_mid H hK hi0 ci
        have b2 := cB_mid H hK hk0 ck
        have hne := H.ne
        unfold sw at e1
        rcases b1 with b1 | b1 <;> rcases b2 with b2 | b2
        · rw [b1, b2]
        · rw [b1, b2, if_pos rfl, if_neg (fun e => hne e.symm)] at e1; exact absurd e1.symm hne
        · rw [b1, b2, if_pos rfl, if_neg (fun e => hne e.symm)] at e1; exact absurd e1 hne
        · rw [b1, b2]
theorem sw_h (H : h ≠ t) {z : Int} (hz : z = h ∨ z = t) (e : sw h t z = h) : z = t := by
  unfold sw at e
  rcases hz with rfl | rfl
  · rw [if_pos rfl] at e; exact e.symm
  · rfl
theorem newfree1 (H : ChOk p ps h t true c0) (hnd : (ps.map (·.1)).Nodup) {K : Nat} (hK : KF p ps h t true c0 K) (hc : c0 = ixV (outQ p (g / p) h) ps) (hin : ps.any (inQ p (f / p) h) = false) (hout : ps.any (outQ p (g / p) t) = false) :
    ∀ i (hi : i < (movL (mvL p ps h t true c0 K) ps).length), (movL (mvL p ps h t true c0 K) ps)[i].2.2 = h → ¬ (f / p = (movL (mvL p ps h t true c0 K) ps)[i].1 / p) ∧ ¬ (g / p = (movL (mvL p ps h t true c0 K) ps)[i].2.1 / p) := by
  intro i hi
  have hi0 : i < ps.length := by rw [movL_len] at hi; exact hi
  rw [moved_at H hnd hK hi0 hi]
  cases ci : cB p ps h t true c0 K i
  · simp only [Bool.false_eq_true, if_false]
    intro hm
    constructor
    · intro e
      have := List.any_eq_false.1 hin _ (List.getElem_mem hi0)
      simp [inQ, e, hm] at this
    · intro e
      have h1 : ixV (outQ p (g / p) h) ps = (i : Int) := ixV_is hi0 (by simp [outQ, e, hm]) (fun i' hi' hq => by
        simp only [outQ, Bool.and_eq_true, beq_iff_eq] at hq
        exact H.uniq _ _ hi' hi0 (by rw [hq.2, hm]) (.inr (hq.1.trans e)))
      have h2 : stt p ps h t true c0 0 = (i : Int) := hc.trans h1
      have hk0 : 0 < K := by
        refine Nat.pos_of_ne_zero fun e => ?_
        have := hK.1
        rw [e, h2] at this; omega
      have := cB_iff.2 ⟨0, hk0, h2⟩
      rw [ci] at this; cases this
  · simp only [if_true]
    intro hm
    have hz := sw_h H.ne (cB_mid H hK hi0 ci) hm
    constructor
    · intro e
      obtain ⟨k, hk, ek⟩ := cB_iff.1 ci
      have hk0 := hK.2 k hk
      obtain ⟨s1, s2⟩ := stt_in H k hk0
      have e1 : (stt p ps h t true c0 k).toNat = i := by omega
      have e2 : pAt ps (stt p ps h t true c0 k) = ps[i] := by rw [pAt_eq s1]; simp [e1]
      rw [e2, hz] at s2
      have hodd : ¬ k % 2 = 0 := fun e => H.ne (by unfold par at s2; rw [if_pos e] at s2; exact s2.symm)
      obtain ⟨k', rfl⟩ : ∃ k', k = k' + 1 := ⟨k - 1, by omega⟩
      have hp := stt_prev hk0
      obtain ⟨r1, r2⟩ := stt_in H k' hp
      have en := stt_nxt hp
      have l := nxt_pos (en ▸ hk0)
      rw [← en, e2] at l
      have pe : par k' true (!true) = true := by unfold par; rw [if_pos (by omega)]
      have pm : par k' h t = h := by unfold par; rw [if_pos (by omega)]
      have l1 := l.2.2.1 pe
      rw [pm] at r2
      rw [pAt_eq r1] at l1 r2
      have := List.any_eq_false.1 hin _ (List.getElem_mem r1)
      simp [inQ, r2, ← l1, e] at this
    · intro e
      have := List.any_eq_false.1 hout _ (List.getElem_mem hi0)
      simp [outQ, e, hz] at this
theorem newfree2 (H : ChOk p ps h t false c0) (hnd : (ps.map (·.1)).Nodup) {K : Nat} (hK : KF p ps h t false c0 K) (hc : c0 = ixV (inQ p (f / p) h) ps) (hout : ps.any (outQ p (g / p) h) = false) (hin : ps.any (inQ p (f / p) t) = false) :
    ∀ i (hi : i < (movL (mvL p ps h t false c0 K) ps).length), (movL (mvL p ps h t false c0 K) ps)[i].2.2 = h → ¬ (f / p = (movL (mvL p ps h t false c0 K) ps)[i].1 / p) ∧ ¬ (g / p = (movL (mvL p ps h t false c0 K) ps)[i].2.1 / p) := by
  intro i hi
  have hi0 : i < ps.length := by rw [movL_len] at hi; exact hi
  rw [moved_at H hnd hK hi0 hi]
  cases ci : cB p ps h t false c0 K i
  · simp only [Bool.false_eq_true, if_false]
    intro hm
    constructor
    · intro e
      have h1 : ixV (inQ p (f / p) h) ps = (i : Int) := ixV_is hi0 (by simp [inQ, e, hm]) (fun i' hi' hq => by
        simp only [inQ, Bool.and_eq_true, beq_iff_eq] at hq
        exact H.uniq _ _ hi' hi0 (by rw [hq.2, hm]) (.inl (hq.1.trans e)))
      have h2 : stt p ps h t false c0 0 = (i : Int) := hc.trans h1
      have hk0 : 0 < K := by
        refine Nat.pos_of_ne_zero fun e => ?_
        have := hK.1
        rw [e, h2] at this; omega
      have := cB_iff.2 ⟨0, hk0, h2⟩
      rw [ci] at this; cases this
    · intro e
      have := List.any_eq_false.1 hout _ (List.getElem_mem hi0)
      simp [outQ, e, hm] at this
  · simp only [if_true]
    intro hm
    have hz := sw_h H.ne (cB_mid H hK hi0 ci) hm
    constructor
    · intro e
      have := List.any_eq_false.1 hin _ (List.getElem_mem hi0)
      simp [inQ, e, hz] at this
    · intro e
      obtain ⟨k, hk, ek⟩ := cB_iff.1 ci
      have hk0 := hK.2 k hk
      obtain ⟨s1, s2⟩ := stt_in H k hk0
      have e1 : (stt p ps h t false c0 k).toNat = i := by omega
      have e2 : pAt ps (stt p ps h t false c0 k) = ps[i] := by rw [pAt_eq s1]; simp [e1]
      rw [e2, hz] at s2
      have hodd : ¬ k % 2 = 0 := fun e => H.ne (by unfold par at s2; rw [if_pos e] at s2; exact s2.symm)
      obtain ⟨k', rfl⟩ : ∃ k', k = k' + 1 := ⟨k - 1, by omega⟩
      have hp := stt_prev hk0
      obtain ⟨r1, r2⟩ := stt_in H k' hp
      have en := stt_nxt hp
      have l := nxt_pos (en ▸ hk0)
      rw [← en, e2] at l
      have pe : par k' false (!false) = false := by unfold par; rw [if_pos (by omega)]
      have pm : par k' h t = h := by unfold par; rw [if_pos (by omega)]
      have l1 := l.2.2.2 pe
      rw [pm] at r2
      rw [pAt_eq r1] at l1 r2
      have := List.any_eq_false.1 hout _ (List.getElem_mem r1)
      simp [outQ, r2, ← l1, e] at this
theorem countP_or (q : Nat → Bool) (x : Nat) (hq : q x = false) : ∀ n, (List.range n).countP (fun i => q i || x == i) = (List.range n).countP q + if x < n then 1 else 0
  | 0 => by simp
  | n + 1 => by
    rw [List.range_succ, List.countP_append, List.countP_append, countP_or q x hq n]
    simp only [List.countP_singleton]
    by_cases e : x = n
    · subst e
      simp [hq]
    · have e' : (x == n) = false := by simpa using e
      rw [e', Bool.or_false]
      by_cases hlt : x < n
      · have h1 : (if x < n then 1 else 0) = 1 := if_pos hlt
        have h2 : (if x < n + 1 then 1 else 0) = 1 := if_pos (by omega)
        omega
      · have h1 : (if x < n then 1 else 0) = 0 := if_neg hlt
        have h2 : (if x < n + 1 then 1 else 0) = 0 := if_neg (by omega)
        omega
theorem cnt_cB (H : ChOk p ps h t o c0) : ∀ K, (∀ i, i < K → 0 ≤ stt p ps h t o c0 i) → (List.range ps.length).countP (cB p ps h t o c0 K) = K
  | 0, _ => by
    have : cB p ps h t o c0 0 = fun _ => false := by funext i; simp [cB]
    rw [this]; simp
  | K + 1, hK => by
    have hp := hK K (by omega)
    have hl := (stt_in H K hp).1
    have e : cB p ps h t o c0 (K + 1) = fun i => cB p ps h t o c0 K i || (stt p ps h t o c0 K).toNat == i := by
      funext i
      rw [cB_succ]
      congr 1
      rw [Bool.eq_iff_iff]
      simp only [beq_iff_eq]; omega
    rw [e, countP_or _ _ (by
      cases hb : cB p ps h t o c0 K (stt p ps h t o c0 K).toNat with
      | false => rfl
      | true =>
        obtain ⟨k, hk, ek⟩ := cB_iff.1 hb
        exact absurd (by omega : stt p ps h t o c0 k = stt p ps h t o c0 K) (stt_inj H k K hk hp)), cnt_cB H K (fun i hi => hK i (by omega)), if_pos hl]
end
end Go.Proofs.YtikhfeafbckjlaaDoor
namespace Go.Proofs.YtikhfeafbckjlaaDoor
open Go.RowKit Go.ChangeShapes Go.WideShapes Go.ChangeAt
set_option linter.unusedVariables false
set_option linter.unusedSimpArgs false
set_option maxRecDepth 8000
section
variable {s p m : Int} {ps : Tri} {f g : Int}
theorem emod_same {a b : Int} (hq : a / p = b / p) (hr : a % p = b % p) : a = b := by
  have h1 := Int.mul_ediv_add_emod a p
  have h2 := Int.mul_ediv_add_emod b p
  rw [← h1, ← h2, hq, hr]
/-- of the places of a switch one is free: so many Mids are used there at most -/
theorem room {fr : Int × Int × Int → Int} (hp : 1 ≤ p) (hinj : ∀ x ∈ ps, ∀ y ∈ ps, fr x = fr y → x = y) (hb : ∀ x ∈ ps, fr x ≠ f) (L : List Nat) (hL : L.Nodup) (hu : ∀ k ∈ L, ∃ x ∈ ps, fr x / p = f / p ∧ x.2.2 = (k : Int)) : (L.length : Int) + 1 ≤ p := by
  have hF : ∃ F : Nat → Int × Int × Int, ∀ k ∈ L, F k ∈ ps ∧ fr (F k) / p = f / p ∧ (F k).2.2 = (k : Int) := by
    refine ⟨fun k => if hk : k ∈ L then Classical.choose (hu k hk) else (0, 0, 0), fun k hk => ?_⟩
    simp only [dif_pos hk]
    exact Classical.choose_spec (hu k hk)
  obtain ⟨F, hF⟩ := hF
  have hnd : ((f :: L.map fun k => fr (F k)).map (· % p)).Nodup := by
    rw [List.nodup_iff_pairwise_ne, List.pairwise_map, List.pairwise_cons]
    constructor
    · intro y hy e
      obtain ⟨k, hk, rfl⟩ := List.mem_map.1 hy
      obtain ⟨h1, h2, h3⟩ := hF k hk
      exact hb _ h1 (emod_same h2.symm e).symm
    · rw [List.pairwise_map]
      refine List.Pairwise.imp_of_mem ?_ (List.nodup_iff_pairwise_ne.1 hL)
      intro a b ha hb' hne e
      obtain ⟨a1, a2, a3⟩ := hF a ha
      obtain ⟨b1, b2, b3⟩ := hF b hb'
      have := hinj _ a1 _ b1 (emod_same (a2.trans b2.symm) e)
      rw [this, b3] at a3
      omega
  have hlen := nodup_len p.toNat _ hnd (fun x hx => by
    obtain ⟨y, -, rfl⟩ := List.mem_map.1 hx
    exact ⟨Int.emod_nonneg _ (by omega), by have := Int.emod_lt_of_pos y (show 0 < p by omega); omega⟩)
  simp at hlen
  omega
theorem tos_inj (ho : FOk s p m ps) : ∀ x ∈ ps, ∀ y ∈ ps, x.2.1 = y.2.1 → x = y := by
  intro x hx y hy e
  obtain ⟨i, hi, rfl⟩ := List.getElem_of_mem hx
  obtain ⟨j, hj, rfl⟩ := List.getElem_of_mem hy
  rcases Nat.lt_trichotomy i j with h | h | h
  · exact absurd (.inr (.inl e.symm)) ((ho.2.2.2 j hj hj).2 i h)
  · subst h; rfl
  · exact absurd (.inr (.inl e)) ((ho.2.2.2 i hi hi).2 j h)
theorem froms_inj (ho : FOk s p m ps) : ∀ x ∈ ps, ∀ y ∈ ps, x.1 = y.1 → x = y := by
  intro x hx y hy e
  obtain ⟨i, hi, rfl⟩ := List.getElem_of_mem hx
  obtain ⟨j, hj, rfl⟩ := List.getElem_of_mem hy
  rcases Nat.lt_trichotomy i j with h | h | h
  · exact absurd (.inl e.symm) ((ho.2.2.2 j hj hj).2 i h)
  · subst h; rfl
  · exact absurd (.inl e) ((ho.2.2.2 i hi hi).2 j h)
theorem room_in (ho : FOk s p m ps) (hb : ¬ Busy f g ps) (L : List Nat) (hL : L.Nodup) (hu : ∀ k ∈ L, inF p ps f k = false) : (L.length : Int) + 1 ≤ p := by
  refine room (fr := fun x => x.1) ho.2.1.1 (froms_inj ho) (fun x hx e => hb ⟨x, hx, .inl e⟩) L hL (fun k hk => ?_)
  have := hu k hk
  simp only [inF, Bool.not_eq_false', List.any_eq_true] at this
  obtain ⟨x, hx, hq⟩ := this
  simp only [inQ, Bool.and_eq_true, beq_iff_eq] at hq
  exact ⟨x, hx, hq.1, hq.2⟩
theorem room_out (ho : FOk s p m ps) (hb : ¬ Busy f g ps) (L : List Nat) (hL : L.Nodup) (hu : ∀ k ∈ L, outF p ps g k = false) : (L.length : Int) + 1 ≤ p := by
  refine room (fr := fun x => x.2.1) ho.2.1.1 (tos_inj ho) (fun x hx e => hb ⟨x, hx, .inr e⟩) L hL (fun k hk => ?_)
  have := hu k hk
  simp only [outF, Bool.not_eq_false', List.any_eq_true] at this
  obtain ⟨x, hx, hq⟩ := this
  simp only [outQ, Bool.and_eq_true, beq_iff_eq] at hq
  exact ⟨x, hx, hq.1, hq.2⟩
theorem filt_len {α : Type} (q : α → Bool) : ∀ l : List α, (l.filter q).length + (l.filter fun x => !q x).length = l.length
  | [] => rfl
  | a :: r => by
    have := filt_len q r
    cases h : q a <;> simp [h] <;> omega
/-- one that is blocked is not strong -/
theorem blocked_weak (ho : FOk s p m ps) (hb : ¬ Busy f g ps) (h : aV p m ps f < 0 ∨ bV p m ps g < 0) : m < p := by
  have hm := ho.2.2.1
  rcases h with h | h
  · have := room_in ho hb (List.range m.toNat) List.nodup_range (fun k hk => frV_neg h k (List.mem_range.1 hk))
    simp at this; omega
  · have := room_out ho hb (List.range m.toNat) List.nodup_range (fun k hk => frV_neg h k (List.mem_range.1 hk))
    simp at this; omega
theorem moved_weak (ho : FOk s p m ps) (hb : ¬ Busy f g ps) (h : cV p m ps f g < 0) : m ≤ 2 * p - 2 := by
  have hm := ho.2.2.1
  have h1 := room_in ho hb ((List.range m.toNat).filter fun k => !inF p ps f k) (List.nodup_range.filter _) (fun k hk => by have := (List.mem_filter.1 hk).2; simpa using this)
  have h2 := room_out ho hb ((List.range m.toNat).filter fun k => !(!inF p ps f k)) (List.nodup_range.filter _) (fun k hk => by
    obtain ⟨k1, k2⟩ := List.mem_filter.1 hk
    have h3 := frV_neg h k (List.mem_range.1 k1)
    simp only [bothF, Bool.not_not] at h3 k2
    rw [k2] at h3
    simpa using h3)
  have h3 := filt_len (fun k => !inF p ps f k) (List.range m.toNat)
  rw [List.length_range] at h3
  omega
/-- how many of the first j have another Mid -/
def chg (qs ps : Tri) (i : Nat) : Bool := (qs.getD i (0, 0, 0)).2.2 != (ps.getD i (0, 0, 0)).2.2
def cnt (qs ps : Tri) (j : Nat) : Nat := (List.range j).countP (chg qs ps)
theorem cnt_succ (qs ps : Tri) (j : Nat) : cnt qs ps (j + 1) = cnt qs ps j + if chg qs ps j = true then 1 else 0 := by
  simp [cnt, List.range_succ, List.countP_append, List.countP_singleton]
/-- a connection that is done: what stands behind it -/
def Done (s p m f g : Int) (ps ps' : Tri) (ms : Mvs) : Prop := ∃ qs z, ps' = qs ++ [(f, g, z)] ∧ qs.length = ps.length ∧ FOk s p m (qs ++ [(f, g, z)]) ∧ (∀ i (h : i < ps.length) (h' : i < qs.length), qs[i].1 = ps[i].1 ∧ qs[i].2.1 = ps[i].2.1) ∧ cnt qs ps ps.length = ms.length ∧ (2 * p - 1 ≤ m → ms.length = 0)
theorem chain_done {h t : Int} {o : Bool} {c0 : Int} {K : Nat} (ho : FOk s p m ps) (H : ChOk p ps h t o c0) (hK : KF p ps h t o c0 K) :
    (∀ i (hi : i < ps.length) (hi' : i < (movL (mvL p ps h t o c0 K) ps).length), (movL (mvL p ps h t o c0 K) ps)[i].1 = ps[i].1 ∧ (movL (mvL p ps h t o c0 K) ps)[i].2.1 = ps[i].2.1) ∧ cnt (movL (mvL p ps h t o c0 K) ps) ps ps.length = K := by
  have hnd := ho.froms
  refine ⟨fun i hi hi' => ?_, ?_⟩
  · rw [moved_at H hnd hK hi hi']
    split <;> exact ⟨rfl, rfl⟩
  · have e := cnt_cB H K hK.2
    refine Eq.trans ?_ e
    refine List.countP_congr fun i hi => ?_
    have hi0 : i < ps.length := List.mem_range.1 hi
    have hi' : i < (movL (mvL p ps h t o c0 K) ps).length := by rw [movL_len]; exact hi0
    rw [chg, List.getD_eq_getElem?_getD, List.getD_eq_getElem?_getD, List.getElem?_eq_getElem hi', List.getElem?_eq_getElem hi0, Option.getD_some, Option.getD_some, moved_at H hnd hK hi0 hi']
    cases hc : cB p ps h t o c0 K i
    · simp
    · have hm := cB_mid H hK hi0 hc
      have hne := H.ne
      simp only [if_true, bne_iff_ne, ne_eq, iff_true]
      unfold sw
      rcases hm with hm | hm
      · rw [hm, if_pos rfl]; exact fun e => hne e.symm
      · rw [hm, if_neg (fun e => hne e.symm)]; exact hne
theorem con_done {ps' : Tri} {ms : Mvs} (h : ConS s p m f g ps ps' ms 0) : FOk s p m ps ∧ Done s p m f g ps ps' ms := by
  rcases h with ⟨h1, rfl, rfl, h⟩ | ⟨h1, h2, rfl, rfl, h⟩ | ⟨h1, h2, h3, rfl, rfl, -⟩ | ⟨h1, h2, h3, h4, rfl, rfl, h⟩ | ⟨h1, h2, h3, h4, K1, K2, k1, k2, rfl, rfl, -⟩
  · omega
  · omega
  · refine ⟨h1.1, ps, cV p m ps f g, rfl, rfl, ?_, fun i hi hi' => ⟨rfl, rfl⟩, ?_, fun _ => rfl⟩
    · obtain ⟨k, ek, k1, k2⟩ := frV_pos h3
      have ek' : cV p m ps f g = k := ek
      have hm := h1.1.2.2.1
      rw [ek']
      simp only [bothF, Bool.and_eq_true, inF, outF, Bool.not_eq_true'] at k2
      refine h1.1.ap h1.2.1 h1.2.2 h2 ⟨by omega, by omega⟩ (fun i hi hz => ⟨fun e => ?_, fun e => ?_⟩)
      · have := List.any_eq_false.1 k2.1 _ (List.getElem_mem hi)
        simp [inQ, e, hz] at this
      · have := List.any_eq_false.1 k2.2 _ (List.getElem_mem hi)
        simp [outQ, e, hz] at this
    · simp [cnt, chg]
  · omega
  · have hc := con_chains h1.1 h3 h4.1 h4.2
    have hm := h1.1.2.2.1
    obtain ⟨a, ea, a1, a2⟩ := frV_pos h4.1
    obtain ⟨b, eb, b1, b2⟩ := frV_pos h4.2
    have ea' : aV p m ps f = a := ea
    have eb' : bV p m ps g = b := eb
    have hw := moved_weak h1.1 h2 h3
    have hA : ps.any (inQ p (f / p) (aV p m ps f)) = false := by rw [ea']; exact any_neg a2
    have hB : ps.any (outQ p (g / p) (bV p m ps g)) = false := by rw [eb']; exact any_neg b2
    have ra : 0 ≤ aV p m ps f ∧ aV p m ps f ≤ m - 1 := by rw [ea']; omega
    have rb : 0 ≤ bV p m ps g ∧ bV p m ps g ≤ m - 1 := by rw [eb']; omega
    have hbm : ∀ qs : Tri, (∀ i (h : i < ps.length) (h' : i < qs.length), qs[i].1 = ps[i].1 ∧ qs[i].2.1 = ps[i].2.1) → qs.length = ps.length → ¬ Busy f g qs := by
      rintro qs hq hl ⟨x, hx, hxx⟩
      obtain ⟨i, hi, rfl⟩ := List.getElem_of_mem hx
      have := hq i (by omega) hi
      rw [this.1, this.2] at hxx
      exact h2 ⟨_, List.getElem_mem (by omega), hxx⟩
    refine ⟨h1.1, _, _, rfl, movL_len _ _, ?_, ?_, ?_, fun _ => by omega⟩
    · unfold mvs2
      by_cases hK : K2 < K1
      · rw [if_pos hK, if_pos hK]
        have hd := chain_done h1.1 hc.2 k2
        exact (h1.1.mv hc.2 k2 rb ra).ap h1.2.1 h1.2.2 (hbm _ hd.1 (movL_len _ _)) rb (newfree2 hc.2 h1.1.froms k2 rfl hB hA)
      · rw [if_neg hK, if_neg hK]
        have hd := chain_done h1.1 hc.1 k1
        exact (h1.1.mv hc.1 k1 ra rb).ap h1.2.1 h1.2.2 (hbm _ hd.1 (movL_len _ _)) ra (newfree1 hc.1 h1.1.froms k1 rfl hA hB)
    · unfold mvs2
      by_cases hK : K2 < K1
      · rw [if_pos hK]; exact (chain_done h1.1 hc.2 k2).1
      · rw [if_neg hK]; exact (chain_done h1.1 hc.1 k1).1
    · unfold mvs2
      by_cases hK : K2 < K1
      · rw [if_pos hK, mvL_len]; exact (chain_done h1.1 hc.2 k2).2
      · rw [if_neg hK, mvL_len]; exact (chain_done h1.1 hc.1 k1).2
/-- what is released behind a connection that is done -/
theorem rel_done {ps' back : Tri} {ms : Mvs} {c : Int} (hd : Done s p m f g ps ps' ms) (hr : RelS s p m f ps' back c) : c = 0 ∧ back.length = ps.length ∧ FOk s p m back := by
  obtain ⟨qs, z, rfl, hl, hok, -⟩ := hd
  have hin : FEnd (s * p) f := by
    have := (hok.2.2.2 qs.length (by simp) (by simp)).1
    rw [List.getElem_append_right (Nat.le_refl _)] at this
    simpa using this.1
  have hlast : qs.length < (qs ++ [(f, g, z)]).length := by simp
  have he : (qs ++ [(f, g, z)])[qs.length] = (f, g, z) := by simp
  rcases hr with ⟨h1, rfl, rfl⟩ | ⟨h1, h2, rfl, rfl⟩ | ⟨h1, k, h2, rfl, rfl⟩
  · exact absurd ⟨hok, hin⟩ h1
  · have := h2 qs.length hlast
    rw [he] at this
    simp at this
  · obtain ⟨k1, k2, k3⟩ := h2
    have hk : k = qs.length := from_inj hok.froms k1 hlast (by rw [he]; simpa using k2)
    subst hk
    have : (qs ++ [(f, g, z)]).eraseIdx qs.length = qs := by
      rw [List.eraseIdx_append_of_length_le (Nat.le_refl _)]
      simp
    rw [this]
    exact ⟨rfl, hl, hok.pre⟩
end
end Go.Proofs.YtikhfeafbckjlaaDoor

/- What Connect is to answer; no condition. -/
import Derived.Test.YtikhfeafbckjlaaDoorFMP
namespace Go.Proofs.YtikhfeafbckjlaaDoor
open Go.RowKit Go.ChangeShapes Go.WideShapes Go.ChangeAt
set_option linter.unusedVariables false
set_option linter.unusedSimpArgs false
set_option maxRecDepth 8000
/-- the least that is as asked below m, or -1 -/
def frV (q : Nat → Bool) (m : Nat) : Int := match (List.range m).find? q with | some k => (k : Int) | none => -1
theorem lfV_fr (u m : Nat) : lfV u m = frV (fun k => !u.testBit k) m := rfl
theorem frV_pos {q : Nat → Bool} {m : Nat} (h : 0 ≤ frV q m) : ∃ k : Nat, frV q m = k ∧ k < m ∧ q k = true := by
  rw [frV] at h ⊢
  cases hf : (List.range m).find? q with
  | none => rw [hf] at h; simp at h
  | some k =>
    have h1 := List.find?_some hf
    have h2 := List.mem_of_find?_eq_some hf
    exact ⟨k, rfl, List.mem_range.1 h2, h1⟩
theorem frV_neg {q : Nat → Bool} {m : Nat} (h : frV q m < 0) : ∀ k, k < m → q k = false := by
  rw [frV] at h
  cases hf : (List.range m).find? q with
  | none =>
    intro k hk
    have := List.find?_eq_none.1 hf k (List.mem_range.2 hk)
    simpa using this
  | some k => rw [hf] at h; dsimp only at h; omega
theorem frV_ge (q : Nat → Bool) (m : Nat) : -1 ≤ frV q m := by
  rw [frV]; cases (List.range m).find? q with
  | none => simp
  | some k => dsimp only; omega
/-- free at the switch where f begins, where g ends, at both -/
def inF (p : Int) (ps : Tri) (f : Int) (k : Nat) : Bool := !ps.any (inQ p (f / p) k)
def outF (p : Int) (ps : Tri) (g : Int) (k : Nat) : Bool := !ps.any (outQ p (g / p) k)
def bothF (p : Int) (ps : Tri) (f g : Int) (k : Nat) : Bool := inF p ps f k && outF p ps g k
/-- the chain has just K moves -/
def KF (p : Int) (ps : Tri) (h t : Int) (o : Bool) (c0 : Int) (K : Nat) : Prop := stt p ps h t o c0 K < 0 ∧ ∀ i, i < K → 0 ≤ stt p ps h t o c0 i
theorem KF.same {p : Int} {ps : Tri} {h t : Int} {o : Bool} {c0 : Int} {K K' : Nat} (a : KF p ps h t o c0 K) (b : KF p ps h t o c0 K') : K = K' := by
  rcases Nat.lt_trichotomy K K' with h | h | h
  · have := b.2 K h; have := a.1; omega
  · exact h
  · have := a.2 K' h; have := b.1; omega
/-- what Connect is to answer: the paths behind, the moves, the code -/
def ConOk (s p m f g : Int) (ps : Tri) : Prop := FOk s p m ps ∧ FEnd (s * p) f ∧ FEnd (s * p) g
def Busy (f g : Int) (ps : Tri) : Prop := ∃ x ∈ ps, x.1 = f ∨ x.2.1 = g
def aV (p m : Int) (ps : Tri) (f : Int) : Int := frV (inF p ps f) m.toNat
def bV (p m : Int) (ps : Tri) (g : Int) : Int := frV (outF p ps g) m.toNat
def cV (p m : Int) (ps : Tri) (f g : Int) : Int := frV (bothF p ps f g) m.toNat
def mvs2 (p : Int) (ps : Tri) (f g a b : Int) (K1 K2 : Nat) : List (Int × Int) := if K2 < K1 then mvL p ps b a false (ixV (inQ p (f / p) b) ps) K2 else mvL p ps a b true (ixV (outQ p (g / p) a) ps) K1
def ConS (s p m f g : Int) (ps ps' : Tri) (ms : List (Int × Int)) (c : Int) : Prop :=
  (¬ ConOk s p m f g ps ∧ ps' = ps ∧ ms = [] ∧ c = 1) ∨ (ConOk s p m f g ps ∧ Busy f g ps ∧ ps' = ps ∧ ms = [] ∧ c = 2) ∨
  (ConOk s p m f g ps ∧ ¬ Busy f g ps ∧ 0 ≤ cV p m ps f g ∧ ps' = ps ++ [(f, g, cV p m ps f g)] ∧ ms = [] ∧ c = 0) ∨
  (ConOk s p m f g ps ∧ ¬ Busy f g ps ∧ cV p m ps f g < 0 ∧ (aV p m ps f < 0 ∨ bV p m ps g < 0) ∧ ps' = ps ∧ ms = [] ∧ c = 3) ∨
  (ConOk s p m f g ps ∧ ¬ Busy f g ps ∧ cV p m ps f g < 0 ∧ (0 ≤ aV p m ps f ∧ 0 ≤ bV p m ps g) ∧ ∃ K1 K2, KF p ps (aV p m ps f) (bV p m ps g) true (ixV (outQ p (g / p) (aV p m ps f)) ps) K1 ∧ KF p ps (bV p m ps g) (aV p m ps f) false (ixV (inQ p (f / p) (bV p m ps g)) ps) K2 ∧
    ms = mvs2 p ps f g (aV p m ps f) (bV p m ps g) K1 K2 ∧ ps' = movL ms ps ++ [(f, g, if K2 < K1 then bV p m ps g else aV p m ps f)] ∧ c = 0)
theorem ConS.same {s p m f g : Int} {ps a b : Tri} {ms ms' : List (Int × Int)} {c c' : Int} (h : ConS s p m f g ps a ms c) (h' : ConS s p m f g ps b ms' c') : a = b ∧ ms = ms' ∧ c = c' := by
  rcases h with ⟨h1, rfl, rfl, rfl⟩ | ⟨h1, h2, rfl, rfl, rfl⟩ | ⟨h1, h2, h3, rfl, rfl, rfl⟩ | ⟨h1, h2, h3, h4, rfl, rfl, rfl⟩ | ⟨h1, h2, h3, h4, K1, K2, k1, k2, rfl, rfl, rfl⟩ <;>
  rcases h' with ⟨g1, rfl, rfl, rfl⟩ | ⟨g1, g2, rfl, rfl, rfl⟩ | ⟨g1, g2, g3, rfl, rfl, rfl⟩ | ⟨g1, g2, g3, g4, rfl, rfl, rfl⟩ | ⟨g1, g2, g3, g4, L1, L2, l1, l2, rfl, rfl, rfl⟩
  all_goals first
    | exact ⟨rfl, rfl, rfl⟩
    | exact absurd g1 h1
    | exact absurd h1 g1
    | exact absurd h2 g2
    | exact absurd g2 h2
    | (exfalso; omega)
    | (obtain rfl := k1.same l1; obtain rfl := k2.same l2; exact ⟨rfl, rfl, rfl⟩)
theorem FOk.uniq {s p m : Int} {ps : Tri} (h : FOk s p m ps) : ∀ i j (hi : i < ps.length) (hj : j < ps.length), ps[i].2.2 = ps[j].2.2 → (ps[i].1 / p = ps[j].1 / p ∨ ps[i].2.1 / p = ps[j].2.1 / p) → i = j := by
  intro i j hi hj h1 h2
  refine Classical.byContradiction fun hne => ?_
  rcases Nat.lt_or_gt_of_ne hne with hlt | hlt
  · exact (h.2.2.2 j hj hj).2 i hlt (.inr (.inr ⟨h1.symm, h2.elim (fun e => .inl e.symm) (fun e => .inr e.symm)⟩))
  · exact (h.2.2.2 i hi hi).2 j hlt (.inr (.inr ⟨h1, h2⟩))
theorem FOk.froms {s p m : Int} {ps : Tri} (h : FOk s p m ps) : (ps.map (·.1)).Nodup := by
  rw [List.nodup_iff_pairwise_ne, List.pairwise_map, List.pairwise_iff_getElem]
  intro i j hi hj hij e
  exact (h.2.2.2 j hj hj).2 i hij (.inl e.symm)
theorem any_neg {ps : Tri} {q : Int × Int × Int → Bool} (h : (!ps.any q) = true) : ps.any q = false := by simpa using h
/-- both chains may begin -/
theorem con_chains {s p m f g : Int} {ps : Tri} (h : FOk s p m ps) (hc : cV p m ps f g < 0) (ha : 0 ≤ aV p m ps f) (hb : 0 ≤ bV p m ps g) :
    ChOk p ps (aV p m ps f) (bV p m ps g) true (ixV (outQ p (g / p) (aV p m ps f)) ps) ∧ ChOk p ps (bV p m ps g) (aV p m ps f) false (ixV (inQ p (f / p) (bV p m ps g)) ps) := by
  obtain ⟨a, ea, a1, a2⟩ := frV_pos ha
  obtain ⟨b, eb, b1, b2⟩ := frV_pos hb
  have ea' : aV p m ps f = a := ea
  have eb' : bV p m ps g = b := eb
  have hne : (a : Int) ≠ (b : Int) := fun e => by
    have e' : a = b := by omega
    subst e'
    have := frV_neg hc a a1
    rw [bothF, a2, b2] at this
    cases this
  rw [ea', eb']
  refine ⟨⟨hne, h.uniq, fun h0 => ?_⟩, ⟨fun e => hne e.symm, h.uniq, fun h0 => ?_⟩⟩
  · obtain ⟨i1, i2⟩ := ixV_pos h0
    simp only [outQ, Bool.and_eq_true, beq_iff_eq] at i2
    refine ⟨i1, i2.2, fun _ => ?_, fun e => by cases e⟩
    rw [i2.1]; exact any_neg b2
  · obtain ⟨i1, i2⟩ := ixV_pos h0
    simp only [inQ, Bool.and_eq_true, beq_iff_eq] at i2
    refine ⟨i1, i2.2, (fun e => by cases e), fun _ => ?_⟩
    rw [i2.1]; exact any_neg a2
/-- a move is one of a path -/
theorem mvL_mem {p : Int} {ps : Tri} {h t : Int} {o : Bool} {c0 : Int} {K : Nat} (H : ChOk p ps h t o c0) (hK : KF p ps h t o c0 K) : ∀ q ∈ mvL p ps h t o c0 K, q.1 ∈ ps.map (·.1) := by
  intro q hq
  obtain ⟨i, hi, rfl⟩ := List.mem_map.1 hq
  have hp := hK.2 i (List.mem_range.1 hi)
  have h1 := (stt_in H i hp).1
  rw [pAt_eq h1]
  exact List.mem_map.2 ⟨_, List.getElem_mem h1, rfl⟩
theorem KF.le {p : Int} {ps : Tri} {h t : Int} {o : Bool} {c0 : Int} {K : Nat} (H : ChOk p ps h t o c0) (hK : KF p ps h t o c0 K) : K ≤ ps.length := by
  cases K with
  | zero => omega
  | succ k => have := stt_bound H k (hK.2 k (by omega)); omega
end Go.Proofs.YtikhfeafbckjlaaDoor

/- What becomes of a call; no condition. -/
import Derived.Test.YtfaflnhembceoaaSbM
namespace Go.Proofs.Ytfaflnhembceoaa
open Go.RowKit Go.ChangeShapes Go.WideShapes Go.ChangeAt
set_option linter.unusedVariables false
set_option linter.unusedSimpArgs false
set_option maxRecDepth 8000
/-- the Other of the first feature of a kind, or -1 -/
def hasV : Fts → Int → Int
  | [], _ => -1
  | f :: r, k => if f.1 = k then f.2 else hasV r k
theorem hasV_hit : ∀ (fs : Fts) (k : Int) (j : Nat) (h : j < fs.length), fs[j].1 = k → (∀ t (ht : t < j), fs[t].1 ≠ k) → hasV fs k = fs[j].2
  | f :: r, k, 0, _, e, _ => by simp at e; simp [hasV, e]
  | f :: r, k, j + 1, h, e, hn => by
    have h0 := hn 0 (by omega)
    simp at h0 e
    rw [hasV, if_neg h0]
    simpa using hasV_hit r k j (by simpa using h) e (fun t ht => by simpa using hn (t + 1) (by omega))
theorem hasV_none : ∀ (fs : Fts) (k : Int), (∀ t (ht : t < fs.length), fs[t].1 ≠ k) → hasV fs k = -1
  | [], k, _ => rfl
  | f :: r, k, hn => by
    have h0 := hn 0 (by simp)
    simp at h0
    rw [hasV, if_neg h0]
    exact hasV_none r k (fun t ht => by have := hn (t + 1) (by simp; omega); simpa only [List.getElem_cons_succ] using this)
abbrev sb0 : Sb := (false, false, [])
def fsOf (cs : Sbs) (t : Nat) : Fts := (cs.getD t sb0).2.2
def prvB (cs : Sbs) (f : Nat) : Bool := decide (0 ≤ hasV (fsOf cs f) 7)
def scF (pv : Bool) (f : Int) (x : Int × Int) : Bool := x.1 == 5 && (pv || x.2 == f)
def scrB (cs : Sbs) (f t : Nat) : Bool := (fsOf cs t).any (scF (prvB cs f) f)
/-- what becomes of a call at a subscriber: a code, or 0 and where it goes on to -/
def turnF (pv : Bool) (f : Int) (s : Sb) : Int × Int :=
  if s.2.2.any (scF pv f) = true then (6, 0)
  else if 0 ≤ hasV s.2.2 1 then (0, hasV s.2.2 1)
  else if s.1 = true then (if 0 ≤ hasV s.2.2 6 then (2, 0) else if 0 ≤ hasV s.2.2 2 then (0, hasV s.2.2 2) else (3, 0))
  else if s.2.1 = true then (if 0 ≤ hasV s.2.2 3 then (0, hasV s.2.2 3) else (4, 0))
  else (1, 0)
abbrev Out := Int × Int × List Int
def stopB (f t : Nat) (hops : List Int) : Bool := decide ((t : Int) = f) || (decide ((t : Int) ∈ hops) || decide (5 < hops.length))
/-- how a call goes on from a subscriber -/
def goR (cs : Sbs) (f : Nat) : Nat → Nat → List Int → Out
  | 0, t, hops => (7, t, hops)
  | m + 1, t, hops => if stopB f t hops = true then (7, t, hops)
    else if (turnF (prvB cs f) f (cs.getD t sb0)).1 = 0 then goR cs f m (turnF (prvB cs f) f (cs.getD t sb0)).2.toNat (hops ++ [(t : Int)])
    else ((turnF (prvB cs f) f (cs.getD t sb0)).1, t, hops)
def goodB (cs : Sbs) (f t : Int) : Prop := SbOk cs ∧ (0 ≤ f ∧ f < cs.length) ∧ (0 ≤ t ∧ t < cs.length) ∧ ¬ f = t
instance (cs : Sbs) (f t : Int) : Decidable (goodB cs f t) := by unfold goodB; exact inferInstance
/-- what becomes of a call -/
def rtF (cs : Sbs) (f t : Int) : Out :=
  if goodB cs f t then (if 0 ≤ hasV (fsOf cs f.toNat) 4 then (5, f, []) else goR cs f.toNat 7 t.toNat []) else (8, -1, [])
/-- the cells of an outcome -/
abbrev O3 (c a : Int) (v : Value) : Array Value := #[.int .i64 c, .int .i64 a, v]
def RtR (r : Out) (w : World) (e : Ending) (w' : World) : Prop := ∃ v, e = .returned (.agg (O3 r.1 r.2.1 v)) ∧ Ow .i64 3 w.heap.size w' v r.2.2 ∧ Below w.heap.size w w'
/-- the Others of right features, where they are numbers of subs -/
theorem hasV_ok {n : Int} : ∀ (fs : Fts) (k : Int), (∀ x ∈ fs, ftB n x = true) → ptB k = true → 0 ≤ hasV fs k → hasV fs k < n
  | [], k, _, _, h => by simp [hasV] at h
  | f :: r, k, hf, hk, h => by
    rw [hasV] at h ⊢
    by_cases e : f.1 = k
    · rw [if_pos e] at h ⊢
      have h1 := hf f (by simp)
      rw [ftB, e, if_pos hk] at h1
      exact (of_decide_eq_true h1).2
    · rw [if_neg e] at h ⊢
      exact hasV_ok r k (fun x hx => hf x (by simp [hx])) hk h
theorem FsOk.all {n : Int} {ls : Fts} (h : FsOk n ls) : ∀ x ∈ ls, ftB n x = true := by
  intro x hx
  obtain ⟨i, hi, rfl⟩ := List.getElem_of_mem hx
  exact (h i hi hi).1
theorem SbOk.at {cs : Sbs} (h : SbOk cs) (t : Nat) (ht : t < cs.length) : FsOk cs.length (cs.getD t sb0).2.2 := by
  have := h.2.2 t ht
  simpa [List.getElem?_eq_getElem ht] using this
theorem turn_next {cs : Sbs} {pv : Bool} {f : Int} (h : SbOk cs) (t : Nat) (ht : t < cs.length) (h0 : (turnF pv f (cs.getD t sb0)).1 = 0) : 0 ≤ (turnF pv f (cs.getD t sb0)).2 ∧ (turnF pv f (cs.getD t sb0)).2.toNat < cs.length := by
  have ha := (h.at t ht).all
  have key : ∀ k, ptB k = true → 0 ≤ hasV (cs.getD t sb0).2.2 k → 0 ≤ hasV (cs.getD t sb0).2.2 k ∧ (hasV (cs.getD t sb0).2.2 k).toNat < cs.length := fun k hk h1 => by
    have := hasV_ok _ k ha hk h1
    exact ⟨h1, by omega⟩
  generalize cs.getD t sb0 = s at *
  unfold turnF at h0 ⊢
  by_cases g1 : s.2.2.any (scF pv f) = true
  · rw [if_pos g1] at h0; simp at h0
  rw [if_neg g1] at h0 ⊢
  by_cases g2 : 0 ≤ hasV s.2.2 1
  · rw [if_pos g2]; exact key 1 rfl g2
  rw [if_neg g2] at h0 ⊢
  by_cases g3 : s.1 = true
  · rw [if_pos g3] at h0 ⊢
    by_cases g4 : 0 ≤ hasV s.2.2 6
    · rw [if_pos g4] at h0; simp at h0
    rw [if_neg g4] at h0 ⊢
    by_cases g5 : 0 ≤ hasV s.2.2 2
    · rw [if_pos g5]; exact key 2 rfl g5
    rw [if_neg g5] at h0; simp at h0
  rw [if_neg g3] at h0 ⊢
  by_cases g6 : s.2.1 = true
  · rw [if_pos g6] at h0 ⊢
    by_cases g5 : 0 ≤ hasV s.2.2 3
    · rw [if_pos g5]; exact key 3 rfl g5
    rw [if_neg g5] at h0; simp at h0
  rw [if_neg g6] at h0; simp at h0
end Go.Proofs.Ytfaflnhembceoaa

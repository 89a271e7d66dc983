/- Rows whose elements have three cells; no condition. -/
import Derived.Test.YtfaflnhembceoaaNtH
import Derived.Test.YtfaflnhembceoaaNtP
namespace Go.Proofs.Ytfaflnhembceoaa
open Go.RowKit Go.ChangeShapes Go.WideShapes Go.ChangeAt
set_option linter.unusedVariables false
set_option linter.unusedSimpArgs false
set_option maxRecDepth 8000
abbrev V3 := Value × Value × Value
/-- the cells of elements that have three -/
def tq : List V3 → List Value
  | [] => []
  | o :: r => o.1 :: o.2.1 :: o.2.2 :: tq r
theorem tq_len : ∀ l : List V3, (tq l).length = l.length * 3
  | [] => rfl
  | o :: r => by simp [tq, tq_len r]; omega
theorem tq_app : ∀ a b : List V3, tq (a ++ b) = tq a ++ tq b
  | [], b => rfl
  | o :: r, b => by simp [tq, tq_app r b]
theorem tq_at : ∀ (l : List V3) (i : Nat) (h : i < l.length), (tq l)[i * 3]? = some l[i].1 ∧ (tq l)[i * 3 + 1]? = some l[i].2.1 ∧ (tq l)[i * 3 + 2]? = some l[i].2.2
  | o :: r, 0, _ => by simp [tq]
  | o :: r, i + 1, h => by
    have := tq_at r i (by simpa using h)
    rw [show (i + 1) * 3 = i * 3 + 3 by omega]
    simpa [tq] using this
theorem tq_set : ∀ (l : List V3) (i : Nat) (x : V3), i < l.length → (((tq l).set (i * 3) x.1).set (i * 3 + 1) x.2.1).set (i * 3 + 2) x.2.2 = tq (l.set i x)
  | y :: r, 0, x, _ => by simp [tq]
  | y :: r, i + 1, x, h => by
    have := tq_set r i x (by simpa using h)
    rw [show (i + 1) * 3 = i * 3 + 3 by omega]
    simpa [tq] using this
theorem tq_set2 : ∀ (l : List V3) (i : Nat) (x : Value), i < l.length → (tq l).set (i * 3 + 2) x = tq (l.set i ((l.getD i (x, x, x)).1, (l.getD i (x, x, x)).2.1, x))
  | y :: r, 0, x, _ => by simp [tq]
  | y :: r, i + 1, x, h => by
    have := tq_set2 r i x (by simpa using h)
    rw [show (i + 1) * 3 = i * 3 + 3 by omega]
    simpa [tq] using this
theorem tq_replicate (x : V3) : ∀ n : Nat, (madeCells #[x.1, x.2.1, x.2.2] (n * 3)).toList = tq (List.replicate n x) := by
  intro n
  apply List.ext_getElem?
  intro i
  have hd : i = i / 3 * 3 ∨ i = i / 3 * 3 + 1 ∨ i = i / 3 * 3 + 2 := by omega
  by_cases hi : i < n * 3
  · have hq : i / 3 < (List.replicate n x).length := by simp; omega
    have h1 := tq_at (List.replicate n x) (i / 3) hq
    rcases hd with hd | hd | hd
    · have hm : i % 3 = 0 := by omega
      rw [← hd] at h1
      rw [h1.1]
      simp [madeCells, List.getElem?_range hi, hm]
    · have hm : i % 3 = 1 := by omega
      rw [← hd] at h1
      rw [h1.2.1]
      simp [madeCells, List.getElem?_range hi, hm]
    · have hm : i % 3 = 2 := by omega
      rw [← hd] at h1
      rw [h1.2.2]
      simp [madeCells, List.getElem?_range hi, hm]
  · rw [List.getElem?_eq_none (by simp [madeCells]; omega), List.getElem?_eq_none (by simp [tq_len]; omega)]
/-- the slice v reads as the elements ls, of three cells each -/
def Rq (w : World) (v : Value) (ls : List V3) : Prop :=
  ∃ a cap, v = .slice a ls.length cap ∧ ls.length ≤ cap ∧ cap ≤ maxLen ∧ (ls = [] ∨ ∃ b off, a = some ⟨b, off, none⟩ ∧ ∀ i (h : i < ls.length), w.cell? ⟨b, off + i * 3, none⟩ = some ls[i].1 ∧ w.cell? ⟨b, off + i * 3 + 1, none⟩ = some ls[i].2.1 ∧ w.cell? ⟨b, off + i * 3 + 2, none⟩ = some ls[i].2.2)
/-- the slice v, among the blocks from base on, owns the elements ls -/
def Oq (e : TypeId) (base : Nat) (w : World) (v : Value) (ls : List V3) : Prop := w.ownsRow base e 3 v ls.length (tq ls)
theorem Rq.grown {w w' : World} {v : Value} {ls : List V3} {row : Option Nat} (h : Rq w v ls) (hg : w.grownBy w' row) (hne : ls = [] ∨ v.ownBlock = none ∨ v.ownBlock ≠ row) : Rq w' v ls := by
  obtain ⟨a, cap, rfl, h1, h2, h3⟩ := h
  refine ⟨a, cap, rfl, h1, h2, ?_⟩
  rcases h3 with h3 | ⟨b, off, rfl, h4⟩
  · exact .inl h3
  · rcases hne with hne | hne
    · exact .inl hne
    refine .inr ⟨b, off, rfl, fun i hi => ?_⟩
    have hc := h4 i hi
    have hlt : b < w.heap.size := block_lt_of_cell hc.1
    have hbk := hg.block b hlt (by simpa [Value.ownBlock] using hne)
    exact ⟨(World.cell?_of_block (w := w) hbk).trans hc.1, (World.cell?_of_block (w := w) hbk).trans hc.2.1, (World.cell?_of_block (w := w) hbk).trans hc.2.2⟩
theorem Rq.below {w w' : World} {v : Value} {ls : List V3} (h : Rq w v ls) (hb : Below w.heap.size w w') : Rq w' v ls :=
  h.grown (row := none) ⟨hb.os, hb.tape, hb.output, hb.size, fun j hj _ => hb.block j hj⟩ (by cases v.ownBlock <;> simp)
theorem Oq.below {e : TypeId} {base : Nat} {w w' : World} {v : Value} {ls : List V3} (h : Oq e base w v ls) (hb : Below w.heap.size w w') : Oq e base w' v ls :=
  World.ownsRow.kept (row := none) h ⟨hb.os, hb.tape, hb.output, hb.size, fun j hj _ => hb.block j hj⟩ (by cases v.ownBlock <;> simp)
theorem Oq.rd {e : TypeId} {base : Nat} {w : World} {v : Value} {ls : List V3} (h : Oq e base w v ls) : Rq w v ls := by
  rcases h.2 with ⟨rfl, hn⟩ | ⟨b, cap, cur, rfl, hb, hg, hnc, hcm, hcs, ht⟩
  · exact ⟨none, 0, by rw [hn], by omega, by simp, .inl (List.eq_nil_of_length_eq_zero hn)⟩
  · refine ⟨_, cap, rfl, hnc, hcm, .inr ⟨b, 0, rfl, fun i hi => ?_⟩⟩
    have h0 := World.ownsRow.cellAt h (i * 3) (by omega)
    have h1 := World.ownsRow.cellAt h (i * 3 + 1) (by omega)
    have h2 := World.ownsRow.cellAt h (i * 3 + 2) (by omega)
    have hp := tq_at ls i hi
    rw [Nat.zero_add, h0, h1, h2]; exact hp
theorem Oq.mono {e : TypeId} {base base' : Nat} {w : World} {v : Value} {ls : List V3} (h : Oq e base w v ls) (hb : base' ≤ base) : Oq e base' w v ls := by
  refine ⟨h.1, ?_⟩
  rcases h.2 with h2 | ⟨b, cap, cur, hv, hg, r⟩
  · exact .inl h2
  · exact .inr ⟨b, cap, cur, hv, by omega, r⟩
theorem own_setq {e : TypeId} {base b cap : Nat} {w : World} {ls : List V3} (h : Oq e base w (.slice (some ⟨b, 0, none⟩) ls.length cap) ls) (j : Nat) (hj : j < ls.length) (x : V3) :
    Oq e base (((w.setCell ⟨b, j * 3, none⟩ x.1).setCell ⟨b, j * 3 + 1, none⟩ x.2.1).setCell ⟨b, j * 3 + 2, none⟩ x.2.2) (.slice (some ⟨b, 0, none⟩) ls.length cap) (ls.set j x) := by
  have h1 := (World.ownsRow.stored h (j * 3) x.1).1
  have h2 := (World.ownsRow.stored h1 (j * 3 + 1) x.2.1).1
  have h3 := (World.ownsRow.stored h2 (j * 3 + 2) x.2.2).1
  rw [tq_set ls j x hj] at h3
  rw [Oq, List.length_set]; exact h3
theorem range3 {w : World} {b o : Nat} {x y z : Value} (h0 : w.cell? ⟨b, o, none⟩ = some x) (h1 : w.cell? ⟨b, o + 1, none⟩ = some y) (h2 : w.cell? ⟨b, o + 2, none⟩ = some z) : w.rangeAt b o [x, y, z] := by
  intro i v hv
  rcases i with _ | _ | _ | i
  · simp at hv; subst hv; simpa using h0
  · simp at hv; subst hv; simpa using h1
  · simp at hv; subst hv; simpa using h2
  · simp at hv
end Go.Proofs.Ytfaflnhembceoaa

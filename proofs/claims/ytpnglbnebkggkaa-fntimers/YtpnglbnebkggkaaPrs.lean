/- Presses: what it is that they read, that they are owned; no condition. -/
import Derived.Test.YtpnglbnebkggkaaRuH
namespace Go.Proofs.Ytpnglbnebkggkaa
open Go.RowKit Go.ChangeShapes Go.WideShapes Go.ChangeAt
set_option linter.unusedVariables false
set_option linter.unusedSimpArgs false
set_option maxRecDepth 8000
/-- a press -/
structure Pr where
  ti : Int
  di : ByteArray
abbrev P2 (r : Pr) : Array Value := #[.int .i64 r.ti, .string r.di]
/-- the cells of presses -/
def pq : List Pr → List Value
  | [] => []
  | o :: r => .int .i64 o.ti :: .string o.di :: pq r
theorem pq_len : ∀ l : List Pr, (pq l).length = l.length * 2
  | [] => rfl
  | o :: r => by simp [pq, pq_len r]; omega
theorem pq_at : ∀ (l : List Pr) (i : Nat) (h : i < l.length), (pq l)[i * 2]? = some (.int .i64 l[i].ti) ∧ (pq l)[i * 2 + 1]? = some (.string l[i].di)
  | o :: r, 0, _ => by simp [pq]
  | o :: r, i + 1, h => by
    have := pq_at r i (by simpa using h)
    rw [show (i + 1) * 2 = i * 2 + 2 by omega]
    simpa [pq] using this
theorem pq_set : ∀ (l : List Pr) (i : Nat) (x : Pr), i < l.length → ((pq l).set (i * 2) (.int .i64 x.ti)).set (i * 2 + 1) (.string x.di) = pq (l.set i x)
  | y :: r, 0, x, _ => by simp [pq]
  | y :: r, i + 1, x, h => by
    have := pq_set r i x (by simpa using h)
    rw [show (i + 1) * 2 = i * 2 + 2 by omega]
    simpa [pq] using this
theorem pq_replicate (x : Pr) : ∀ n : Nat, (madeCells (P2 x) (n * 2)).toList = pq (List.replicate n x) := by
  intro n
  apply List.ext_getElem?
  intro i
  have hd : i = i / 2 * 2 ∨ i = i / 2 * 2 + 1 := by omega
  by_cases hi : i < n * 2
  · have hq : i / 2 < (List.replicate n x).length := by simp; omega
    have h1 := pq_at (List.replicate n x) (i / 2) hq
    rcases hd with hd | hd
    · have hm : i % 2 = 0 := by omega
      rw [← hd] at h1
      rw [h1.1]
      simp [madeCells, List.getElem?_range hi, hm]
    · have hm : i % 2 = 1 := by omega
      rw [← hd] at h1
      rw [h1.2]
      simp [madeCells, List.getElem?_range hi, hm]
  · rw [List.getElem?_eq_none (by simp [madeCells]; omega), List.getElem?_eq_none (by simp [pq_len]; omega)]
abbrev Prs := List Pr
/-- the slice v reads as the presses ls -/
def Rpq (w : World) (v : Value) (ls : Prs) : Prop :=
  ∃ a cap, v = .slice a ls.length cap ∧ ls.length ≤ cap ∧ cap ≤ maxLen ∧ (ls = [] ∨ ∃ b off, a = some ⟨b, off, none⟩ ∧ ∀ i (h : i < ls.length), w.cell? ⟨b, off + i * 2, none⟩ = some (.int .i64 ls[i].ti) ∧ w.cell? ⟨b, off + i * 2 + 1, none⟩ = some (.string ls[i].di))
/-- the slice v, among the blocks from base on, owns the presses ls -/
def Opq (e : TypeId) (base : Nat) (w : World) (v : Value) (ls : Prs) : Prop := w.ownsRow base e 2 v ls.length (pq ls)
theorem Rpq.below {w w' : World} {v : Value} {ls : Prs} (h : Rpq w v ls) (hb : Below w.heap.size w w') : Rpq w' v ls := by
  obtain ⟨a, cap, rfl, h1, h2, h3⟩ := h
  refine ⟨a, cap, rfl, h1, h2, ?_⟩
  rcases h3 with h3 | ⟨b, off, rfl, h4⟩
  · exact .inl h3
  · refine .inr ⟨b, off, rfl, fun i hi => ?_⟩
    have hc := h4 i hi
    have hlt : b < w.heap.size := block_lt_of_cell hc.1
    exact ⟨(hb.cell hlt).trans hc.1, (hb.cell hlt).trans hc.2⟩
theorem Opq.below {e : TypeId} {base : Nat} {w w' : World} {v : Value} {ls : Prs} (h : Opq e base w v ls) (hb : Below w.heap.size w w') : Opq e base w' v ls :=
  World.ownsRow.kept (row := none) h ⟨hb.os, hb.tape, hb.output, hb.size, fun j hj _ => hb.block j hj⟩ (by cases v.ownBlock <;> simp)
theorem Opq.rd {e : TypeId} {base : Nat} {w : World} {v : Value} {ls : Prs} (h : Opq e base w v ls) : Rpq w v ls := by
  rcases h.2 with ⟨rfl, hn⟩ | ⟨b, cap, cur, rfl, hb, hg, hnc, hcm, hcs, ht⟩
  · exact ⟨none, 0, by rw [hn], by omega, by simp, .inl (List.eq_nil_of_length_eq_zero hn)⟩
  · refine ⟨_, cap, rfl, hnc, hcm, .inr ⟨b, 0, rfl, fun i hi => ?_⟩⟩
    have h0 := World.ownsRow.cellAt h (i * 2) (by omega)
    have h1 := World.ownsRow.cellAt h (i * 2 + 1) (by omega)
    have hp := pq_at ls i hi
    rw [Nat.zero_add, h0, h1]; exact hp
theorem own_setP {e : TypeId} {base b cap : Nat} {w : World} {ls : Prs} (h : Opq e base w (.slice (some ⟨b, 0, none⟩) ls.length cap) ls) (j : Nat) (hj : j < ls.length) (x : Pr) :
    Opq e base ((w.setCell ⟨b, j * 2, none⟩ (.int .i64 x.ti)).setCell ⟨b, j * 2 + 1, none⟩ (.string x.di)) (.slice (some ⟨b, 0, none⟩) ls.length cap) (ls.set j x) := by
  have h1 := (World.ownsRow.stored h (j * 2) (.int .i64 x.ti)).1
  have h2 := (World.ownsRow.stored h1 (j * 2 + 1) (.string x.di)).1
  rw [pq_set ls j x hj] at h2
  rw [Opq, List.length_set]; exact h2
def p0 : Pr := ⟨0, ⟨#[]⟩⟩
theorem size39 : (Try.prog.info? 39).map (·.size) = some 2 := by kernel_rfl
theorem infoPress : (Try.prog.info? 39).map (fun i => (i.zero, i.size, i.bytes)) = some (some (.agg (P2 p0)), 2, 24) := by kernel_rfl
set_option maxHeartbeats 1600000 in
theorem toPress_c (r : Pr) (w : World) : Calls Try.prog 51 #[.agg (P2 r)] w fun e w' => e = .returned (.agg (P2 r)) ∧ Below w.heap.size w w' := by
  go_enter Try.func51, Try.ntmps51
  go_wp2
  have h1 : ((((w.alloc (Obj.cells (P2 r) 82)).alloc (Obj.cells (P2 r) 39)).alloc (Obj.cells (P2 r) 39))).heap[w.heap.size + 1]? = some (.cells (P2 r) 39 (0, 0)) :=
    ((Blk.newAt _ (w.heap.size + 1) _ 39 (by simp)).alloc _ : Blk _ _ _ _)
  exact bodyPost_ret (v := .agg (P2 r)) (results_cell_row rfl _ _ _ 39 _ (0, 0) _ rfl h1 Try.underlying39 rfl size39) rfl ⟨rfl, (((Below.refl _ _).alloc (Nat.le_refl _) _).alloc (by simp) _).alloc (by simp; omega) _⟩
end Go.Proofs.Ytpnglbnebkggkaa

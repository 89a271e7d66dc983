/- Rules: what it is that they read, that they are owned; no condition. -/
import Derived.Test.YtpnglbnebkggkaaOver
import Derived.Deep.MidRow
import Derived.Laws.RangeString
import Derived.Laws.RangeAny
namespace Go.Proofs.Ytpnglbnebkggkaa
open Go.RowKit Go.ChangeShapes Go.WideShapes Go.ChangeAt
set_option linter.unusedVariables false
set_option linter.unusedSimpArgs false
set_option maxRecDepth 8000
/-- a rule -/
structure Rl where
  pre : ByteArray
  le : Int
  mo : Int
  ro : Int
  st : Int
  ad : ByteArray
abbrev R6 (r : Rl) : Array Value := #[.string r.pre, .int .i64 r.le, .int .i64 r.mo, .int .i64 r.ro, .int .i64 r.st, .string r.ad]
/-- the cells of rules -/
def rr : List Rl → List Value
  | [] => []
  | o :: r => .string o.pre :: .int .i64 o.le :: .int .i64 o.mo :: .int .i64 o.ro :: .int .i64 o.st :: .string o.ad :: rr r
theorem rr_len : ∀ l : List Rl, (rr l).length = l.length * 6
  | [] => rfl
  | o :: r => by simp [rr, rr_len r]; omega
theorem rr_at : ∀ (l : List Rl) (i : Nat) (h : i < l.length), (rr l)[i * 6]? = some (.string l[i].pre) ∧ (rr l)[i * 6 + 1]? = some (.int .i64 l[i].le) ∧ (rr l)[i * 6 + 2]? = some (.int .i64 l[i].mo) ∧ (rr l)[i * 6 + 3]? = some (.int .i64 l[i].ro) ∧ (rr l)[i * 6 + 4]? = some (.int .i64 l[i].st) ∧ (rr l)[i * 6 + 5]? = some (.string l[i].ad)
  | o :: r, 0, _ => by simp [rr]
  | o :: r, i + 1, h => by
    have := rr_at r i (by simpa using h)
    rw [show (i + 1) * 6 = i * 6 + 6 by omega]
    simpa [rr] using this
theorem rr_set : ∀ (l : List Rl) (i : Nat) (x : Rl), i < l.length → ((((((rr l).set (i * 6) (.string x.pre)).set (i * 6 + 1) (.int .i64 x.le)).set (i * 6 + 2) (.int .i64 x.mo)).set (i * 6 + 3) (.int .i64 x.ro)).set (i * 6 + 4) (.int .i64 x.st)).set (i * 6 + 5) (.string x.ad) = rr (l.set i x)
  | y :: r, 0, x, _ => by simp [rr]
  | y :: r, i + 1, x, h => by
    have := rr_set r i x (by simpa using h)
    rw [show (i + 1) * 6 = i * 6 + 6 by omega]
    simpa [rr] using this
theorem rr_replicate (x : Rl) : ∀ n : Nat, (madeCells (R6 x) (n * 6)).toList = rr (List.replicate n x) := by
  intro n
  apply List.ext_getElem?
  intro i
  have hd : i = i / 6 * 6 ∨ i = i / 6 * 6 + 1 ∨ i = i / 6 * 6 + 2 ∨ i = i / 6 * 6 + 3 ∨ i = i / 6 * 6 + 4 ∨ i = i / 6 * 6 + 5 := by omega
  by_cases hi : i < n * 6
  · have hq : i / 6 < (List.replicate n x).length := by simp; omega
    have h1 := rr_at (List.replicate n x) (i / 6) hq
    rcases hd with hd | hd | hd | hd | hd | hd
    · have hm : i % 6 = 0 := by omega
      rw [← hd] at h1
      rw [h1.1]
      simp [madeCells, List.getElem?_range hi, hm]
    · have hm : i % 6 = 1 := by omega
      rw [← hd] at h1
      rw [h1.2.1]
      simp [madeCells, List.getElem?_range hi, hm]
    · have hm : i % 6 = 2 := by omega
      rw [← hd] at h1
      rw [h1.2.2.1]
      simp [madeCells, List.getElem?_range hi, hm]
    · have hm : i % 6 = 3 := by omega
      rw [← hd] at h1
      rw [h1.2.2.2.1]
      simp [madeCells, List.getElem?_range hi, hm]
    · have hm : i % 6 = 4 := by omega
      rw [← hd] at h1
      rw [h1.2.2.2.2.1]
      simp [madeCells, List.getElem?_range hi, hm]
    · have hm : i % 6 = 5 := by omega
      rw [← hd] at h1
      rw [h1.2.2.2.2.2]
      simp [madeCells, List.getElem?_range hi, hm]
  · rw [List.getElem?_eq_none (by simp [madeCells]; omega), List.getElem?_eq_none (by simp [rr_len]; omega)]
abbrev Rls := List Rl
/-- the slice v reads as the rules ls -/
def Rr (w : World) (v : Value) (ls : Rls) : Prop :=
  ∃ a cap, v = .slice a ls.length cap ∧ ls.length ≤ cap ∧ cap ≤ maxLen ∧ (ls = [] ∨ ∃ b off, a = some ⟨b, off, none⟩ ∧ ∀ i (h : i < ls.length), w.cell? ⟨b, off + i * 6, none⟩ = some (.string ls[i].pre) ∧ w.cell? ⟨b, off + i * 6 + 1, none⟩ = some (.int .i64 ls[i].le) ∧ w.cell? ⟨b, off + i * 6 + 2, none⟩ = some (.int .i64 ls[i].mo) ∧ w.cell? ⟨b, off + i * 6 + 3, none⟩ = some (.int .i64 ls[i].ro) ∧ w.cell? ⟨b, off + i * 6 + 4, none⟩ = some (.int .i64 ls[i].st) ∧ w.cell? ⟨b, off + i * 6 + 5, none⟩ = some (.string ls[i].ad))
/-- the slice v, among the blocks from base on, owns the rules ls -/
def Orr (e : TypeId) (base : Nat) (w : World) (v : Value) (ls : Rls) : Prop := w.ownsRow base e 6 v ls.length (rr ls)
theorem Rr.below {w w' : World} {v : Value} {ls : Rls} (h : Rr w v ls) (hb : Below w.heap.size w w') : Rr w' v ls := by
  obtain ⟨a, cap, rfl, h1, h2, h3⟩ := h
  refine ⟨a, cap, rfl, h1, h2, ?_⟩
  rcases h3 with h3 | ⟨b, off, rfl, h4⟩
  · exact .inl h3
  · refine .inr ⟨b, off, rfl, fun i hi => ?_⟩
    have hc := h4 i hi
    have hlt : b < w.heap.size := block_lt_of_cell hc.1
    exact ⟨(hb.cell hlt).trans hc.1, (hb.cell hlt).trans hc.2.1, (hb.cell hlt).trans hc.2.2.1, (hb.cell hlt).trans hc.2.2.2.1, (hb.cell hlt).trans hc.2.2.2.2.1, (hb.cell hlt).trans hc.2.2.2.2.2⟩
theorem Orr.below {e : TypeId} {base : Nat} {w w' : World} {v : Value} {ls : Rls} (h : Orr e base w v ls) (hb : Below w.heap.size w w') : Orr e base w' v ls :=
  World.ownsRow.kept (row := none) h ⟨hb.os, hb.tape, hb.output, hb.size, fun j hj _ => hb.block j hj⟩ (by cases v.ownBlock <;> simp)
theorem Orr.rd {e : TypeId} {base : Nat} {w : World} {v : Value} {ls : Rls} (h : Orr e base w v ls) : Rr w v ls := by
  rcases h.2 with ⟨rfl, hn⟩ | ⟨b, cap, cur, rfl, hb, hg, hnc, hcm, hcs, ht⟩
  · exact ⟨none, 0, by rw [hn], by omega, by simp, .inl (List.eq_nil_of_length_eq_zero hn)⟩
  · refine ⟨_, cap, rfl, hnc, hcm, .inr ⟨b, 0, rfl, fun i hi => ?_⟩⟩
    have h0 := World.ownsRow.cellAt h (i * 6) (by omega)
    have h1 := World.ownsRow.cellAt h (i * 6 + 1) (by omega)
    have h2 := World.ownsRow.cellAt h (i * 6 + 2) (by omega)
    have h3 := World.ownsRow.cellAt h (i * 6 + 3) (by omega)
    have h4 := World.ownsRow.cellAt h (i * 6 + 4) (by omega)
    have h5 := World.ownsRow.cellAt h (i * 6 + 5) (by omega)
    have hp := rr_at ls i hi
    rw [Nat.zero_add, h0, h1, h2, h3, h4, h5]; exact hp
theorem own_set6 {e : TypeId} {base b cap : Nat} {w : World} {ls : Rls} (h : Orr e base w (.slice (some ⟨b, 0, none⟩) ls.length cap) ls) (j : Nat) (hj : j < ls.length) (x : Rl) :
    Orr e base ((((((w.setCell ⟨b, j * 6, none⟩ (.string x.pre)).setCell ⟨b, j * 6 + 1, none⟩ (.int .i64 x.le)).setCell ⟨b, j * 6 + 2, none⟩ (.int .i64 x.mo)).setCell ⟨b, j * 6 + 3, none⟩ (.int .i64 x.ro)).setCell ⟨b, j * 6 + 4, none⟩ (.int .i64 x.st)).setCell ⟨b, j * 6 + 5, none⟩ (.string x.ad)) (.slice (some ⟨b, 0, none⟩) ls.length cap) (ls.set j x) := by
  have h1 := (World.ownsRow.stored h (j * 6) (.string x.pre)).1
  have h2 := (World.ownsRow.stored h1 (j * 6 + 1) (.int .i64 x.le)).1
  have h3 := (World.ownsRow.stored h2 (j * 6 + 2) (.int .i64 x.mo)).1
  have h4 := (World.ownsRow.stored h3 (j * 6 + 3) (.int .i64 x.ro)).1
  have h5 := (World.ownsRow.stored h4 (j * 6 + 4) (.int .i64 x.st)).1
  have h6 := (World.ownsRow.stored h5 (j * 6 + 5) (.string x.ad)).1
  rw [rr_set ls j x hj] at h6
  rw [Orr, List.length_set]; exact h6
/-- the first j of ls, others behind -/
def fil {α : Type} (x : α) (ls : List α) (j : Nat) : List α := ls.take j ++ List.replicate (ls.length - j) x
theorem fil_len {α : Type} (x : α) (ls : List α) (j : Nat) (h : j ≤ ls.length) : (fil x ls j).length = ls.length := by simp [fil]; omega
theorem fil_full {α : Type} (x : α) (ls : List α) : fil x ls ls.length = ls := by simp [fil]
theorem fil_set {α : Type} (x : α) (ls : List α) (j : Nat) (h : j < ls.length) : (fil x ls j).set j ls[j] = fil x ls (j + 1) := by
  have e : List.replicate (ls.length - j) x = x :: List.replicate (ls.length - (j + 1)) x := by
    rw [show ls.length - j = (ls.length - (j + 1)) + 1 by omega, List.replicate_succ]
  have t : ls.take (j + 1) = ls.take j ++ [ls[j]] := by rw [List.take_succ_eq_append_getElem h]
  have hm : min j ls.length = j := by omega
  rw [fil, fil, e]
  simp [List.set_append, hm]
  rw [t, List.append_assoc]; rfl
def r0 : Rl := ⟨⟨#[]⟩, 0, 0, 0, 0, ⟨#[]⟩⟩
theorem size31 : (Try.prog.info? 31).map (·.size) = some 6 := by kernel_rfl
theorem infoRule : (Try.prog.info? 31).map (fun i => (i.zero, i.size, i.bytes)) = some (some (.agg (R6 r0)), 6, 64) := by kernel_rfl
set_option maxHeartbeats 1600000 in
theorem toRule_c (r : Rl) (w : World) : Calls Try.prog 46 #[.agg (R6 r)] w fun e w' => e = .returned (.agg (R6 r)) ∧ Below w.heap.size w w' := by
  go_enter Try.func46, Try.ntmps46
  go_wp2
  have h1 : ((((w.alloc (Obj.cells (R6 r) 76)).alloc (Obj.cells (R6 r) 31)).alloc (Obj.cells (R6 r) 31))).heap[w.heap.size + 1]? = some (.cells (R6 r) 31 (0, 0)) :=
    ((Blk.newAt _ (w.heap.size + 1) _ 31 (by simp)).alloc _ : Blk _ _ _ _)
  exact bodyPost_ret (v := .agg (R6 r)) (results_cell_row rfl _ _ _ 31 _ (0, 0) _ rfl h1 Try.underlying31 rfl size31) rfl ⟨rfl, (((Below.refl _ _).alloc (Nat.le_refl _) _).alloc (by simp) _).alloc (by simp; omega) _⟩
end Go.Proofs.Ytpnglbnebkggkaa

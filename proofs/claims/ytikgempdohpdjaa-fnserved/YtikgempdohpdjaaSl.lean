/- Slices of whole numbers: what it is to be read, to be owned; contracts of the laws' helpers that copy, compare, mark and look at them; no condition. -/
import Derived.Test.YtikgempdohpdjaaBase
import Derived.Deep.QuietTactic
import Derived.BigQuiet
import Derived.OwnWalk
namespace Go.Proofs.Ytikgempdohpdjaa
open Go.RowKit Go.ChangeShapes Go.WideShapes Go.ChangeAt
set_option linter.unusedVariables false
set_option linter.unusedSimpArgs false
/-- the slice v reads as the numbers zs -/
def Rd (k : IntKind) (w : World) (v : Value) (zs : List Int) : Prop :=
  ∃ a cap, v = .slice a zs.length cap ∧ zs.length ≤ cap ∧ cap ≤ maxLen ∧ (zs = [] ∨ ∃ b off, a = some ⟨b, off, none⟩ ∧ ∀ i, i < zs.length → w.cell? ⟨b, off + i, none⟩ = some (.int k (zs.getD i 0)))
/-- the slice v, among the blocks from base on, owns the numbers zs -/
def Ow (k : IntKind) (e : TypeId) (base : Nat) (w : World) (v : Value) (zs : List Int) : Prop := w.ownsRow base e 1 v zs.length (zs.map (Value.int k))
theorem Rd.grown {k : IntKind} {w w' : World} {v : Value} {zs : List Int} {row : Option Nat} (h : Rd k w v zs) (hg : w.grownBy w' row) (hne : v.ownBlock = none ∨ v.ownBlock ≠ row) : Rd k w' v zs := by
  obtain ⟨a, cap, rfl, h1, h2, h3⟩ := h
  refine ⟨a, cap, rfl, h1, h2, ?_⟩
  rcases h3 with h3 | ⟨b, off, rfl, h4⟩
  · exact .inl h3
  · refine .inr ⟨b, off, rfl, fun i hi => ?_⟩
    have hc := h4 i hi
    have hlt : b < w.heap.size := block_lt_of_cell hc
    rw [World.cell?_of_block (w := w) (hg.block b hlt (by simpa [Value.ownBlock] using hne))]
    exact hc
theorem Rd.below {k : IntKind} {w w' : World} {v : Value} {zs : List Int} (h : Rd k w v zs) (hb : Below w.heap.size w w') : Rd k w' v zs :=
  h.grown (row := none) ⟨hb.os, hb.tape, hb.output, hb.size, fun j hj _ => hb.block j hj⟩ (by cases v.ownBlock <;> simp)
theorem Ow.below {k : IntKind} {e : TypeId} {base : Nat} {w w' : World} {v : Value} {zs : List Int} (h : Ow k e base w v zs) (hb : Below w.heap.size w w') : Ow k e base w' v zs :=
  World.ownsRow.kept (row := none) h ⟨hb.os, hb.tape, hb.output, hb.size, fun j hj _ => hb.block j hj⟩ (by cases v.ownBlock <;> simp)
theorem Ow.rd {k : IntKind} {e : TypeId} {base : Nat} {w : World} {v : Value} {zs : List Int} (h : Ow k e base w v zs) : Rd k w v zs := by
  rcases h.2 with ⟨rfl, hn⟩ | ⟨g, cap, cur, rfl, hb, hg, hnc, hcm, hcs, ht⟩
  · exact ⟨none, 0, by rw [hn], by omega, by simp, .inl (List.eq_nil_of_length_eq_zero hn)⟩
  · refine ⟨_, cap, rfl, hnc, hcm, .inr ⟨g, 0, rfl, fun i hi => ?_⟩⟩
    have := World.ownsRow.cellAt h i (by omega)
    rw [Nat.zero_add, this]
    simp [List.getElem?_eq_getElem hi]
theorem Ow.mono {k : IntKind} {e : TypeId} {base base' : Nat} {w : World} {v : Value} {zs : List Int} (h : Ow k e base w v zs) (hb : base' ≤ base) : Ow k e base' w v zs := by
  refine ⟨h.1, ?_⟩
  rcases h.2 with h2 | ⟨g, cap, cur, hv, hg, r⟩
  · exact .inl h2
  · exact .inr ⟨g, cap, cur, hv, by omega, r⟩
/-- the block of one is not the block of the other -/
theorem own_ne {k k' : IntKind} {e e' : TypeId} {base base' : Nat} {w w' : World} {v v' : Value} {zs zs' : List Int} (h : Ow k e base w v zs) (h' : Ow k' e' base' w' v' zs') (hb : w.heap.size ≤ base') :
    v.ownBlock = none ∨ v.ownBlock ≠ v'.ownBlock := by
  cases hv : v.ownBlock with
  | none => exact .inl rfl
  | some j =>
    refine .inr fun e => ?_
    have h1 := World.ownsRow.lt h j hv
    have h2 := World.ownsRow.lt h' j e.symm
    omega
theorem own_ne' {k k' : IntKind} {e e' : TypeId} {base base' : Nat} {w w' : World} {v v' : Value} {zs zs' : List Int} (h : Ow k e base w v zs) (h' : Ow k' e' base' w' v' zs') (hb : w.heap.size ≤ base') :
    v'.ownBlock = none ∨ v'.ownBlock ≠ v.ownBlock := by
  rcases own_ne h h' hb with h1 | h1
  · cases hv : v'.ownBlock with
    | none => exact .inl rfl
    | some j => rw [h1]; exact .inr (by simp)
  · exact .inr (Ne.symm h1)
/-- the first j of zs, noughts behind -/
def mix (zs : List Int) (j : Nat) : List Int := zs.take j ++ List.replicate (zs.length - j) 0
theorem mix_len (zs : List Int) (j : Nat) (h : j ≤ zs.length) : (mix zs j).length = zs.length := by simp [mix]; omega
theorem mix_full (zs : List Int) : mix zs zs.length = zs := by simp [mix]
theorem mix_set (k : IntKind) (zs : List Int) (j : Nat) (h : j < zs.length) : ((mix zs j).map (Value.int k)).set j (.int k (zs.getD j 0)) = (mix zs (j + 1)).map (Value.int k) := by
  have e : List.replicate (zs.length - j) (0 : Int) = 0 :: List.replicate (zs.length - (j + 1)) 0 := by
    rw [show zs.length - j = (zs.length - (j + 1)) + 1 by omega, List.replicate_succ]
  have t : zs.take (j + 1) = zs.take j ++ [zs.getD j 0] := by
    rw [List.take_succ_eq_append_getElem h]; simp [List.getElem?_eq_getElem h]
  have hm : min j zs.length = j := by omega
  rw [← List.map_set, mix, mix, e, t]
  simp [List.set_append, hm]
/-- numbers that agree at each place are the same -/
theorem ext_getD {a b : List Int} (hl : a.length = b.length) (h : ∀ j, j < a.length → a.getD j 0 = b.getD j 0) : a = b := by
  apply List.ext_getElem hl
  intro i h1 h2
  have := h i h1
  simpa [List.getElem?_eq_getElem h1, List.getElem?_eq_getElem h2] using this
theorem wrap_u8 (x : Int) : IntKind.wrap .u8 x = x % 256 := by simp [IntKind.wrap, IntKind.signed, IntKind.bits]
/-- the marks that the laws lay: n of them from q on -/
def marks (k : IntKind) (q : Int) (n : Nat) : List Int := (List.range n).map fun i : Nat => k.wrap (q + (i : Int))
theorem marks_len (k : IntKind) (q : Int) (n : Nat) : (marks k q n).length = n := by simp [marks]
theorem marks_at (k : IntKind) (q : Int) (n i : Nat) (h : i < n) : (marks k q n).getD i 0 = k.wrap (q + i) := by simp [marks, List.getElem?_map, List.getElem?_range h]
/-- the first j places marked, the rest as it was -/
def mk (k : IntKind) (q : Int) (zs : List Int) (j : Nat) : List Int := marks k q j ++ zs.drop j
theorem mk_len (k : IntKind) (q : Int) (zs : List Int) (j : Nat) (h : j ≤ zs.length) : (mk k q zs j).length = zs.length := by simp [mk, marks_len]; omega
theorem mk_set (k : IntKind) (q : Int) (zs : List Int) (j : Nat) (h : j < zs.length) : ((mk k q zs j).map (Value.int k)).set j (.int k (k.wrap (q + j))) = (mk k q zs (j + 1)).map (Value.int k) := by
  rw [← List.map_set]
  congr 1
  have e : zs.drop j = zs[j] :: zs.drop (j + 1) := List.drop_eq_getElem_cons h
  have m : marks k q (j + 1) = marks k q j ++ [k.wrap (q + j)] := by simp [marks, List.range_succ]
  rw [mk, mk, e, m, List.set_append]
  simp only [marks_len, Nat.lt_irrefl, if_false, Nat.sub_self, List.set_cons_zero, List.append_assoc, List.cons_append, List.nil_append]

theorem toBInfo : (Try.prog.info? 5).map (fun i => (i.zero, i.size, i.bytes)) = some (some (.int .u8 0), 1, 1) := by kernel_rfl
theorem toIInfo : (Try.prog.info? 3).map (fun i => (i.zero, i.size, i.bytes)) = some (some (.int .i64 0), 1, 8) := by kernel_rfl
end Go.Proofs.Ytikgempdohpdjaa

/- Rows of rows; no condition. -/
import Derived.Test.YtikgempdohpdjaaGrw
import Derived.Test.YtikgempdohpdjaaLwb
import Derived.Test.YtikgempdohpdjaaWin
namespace Go.Proofs.Ytikgempdohpdjaa
open Go.RowKit Go.ChangeShapes Go.WideShapes Go.ChangeAt
set_option linter.unusedVariables false
set_option linter.unusedSimpArgs false
set_option maxRecDepth 8000

abbrev vN : Value := .slice none 0 0
/-- the slice v reads as the rows ls -/
def Rn (w : World) (v : Value) (ls : List (List Int)) : Prop :=
  ∃ a cap, v = .slice a ls.length cap ∧ ls.length ≤ cap ∧ cap ≤ maxLen ∧ (ls = [] ∨ ∃ b off, a = some ⟨b, off, none⟩ ∧ ∀ i, i < ls.length → ∃ u, w.cell? ⟨b, off + i, none⟩ = some u ∧ Rd .i64 w u (ls.getD i []))
theorem Rn.below {w w' : World} {v : Value} {ls : List (List Int)} (h : Rn w v ls) (hb : Below w.heap.size w w') : Rn w' v ls := by
  obtain ⟨a, cap, rfl, h1, h2, h3⟩ := h
  refine ⟨a, cap, rfl, h1, h2, ?_⟩
  rcases h3 with h3 | ⟨b, off, rfl, h4⟩
  · exact .inl h3
  · refine .inr ⟨b, off, rfl, fun i hi => ?_⟩
    obtain ⟨u, hc, hr⟩ := h4 i hi
    exact ⟨u, by rw [hb.cell (block_lt_of_cell hc)]; exact hc, hr.below hb⟩
theorem rnc {w : World} {a : Option Addr} {n cap : Nat} {ls : List (List Int)} (h : Rn w (.slice a n cap) ls) : ∀ W j, j < ls.length → Below w.heap.size w W → ∃ (bo : Nat × Nat) (u : Value), a = some ⟨bo.1, bo.2, none⟩ ∧ bo.1 < w.heap.size ∧ W.cell? ⟨bo.1, bo.2 + j, none⟩ = some u ∧ Rd .i64 w u (ls.getD j []) := fun W j hj hW => by
  obtain ⟨a', cap', he, -, -, h3⟩ := h
  cases he
  rcases h3 with h3 | ⟨b, off, h0, h4⟩
  · rw [h3] at hj; simp at hj
  · obtain ⟨u, hc, hr⟩ := h4 j hj
    exact ⟨(b, off), u, h0, block_lt_of_cell hc, by rw [hW.cell (block_lt_of_cell hc)]; exact hc, hr⟩
/-- the slice v owns rows of its own: us are they, each in blocks from P i on, below P (i + 1) -/
structure On (E : TypeId) (base : Nat) (w : World) (v : Value) (ls : List (List Int)) (us : List Value) (P : Nat → Nat) : Prop where
  len : us.length = ls.length
  row : w.ownsRow base E 1 v ls.length us
  out : ∀ k, v.ownBlock = some k → k < P 0
  bas : base ≤ P 0
  up : ∀ i, i < ls.length → P i ≤ P (i + 1)
  own : ∀ i, i < ls.length → Ow .i64 3 (P i) w (us.getD i vN) (ls.getD i [])
  lt : ∀ i, i < ls.length → ∀ k, (us.getD i vN).ownBlock = some k → k < P (i + 1)
theorem On.mono {E : TypeId} {base : Nat} {w : World} {v : Value} {ls : List (List Int)} {us : List Value} {P : Nat → Nat} (h : On E base w v ls us P) : ∀ i j, i ≤ j → j ≤ ls.length → P i ≤ P j := by
  intro i j hij
  induction j with
  | zero => intro _; rw [show i = 0 by omega]; exact Nat.le_refl _
  | succ j ih =>
    intro hj
    rcases Nat.lt_or_ge i (j + 1) with h1 | h1
    · exact Nat.le_trans (ih (by omega) (by omega)) (h.up j (by omega))
    · rw [show i = j + 1 by omega]; exact Nat.le_refl _
theorem On.below {E : TypeId} {base : Nat} {w w' : World} {v : Value} {ls : List (List Int)} {us : List Value} {P : Nat → Nat} (h : On E base w v ls us P) (hb : Below w.heap.size w w') : On E base w' v ls us P :=
  ⟨h.len, World.ownsRow.kept (row := none) h.row ⟨hb.os, hb.tape, hb.output, hb.size, fun j hj _ => hb.block j hj⟩ (by cases v.ownBlock <;> simp), h.out, h.bas, h.up, fun i hi => (h.own i hi).below hb, h.lt⟩
theorem On.rd {E : TypeId} {base : Nat} {w : World} {v : Value} {ls : List (List Int)} {us : List Value} {P : Nat → Nat} (h : On E base w v ls us P) : Rn w v ls := by
  rcases h.row.2 with ⟨rfl, hn⟩ | ⟨g, cap, cur, rfl, hb, hg, hnc, hcm, hcs, ht⟩
  · exact ⟨none, 0, by rw [hn], by omega, by simp, .inl (List.eq_nil_of_length_eq_zero hn)⟩
  · refine ⟨_, cap, rfl, hnc, hcm, .inr ⟨g, 0, rfl, fun i hi => ⟨us.getD i vN, ?_, (h.own i hi).rd⟩⟩⟩
    have := World.ownsRow.cellAt h.row i (by omega)
    rw [Nat.zero_add, this, List.getD_eq_getElem?_getD, List.getElem?_eq_getElem (by rw [h.len]; exact hi)]
    rfl
/-- nothing but blocks from B on, below H, was written -/
structure Btw (B H : Nat) (w w' : World) : Prop where
  os : w'.os = w.os
  tape : w'.tape = w.tape
  output : w'.output = w.output
  size : w.heap.size ≤ w'.heap.size
  block : ∀ k, k < w.heap.size → (k < B ∨ H ≤ k) → w'.heap[k]? = w.heap[k]?
theorem Btw.refl (B H : Nat) (w : World) : Btw B H w w := ⟨rfl, rfl, rfl, Nat.le_refl _, fun _ _ _ => rfl⟩
theorem Btw.trans {B H : Nat} {a b c : World} (h : Btw B H a b) (h' : Btw B H b c) : Btw B H a c := ⟨h'.os.trans h.os, h'.tape.trans h.tape, h'.output.trans h.output, Nat.le_trans h.size h'.size, fun k hk hr => (h'.block k (Nat.lt_of_lt_of_le hk h.size) hr).trans (h.block k hk hr)⟩
theorem Btw.grown {B H : Nat} {a b : World} {row : Option Nat} (h : a.grownBy b row) (hr : ∀ k, row = some k → B ≤ k ∧ k < H) : Btw B H a b := ⟨h.os, h.tape, h.output, h.size, fun k hk hrk => h.block k hk (fun e => by have := hr k e.symm; omega)⟩
theorem Btw.below {B H B' : Nat} {a b : World} (h : Btw B H a b) (hB : B' ≤ B) (hs : B' ≤ a.heap.size) : Below B' a b := ⟨h.os, h.tape, h.output, h.size, fun k hk => h.block k (by omega) (.inl (by omega))⟩
theorem own_btw {B H : Nat} {a b : World} {base : Nat} {e : TypeId} {s : Nat} {v : Value} {n : Nat} {xs : List Value} (h : a.ownsRow base e s v n xs) (hb : Btw B H a b) (hH : H ≤ base) : b.ownsRow base e s v n xs := by
  refine ⟨h.1, ?_⟩
  rcases h.2 with h2 | ⟨g, cap, cur, hv, hg, hc, r⟩
  · exact .inl h2
  · have hlt : g < a.heap.size := by
      rcases Nat.lt_or_ge g a.heap.size with h1 | h1
      · exact h1
      · have : a.heap[g]? = none := by simp; omega
        rw [this] at hc; cases hc
    exact .inr ⟨g, cap, cur, hv, hg, by rw [hb.block g hlt (.inr (by omega))]; exact hc, r⟩
/-- how many numbers the first j rows have -/
def smL (ls : List (List Int)) : Nat → Nat
  | 0 => 0
  | j + 1 => smL ls j + (ls.getD j []).length
theorem smL_mono (ls : List (List Int)) : ∀ i j, i ≤ j → smL ls i ≤ smL ls j := by
  intro i j hij
  induction j with
  | zero => rw [show i = 0 by omega]; exact Nat.le_refl _
  | succ j ih =>
    rcases Nat.lt_or_ge i (j + 1) with h1 | h1
    · have := ih (by omega); rw [smL]; omega
    · rw [show i = j + 1 by omega]; exact Nat.le_refl _
theorem smL_row {ls : List (List Int)} {n j : Nat} (h : smL ls ls.length ≤ n) (hj : j < ls.length) : (ls.getD j []).length ≤ n := by
  have := smL_mono ls (j + 1) ls.length (by omega)
  rw [smL] at this; omega
theorem toSInfo : (Try.prog.info? 27).map (fun i => (i.zero, i.size, i.bytes)) = some (some (.slice none 0 0), 1, 24) := by kernel_rfl

end Go.Proofs.Ytikgempdohpdjaa

/- Subs at work: read and owned; no condition. -/
import Derived.Test.YtfaflnhembceoaaRiD
import Derived.Test.YtfaflnhembceoaaApp
namespace Go.Proofs.Ytfaflnhembceoaa
open Go.RowKit Go.ChangeShapes Go.WideShapes Go.ChangeAt
set_option linter.unusedVariables false
set_option linter.unusedSimpArgs false
set_option maxRecDepth 8000
theorem info103 : (Try.prog.info? 103).map (fun i => (i.zero, i.size, i.bytes)) = some (some .nilIface, 1, 16) := by kernel_rfl
theorem info101 : (Try.prog.info? 101).map (fun i => (i.zero, i.size, i.bytes)) = some (some (.agg #[.bool false, .bool false, .slice none 0 0]), 3, 32) := by kernel_rfl
theorem size101 : (Try.prog.info? 101).map (·.size) = some 3 := by kernel_rfl
/-- the slice v, from base on, owns features at work -/
def Ox (base : Nat) (w : World) (v : Value) (fs : Fts) : Prop := w.ownsRow base 103 1 v fs.length (fs.map exV)
theorem Ox.rd {base : Nat} {w : World} {v : Value} {fs : Fts} (h : Ox base w v fs) : Rx w v fs := by
  rcases h.2 with ⟨rfl, hn⟩ | ⟨g, cap, cur, rfl, hb, hg, hnc, hcm, hcs, ht⟩
  · exact ⟨none, 0, by rw [hn], by omega, by simp, .inl (List.eq_nil_of_length_eq_zero hn)⟩
  · refine ⟨_, cap, rfl, hnc, hcm, .inr ⟨g, 0, rfl, fun i hi => ?_⟩⟩
    have h0 := World.ownsRow.cellAt h i (by omega)
    rw [Nat.zero_add, h0]
    simp [List.getElem?_eq_getElem hi]
theorem exV_one (r : Int × Int) : (exV r).oneCell' = true := by
  obtain ⟨t, u, e⟩ := exV_if r.1 r.2
  rw [show exV r = _ from e]; rfl
theorem appX {ops : Array Oper} {rest : List Oper} {o : Oper} {a : Act} {w : World} {Q : Exit → Act → World → Prop} (hgd : o.guard = none) (s x : Operand)
    (ho : o.op = .call { callee := .builtin .append, args := #[s, x], argTypes := #[99, 99] }) (base : Nat) (v : Value) (fs : Fts) (hs : a.eval s = v) (hown : Ox base w v fs)
    (g : Nat) (r : Int × Int) (hx : a.eval x = .slice (some ⟨g, 0, none⟩) 1 1) (hc : w.cell? ⟨g, 0, none⟩ = some (exV r)) (hl : fs.length ≤ 1048576) (hbase : base ≤ w.heap.size)
    (h : ∀ v' w', Ox base w' v' (fs ++ [r]) → w.grownBy w' v.ownBlock → wpList Try.prog ops Q rest (a.put o.dst v') w') : wpList Try.prog ops Q (o :: rest) a w := by
  obtain ⟨i0, hi, hz0, hz1, hz2⟩ := info_parts info103
  refine wpList_append_own w hgd s x 99 ho base 103 i0 .nilIface 1 16 Try.underlying99 hi hz0 hz1 hz2 rfl (by decide) v fs.length (fs.map exV) hs hown ⟨g, 0, none⟩ 1 1 [exV r] hx rfl ?_ ?_ ?_ ?_ hbase ?_
  · intro j u hj
    match j, hj with
    | 0, hj => simp at hj; subst hj; simpa [Addr.add] using hc
  · intro u hu; simp at hu; subst hu; exact exV_one r
  · unfold maxLen; omega
  · omega
  · intro v' w' h1 h2 h3
    refine h v' w' ?_ h2
    simpa [Ox] using h1
/-- subs at work: read -/
def RdL (w : World) (v : Value) (cs : Sbs) : Prop :=
  ∃ lv : List V3, lv.length = cs.length ∧ Rq w v lv ∧ ∀ i (h : i < cs.length) (h' : i < lv.length), lv[i].1 = .bool cs[i].1 ∧ lv[i].2.1 = .bool cs[i].2.1 ∧ Rx w lv[i].2.2 cs[i].2.2
theorem RdL.below {w w' : World} {v : Value} {cs : Sbs} (h : RdL w v cs) (hb : Below w.heap.size w w') : RdL w' v cs := by
  obtain ⟨lv, h1, h2, h3⟩ := h
  exact ⟨lv, h1, h2.below hb, fun i hi hi' => ⟨(h3 i hi hi').1, (h3 i hi hi').2.1, (h3 i hi hi').2.2.below hb⟩⟩
theorem RdL.len {w : World} {v : Value} {cs : Sbs} (h : RdL w v cs) : ∃ a cap, v = .slice a cs.length cap ∧ cs.length ≤ cap ∧ cap ≤ maxLen := by
  obtain ⟨lv, hl, ⟨a, cap, rfl, h1, h2, h3⟩, hc⟩ := h
  exact ⟨a, cap, by rw [hl], by rw [hl] at h1; exact h1, h2⟩
theorem RdL.at {w : World} {a : Option Addr} {n cap : Nat} {cs : Sbs} (h : RdL w (.slice a n cap) cs) (j : Nat) (hj : j < cs.length) : ∃ b off v, a = some ⟨b, off, none⟩ ∧ b < w.heap.size ∧ Rx w v cs[j].2.2 ∧
    w.cell? ⟨b, off + j * 3, none⟩ = some (.bool cs[j].1) ∧ w.cell? ⟨b, off + j * 3 + 1, none⟩ = some (.bool cs[j].2.1) ∧ w.cell? ⟨b, off + j * 3 + 2, none⟩ = some v := by
  obtain ⟨lv, hl, ⟨a', cap', e, h1, h2, h3⟩, hc⟩ := h
  injection e with e1 e2 e3
  subst e1
  rcases h3 with h3 | ⟨b, off, rfl, h4⟩
  · subst h3; simp at hl; omega
  · have h5 := h4 j (by omega)
    have h6 := hc j hj (by omega)
    exact ⟨b, off, lv[j].2.2, rfl, block_lt_of_cell h5.1, h6.2.2, by rw [h5.1, h6.1], by rw [h5.2.1, h6.2.1], h5.2.2⟩
/-- rows that are done: each lies in a block between -/
def DnL (lo hi : Nat) (w : World) (lv : List V3) (cs : Sbs) : Prop :=
  ∀ i (h : i < lv.length) (h' : i < cs.length), lv[i].1 = .bool cs[i].1 ∧ lv[i].2.1 = .bool cs[i].2.1 ∧ Ox lo w lv[i].2.2 cs[i].2.2 ∧ ∀ k, lv[i].2.2.ownBlock = some k → k < hi
/-- nothing below hi was turned, but the block g -/
def Kp (g hi : Nat) (w w' : World) : Prop := w.heap.size ≤ w'.heap.size ∧ ∀ k, k < hi → k ≠ g → w'.heap[k]? = w.heap[k]?
theorem Kp.trans {g hi : Nat} {a b c : World} (h : Kp g hi a b) (h' : Kp g hi b c) : Kp g hi a c := ⟨by have := h.1; have := h'.1; omega, fun k h1 h2 => (h'.2 k h1 h2).trans (h.2 k h1 h2)⟩
theorem Kp.below {g hi : Nat} {a b : World} (h : Below hi a b) : Kp g hi a b := ⟨h.size, fun k h1 _ => h.block k h1⟩
theorem Kp.grown {g hi : Nat} {a b : World} {row : Option Nat} (h : a.grownBy b row) (hs : hi ≤ a.heap.size) (hr : ∀ k, row = some k → k = g ∨ hi ≤ k) : Kp g hi a b :=
  ⟨h.size, fun k h1 h2 => h.block k (by omega) (fun e => by rcases hr k e.symm with h | h <;> omega)⟩
theorem DnL.kp {lo hi g : Nat} {w w' : World} {lv : List V3} {cs : Sbs} (h : DnL lo hi w lv cs) (hk : Kp g hi w w') (hg : g < lo) : DnL lo hi w' lv cs := by
  intro i h1 h2
  obtain ⟨e, e', o, n⟩ := h i h1 h2
  refine ⟨e, e', ?_, n⟩
  refine ⟨o.1, ?_⟩
  rcases o.2 with o2 | ⟨b, cap, cur, hv, hb, hbk, r⟩
  · exact .inl o2
  · have hbh := n b (by rw [hv]; rfl)
    exact .inr ⟨b, cap, cur, hv, hb, by rw [hk.2 b hbh (by omega)]; exact hbk, r⟩
end Go.Proofs.Ytfaflnhembceoaa

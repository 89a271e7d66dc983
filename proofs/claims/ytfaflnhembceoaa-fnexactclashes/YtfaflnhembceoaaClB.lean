/- Which features clash; no condition. -/
import Derived.Test.YtfaflnhembceoaaClA
namespace Go.Proofs.Ytfaflnhembceoaa
open Go.RowKit Go.ChangeShapes Go.WideShapes Go.ChangeAt
set_option linter.unusedVariables false
set_option linter.unusedSimpArgs false
set_option maxRecDepth 8000

def unl (x y : Out) : Bool := x.1 != y.1 || x.2.1 != y.2.1
/-- a call from f to u goes over t or ends there -/
def atB (cs : Sbs) (t f u : Nat) : Bool := !(decide (f = u)) && (decide ((rtF cs f u).2.1 = t) || decide ((t : Int) ∈ (rtF cs f u).2.2))
def clB (cs : Sbs) (t i k f u : Nat) : Bool :=
  atB cs t f u && (unl (rtF (woS cs t i (-1)) f u) (rtF (woS cs t k (-1)) f u) && (unl (rtF (woS cs t k (-1)) f u) (rtF (woS cs t i k) f u) && unl (rtF (woS cs t i (-1)) f u) (rtF (woS cs t i k) f u)))
/-- the first call, in the order of pairs, at which two features clash -/
def clF (cs : Sbs) (t i k : Nat) : Option Nat := (List.range (cs.length * cs.length)).find? fun p => clB cs t i k (p / cs.length) (p % cs.length)
abbrev C5 (a b c d e : Int) : Array Value := #[.int .i64 a, .int .i64 b, .int .i64 c, .int .i64 d, .int .i64 e]
def clV (n t i k : Nat) : Option Nat → Array Value
  | none => C5 0 0 0 0 0
  | some p => C5 t i k ((p / n : Nat) : Int) ((p % n : Nat) : Int)
set_option maxHeartbeats 800000 in
theorem unlike_c (x1 x2 y1 y2 : Int) (a1 a2 : Option Addr) (n1 n2 k1 k2 : Nat) (w : World) (z : Bool) (hz : (x1 != y1 || x2 != y2) = z) : Calls Try.prog 80 #[.agg (O3 x1 x2 (.slice a1 n1 k1)), .agg (O3 y1 y2 (.slice a2 n2 k2))] w fun e w' => e = .returned (.bool z) ∧ Below w.heap.size w w' := by
  obtain ⟨W0, hW0⟩ : ∃ W0, w.alloc (Obj.cells (O3 x1 x2 (.slice a1 n1 k1)) 29) = W0 := ⟨_, rfl⟩
  obtain ⟨W1, hW1⟩ : ∃ W1, W0.alloc (Obj.cells (O3 y1 y2 (.slice a2 n2 k2)) 29) = W1 := ⟨_, rfl⟩
  have b0 : Below w.heap.size w W0 := by rw [← hW0]; exact (Below.refl _ _).alloc (Nat.le_refl _) _
  have HB : Hid (Below w.heap.size w W1) := by show Below _ _ _; rw [← hW1]; exact b0.alloc b0.size _
  have k0 : Blk W1 w.heap.size (O3 x1 x2 (.slice a1 n1 k1)) 29 := by rw [← hW1, ← hW0]; exact (Blk.new _ _ _).alloc _
  have k2' : Blk W1 W0.heap.size (O3 y1 y2 (.slice a2 n2 k2)) 29 := by rw [← hW1]; exact Blk.new _ _ _
  have c0 := k0.cell 0
  have c1 := k0.cell 1
  have d0 := k2'.cell 0
  have d1 := k2'.cell 1
  simp at c0 c1 d0 d1
  have HZ : Hid ((x1 != y1 || x2 != y2) = z) := hz
  clear b0 k0 k2' hz
  by_cases e : x1 = y1
  · have e1 : (x1 != y1) = false := by simp [e]
    clear e
    obtain ⟨z2, e2⟩ : ∃ z2, (x2 != y2) = z2 := ⟨_, rfl⟩
    have HZ2 : Hid (z2 = z) := by show z2 = z; have := HZ.out; rw [e1, e2] at this; simpa using this
    clear HZ
    go_enter Try.func80, Try.ntmps80
    go_wp2
    go_ret
    exact ⟨by rw [HZ2.out]; rfl, HB.out⟩
  · have e1 : (x1 != y1) = true := by simp [e]
    clear e
    have HZ2 : Hid (z = true) := by show z = true; have := HZ.out; rw [e1] at this; simpa using this.symm
    clear HZ
    go_enter Try.func80, Try.ntmps80
    go_wp2
    go_ret
    exact ⟨by rw [HZ2.out]; rfl, HB.out⟩
theorem clF_none {cs : Sbs} {t i k : Nat} (h : ∀ p, p < cs.length * cs.length → clB cs t i k (p / cs.length) (p % cs.length) = false) : clF cs t i k = none := by
  rw [clF, List.find?_eq_none]
  intro p hp
  have := h p (by simpa using hp)
  simp [this]
theorem clF_some {cs : Sbs} {t i k f u : Nat} (hf : f < cs.length) (hu : u < cs.length) (hc : clB cs t i k f u = true) (h : ∀ p, p < f * cs.length + u → clB cs t i k (p / cs.length) (p % cs.length) = false) : clF cs t i k = some (f * cs.length + u) ∧ (f * cs.length + u) / cs.length = f ∧ (f * cs.length + u) % cs.length = u := by
  have h0 : 0 < cs.length := by omega
  have e1 : (f * cs.length + u) / cs.length = f := by rw [Nat.mul_comm, Nat.mul_add_div h0, Nat.div_eq_of_lt hu]; omega
  have e2 : (f * cs.length + u) % cs.length = u := by rw [Nat.mul_comm, Nat.mul_add_mod, Nat.mod_eq_of_lt hu]
  refine ⟨?_, e1, e2⟩
  rw [clF, List.find?_range_eq_some]
  refine ⟨by rw [e1, e2]; exact hc, ?_, fun j hj => by simp [h j hj]⟩
  have : (f + 1) * cs.length ≤ cs.length * cs.length := Nat.mul_le_mul_right _ (by omega)
  rw [Nat.add_mul, Nat.one_mul] at this
  simp; omega
theorem clB_next {cs : Sbs} {t i k f u : Nat} (hu : u < cs.length) (hc : clB cs t i k f u = false) (h : ∀ p, p < f * cs.length + u → clB cs t i k (p / cs.length) (p % cs.length) = false) : ∀ p, p < f * cs.length + (u + 1) → clB cs t i k (p / cs.length) (p % cs.length) = false := by
  intro p hp
  have h0 : 0 < cs.length := by omega
  by_cases e : p = f * cs.length + u
  · subst e
    have e1 : (f * cs.length + u) / cs.length = f := by rw [Nat.mul_comm, Nat.mul_add_div h0, Nat.div_eq_of_lt hu]; omega
    have e2 : (f * cs.length + u) % cs.length = u := by rw [Nat.mul_comm, Nat.mul_add_mod, Nat.mod_eq_of_lt hu]
    rw [e1, e2]; exact hc
  · exact h p (by omega)
theorem wof_sub (ls : Fts) (a b : Int) : ∀ j, j ≤ ls.length → (wof ls a b j).Sublist (ls.take j)
  | 0, _ => by simp [wof]
  | j + 1, h => by
    have ih := wof_sub ls a b j (by omega)
    have hj : j < ls.length := by omega
    rw [wof, List.take_succ_eq_append_getElem hj]
    split
    · rw [List.append_nil]; exact ih.trans (List.sublist_append_left _ _)
    · rw [List.getD_eq_getElem?_getD, List.getElem?_eq_getElem hj]
      exact ih.append (List.Sublist.refl _)
theorem FsOk_iff (n : Int) (ls : Fts) : FsOk n ls ↔ (∀ x ∈ ls, ftB n x = true) ∧ ls.Pairwise (fun g f => twB f g = false) := by
  constructor
  · intro h
    refine ⟨h.all, ?_⟩
    rw [List.pairwise_iff_getElem]
    intro i j hi hj hij
    have h2 := (h j hj hj).2
    rw [List.any_eq_false] at h2
    have := h2 ls[i] (by rw [List.mem_take_iff_getElem]; exact ⟨i, by omega, rfl⟩)
    simpa using this
  · rintro ⟨h1, h2⟩ j hj _
    refine ⟨h1 _ (List.getElem_mem hj), ?_⟩
    rw [List.any_eq_false]
    intro x hx
    obtain ⟨i, hi, rfl⟩ := List.mem_take_iff_getElem.1 hx
    have := List.pairwise_iff_getElem.1 h2 i j (by omega) hj (by omega)
    simpa using this
theorem FsOk.sub {n : Int} {ls ms : Fts} (h : FsOk n ls) (hs : ms.Sublist ls) : FsOk n ms := by
  rw [FsOk_iff] at h ⊢
  exact ⟨fun x hx => h.1 x (hs.subset hx), h.2.sublist hs⟩
theorem woS_ok {cs : Sbs} {t : Nat} {a b : Int} (h : SbOk cs) (ht : t < cs.length) : SbOk (woS cs t a b) := by
  have hg : cs.getD t sb0 = cs[t] := by rw [List.getD_eq_getElem?_getD, List.getElem?_eq_getElem ht]; rfl
  obtain ⟨h1, h2, h3⟩ := h
  rw [woS, hg]
  refine ⟨by simpa using h1, by simpa using h2, fun i hi => ?_⟩
  rw [List.length_set]
  by_cases e : i = t
  · subst e
    simp only [List.getElem_set_self]
    have hs := wof_sub cs[i].2.2 a b cs[i].2.2.length (Nat.le_refl _)
    rw [List.take_length] at hs
    exact (h3 i ht).sub hs
  · rw [List.getElem_set_ne (show t ≠ i by omega)]
    exact h3 i (by simpa using hi)
theorem woS_len (cs : Sbs) (t : Nat) (a b : Int) : (woS cs t a b).length = cs.length := by simp [woS]
end Go.Proofs.Ytfaflnhembceoaa

/- What is compacted, when it is sorted; no condition. -/
import Derived.Test.YtlknakijdpeaoaaDfn
import Derived.Sort.Walk0
import Derived.Lib.SlicesCompact
import Derived.Lib.RowBridge
namespace Go.Proofs.Ytlknakijdpeaoaa
open Go.RowKit Go.ChangeShapes Go.WideShapes Go.ChangeAt
set_option linter.unusedVariables false
set_option linter.unusedSimpArgs false
set_option maxRecDepth 8000

theorem bang {α : Type} [Inhabited α] (zs : List α) (i : Nat) (h : i < zs.length) : zs.toArray[i]! = zs[i] := by simp [getElem!_pos, h]
/-- not less: at most -/
def nb (x y : List UInt8) : Prop := Go.Op.bytesLess y x = false
theorem nb_trans {x y z : List UInt8} (h : nb x y) (g : nb y z) : nb x z := by
  unfold nb at *
  cases e : Go.Op.bytesLess z x with
  | false => rfl
  | true =>
    cases f : Go.Op.bytesLess x y with
    | true => rw [bL_trans _ _ _ e f] at g; cases g
    | false =>
      have := bL_tot x y f h
      subst this
      rw [e] at g; cases g
theorem nb_lt {x y z : List UInt8} (h : nb x y) (g : Go.Op.bytesLess y z = true) : Go.Op.bytesLess x z = true := by
  cases f : Go.Op.bytesLess x y with
  | true => exact bL_trans _ _ _ f g
  | false =>
    have := bL_tot x y f h
    subst this; exact g
theorem nb_refl (x : List UInt8) : nb x x := bL_irr x
theorem nb_at {zs : List (List UInt8)} (h : zs.Pairwise nb) (i j : Nat) (hij : i ≤ j) (hj : j < zs.length) : nb (zs[i]'(by omega)) zs[j] := by
  rcases Nat.lt_or_eq_of_le hij with hl | rfl
  · exact List.pairwise_iff_getElem.1 h i j (by omega) hj hl
  · exact nb_refl _
theorem cp_pair {zs : List (List UInt8)} (h : zs.Pairwise nb) : (Lib.compact zs).Pairwise fun a b => Go.Op.bytesLess a b = true := by
  unfold Lib.compact Lib.compactUpTo
  rw [List.pairwise_map]
  refine (List.pairwise_lt_range.filter _).imp_of_mem ?_
  intro i j hi hj hlt
  have h1 := List.mem_filter.1 hj
  have hjl : j < zs.length := List.mem_range.1 h1.1
  have hk : j = 0 ∨ zs.toArray[j]! ≠ zs.toArray[j - 1]! := by simpa [Lib.keeps] using h1.2
  rcases hk with hk | hk
  · omega
  rw [bang zs j hjl, bang zs (j - 1) (by omega)] at hk
  rw [bang zs i (by omega), bang zs j hjl]
  have a1 := nb_at h i (j - 1) (by omega) (by omega)
  have a2 := nb_at h (j - 1) j (by omega) hjl
  refine nb_lt a1 ?_
  cases f : Go.Op.bytesLess zs[j - 1] zs[j] with
  | true => rfl
  | false => exact absurd (bL_tot _ _ f a2).symm hk
theorem cp_mem {zs : List (List UInt8)} (x : List UInt8) : x ∈ Lib.compact zs ↔ x ∈ zs := by
  unfold Lib.compact Lib.compactUpTo
  constructor
  · intro h
    obtain ⟨j, hj, rfl⟩ := List.mem_map.1 h
    have hjl : j < zs.length := List.mem_range.1 (List.mem_filter.1 hj).1
    rw [bang zs j hjl]; exact List.getElem_mem hjl
  · intro h
    obtain ⟨j, hj, rfl⟩ := List.getElem_of_mem h
    clear h
    induction j with
    | zero => exact List.mem_map.2 ⟨0, List.mem_filter.2 ⟨List.mem_range.2 hj, by simp [Lib.keeps]⟩, bang zs 0 hj⟩
    | succ j ih =>
      by_cases hk : zs.toArray[j + 1]! = zs.toArray[j]!
      · rw [bang zs (j + 1) hj, bang zs j (by omega)] at hk
        rw [hk]; exact ih (by omega)
      · exact List.mem_map.2 ⟨j + 1, List.mem_filter.2 ⟨List.mem_range.2 hj, by simp only [Lib.keeps, decide_eq_true_eq]; exact .inr hk⟩, bang zs (j + 1) hj⟩
theorem ms_pair (ss : List (List UInt8)) : (ss.mergeSort fun x y => decide (x ≤ y)).Pairwise nb := by
  have e : ∀ a b : List UInt8, decide (a ≤ b) = true ↔ nb a b := fun a b => by
    unfold nb
    rw [decide_eq_true_eq, bytesLess_eq, decide_eq_false_iff_not]
    exact Iff.rfl
  refine (List.pairwise_mergeSort ?_ ?_ ss).imp fun {a b} hab => (e a b).1 hab
  · intro a b c h1 h2
    exact (e a c).2 (nb_trans ((e a b).1 h1) ((e b c).1 h2))
  · intro a b
    rw [Bool.or_eq_true, e, e]
    unfold nb
    cases f : Go.Op.bytesLess b a with
    | false => exact .inl rfl
    | true => exact .inr (bL_asym _ _ f)
/-- the names of both, in order, each once -/
def nmL (N : List ByteArray) : List (List UInt8) := Lib.compact ((N.map fun b => b.data.toList).mergeSort fun x y => decide (x ≤ y))
def nmB (N : List ByteArray) : List ByteArray := (nmL N).map fun l => ⟨l.toArray⟩
theorem nmB_pair (N : List ByteArray) : (nmB N).Pairwise fun a b => bl a b = true := by
  unfold nmB
  rw [List.pairwise_map]
  refine (cp_pair (ms_pair _)).imp fun {a b} h => ?_
  simpa [bl, ByteArray.toList_eq] using h
theorem nmB_mem (N : List ByteArray) (x : ByteArray) : x ∈ nmB N ↔ x ∈ N := by
  unfold nmB nmL
  rw [List.mem_map]
  constructor
  · rintro ⟨l, hl, rfl⟩
    rw [cp_mem, List.mem_mergeSort] at hl
    obtain ⟨b, hb, rfl⟩ := List.mem_map.1 hl
    exact hb
  · intro h
    refine ⟨x.data.toList, ?_, rfl⟩
    rw [cp_mem, List.mem_mergeSort]
    exact List.mem_map.2 ⟨x, h, rfl⟩
theorem nmB_len (N : List ByteArray) : (nmB N).length ≤ N.length := by
  unfold nmB nmL
  rw [List.length_map]
  refine Nat.le_trans (Lib.compact_length_le _) ?_
  simp

end Go.Proofs.Ytlknakijdpeaoaa

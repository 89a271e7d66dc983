/- Sort and Compact of names, laid from the library; no condition. -/
import Derived.Test.YtlknakijdpeaoaaCpt
import Derived.Test.YtlknakijdpeaoaaCcg
import Derived.Shelf.Lay
import Derived.Ground.NamesProg
import Derived.Shelf.Sort.Plain
import Derived.Shelf.Slices.CompactS
import Derived.Shelf.Slices.In.SortNone
import Derived.Sort.OwnSorted
import Derived.Lib.OwnBridge
namespace Go.Proofs.Ytlknakijdpeaoaa
open Go.RowKit Go.ChangeShapes Go.WideShapes Go.ChangeAt
set_option linter.unusedVariables false
set_option linter.unusedSimpArgs false
set_option maxRecDepth 8000

end Go.Proofs.Ytlknakijdpeaoaa
namespace Go.Proofs
open Go.Shelf
shelf_lay Lays.n190 Nm 190 at Try as Ytlknakijdpeaoaa.laysSort
shelf_lay Lays.n194 Nm 194 at Try as Ytlknakijdpeaoaa.laysCompact
end Go.Proofs
namespace Go.Proofs.Ytlknakijdpeaoaa
open Go.RowKit Go.ChangeShapes Go.WideShapes Go.ChangeAt
open Go.Shelf
open Go.Sort hiding Below
theorem enc_ba (b : ByteArray) : encStr b.data.toList = Value.string b := rfl
theorem enc_names (N : List ByteArray) : N.map Value.string = (N.map fun b => b.data.toList).map encStr := by
  rw [List.map_map]; rfl
/-- names that are one's own, put in order -/
theorem sort_c (ss : List (List UInt8)) (u : Value) (base : Nat) (W : World) (ho : W.ownsRow base 9 1 u ss.length (ss.map encStr)) (hn : ss.length ≤ 80) :
    Calls Try.prog 50 #[u] W fun e w' => e = .returned (.tuple #[]) ∧ w'.ownsRow base 9 1 u ss.length ((ss.mergeSort fun x y => decide (x ≤ y)).map encStr) ∧ W.grownBy w' u.ownBlock := by
  have hl : (ss.mergeSort fun x y => decide (x ≤ y)).length = ss.length := List.length_mergeSort ss
  by_cases h0 : ss = []
  · subst h0
    obtain ⟨p, c, rfl⟩ : ∃ p c, u = .slice p 0 c := by
      rcases ho.2 with ⟨rfl, -⟩ | ⟨g, cap, cur, rfl, -⟩
      · exact ⟨_, _, rfl⟩
      · exact ⟨_, _, rfl⟩
    have h := Any.slices_Sort_string_none laysSort p c W
    change Calls Try.prog 50 _ _ _ at h
    refine h.mono ?_
    rintro e w' ⟨rfl, rfl⟩
    exact ⟨rfl, by simpa using ho, grown_refl _ _⟩
  · have hv : u ≠ .slice none 0 0 := by
      rintro rfl
      rcases ho.2 with ⟨-, hz⟩ | ⟨g, cap, cur, e, -⟩
      · exact h0 (List.eq_nil_of_length_eq_zero hz)
      · cases e
    obtain ⟨g, cap, rfl, hb, hg, h1, h2, -, hH⟩ := Lib.holds_of_ownsRow ho hv
    have h := Any.slices_Sort_string laysSort g 0 cap ss W hH hg (by omega)
    change Calls Try.prog 50 _ _ _ at h
    refine h.mono ?_
    rintro e w' ⟨rfl, n, os, rfl⟩
    obtain ⟨g', cap', cur, hv', hbase, hb', h1', h2', h3'⟩ : ∃ g' cap' cur, Value.slice (some ⟨g, 0, none⟩) ss.length cap = .slice (some ⟨g', 0, none⟩) ss.length cap' ∧ base ≤ g' ∧ W.heap[g']? = some (.cells cur 9 (0, 0)) ∧ ss.length ≤ cap' ∧ cap' ≤ maxLen ∧ cur.size = cap' * 1 := by
      rcases ho.2 with ⟨e0, -⟩ | ⟨g', cap', cur, e, q1, q2, q3, q4, q5, -⟩
      · cases e0
      · exact ⟨g', cap', cur, e, q1, q2, q3, q4, q5⟩
    cases hv'
    exact ⟨rfl, ownsRow_sorted hl hbase hb' h1' h2' h3', grownBy_sorted _⟩
/-- and each kept once -/
theorem compact_c (zs : List (List UInt8)) (u : Value) (base : Nat) (W W0 : World) (ho : W.ownsRow base 9 1 u zs.length (zs.map encStr)) (hn : zs.length ≤ 80) (hb0 : Below base W0 W) :
    Calls Try.prog 51 #[u] W fun e w' => ∃ v, e = .returned v ∧ w'.ownsRow base 9 1 v (Lib.compact zs).length ((Lib.compact zs).map encStr) ∧ Below base W0 w' := by
  by_cases h0 : zs = []
  · subst h0
    obtain ⟨p, c, rfl⟩ : ∃ p c, u = .slice p 0 c := by
      rcases ho.2 with ⟨rfl, -⟩ | ⟨g, cap, cur, rfl, -⟩
      · exact ⟨_, _, rfl⟩
      · exact ⟨_, _, rfl⟩
    have h := Any.slices_Compact_string_empty laysCompact p c W
    change Calls Try.prog 51 _ _ _ at h
    refine h.mono ?_
    rintro e w' ⟨rfl, rfl⟩
    have hc : Lib.compact ([] : List (List UInt8)) = [] := List.eq_nil_of_length_eq_zero (Nat.le_zero.1 (Lib.compact_length_le []))
    exact ⟨_, rfl, by rw [hc]; exact ho, hb0⟩
  · have hv : u ≠ .slice none 0 0 := by
      rintro rfl
      rcases ho.2 with ⟨-, hz⟩ | ⟨g, cap, cur, e, -⟩
      · exact h0 (List.eq_nil_of_length_eq_zero hz)
      · cases e
    obtain ⟨g, cap, rfl, hb, hg, h1, h2, -, hH⟩ := Lib.holds_of_ownsRow ho hv
    have hle := Lib.compact_length_le zs
    have h := Any.slices_Compact_string laysCompact g 0 cap zs W hH (by omega) h1
    change Calls Try.prog 51 _ _ _ at h
    refine h.mono ?_
    rintro e w' ⟨rfl, q, rfl⟩
    have hr := Lib.ownsRow_putRow (q := q) (k := (Lib.compact zs).length) (ys := Lib.compact zs ++ List.replicate (zs.length - (Lib.compact zs).length) []) ho (by simp; omega) hle
    rw [List.take_left] at hr
    exact ⟨_, rfl, hr, Lib.below_putRow hb0 hb⟩

end Go.Proofs.Ytlknakijdpeaoaa

/- Texts that are drawn; no condition. -/
import Derived.Test.YtlknakijdpeaoaaDra
import Derived.Test.YtlknakijdpeaoaaDrawB
import Derived.Test.YtlknakijdpeaoaaDrc
namespace Go.Proofs.Ytlknakijdpeaoaa
open Go.RowKit Go.ChangeShapes Go.WideShapes Go.ChangeAt
set_option linter.unusedVariables false
set_option linter.unusedSimpArgs false
set_option maxRecDepth 8000
/-- the slice v reads as the texts xs -/
def Rx (w : World) (v : Value) (xs : List ByteArray) : Prop :=
  ∃ a cap, v = .slice a xs.length cap ∧ xs.length ≤ cap ∧ cap ≤ maxLen ∧ (xs = [] ∨ ∃ b off, a = some ⟨b, off, none⟩ ∧ ∀ i (h : i < xs.length), w.cell? ⟨b, off + i, none⟩ = some (.string xs[i]))
theorem Rx.grown {w w' : World} {v : Value} {xs : List ByteArray} {row : Option Nat} (h : Rx w v xs) (hg : w.grownBy w' row) (hne : v.ownBlock = none ∨ v.ownBlock ≠ row) : Rx w' v xs := by
  obtain ⟨a, cap, rfl, h1, h2, h3⟩ := h
  refine ⟨a, cap, rfl, h1, h2, ?_⟩
  rcases h3 with h3 | ⟨b, off, rfl, h4⟩
  · exact .inl h3
  · refine .inr ⟨b, off, rfl, fun i hi => ?_⟩
    have hc := h4 i hi
    have hlt : b < w.heap.size := block_lt_of_cell hc
    rw [World.cell?_of_block (w := w) (hg.block b hlt (by simpa [Value.ownBlock] using hne))]
    exact hc
/-- texts written out -/
theorem Rx.lit (W : World) (xs : List ByteArray) (h : xs.length ≤ 1000) : Rx (W.alloc (.cells (xs.map Value.string).toArray 9)) (.slice (some ⟨W.heap.size, 0, none⟩) xs.length xs.length) xs := by
  have h1 : (W.alloc (.cells (xs.map Value.string).toArray 9)).ownsRow W.heap.size 9 1 (.slice (some ⟨W.heap.size, 0, none⟩) xs.length xs.length) xs.length (xs.map Value.string) := by
    have := World.ownsRow_lit (e := 9) (size := 1) (base := W.heap.size) W (xs.map Value.string).toArray xs.length (Nat.le_refl _) (by unfold maxLen; omega) (by simp)
    simpa using this
  refine ⟨_, _, rfl, Nat.le_refl _, by unfold maxLen; omega, .inr ⟨_, 0, rfl, fun i hi => ?_⟩⟩
  have := World.ownsRow.cellAt h1 i (by omega)
  rw [Nat.zero_add, this]
  simp [List.getElem?_eq_getElem hi]
set_option maxHeartbeats 1600000 in
theorem pick_c (g : Nat) (cv : Value) (zs : List Int) (v : Value) (xs : List ByteArray) (w : World) (h : Dr w g cv zs) (hv : Rx w v xs) (hap : v.ownBlock = none ∨ v.ownBlock ≠ some g) (hl : 0 < xs.length) (hl2 : xs.length ≤ 2097152) :
   Calls Try.prog 25 #[.pointer (some ⟨g, 0, none⟩), v] w fun e w' => ∃ x : ByteArray, e = .returned (.string x) ∧ x ∈ xs ∧ Dr w' g cv zs ∧ w.grownBy w' (some g) := by
  have hv' := hv
  obtain ⟨a, cap, rfl, h1, h2, h3⟩ := hv
  unfold maxLen at h2
  go_enter Try.func25, Try.ntmps25
  go_wp2_with fail
  refine (below_c g cv zs _ _ h (by omega)).mono ?_
  rintro e w1 ⟨x, rfl, x0, x1, x2, d1, g1⟩
  have x1' := x1 (by omega)
  obtain ⟨xn, rfl⟩ := Int.eq_ofNat_of_zero_le x0
  obtain ⟨a', cap', he, _, _, h3'⟩ := hv'.grown g1 hap
  simp only [Value.slice.injEq] at he
  obtain ⟨rfl, _, rfl⟩ := he
  rcases h3' with h3' | ⟨b, off, rfl, h4⟩
  · subst h3'; simp at hl
  have hxn : xn < xs.length := by omega
  have hc := h4 xn hxn
  have HM : Hid (xs[xn] ∈ xs) := List.getElem_mem hxn
  obtain ⟨y, hy⟩ : ∃ y, xs[xn] = y := ⟨_, rfl⟩
  rw [hy] at hc HM
  clear h3 h4 x1 x2 hv' hy
  go_wp2
  go_ret
  exact ⟨_, rfl, HM.out, d1, g1⟩

end Go.Proofs.Ytlknakijdpeaoaa

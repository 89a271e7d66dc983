/- Texts that are drawn; no condition. -/
import Derived.Test.YtpnglbnebkggkaaDra
namespace Go.Proofs.Ytpnglbnebkggkaa
open Go.RowKit Go.ChangeShapes Go.WideShapes Go.ChangeAt
set_option linter.unusedVariables false
set_option linter.unusedSimpArgs false
set_option maxRecDepth 8000
/-- the slice v reads as the texts xs -/
def Rx (w : World) (v : Value) (xs : List ByteArray) : Prop :=
  ∃ a cap, v = .slice a xs.length cap ∧ xs.length ≤ cap ∧ cap ≤ maxLen ∧ (xs = [] ∨ ∃ b off, a = some ⟨b, off, none⟩ ∧ ∀ i (h : i < xs.length), w.cell? ⟨b, off + i, none⟩ = some (.string xs[i]))
theorem Rx.grown {w w' : World} {v : Value} {xs : List ByteArray} {row : Option Nat} (h : Rx w v xs) (hg : w.grownBy w' row) (hne : v.ownBlock = none ∨ v.ownBlock ≠ row) : Rx w' v xs := by
  obtain ⟨a, cap, rfl, h1, h2, h3⟩ := h
  refine ⟨a, cap, rfl, h1, h2, ?_⟩
  rcases h3 with h3 | ⟨b, off, rfl, h4⟩
  · exact .inl h3
  · refine .inr ⟨b, off, rfl, fun i hi => ?_⟩
    have hc := h4 i hi
    have hlt : b < w.heap.size := block_lt_of_cell hc
    rw [World.cell?_of_block (w := w) (hg.block b hlt (by simpa [Value.ownBlock] using hne))]
    exact hc
/-- texts written out -/
theorem Rx.lit (W : World) (xs : List ByteArray) (h : xs.length ≤ 1000) : Rx (W.alloc (.cells (xs.map Value.string).toArray 9)) (.slice (some ⟨W.heap.size, 0, none⟩) xs.length xs.length) xs := by
  have h1 : (W.alloc (.cells (xs.map Value.string).toArray 9)).ownsRow W.heap.size 9 1 (.slice (some ⟨W.heap.size, 0, none⟩) xs.length xs.length) xs.length (xs.map Value.string) := by
    have := World.ownsRow_lit (e := 9) (size := 1) (base := W.heap.size) W (xs.map Value.string).toArray xs.length (Nat.le_refl _) (by unfold maxLen; omega) (by simp)
    simpa using this
  refine ⟨_, _, rfl, Nat.le_refl _, by unfold maxLen; omega, .inr ⟨_, 0, rfl, fun i hi => ?_⟩⟩
  have := World.ownsRow.cellAt h1 i (by omega)
  rw [Nat.zero_add, this]
  simp [List.getElem?_eq_getElem hi]
set_option maxHeartbeats 1600000 in
theorem pick_c (g : Nat) (cv : Value) (zs : List Int) (v : Value) (xs : List ByteArray) (w : World) (h : Dr w g cv zs) (hv : Rx w v xs) (hap : v.ownBlock = none ∨ v.ownBlock ≠ some g) (hl : 0 < xs.length) (hl2 : xs.length ≤ 2097152) :
   Calls Try.prog 54 #[.pointer (some ⟨g, 0, none⟩), v] w fun e w' => ∃ x : ByteArray, e = .returned (.string x) ∧ x ∈ xs ∧ Dr w' g cv zs ∧ w.grownBy w' (some g) := by
  have hv' := hv
  obtain ⟨a, cap, rfl, h1, h2, h3⟩ := hv
  unfold maxLen at h2
  go_enter Try.func54, Try.ntmps54
  go_wp2_with fail
  refine (below_c g cv zs _ _ h (by omega)).mono ?_
  rintro e w1 ⟨x, rfl, x0, x1, x2, d1, g1⟩
  have x1' := x1 (by omega)
  obtain ⟨xn, rfl⟩ := Int.eq_ofNat_of_zero_le x0
  obtain ⟨a', cap', he, _, _, h3'⟩ := hv'.grown g1 hap
  simp only [Value.slice.injEq] at he
  obtain ⟨rfl, _, rfl⟩ := he
  rcases h3' with h3' | ⟨b, off, rfl, h4⟩
  · subst h3'; simp at hl
  have hxn : xn < xs.length := by omega
  have hc := h4 xn hxn
  have HM : Hid (xs[xn] ∈ xs) := List.getElem_mem hxn
  obtain ⟨y, hy⟩ : ∃ y, xs[xn] = y := ⟨_, rfl⟩
  rw [hy] at hc HM
  clear h3 h4 x1 x2 hv' hy
  go_wp2
  go_ret
  exact ⟨_, rfl, HM.out, d1, g1⟩
/-- what digits are drawn -/
def DdR (n : Int) (g : Nat) (cv : Value) (zs : List Int) (w : World) (e : Ending) (w' : World) : Prop := ∃ s : ByteArray, e = .returned (.string s) ∧ s.size ≤ n.toNat ∧ Dc w w' g cv zs
set_option maxHeartbeats 3200000 in
theorem digits_c (g : Nat) (cv : Value) (zs : List Int) (n : Int) (w : World) (h : Dr w g cv zs) (hn0 : 0 ≤ n) (hn : n ≤ 100) : Calls Try.prog 55 #[.pointer (some ⟨g, 0, none⟩), .int .i64 n] w (DdR n g cv zs w) := by
  have HD0 : Hid (Dc w w g cv zs) := Dc.start h
  clear h
  go_enter Try.func55, Try.ntmps55
  go_wp2
  go_loopw [5, 6] (fun v i wr => ∃ (j : Nat) (s : ByteArray), v = .string s ∧ i = .int .i64 j ∧ Hid ((j : Int) ≤ n ∧ s.size ≤ j) ∧ Hid (Dc w wr g cv zs)) (fun _ i _ => n.toNat - (intOf i).toNat)
  case atStart => exact ⟨0, _, rfl, rfl, ⟨by omega, Nat.le_refl _⟩, HD0.out⟩
  case round =>
    obtain ⟨j, s, rfl, rfl, hj, hD⟩ := hrel
    clear HD0
    have hjn := hj.out.1
    by_cases hlt : (j : Int) < n
    case neg =>
      have HJ : Hid (s.size ≤ n.toNat) := by have := hj.out.2; show _ ≤ _; omega
      go_wp2
      go_ret
      exact ⟨_, rfl, HJ.out, hD.out⟩
    case pos =>
    obtain ⟨X, hX⟩ : ∃ X, wr.heap.size = X := ⟨_, rfl⟩
    obtain ⟨W1, hW1⟩ : ∃ W, wr.alloc (Obj.cells #[.string ⟨#[49]⟩, .string ⟨#[50]⟩, .string ⟨#[48]⟩, .string ⟨#[57]⟩, .string ⟨#[49]⟩, .string ⟨#[50]⟩, .string ⟨#[35]⟩] 9) = W := ⟨_, rfl⟩
    have HR : Hid (Rx W1 (.slice (some ⟨X, 0, none⟩) 7 7) [⟨#[49]⟩, ⟨#[50]⟩, ⟨#[48]⟩, ⟨#[57]⟩, ⟨#[49]⟩, ⟨#[50]⟩, ⟨#[35]⟩]) := by
      rw [← hW1, ← hX]; exact Rx.lit wr [⟨#[49]⟩, ⟨#[50]⟩, ⟨#[48]⟩, ⟨#[57]⟩, ⟨#[49]⟩, ⟨#[50]⟩, ⟨#[35]⟩] (by decide)
    have HD1 : Hid (Dc w W1 g cv zs) := by rw [← hW1]; exact hD.out.below ((Below.refl _ _).alloc (Nat.le_refl _) _)
    have HGX : Hid (g < X) := by rw [← hX]; exact hD.out.dr.lt
    have HW1 : Hid (wr.alloc (Obj.cells #[.string ⟨#[49]⟩, .string ⟨#[50]⟩, .string ⟨#[48]⟩, .string ⟨#[57]⟩, .string ⟨#[49]⟩, .string ⟨#[50]⟩, .string ⟨#[35]⟩] 9) = W1 ∧ wr.heap.size = X) := ⟨hW1, hX⟩
    clear hW1 hX hD
    go_wp2_with (fail)
    rw [HW1.out.1, HW1.out.2]
    refine (pick_c g cv zs _ [⟨#[49]⟩, ⟨#[50]⟩, ⟨#[48]⟩, ⟨#[57]⟩, ⟨#[49]⟩, ⟨#[50]⟩, ⟨#[35]⟩] _ HD1.out.dr HR.out (.inr (by have := HGX.out; simp [Value.ownBlock]; omega)) (by decide) (by decide)).mono ?_
    rintro e w2 ⟨x, rfl, hx, d1, g1⟩
    have HD2 : Hid (Dc w w2 g cv zs) := HD1.out.draw d1 g1
    have hx1 : x.size = 1 := by
      simp only [List.mem_cons, List.not_mem_nil, or_false] at hx
      rcases hx with rfl | rfl | rfl | rfl | rfl | rfl | rfl <;> rfl
    have HJ2 : Hid (((j + 1 : Nat) : Int) ≤ n ∧ (s ++ x).size ≤ j + 1) := by
      have := hj.out.2
      exact ⟨by omega, by rw [ByteArray.size_append]; omega⟩
    have hsz : s.size + x.size ≤ 200 := by have := hj.out.2; omega
    clear d1 g1 hx HD1 HR HGX HW1
    go_wp2
    go_roundw
    case rel => exact ⟨j + 1, _, rfl, by go_num, HJ2.out, HD2.out⟩
    case measure => simp [intOf]; omega
end Go.Proofs.Ytpnglbnebkggkaa

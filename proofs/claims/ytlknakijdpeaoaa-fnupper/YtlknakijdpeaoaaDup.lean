/- DrawUpper; no condition. -/
import Derived.Test.YtlknakijdpeaoaaDpk
namespace Go.Proofs.Ytlknakijdpeaoaa
open Go.RowKit Go.ChangeShapes Go.WideShapes Go.ChangeAt
set_option linter.unusedVariables false
set_option linter.unusedSimpArgs false
set_option maxRecDepth 8000

theorem Dc.out_below {w0 w1 W : World} {g : Nat} {cv : Value} {zs : List Int} (hb : Below w0.heap.size w0 w1) (hg : w0.heap.size ≤ g) (h : Dc w1 W g cv zs) : Below w0.heap.size w0 W := by
  refine hb.trans (grown_below h.gr hb.size fun k e => ?_)
  have := Option.some.inj e; omega
/-- the texts that are drawn for Upper -/
def uA : List ByteArray := [⟨#[97, 98, 99]⟩, ⟨#[195, 188, 195, 191]⟩, ⟨#[206, 177, 207, 130, 207, 137]⟩, ⟨#[208, 182, 209, 143]⟩, ⟨#[65, 45, 122, 46, 57]⟩, ⟨#[195, 183]⟩, ⟨#[]⟩, ⟨#[120, 195, 160, 195, 190, 196, 129]⟩, ⟨#[208, 176]⟩]
def uB : List ByteArray := [⟨#[]⟩, ⟨#[97]⟩, ⟨#[90]⟩, ⟨#[209, 145]⟩]
def uAB : List ByteArray := uA.flatMap fun a => uB.map fun b => a ++ b
theorem uAB_mem {a b : ByteArray} (ha : a ∈ uA) (hb : b ∈ uB) : a ++ b ∈ uAB := by
  unfold uAB
  rw [List.mem_flatMap]
  exact ⟨a, ha, List.mem_map.2 ⟨b, hb, rfl⟩⟩
theorem uA_size : ∀ a ∈ uA, a.size ≤ 10 := by decide
theorem uB_size : ∀ a ∈ uB, a.size ≤ 10 := by decide
def DuR (w : World) (e : Ending) (w' : World) : Prop := ∃ s : ByteArray, e = .returned (.string s) ∧ s ∈ uAB ∧ s.size ≤ 20 ∧ Below w.heap.size w w'
set_option maxHeartbeats 3200000 in
theorem drawUp_c (v : Value) (zs : List Int) (w : World) (h : Rd .u8 w v zs) (hok : ∀ z ∈ zs, 0 ≤ z ∧ z ≤ 255) (hlen : zs.length ≤ 2097152) : Calls Try.prog 10 #[v] w (DuR w) := by
  go_enter Try.func10, Try.ntmps10
  go_wp2_with (fail)
  refine (new_c v zs w h hok hlen).mono ?_
  rintro e w1 ⟨g, rfl, d1, hg1, b1⟩
  have HB1 : Hid (Below w.heap.size w w1) := b1
  have HG : Hid (w.heap.size ≤ g) := hg1
  have HD1 : Hid (Dc w1 w1 g v zs) := Dc.start d1
  clear d1 b1 hg1 h hok
  obtain ⟨X, hX⟩ : ∃ X, w1.heap.size = X := ⟨_, rfl⟩
  obtain ⟨W1, hW1⟩ : ∃ W, w1.alloc (Obj.cells #[.string ⟨#[97, 98, 99]⟩, .string ⟨#[195, 188, 195, 191]⟩, .string ⟨#[206, 177, 207, 130, 207, 137]⟩, .string ⟨#[208, 182, 209, 143]⟩, .string ⟨#[65, 45, 122, 46, 57]⟩, .string ⟨#[195, 183]⟩, .string ⟨#[]⟩, .string ⟨#[120, 195, 160, 195, 190, 196, 129]⟩, .string ⟨#[208, 176]⟩] 9) = W := ⟨_, rfl⟩
  have HR : Hid (Rx W1 (.slice (some ⟨X, 0, none⟩) 9 9) uA) := by
    rw [← hW1, ← hX]; exact Rx.lit w1 uA (by decide)
  have HD2 : Hid (Dc w1 W1 g v zs) := by rw [← hW1]; exact HD1.out.below ((Below.refl _ _).alloc (Nat.le_refl _) _)
  have HGX : Hid (g < X) := by rw [← hX]; exact HD1.out.dr.lt
  have HW1 : Hid (w1.alloc (Obj.cells #[.string ⟨#[97, 98, 99]⟩, .string ⟨#[195, 188, 195, 191]⟩, .string ⟨#[206, 177, 207, 130, 207, 137]⟩, .string ⟨#[208, 182, 209, 143]⟩, .string ⟨#[65, 45, 122, 46, 57]⟩, .string ⟨#[195, 183]⟩, .string ⟨#[]⟩, .string ⟨#[120, 195, 160, 195, 190, 196, 129]⟩, .string ⟨#[208, 176]⟩] 9) = W1 ∧ w1.heap.size = X) := ⟨hW1, hX⟩
  clear hW1 hX
  go_wp2_with (fail)
  rw [HW1.out.1, HW1.out.2]
  refine (pick_c g v zs _ uA _ HD2.out.dr HR.out (.inr (by have := HGX.out; simp [Value.ownBlock]; omega)) (by decide) (by decide)).mono ?_
  rintro e w2 ⟨a, rfl, ha, d2, g2⟩
  have HD3 : Hid (Dc w1 w2 g v zs) := HD2.out.draw d2 g2
  have HA : Hid (a ∈ uA) := ha
  have ha1 := uA_size a ha
  clear d2 g2 ha HR HW1 HGX
  obtain ⟨Y, hY⟩ : ∃ X, w2.heap.size = X := ⟨_, rfl⟩
  obtain ⟨W2, hW2⟩ : ∃ W, w2.alloc (Obj.cells #[.string ⟨#[]⟩, .string ⟨#[97]⟩, .string ⟨#[90]⟩, .string ⟨#[209, 145]⟩] 9) = W := ⟨_, rfl⟩
  have HR2 : Hid (Rx W2 (.slice (some ⟨Y, 0, none⟩) 4 4) uB) := by
    rw [← hW2, ← hY]; exact Rx.lit w2 uB (by decide)
  have HD4 : Hid (Dc w1 W2 g v zs) := by rw [← hW2]; exact HD3.out.below ((Below.refl _ _).alloc (Nat.le_refl _) _)
  have HGY : Hid (g < Y) := by rw [← hY]; exact HD3.out.dr.lt
  have HW2 : Hid (w2.alloc (Obj.cells #[.string ⟨#[]⟩, .string ⟨#[97]⟩, .string ⟨#[90]⟩, .string ⟨#[209, 145]⟩] 9) = W2 ∧ w2.heap.size = Y) := ⟨hW2, hY⟩
  clear hW2 hY
  go_wp2_with (fail)
  rw [HW2.out.1, HW2.out.2]
  refine (pick_c g v zs _ uB _ HD4.out.dr HR2.out (.inr (by have := HGY.out; simp [Value.ownBlock]; omega)) (by decide) (by decide)).mono ?_
  rintro e w3 ⟨b, rfl, hb, d3, g3⟩
  have HD5 : Hid (Dc w1 w3 g v zs) := HD4.out.draw d3 g3
  have HM : Hid (a ++ b ∈ uAB) := uAB_mem HA.out hb
  have hb1 := uB_size b hb
  have hsz : a.size + b.size ≤ 9223372036854775807 := by omega
  clear d3 g3 hb HR2 HW2 HGY
  go_wp2
  go_ret
  exact ⟨_, rfl, HM.out, by rw [ByteArray.size_append]; omega, Dc.out_below HB1.out HG.out HD5.out⟩

end Go.Proofs.Ytlknakijdpeaoaa

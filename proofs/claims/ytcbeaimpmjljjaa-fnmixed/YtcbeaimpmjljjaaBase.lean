/- Small facts on worlds, arrays of sixteen bytes and sums, used by the walks of this seat; no condition. -/
import Derived.Test.YtcbeaimpmjljjaaRows
import Derived.WalkKit
import Derived.ProofKit
import Derived.OpenShut
import Derived.WalkLawsBesides
import Derived.Below
import Derived.Deep.WholeRow
namespace Go.Proofs.Ytcbeaimpmjljjaa
open Go.RowKit Go.ChangeShapes Go.WideShapes Go.ChangeAt
set_option linter.unusedVariables false
set_option linter.unusedSimpArgs false
/-- sixteen bytes as cells -/
def A16 (zs : List Int) : Array Value := (zs.map (Value.int .u8)).toArray
def B16 (zs : List Int) : Prop := zs.length = 16 ∧ ∀ z ∈ zs, 0 ≤ z ∧ z ≤ 255
theorem A16_size {zs : List Int} (h : B16 zs) : (A16 zs).size = 16 := by simp [A16, h.1]
theorem A16_at {zs : List Int} (h : B16 zs) (k : Nat) (hk : k < 16) : (A16 zs)[k]? = some (.int .u8 (zs.getD k 0)) := by
  have h1 := h.1
  simp [A16, List.getElem?_eq_getElem (show k < zs.length by omega)]
theorem B16_at {zs : List Int} (h : B16 zs) (k : Nat) : 0 ≤ zs.getD k 0 ∧ zs.getD k 0 ≤ 255 := by
  by_cases hk : k < zs.length
  · simpa [List.getElem?_eq_getElem hk] using h.2 _ (List.getElem_mem hk)
  · simp [List.getElem?_eq_none (by omega : zs.length ≤ k)]
/-- two lists of sixteen that agree at each place are one -/
theorem B16_ext {a b : List Int} (ha : B16 a) (hb : B16 b) (h : ∀ k, k < 16 → a.getD k 0 = b.getD k 0) : a = b := by
  apply List.ext_getElem (by rw [ha.1, hb.1])
  intro k h1 h2
  have h1' := ha.1
  have := h k (by omega)
  simpa [List.getElem?_eq_getElem h1, List.getElem?_eq_getElem h2] using this
/-- the first k of zs, noughts behind -/
def cp (zs : List Int) (k : Nat) : Array Value := A16 (zs.take k ++ List.replicate (16 - k) 0)
theorem cp_zero (zs : List Int) : cp zs 0 = #[.int .u8 0, .int .u8 0, .int .u8 0, .int .u8 0, .int .u8 0, .int .u8 0, .int .u8 0, .int .u8 0, .int .u8 0, .int .u8 0, .int .u8 0, .int .u8 0, .int .u8 0, .int .u8 0, .int .u8 0, .int .u8 0] := by
  simp [cp, A16]
theorem cp_full {zs : List Int} (h : B16 zs) : cp zs 16 = A16 zs := by
  have h1 := h.1
  simp [cp, List.take_of_length_le (show zs.length ≤ 16 by omega)]
theorem cp_size {zs : List Int} (h : B16 zs) (k : Nat) (hk : k ≤ 16) : (cp zs k).size = 16 := by
  have h1 := h.1
  simp [cp, A16]; omega
theorem cp_set {zs : List Int} (h : B16 zs) (k : Nat) (hk : k < 16) : (cp zs k).setIfInBounds k (.int .u8 (zs.getD k 0)) = cp zs (k + 1) := by
  have h1 := h.1
  have e : List.replicate (16 - k) (0 : Int) = 0 :: List.replicate (16 - (k + 1)) 0 := by
    rw [show 16 - k = (16 - (k + 1)) + 1 by omega, List.replicate_succ]
  have l : (zs.take k).length = k := by simp; omega
  have t : zs.take (k + 1) = zs.take k ++ [zs.getD k 0] := by
    rw [List.take_succ_eq_append_getElem (by omega)]; simp [List.getElem?_eq_getElem (show k < zs.length by omega)]
  rw [cp, cp, e, t]
  apply Array.ext'
  have hm : min k zs.length = k := by omega
  simp [A16, List.set_append, hm]
theorem wrap64_in {n : Int} (h : -9223372036854775808 ≤ n ∧ n ≤ 9223372036854775807) : wrap64 n = n := by unfold wrap64; omega
def sumTo (zs : List Int) : Nat → Int
  | 0 => 0
  | k + 1 => sumTo zs k + (k + 1 : Nat) * zs.getD k 0
theorem sumTo_bd {zs : List Int} (h : B16 zs) (k : Nat) (hk : k ≤ 16) : 0 ≤ sumTo zs k ∧ sumTo zs k ≤ 4080 * k := by
  induction k with
  | zero => simp [sumTo]
  | succ n ih =>
    have := ih (by omega)
    have hb := B16_at h n
    have h1 : (0:Int) ≤ (n + 1 : Nat) * zs.getD n 0 := Int.mul_nonneg (by omega) hb.1
    have h2 : ((n + 1 : Nat) : Int) * zs.getD n 0 ≤ 16 * 255 := Int.mul_le_mul (by omega) hb.2 hb.1 (by omega)
    simp only [sumTo]; omega
/-- a round's sum, whichever factor stands first, has not wrapped -/
theorem sumTo_step {zs : List Int} (h : B16 zs) (k : Nat) (hk : k < 16) :
    wrap64 (sumTo zs k + wrap64 (((k : Int) + 1) * wrap64 (zs[k]?.getD 0))) = sumTo zs (k + 1) := by
  have hb := B16_at h k
  have hs := sumTo_bd h k (by omega)
  have h1 : (0:Int) ≤ ((k : Int) + 1) * zs.getD k 0 := Int.mul_nonneg (by omega) hb.1
  have h2 : ((k : Int) + 1) * zs.getD k 0 ≤ 16 * 255 := Int.mul_le_mul (by omega) hb.2 hb.1 (by omega)
  have e : zs[k]?.getD 0 = zs.getD k 0 := by simp
  rw [e, wrap64_in (n := zs.getD k 0) (by omega), wrap64_in (n := ((k : Int) + 1) * zs.getD k 0) (by omega), wrap64_in (by omega)]
  simp [sumTo]
theorem sumTo_step' {zs : List Int} (h : B16 zs) (k : Nat) (hk : k < 16) :
    wrap64 (sumTo zs k + wrap64 (wrap64 (zs[k]?.getD 0) * ((k : Int) + 1))) = sumTo zs (k + 1) := by
  rw [Int.mul_comm]; exact sumTo_step h k hk
/-- block g of w holds the cells cs, of type t, none frozen -/
def Blk (w : World) (g : Nat) (cs : Array Value) (t : TypeId) : Prop := w.heap[g]? = some (.cells cs t (0, 0))
theorem Blk.cell {w : World} {g : Nat} {cs : Array Value} {t : TypeId} (h : Blk w g cs t) (k : Nat) : w.cell? ⟨g, k, none⟩ = cs[k]? := cell_of_row w g k cs t (0, 0) h
theorem Blk.frozen {w : World} {g : Nat} {cs : Array Value} {t : TypeId} (h : Blk w g cs t) (k : Nat) : w.frozen? ⟨g, k, none⟩ = false := frozen_of_row w g k cs t h
theorem Blk.lt {w : World} {g : Nat} {cs : Array Value} {t : TypeId} (h : Blk w g cs t) : g < w.heap.size := by
  by_cases hlt : g < w.heap.size
  · exact hlt
  · have : w.heap[g]? = none := by simp; omega
    rw [Blk, this] at h; cases h
theorem Blk.new (w : World) (cs : Array Value) (t : TypeId) : Blk (w.alloc (.cells cs t)) w.heap.size cs t := heap_alloc_new w _
theorem Blk.newAt (w : World) (g : Nat) (cs : Array Value) (t : TypeId) (h : g = w.heap.size) : Blk (w.alloc (.cells cs t)) g cs t := by subst h; exact Blk.new w cs t
theorem Blk.alloc {w : World} {g : Nat} {cs : Array Value} {t : TypeId} (h : Blk w g cs t) (o : Obj) : Blk (w.alloc o) g cs t := by
  rw [Blk, Below.heap_alloc w o g h.lt]; exact h
theorem Blk.set {w : World} {g : Nat} {cs : Array Value} {t : TypeId} (h : Blk w g cs t) (k : Nat) (v : Value) : Blk (w.setCell ⟨g, k, none⟩ v) g (cs.setIfInBounds k v) t := heap_setCell_same w g k cs t v h
theorem Blk.other {w : World} {g : Nat} {cs : Array Value} {t : TypeId} (h : Blk w g cs t) (a : Addr) (v : Value) (hne : g ≠ a.block) : Blk (w.setCell a v) g cs t := by
  rw [Blk, heap_setCell_other w a g v hne]; exact h
theorem Blk.row {w : World} {g : Nat} {cs : Array Value} {t : TypeId} (h : Blk w g cs t) (c' : Array Value) : Blk (w.setRow g c') g c' t := setRow_heap w g cs c' t _ h
theorem Blk.rowOther {w : World} {g : Nat} {cs : Array Value} {t : TypeId} (h : Blk w g cs t) (k : Nat) (c' : Array Value) (hne : g ≠ k) : Blk (w.setRow k c') g cs t := by
  rw [Blk, setRow_other w k g c' hne]; exact h
theorem Blk.below {w w' : World} {B g : Nat} {cs : Array Value} {t : TypeId} (h : Blk w g cs t) (hb : Below B w w') (hg : g < B) : Blk w' g cs t := by
  rw [Blk, hb.block g hg]; exact h
theorem Blk.drew {w : World} {g : Nat} {cs : Array Value} {t : TypeId} (h : Blk w g cs t) : Blk w.drew g cs t := h
theorem Blk.drewN {w : World} {g : Nat} {cs : Array Value} {t : TypeId} (h : Blk w g cs t) (n : Nat) : Blk (w.drewN n) g cs t := by
  have e : (w.drewN n).heap = w.heap := by simp
  rw [Blk, e]; exact h
theorem belowRow {B : Nat} {a w : World} (h : Below B a w) (g : Nat) (hg : B ≤ g) (cs : Array Value) : Below B a (w.setRow g cs) :=
  h.trans ⟨rfl, rfl, rfl, by simp, fun k hk => setRow_other w g k cs (by omega)⟩
/-- what a call leaves, seen from a caller whose own blocks begin at B -/
theorem belowCall {B : Nat} {a w w' : World} (h : Below B a w) (hb : Below w.heap.size w w') (hB : B ≤ w.heap.size) : Below B a w' := h.trans (hb.mono hB)
theorem cell_box (w : World) (cs : Array Value) (t : TypeId) (k : Nat) : (w.alloc (.cells cs t)).cell? ⟨w.heap.size, k, none⟩ = cs[k]? :=
  cell_of_row _ _ k cs t (0, 0) (heap_alloc_last w _)
theorem ret_int {k : IntKind} {a b : Int} (h : a = b) : Ending.returned (.int k a) = .returned (.int k b) := by rw [h]
theorem val_int {k : IntKind} {a b : Int} (h : a = b) : Value.int k a = .int k b := by rw [h]
theorem own : ownKnob Try.prog.godebug = none := by kernel_rfl
theorem laidOut : laidOutB Try.prog = true := by kernel_rfl
theorem cells5 : Try.prog.cellsOf 5 = 1 := by kernel_rfl
end Go.Proofs.Ytcbeaimpmjljjaa

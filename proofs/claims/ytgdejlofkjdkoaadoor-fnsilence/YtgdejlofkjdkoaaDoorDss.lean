/- Digits told, as mathematics; no condition. -/
import Derived.Test.YtgdejlofkjdkoaaDoorDgm
import Derived.Laws.Cover4
import Derived.Laws.DeepStrings4
namespace Go.Proofs.YtgdejlofkjdkoaaDoor
open Go.RowKit Go.ChangeShapes Go.WideShapes Go.ChangeAt
set_option linter.unusedVariables false
set_option linter.unusedSimpArgs false
set_option maxRecDepth 8000

/-- the names of digits -/
def nms : ByteArray := ⟨#[49, 50, 51, 65, 52, 53, 54, 66, 55, 56, 57, 67, 42, 48, 35, 68]⟩
def nmI (d : Nat) : Int := ([49, 50, 51, 65, 52, 53, 54, 66, 55, 56, 57, 67, 42, 48, 35, 68] : List Int).getD d 0
theorem nm_enc : ∀ d, d < 16 → Utf8.encode (nmI d) = nms.extract d (d + 1) := by decide +kernel
theorem nms_at : ∀ d (h : d < 16), ((nms[d]'h).toNat : Int) = nmI d ∧ (nms[d]'h).toNat < 128 := by decide +kernel
theorem nmI_bd : ∀ d, d < 16 → 0 ≤ nmI d ∧ nmI d ≤ 127 := by decide +kernel
theorem rb_app (ns : List Int) (d : Nat) (h : d < 16) : runesBytes (ns ++ [nmI d]) = runesBytes ns ++ nms.extract d (d + 1) := by
  rw [← nm_enc d h]; simp [runesBytes, List.foldl_append]
theorem nms_slice (n : Nat) (h : n < 16) (W : World) : (Instr.slice 9 (.string ⟨#[49, 50, 51, 65, 52, 53, 54, 66, 55, 56, 57, 67, 42, 48, 35, 68]⟩) (some (.int .i64 n)) (some (.int .i64 ((n : Int) + 1))) none).run Tryd.prog W = .ok (.string (nms.extract n (n + 1))) W := by
  have h16 : (⟨#[49, 50, 51, 65, 52, 53, 54, 66, 55, 56, 57, 67, 42, 48, 35, 68]⟩ : ByteArray).size = 16 := rfl
  rw [run_slice_string_if W 9 _ .i64 .i64 n ((n : Int) + 1) Tryd.underlying9, h16, if_pos (by omega), if_pos (by omega)]
  rfl
/-- a window -/
def wd (zs : List Int) (k : Nat) : List Int := (zs.drop (128 * k)).take 128
theorem wd_len (zs : List Int) (k : Nat) (h : 128 * k + 128 ≤ zs.length) : (wd zs k).length = 128 := by simp [wd]; omega
theorem wd_at (zs : List Int) (k i : Nat) (hi : i < 128) : (wd zs k).getD i 0 = zs.getD (128 * k + i) 0 := by
  simp [wd, List.getElem?_take, List.getElem?_drop, hi]
theorem dgF_bd (zs : List Int) : -1 ≤ dgF zs ∧ dgF zs ≤ 15 := by
  have h3 : bst (rwP zs) 4 ≤ 3 := bst_le (rwP zs) 3
  have h4 : bst (clP zs) 4 ≤ 3 := bst_le (clP zs) 3
  unfold dgF
  split <;> omega
def dgW (zs : List Int) (k : Nat) : Int := dgF (wd zs k)
def lsF (zs : List Int) : Nat → Int
  | 0 => -1
  | j + 1 => dgW zs j
def bfF (zs : List Int) : Nat → Int
  | 0 => -1
  | j + 1 => lsF zs j
def tdB (zs : List Int) (j : Nat) : Bool := decide (0 ≤ dgW zs j) && (dgW zs j == lsF zs j) && (dgW zs j != bfF zs j)
/-- the names told in the first j windows -/
def tdL (zs : List Int) : Nat → List Int
  | 0 => []
  | j + 1 => if tdB zs j = true then tdL zs j ++ [nmI (dgW zs j).toNat] else tdL zs j
theorem tdL_len (zs : List Int) : ∀ j, (tdL zs j).length ≤ j
  | 0 => by simp [tdL]
  | j + 1 => by
    have := tdL_len zs j
    simp only [tdL]
    split <;> simp <;> omega
def dsB (zs : List Int) : Bool := decide (zs.length ≤ 1024) && lvB zs
def dsR (zs : List Int) : ByteArray := if dsB zs = true then runesBytes (tdL zs (zs.length / 128)) else ByteArray.empty
theorem Rd.win {w : World} {b off cap : Nat} {zs : List Int} (h4 : ∀ i, i < zs.length → w.cell? ⟨b, off + i, none⟩ = some (.int .i64 (zs.getD i 0))) (hc : zs.length ≤ cap) (hm : cap ≤ maxLen) (k : Nat) (hk : 128 * k + 128 ≤ zs.length) : Rd .i64 w (.slice (some ⟨b, off + 128 * k, none⟩) 128 (cap - 128 * k)) (wd zs k) := by
  refine ⟨some ⟨b, off + 128 * k, none⟩, cap - 128 * k, by rw [wd_len zs k hk], by rw [wd_len zs k hk]; omega, by omega, .inr ⟨b, off + 128 * k, rfl, fun i hi => ?_⟩⟩
  rw [wd_len zs k hk] at hi
  rw [wd_at zs k i hi, Nat.add_assoc]
  exact h4 (128 * k + i) (by omega)

end Go.Proofs.YtgdejlofkjdkoaaDoor

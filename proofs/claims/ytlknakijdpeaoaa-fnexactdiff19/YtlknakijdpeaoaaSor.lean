/- The order of texts; right settings; no condition. -/
import Derived.Test.YtlknakijdpeaoaaSet
import Derived.Test.YtlknakijdpeaoaaVal
namespace Go.Proofs.Ytlknakijdpeaoaa
open Go.RowKit Go.ChangeShapes Go.WideShapes Go.ChangeAt
set_option linter.unusedVariables false
set_option linter.unusedSimpArgs false
set_option maxRecDepth 8000

open Go.Op
/-- one text ahead of another -/
def bl (a b : ByteArray) : Bool := bytesLess a.toList b.toList
theorem u8_lt {a b : UInt8} : a < b ↔ a.toNat < b.toNat := UInt8.lt_iff_toNat_lt
theorem u8_eq {a b : UInt8} (h : a.toNat = b.toNat) : a = b := UInt8.toNat_inj.1 h
theorem bL_irr : ∀ x, bytesLess x x = false
  | [] => rfl
  | a :: x => by simp [bytesLess, bL_irr x]
theorem bL_tot : ∀ x y, bytesLess x y = false → bytesLess y x = false → x = y
  | [], [], _, _ => rfl
  | [], b :: y, h, _ => by simp [bytesLess] at h
  | a :: x, [], _, h => by simp [bytesLess] at h
  | a :: x, b :: y, h, h' => by
    simp only [bytesLess, Bool.or_eq_false_iff, Bool.and_eq_false_imp, decide_eq_false_iff_not, beq_iff_eq] at h h'
    have e : a = b := by
      apply u8_eq
      have h1 := h.1; have h2 := h'.1
      rw [u8_lt] at h1 h2
      omega
    subst e
    rw [bL_tot x y (h.2 rfl) (h'.2 rfl)]
theorem bL_asym : ∀ x y, bytesLess x y = true → bytesLess y x = false
  | [], [], h => by simp [bytesLess] at h
  | [], b :: y, _ => by simp [bytesLess]
  | a :: x, [], h => by simp [bytesLess] at h
  | a :: x, b :: y, h => by
    simp only [bytesLess, Bool.or_eq_true, Bool.and_eq_true, decide_eq_true_eq, beq_iff_eq] at h
    simp only [bytesLess, Bool.or_eq_false_iff, Bool.and_eq_false_imp, decide_eq_false_iff_not, beq_iff_eq]
    rcases h with h | ⟨rfl, h⟩
    · rw [u8_lt] at h
      refine ⟨fun h2 => ?_, fun e => ?_⟩
      · rw [u8_lt] at h2; omega
      · subst e; omega
    · refine ⟨fun h2 => ?_, fun _ => bL_asym x y h⟩
      rw [u8_lt] at h2; omega
theorem bL_trans : ∀ x y z, bytesLess x y = true → bytesLess y z = true → bytesLess x z = true
  | [], [], z, h, _ => by simp [bytesLess] at h
  | [], b :: y, [], _, h => by simp [bytesLess] at h
  | [], b :: y, c :: z, _, _ => by simp [bytesLess]
  | a :: x, [], z, h, _ => by simp [bytesLess] at h
  | a :: x, b :: y, [], _, h => by simp [bytesLess] at h
  | a :: x, b :: y, c :: z, h, h' => by
    simp only [bytesLess, Bool.or_eq_true, Bool.and_eq_true, decide_eq_true_eq, beq_iff_eq] at h h' ⊢
    rcases h with h | ⟨rfl, h⟩
    · rcases h' with h' | ⟨rfl, h'⟩
      · left; rw [u8_lt] at h h' ⊢; omega
      · left; exact h
    · rcases h' with h' | ⟨rfl, h'⟩
      · left; exact h'
      · right; exact ⟨rfl, bL_trans x y z h h'⟩
theorem toL_inj {a b : ByteArray} (h : a.toList = b.toList) : a = b := by
  rw [ByteArray.toList_eq, ByteArray.toList_eq] at h
  apply ByteArray.ext
  exact Array.toList_inj.1 h
theorem bl_irr (a : ByteArray) : bl a a = false := bL_irr _
theorem bl_asym {a b : ByteArray} (h : bl a b = true) : bl b a = false := bL_asym _ _ h
theorem bl_trans {a b c : ByteArray} (h : bl a b = true) (h' : bl b c = true) : bl a c = true := bL_trans _ _ _ h h'
theorem bl_tot {a b : ByteArray} (h : bl a b = false) (h' : bl b a = false) : a = b := toL_inj (bL_tot _ _ h h')
theorem bl_ne {a b : ByteArray} (h : bl a b = true) : a ≠ b := by rintro rfl; rw [bl_irr] at h; cases h
/-- not ahead: behind, or the same -/
theorem bl_not (a b : ByteArray) : (bytesLess b.toList a.toList || b.toList == a.toList) = !bl a b := by
  show (bl b a || b.toList == a.toList) = !bl a b
  cases h : bl a b with
  | true =>
    rw [bl_asym h]
    have : (b.toList == a.toList) = false := by
      rw [beq_eq_false_iff_ne]
      intro e
      exact bl_ne h (toL_inj e).symm
    rw [this]; rfl
  | false =>
    cases h' : bl b a with
    | true => rfl
    | false => rw [bl_tot h h']; simp
/-- a setting; settings -/
def stB (r : Se) : Bool := wB r.nm && vB r.vl
def aB (ls : Ses) (i : Nat) : Bool := bl (ls.getD i s0).nm (ls.getD (i + 1) s0).nm
def sB (ls : Ses) : Bool := decide (ls.length ≤ 40) && (ls.all stB && (List.range (ls.length - 1)).all (aB ls))
/-- the first j are right -/
def SoT (ls : Ses) (j : Nat) : Prop := (∀ i (h : i < ls.length), i < j → stB ls[i] = true) ∧ ∀ i, i + 1 < j → aB ls i = true
theorem SoT.zero (ls : Ses) : SoT ls 0 := ⟨fun i _ h => by omega, fun i h => by omega⟩
theorem getD_of {ls : Ses} {i : Nat} (h : i < ls.length) : ls.getD i s0 = ls[i] := by simp [List.getD, List.getElem?_eq_getElem h]
theorem aB_of {ls : Ses} {i : Nat} (h : i + 1 < ls.length) : aB ls i = bl (ls[i]'(by omega)).nm ls[i + 1].nm := by
  unfold aB; rw [getD_of (show i < ls.length by omega), getD_of h]
theorem SoT.one {ls : Ses} (h : 0 < ls.length) (hs : stB ls[0] = true) : SoT ls 1 := ⟨fun i hi h1 => by
  obtain rfl : i = 0 := by omega
  exact hs, fun i h => by omega⟩
theorem SoT.next {ls : Ses} {k : Nat} (h : SoT ls (k + 1)) (hk : k + 1 < ls.length) (hs : stB ls[k + 1] = true) (ha : bl (ls[k]'(by omega)).nm ls[k + 1].nm = true) : SoT ls (k + 1 + 1) := ⟨fun i hi h1 => by
  by_cases e : i < k + 1
  · exact h.1 i hi e
  · obtain rfl : i = k + 1 := by omega
    exact hs, fun i h1 => by
  by_cases e : i + 1 < k + 1
  · exact h.2 i e
  · obtain rfl : i = k := by omega
    rw [aB_of hk]; exact ha⟩
theorem SoT.fin {ls : Ses} (h : SoT ls ls.length) : sB ls = decide (ls.length ≤ 40) := by
  have h1 : ls.all stB = true := by
    rw [List.all_eq_true]
    intro r hr
    obtain ⟨i, hi, rfl⟩ := List.getElem_of_mem hr
    exact h.1 i hi hi
  have h2 : (List.range (ls.length - 1)).all (aB ls) = true := by
    rw [List.all_eq_true]
    intro i hi
    have := List.mem_range.1 hi
    exact h.2 i (by omega)
  unfold sB; rw [h1, h2, Bool.and_self, Bool.and_true]
theorem sB_bad {ls : Ses} {j : Nat} (hj : j < ls.length) (hs : stB ls[j] = false) : sB ls = false := by
  have h1 : ls.all stB = false := by
    rw [List.all_eq_false]
    exact ⟨_, List.getElem_mem hj, by rw [hs]; simp⟩
  unfold sB; rw [h1]; simp
theorem sB_far {ls : Ses} {k : Nat} (hk : k + 1 < ls.length) (ha : bl (ls[k]'(by omega)).nm ls[k + 1].nm = false) : sB ls = false := by
  have h1 : (List.range (ls.length - 1)).all (aB ls) = false := by
    rw [List.all_eq_false]
    exact ⟨k, List.mem_range.2 (by omega), by rw [aB_of hk, ha]; simp⟩
  unfold sB; rw [h1]; simp
theorem sB_of {ls : Ses} (h : sB ls = true) : ls.length ≤ 40 ∧ (∀ r ∈ ls, stB r = true) ∧ ∀ i (hi : i + 1 < ls.length), bl (ls[i]'(by omega)).nm ls[i + 1].nm = true := by
  unfold sB at h
  simp only [Bool.and_eq_true, decide_eq_true_eq, List.all_eq_true, List.mem_range] at h
  refine ⟨h.1, h.2.1, fun i hi => ?_⟩
  rw [← aB_of hi]
  exact h.2.2 i (by omega)

end Go.Proofs.Ytlknakijdpeaoaa

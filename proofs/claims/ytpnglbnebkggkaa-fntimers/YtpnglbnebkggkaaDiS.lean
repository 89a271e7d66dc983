/- What Dial is to tell; no condition. -/
import Derived.Test.YtpnglbnebkggkaaBeg
namespace Go.Proofs.Ytpnglbnebkggkaa
open Go.RowKit Go.ChangeShapes Go.WideShapes Go.ChangeAt
set_option linter.unusedVariables false
set_option linter.unusedSimpArgs false
set_option maxRecDepth 8000
/-- the size of the prefix at a place -/
def psz (ls : Rls) (b : Int) : Nat := ((ls[b.toNat]?).map fun r => r.pre.size).getD 0
/-- of the first j rules that are as asked that of the longest prefix, or -1 -/
def lfi (q : Rl → Bool) (ls : Rls) : Nat → Int
  | 0 => -1
  | j + 1 => match ls[j]? with
    | none => lfi q ls j
    | some r => if (q r && (decide (lfi q ls j < 0) || decide (psz ls (lfi q ls j) < r.pre.size))) = true then (j : Int) else lfi q ls j
theorem lfi_succ {q : Rl → Bool} {ls : Rls} {j : Nat} (h : j < ls.length) : lfi q ls (j + 1) = if (q ls[j] && (decide (lfi q ls j < 0) || decide (psz ls (lfi q ls j) < ls[j].pre.size))) = true then (j : Int) else lfi q ls j := by
  rw [lfi, List.getElem?_eq_getElem h]
theorem psz_at {ls : Rls} {k : Nat} (h : k < ls.length) : psz ls (k : Int) = ls[k].pre.size := by simp [psz, List.getElem?_eq_getElem h]
theorem lfi_ge {q : Rl → Bool} {ls : Rls} : ∀ j, -1 ≤ lfi q ls j
  | 0 => by simp [lfi]
  | j + 1 => by
    have := lfi_ge (q := q) (ls := ls) j
    rw [lfi]
    split
    · exact this
    · split
      · omega
      · exact this
theorem lfi_at {q : Rl → Bool} {ls : Rls} : ∀ j, j ≤ ls.length → 0 ≤ lfi q ls j → ∃ k : Nat, ∃ h : k < ls.length, lfi q ls j = (k : Int) ∧ k < j ∧ q ls[k] = true
  | 0, _, h => by simp [lfi] at h
  | j + 1, hj, h => by
    have hl : j < ls.length := by omega
    rw [lfi_succ hl] at h ⊢
    split at h
    · rename_i hq
      rw [if_pos hq]
      simp only [Bool.and_eq_true] at hq
      exact ⟨j, hl, rfl, by omega, hq.1⟩
    · rename_i hq
      rw [if_neg hq]
      obtain ⟨k, k1, k2, k3, k4⟩ := lfi_at j (by omega) h
      exact ⟨k, k1, k2, by omega, k4⟩
/-- those that fit; the emergencies among them; whether digits are open -/
def qB (s : ByteArray) (r : Rl) : Bool := begB s r.pre
def qF (s : ByteArray) (r : Rl) : Bool := begB s r.pre && ((r.ro == 0) && (decide (r.le ≤ (s.size : Int)) && decide ((s.size : Int) ≤ r.mo)))
def oB (s : ByteArray) (r : Rl) : Bool := decide (s.size < r.pre.size) && begB r.pre s
/-- what Dial is to tell of right rules and digits -/
def OfS (ls : Rls) (s : ByteArray) (c : Int) (b : Int) (x : Int × Int × ByteArray × Int) : Prop := ∃ k : Nat, ∃ h : k < ls.length, b = (k : Int) ∧ x = (c, ls[k].ro, numV ls[k] s, (k : Int))
def NoS (c : Int) (x : Int × Int × ByteArray × Int) : Prop := x = (c, -1, ⟨#[]⟩, -1)
def DialS (ls : Rls) (s : ByteArray) (x : Int × Int × ByteArray × Int) : Prop :=
  (¬ (RsOk ls ∧ DgOk s) ∧ NoS 5 x) ∨ ((RsOk ls ∧ DgOk s) ∧ (
    (0 ≤ lfi (qF s) ls ls.length ∧ OfS ls s 2 (lfi (qF s) ls ls.length) x) ∨
    (lfi (qF s) ls ls.length < 0 ∧ (
      (lfi (qB s) ls ls.length < 0 ∧ NoS (if ls.any (oB s) then 0 else 3) x) ∨
      (∃ k : Nat, ∃ h : k < ls.length, lfi (qB s) ls ls.length = (k : Int) ∧ (
        ((s.size : Int) < ls[k].le ∧ NoS 0 x) ∨
        (ls[k].mo < (s.size : Int) ∧ NoS (if ls.any (oB s) then 0 else 3) x) ∨
        ((ls[k].le ≤ (s.size : Int) ∧ (s.size : Int) = ls[k].mo ∧ ls.any (oB s) = false) ∧ OfS ls s 2 (k : Int) x) ∨
        ((ls[k].le ≤ (s.size : Int) ∧ (s.size : Int) ≤ ls[k].mo ∧ ¬ ((s.size : Int) = ls[k].mo ∧ ls.any (oB s) = false)) ∧ OfS ls s 1 (k : Int) x)))))))
theorem OfS.same {ls : Rls} {s : ByteArray} {c b : Int} {x y : Int × Int × ByteArray × Int} (h : OfS ls s c b x) (h' : OfS ls s c b y) : x = y := by
  obtain ⟨k, hk, e, rfl⟩ := h
  obtain ⟨k', hk', e', rfl⟩ := h'
  obtain rfl : k = k' := by omega
  rfl
theorem DialS.same {ls : Rls} {s : ByteArray} {x y : Int × Int × ByteArray × Int} (h : DialS ls s x) (h' : DialS ls s y) : x = y := by
  rcases h with ⟨h1, h2⟩ | ⟨h1, h2⟩ <;> rcases h' with ⟨g1, g2⟩ | ⟨g1, g2⟩
  · exact h2.trans g2.symm
  · exact absurd g1 h1
  · exact absurd h1 g1
  · rcases h2 with ⟨h2, h3⟩ | ⟨h2, h3⟩ <;> rcases g2 with ⟨g2, g3⟩ | ⟨g2, g3⟩
    · exact h3.same g3
    · omega
    · omega
    · rcases h3 with ⟨h3, h4⟩ | ⟨k, hk, h3, h4⟩ <;> rcases g3 with ⟨g3, g4⟩ | ⟨k', hk', g3, g4⟩
      · exact h4.trans g4.symm
      · omega
      · omega
      · obtain rfl : k = k' := by omega
        have hr := (h1.1.2 k hk hk).1
        have hlm := hr.2.2.1
        rcases h4 with ⟨h4, h5⟩ | ⟨h4, h5⟩ | ⟨h4, h5⟩ | ⟨h4, h5⟩ <;> rcases g4 with ⟨g4, g5⟩ | ⟨g4, g5⟩ | ⟨g4, g5⟩ | ⟨g4, g5⟩
        all_goals first
          | exact h5.trans g5.symm
          | exact h5.same g5
          | (exfalso; omega)
          | (exfalso; exact h4.2.2 ⟨g4.2.1, g4.2.2⟩)
          | (exfalso; exact g4.2.2 ⟨h4.2.1, h4.2.2⟩)
def DiR (ls : Rls) (s : ByteArray) (w : World) (e : Ending) (w' : World) : Prop := ∃ (c r : Int) (nu : ByteArray) (k : Int), e = .returned (.agg (D4 c r nu k)) ∧ DialS ls s (c, r, nu, k) ∧ Below w.heap.size w w'
end Go.Proofs.Ytpnglbnebkggkaa

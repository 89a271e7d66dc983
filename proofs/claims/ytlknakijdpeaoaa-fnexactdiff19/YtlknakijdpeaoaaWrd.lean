/- Words as runes; no condition. -/
import Derived.Laws.IdiomStrings
import Derived.Laws.RangeAny
import Derived.Laws.Cover4
import Derived.ProofKit
import Derived.WalkLawsBesides
namespace Go.Proofs.Ytlknakijdpeaoaa
open Go.RowKit Go.ChangeShapes Go.WideShapes Go.ChangeAt
set_option linter.unusedVariables false
set_option linter.unusedSimpArgs false
set_option maxRecDepth 8000
open Go.Utf8
/-- a letter; what else a word may have -/
def isL (r : Nat) : Bool := decide ((65 ≤ r ∧ r ≤ 90) ∨ (97 ≤ r ∧ r ≤ 122) ∨ ((192 ≤ r ∧ r ≤ 591) ∧ r ≠ 215 ∧ r ≠ 247) ∨ ((913 ≤ r ∧ r ≤ 969) ∧ r ≠ 930) ∨ (1040 ≤ r ∧ r ≤ 1103))
def isM (r : Nat) : Bool := decide ((48 ≤ r ∧ r ≤ 57) ∨ r = 45 ∨ r = 95 ∨ r = 46)
theorem isL_lt {r : Nat} (h : isL r = true) : r < 2048 := by unfold isL at h; have := of_decide_eq_true h; omega
theorem isM_lt {r : Nat} (h : isM r = true) : r < 2048 := by unfold isM at h; have := of_decide_eq_true h; omega
theorem dec_bd (s : ByteArray) (i : Nat) : 1 ≤ (decode s i).2 ∧ (decode s i).2 ≤ 4 ∧ (decode s i).1 ≤ 1114111 := by
  unfold decode
  dsimp only
  split
  · rename_i h1
    refine ⟨by show 1 ≤ 1; omega, by show 1 ≤ 4; omega, ?_⟩
    show (s.get! (i + 0)).toNat ≤ 1114111
    omega
  split
  · split
    · rename_i h1 h2 h3
      have : (s.get! (i + 1)).toNat < 256 := UInt8.toNat_lt _
      have : (s.get! (i + 0)).toNat < 256 := UInt8.toNat_lt _
      refine ⟨by show 1 ≤ 2; omega, by show 2 ≤ 4; omega, ?_⟩
      show _ ≤ 1114111
      omega
    · exact ⟨by show 1 ≤ 1; omega, by show 1 ≤ 4; omega, by show runeError ≤ _; decide⟩
  split
  · split
    · rename_i h1 h2 h3 h4
      refine ⟨by show 1 ≤ 3; omega, by show 3 ≤ 4; omega, ?_⟩
      show _ ≤ 1114111
      omega
    · exact ⟨by show 1 ≤ 1; omega, by show 1 ≤ 4; omega, by show runeError ≤ _; decide⟩
  split
  · split
    · rename_i h1 h2 h3 h4 h5
      refine ⟨by show 1 ≤ 4; omega, by show 4 ≤ 4; omega, ?_⟩
      simp only [valid, Bool.and_eq_true, Bool.or_eq_true, decide_eq_true_eq] at h5
      show _ ≤ 1114111
      omega
    · exact ⟨by show 1 ≤ 1; omega, by show 1 ≤ 4; omega, by show runeError ≤ _; decide⟩
  · exact ⟨by show 1 ≤ 1; omega, by show 1 ≤ 4; omega, by show runeError ≤ _; decide⟩
/-- the runes of a text from a place on -/
def rnF (s : ByteArray) : Nat → Nat → List Nat
  | 0, _ => []
  | f + 1, i => if i < s.size then (decode s i).1 :: rnF s f (i + (decode s i).2) else []
def rn (s : ByteArray) (i : Nat) : List Nat := rnF s (s.size - i) i
theorem rnF_more (s : ByteArray) : ∀ (f i : Nat), s.size - i ≤ f → rnF s f i = rnF s (s.size - i) i := by
  intro f
  induction f using Nat.strongRecOn with
  | _ f ih =>
    intro i hf
    cases f with
    | zero => rw [show s.size - i = 0 by omega]
    | succ f =>
      by_cases hi : i < s.size
      · have hb := dec_bd s i
        obtain ⟨k, hk⟩ : ∃ k, s.size - i = k + 1 := ⟨s.size - i - 1, by omega⟩
        rw [hk]
        unfold rnF
        rw [if_pos hi, if_pos hi]
        rw [ih f (by omega) (i + (decode s i).2) (by omega), ih k (by omega) (i + (decode s i).2) (by omega)]
      · rw [show s.size - i = 0 by omega]
        unfold rnF
        rw [if_neg hi]
theorem rn_step {s : ByteArray} {i : Nat} (h : i < s.size) : rn s i = (decode s i).1 :: rn s (i + (decode s i).2) := by
  have hb := dec_bd s i
  unfold rn
  obtain ⟨k, hk⟩ : ∃ k, s.size - i = k + 1 := ⟨s.size - i - 1, by omega⟩
  rw [hk]
  conv => lhs; unfold rnF
  rw [if_pos h, rnF_more s k (i + (decode s i).2) (by omega)]
theorem rn_end {s : ByteArray} {i : Nat} (h : s.size ≤ i) : rn s i = [] := by
  unfold rn; rw [show s.size - i = 0 by omega]; rfl
theorem rn_size (s : ByteArray) : ∀ (k i : Nat), s.size - i ≤ k → s.size - i ≤ 4 * (rn s i).length := by
  intro k
  induction k with
  | zero => intro i h; omega
  | succ k ih =>
    intro i h
    by_cases hi : i < s.size
    · have hb := dec_bd s i
      have := ih (i + (decode s i).2) (by omega)
      rw [rn_step hi, List.length_cons]
      omega
    · omega
theorem rn_len (s : ByteArray) (i : Nat) : (rn s i).length ≤ s.size - i := by
  suffices h : ∀ (k i : Nat), s.size - i ≤ k → (rn s i).length ≤ s.size - i from h _ i (Nat.le_refl _)
  intro k
  induction k with
  | zero => intro i h; rw [rn_end (by omega)]; simp
  | succ k ih =>
    intro i h
    by_cases hi : i < s.size
    · have hb := dec_bd s i
      have := ih (i + (decode s i).2) (by omega)
      rw [rn_step hi, List.length_cons]
      omega
    · rw [rn_end (by omega)]; simp
theorem rn_top (s : ByteArray) (i : Nat) : ∀ r ∈ rn s i, r ≤ 1114111 := by
  suffices h : ∀ (k i : Nat), s.size - i ≤ k → ∀ r ∈ rn s i, r ≤ 1114111 from h _ i (Nat.le_refl _)
  intro k
  induction k with
  | zero => intro i h r hr; rw [rn_end (by omega)] at hr; simp at hr
  | succ k ih =>
    intro i h r hr
    by_cases hi : i < s.size
    · have hb := dec_bd s i
      rw [rn_step hi] at hr
      rcases List.mem_cons.1 hr with e | e
      · rw [e]; exact hb.2.2
      · exact ih (i + (decode s i).2) (by omega) r e
    · rw [rn_end (by omega)] at hr; simp at hr
/-- the runes as the language's values -/
def rI (rs : List Nat) : List Int := rs.map fun r : Nat => (r : Int)
theorem runesFrom_eq (s : ByteArray) : ∀ (f i : Nat) (acc : Array Value), (Conv.runesFrom s f i acc).toList = acc.toList ++ (rI (rnF s f i)).map (.int .i32)
  | 0, i, acc => by simp [Conv.runesFrom, rnF, rI]
  | f + 1, i, acc => by
    unfold Conv.runesFrom rnF
    by_cases hi : i < s.size
    · rw [if_pos hi, if_pos hi]
      have := runesFrom_eq s f (i + (decode s i).2) (acc.push (.int .i32 (Int.ofNat (decode s i).1)))
      rw [this]
      simp [rI]
    · rw [if_neg hi, if_neg hi]; simp [rI]
theorem runesFrom_rn (s : ByteArray) : (Conv.runesFrom s s.size 0 #[]) = ((rI (rn s 0)).map (.int .i32)).toArray := by
  apply Array.ext'
  rw [runesFrom_eq]
  simp [rn]
/-- a word, of its runes -/
def headL (rs : List Nat) : Bool := match rs with | [] => false | r :: _ => isL r
def wdB (rs : List Nat) : Bool := decide (rs.length ≤ 16) && headL rs && rs.all (fun r => isL r || isM r)
/-- a word -/
def wB (s : ByteArray) : Bool := wdB (rn s 0)
theorem wB_long {s : ByteArray} (h : 64 < s.size) : wB s = false := by
  have := rn_size s s.size 0 (by omega)
  unfold wB wdB
  rw [decide_eq_false (by omega)]; rfl
theorem wdB_one {rs : List Nat} (h : wdB rs = true) : 1 ≤ rs.length ∧ rs.length ≤ 16 := by
  unfold wdB at h
  simp only [Bool.and_eq_true, decide_eq_true_eq] at h
  refine ⟨?_, h.1.1⟩
  cases rs with
  | nil => simp [headL] at h
  | cons r l => simp
/-- one byte or two: what the model's reading of a rune tells of the language's -/
theorem dec_one {s : ByteArray} {i : Nat} (hi : i < s.size) (h : (s[i]'hi).toNat < 128) : decode s i = ((s[i]'hi).toNat, 1) := decode_ascii s i hi h
theorem get_bang (s : ByteArray) (i : Nat) (h : i < s.size) : s.get! i = s[i]'h := get_at s i h
theorem dec_two {s : ByteArray} {i : Nat} (hi : i < s.size) (h1 : 194 ≤ (s[i]'hi).toNat) (h2 : (s[i]'hi).toNat ≤ 223) (hj : i + 1 < s.size) (h3 : 128 ≤ (s[i + 1]'hj).toNat) (h4 : (s[i + 1]'hj).toNat ≤ 191) :
    decode s i = (((s[i]'hi).toNat - 192) * 64 + (s[i + 1]'hj).toNat - 128, 2) := by
  unfold decode
  simp only [Nat.add_zero, get_bang s i hi, get_bang s (i + 1) hj]
  obtain ⟨a, ha⟩ : ∃ a, (s[i]'hi).toNat = a := ⟨_, rfl⟩
  obtain ⟨b, hb⟩ : ∃ b, (s[i + 1]'hj).toNat = b := ⟨_, rfl⟩
  rw [ha] at h1 h2 ⊢
  rw [hb] at h3 h4 ⊢
  have e1 : ¬ a < 128 := by omega
  have e2 : (a / 32 == 6 && (decide (i + 1 < s.size) && b / 64 == 2)) = true := by
    have q1 : a / 32 = 6 := by omega
    have q2 : b / 64 = 2 := by omega
    simp [q1, q2, hj]
  rw [if_neg e1, if_pos e2, if_pos (by omega)]
  refine Prod.ext ?_ rfl
  show a % 32 * 64 + b % 64 = (a - 192) * 64 + b - 128
  omega
theorem dec_far {s : ByteArray} {i : Nat} (hi : i < s.size) (h0 : 128 ≤ (s[i]'hi).toNat) (h : (s[i]'hi).toNat < 194 ∨ 223 < (s[i]'hi).toNat ∨ s.size ≤ i + 1 ∨ ∀ hj : i + 1 < s.size, (s[i + 1]'hj).toNat < 128 ∨ 191 < (s[i + 1]'hj).toNat) : 2048 ≤ (decode s i).1 := by
  have hx : (s[i]'hi).toNat < 256 := UInt8.toNat_lt _
  have hy : (s.get! (i + 1)).toNat < 256 := UInt8.toNat_lt _
  have hz : 2048 ≤ runeError := by decide
  unfold decode
  simp only [Nat.add_zero, get_bang s i hi]
  obtain ⟨a, ha⟩ : ∃ a, (s[i]'hi).toNat = a := ⟨_, rfl⟩
  rw [ha] at h0 h hx ⊢
  have e1 : ¬ a < 128 := by omega
  rw [if_neg e1]
  split
  · rename_i h2
    simp only [Bool.and_eq_true, beq_iff_eq, decide_eq_true_eq] at h2
    obtain ⟨q1, q2, q3⟩ := h2
    rcases h with h | h | h | h
    · rw [if_neg (by omega)]; exact hz
    · omega
    · omega
    · have := h q2
      rw [← get_bang s (i + 1) q2] at this
      omega
  split
  · split
    · rename_i h3 h4
      simp only [Bool.and_eq_true, decide_eq_true_eq] at h4
      exact h4.1
    · exact hz
  split
  · split
    · rename_i h3 h4 h5
      simp only [Bool.and_eq_true, decide_eq_true_eq] at h5
      have := h5.1
      show 2048 ≤ _
      omega
    · exact hz
  · exact hz

end Go.Proofs.Ytlknakijdpeaoaa

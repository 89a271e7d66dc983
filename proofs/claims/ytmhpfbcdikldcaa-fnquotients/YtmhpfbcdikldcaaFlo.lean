/- What floats are but for the bits of NaNs, and what the four operations give; no condition. -/
import Derived.Laws.ComplexQuo
import Derived.WalkKit
import Derived.ProofKit
import Derived.OpenShut
import Derived.WalkLawsBesides
import Derived.WalkSmall
namespace Go.Proofs.Ytmhpfbcdikldcaa
open Go.RowKit Go.ChangeShapes Go.WideShapes Go.ChangeAt
set_option linter.unusedVariables false
set_option linter.unusedSimpArgs false
set_option maxRecDepth 8000
/-- whether the bits are a NaN's -/
def fnan (k : FloatKind) (b : Nat) : Bool := (k.decode b).isNaN
/-- what a float is: its bits, but all NaNs are one -/
def fc (k : FloatKind) (b : Nat) : Option Nat := if fnan k b then none else some b
/-- the four operations on what floats are -/
def fo (op : BinOp) (k : FloatKind) : Option Nat → Option Nat → Option Nat
  | some x, some y => floatBits op k x y
  | _, _ => none
theorem fc_some {k : FloatKind} {b : Nat} (h : fnan k b = false) : fc k b = some b := by simp [fc, h]
theorem fc_none {k : FloatKind} {b : Nat} (h : fnan k b = true) : fc k b = none := by simp [fc, h]
theorem fc_cases (k : FloatKind) (b : Nat) : (fnan k b = true ∧ fc k b = none) ∨ (fnan k b = false ∧ fc k b = some b) := by
  cases h : fnan k b
  · exact .inr ⟨rfl, fc_some h⟩
  · exact .inl ⟨rfl, fc_none h⟩
theorem fnan_of {k : FloatKind} {a b : Nat} (h : fc k a = fc k b) : fnan k a = fnan k b := by
  rcases fc_cases k a with ⟨h1, h2⟩ | ⟨h1, h2⟩ <;> rcases fc_cases k b with ⟨h3, h4⟩ | ⟨h3, h4⟩ <;> simp_all
theorem eq_of_fc {k : FloatKind} {a b : Nat} (h : fc k a = fc k b) (hn : fnan k a = false) : a = b := by
  have := fnan_of h
  rw [fc_some hn, fc_some (by rw [← this]; exact hn)] at h
  simpa using h
/-- a word whose rung is no greater than infinity's is no NaN's -/
theorem nan_word (f : Ieee.Format) (s : Bool) (r : Nat) (h : r ≤ f.infRung) : (f.read (f.word s r)).isNaN = false := by
  have h1 : f.infRung < f.signWeight := f.infRung_lt
  have h2 : f.word s r % f.signWeight = r := by
    unfold Ieee.Format.word
    split
    · rw [Nat.add_mod_left, Nat.mod_eq_of_lt (by omega)]
    · rw [Nat.mod_eq_of_lt (by omega)]
  unfold Ieee.Format.read
  simp only [h2]
  split
  · rfl
  · split
    · rfl
    · rw [if_pos (by omega)]; rfl
theorem nan_nearest (f : Ieee.Format) (s : Bool) (m : Nat) (p : Int) : (f.read (f.nearest s m p)).isNaN = false := by
  unfold Ieee.Format.nearest
  dsimp only
  split
  · exact nan_word f s 0 (Nat.zero_le _)
  · exact nan_word f s _ (Nat.min_le_right ..)
theorem nan_write (f : Ieee.Format) (d : Ieee.Datum) (h : d.isNaN = false) : (f.read (f.write d)).isNaN = false := by
  cases d with
  | number s m p => exact nan_nearest f s m p
  | infinity s => exact nan_word f s _ (Nat.le_refl _)
  | nan s t => simp [Ieee.Datum.isNaN] at h
theorem sum_nan {a b d : Ieee.Datum} (h : a.sum b = some d) : d.isNaN = false ∧ a.isNaN = false ∧ b.isNaN = false := by
  cases a <;> cases b <;> simp [Ieee.Datum.sum] at h
  all_goals first
    | (subst h; simp [Ieee.Datum.isNaN])
    | (obtain ⟨h1, h2⟩ := h; subst h2; simp [Ieee.Datum.isNaN])
theorem product_nan {a b d : Ieee.Datum} (h : a.product b = some d) : d.isNaN = false ∧ a.isNaN = false ∧ b.isNaN = false := by
  cases a <;> cases b <;> simp [Ieee.Datum.product] at h
  all_goals first
    | (subst h; simp [Ieee.Datum.isNaN])
    | (obtain ⟨h1, h2⟩ := h; subst h2; simp [Ieee.Datum.isNaN])
theorem quotient_nan {n : Nat} {a b d : Ieee.Datum} (h : a.quotient n b = some d) : d.isNaN = false ∧ a.isNaN = false ∧ b.isNaN = false := by
  cases a <;> cases b <;> simp [Ieee.Datum.quotient] at h
  all_goals first
    | (subst h; simp [Ieee.Datum.isNaN]; done)
    | (split at h
       · first | (obtain ⟨h1, h2⟩ := h; subst h2; simp [Ieee.Datum.isNaN]; done) | (split at h <;> first | (cases h; done) | (cases h; simp [Ieee.Datum.isNaN]; done))
       · first | (cases h; simp [Ieee.Datum.isNaN]; done) | (subst h; simp [Ieee.Datum.isNaN]; done))
theorem opp_nan (d : Ieee.Datum) : d.opposite.isNaN = d.isNaN := by cases d <;> rfl
theorem fb_facts {op : BinOp} {k : FloatKind} {x y r : Nat} (h : floatBits op k x y = some r) : fnan k r = false ∧ fnan k x = false ∧ fnan k y = false := by
  unfold floatBits at h
  unfold fnan FloatKind.decode
  split at h
  · unfold Ieee.Format.add at h
    obtain ⟨d, hd, rfl⟩ := Option.map_eq_some_iff.1 h
    obtain ⟨h1, h2, h3⟩ := sum_nan hd
    exact ⟨nan_write _ _ h1, h2, h3⟩
  · unfold Ieee.Format.sub at h
    obtain ⟨d, hd, rfl⟩ := Option.map_eq_some_iff.1 h
    obtain ⟨h1, h2, h3⟩ := sum_nan hd
    rw [opp_nan] at h3
    exact ⟨nan_write _ _ h1, h2, h3⟩
  · unfold Ieee.Format.mul at h
    obtain ⟨d, hd, rfl⟩ := Option.map_eq_some_iff.1 h
    obtain ⟨h1, h2, h3⟩ := product_nan hd
    exact ⟨nan_write _ _ h1, h2, h3⟩
  · unfold Ieee.Format.div at h
    obtain ⟨d, hd, rfl⟩ := Option.map_eq_some_iff.1 h
    obtain ⟨h1, h2, h3⟩ := quotient_nan hd
    exact ⟨nan_write _ _ h1, h2, h3⟩
  · cases h
theorem nan_rung (k : FloatKind) (b : Nat) (h : k.format.infRung < b % k.format.signWeight) : fnan k b = true := by
  have h1 : k.format.infRung + k.format.binade = k.format.signWeight := k.format.infRung_add_binade
  have h2 : k.format.binade ≤ k.format.infRung := by cases k <;> decide
  unfold fnan FloatKind.decode Ieee.Format.read
  dsimp only
  rw [if_neg (by omega), if_neg (by omega), if_neg (by omega)]
  rfl
theorem mod_sign (s q W : Nat) (h : q < W) : (s * W + q) % W = q := by
  rw [Nat.add_comm, Nat.add_mul_mod_self_right, Nat.mod_eq_of_lt h]
theorem cut_nan (k : FloatKind) (x y t : Nat) : fnan k (Question.cut (.nanBits k x y) t) = true := by
  cases k
  · apply nan_rung
    have e1 : FloatKind.f32.format.signWeight = 2147483648 := by decide
    have e3 : FloatKind.f32.format.infRung = 2139095040 := by decide
    have e4 : (2:Nat) ^ 31 = 2147483648 := by decide
    have e5 : (2:Nat) ^ 23 - 1 = 8388607 := by decide
    have hq : (t / 2) % 8388607 < 8388607 := Nat.mod_lt _ (by omega)
    rw [e1, e3]
    simp only [Question.cut]
    rw [e4, e5, Nat.add_assoc, Nat.add_assoc, mod_sign _ _ _ (by omega)]
    omega
  · apply nan_rung
    have e1 : FloatKind.f64.format.signWeight = 9223372036854775808 := by decide
    have e3 : FloatKind.f64.format.infRung = 9218868437227405312 := by decide
    have e4 : (2:Nat) ^ 63 = 9223372036854775808 := by decide
    have e5 : (2:Nat) ^ 52 - 1 = 4503599627370495 := by decide
    have hq : (t / 2) % 4503599627370495 < 4503599627370495 := Nat.mod_lt _ (by omega)
    rw [e1, e3]
    simp only [Question.cut]
    rw [e4, e5, Nat.add_assoc, Nat.add_assoc, mod_sign _ _ _ (by omega)]
    omega
theorem cut_nanC (k : FloatKind) (x t : Nat) : fnan k (Question.cut (.nanConv k x) t) = true := by
  have := cut_nan k 0 0 t
  cases k <;> exact this
/-- the bits that an operation leaves, and how often it asks -/
def fv (op : BinOp) (k : FloatKind) (x y : Nat) (w : World) : Nat := (floatBits op k x y).getD (Question.cut (.nanBits k x y) (w.tape w.drawn (.nanBits k x y)))
def fn (op : BinOp) (k : FloatKind) (x y : Nat) : Nat := if (floatBits op k x y).isSome then 0 else 1
theorem fc_fv (op : BinOp) (k : FloatKind) (x y : Nat) (w : World) : fc k (fv op k x y w) = fo op k (fc k x) (fc k y) := by
  cases h : floatBits op k x y with
  | some r =>
    obtain ⟨h1, h2, h3⟩ := fb_facts h
    rw [fc_some h2, fc_some h3]
    simp only [fo, fv, h, Option.getD_some]
    exact fc_some h1
  | none =>
    have e : fo op k (fc k x) (fc k y) = none := by
      rcases fc_cases k x with ⟨_, h2⟩ | ⟨_, h2⟩ <;> rcases fc_cases k y with ⟨_, h4⟩ | ⟨_, h4⟩ <;> simp [h2, h4, fo, h]
    rw [e]
    simp only [fv, h, Option.getD_none]
    exact fc_none (cut_nan ..)
section
variable {P : Program}
theorem run_fa (op : BinOp) (hop : op = .add ∨ op = .sub ∨ op = .mul ∨ op = .quo) (k : FloatKind) (x y : Nat) (w : World) : (Op.floatArith op k x y).run P w = .ok (.float k (fv op k x y w)) (w.drewN (fn op k x y)) := by
  cases h : floatBits op k x y with
  | some r =>
    rw [run_floatArith w h]
    simp [fv, fn, h, World.drewN_zero]
  | none =>
    unfold floatBits at h
    rcases hop with rfl | rfl | rfl | rfl <;> simp only at h
    all_goals simp [Op.floatArith, fv, fn, floatBits, h, run_choose_drew, Question.forced, World.drew_is_drewN]
theorem run_fop (op : BinOp) (hop : op = .add ∨ op = .sub ∨ op = .mul ∨ op = .quo) (t : TypeId) (k : FloatKind) (x y : Nat) (w : World) : (binOp op t (.float k x) (.float k y)).run P w = .ok (.float k (fv op k x y w)) (w.drewN (fn op k x y)) := by
  rw [← run_fa (P := P) op hop]
  rcases hop with rfl | rfl | rfl | rfl <;> simp [binOp]
end
end Go.Proofs.Ytmhpfbcdikldcaa

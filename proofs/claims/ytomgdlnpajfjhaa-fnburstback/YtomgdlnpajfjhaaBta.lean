/- What Bits15 tells; no condition. -/
import Derived.Test.YtomgdlnpajfjhaaSng
import Derived.Test.YtomgdlnpajfjhaaIvs
namespace Go.Proofs.Ytomgdlnpajfjhaa
open Go.RowKit Go.ChangeShapes Go.WideShapes Go.ChangeAt
set_option linter.unusedVariables false
set_option linter.unusedSimpArgs false
set_option maxRecDepth 8000

/-- the two bits of a sample, by a gain -/
def bq (U Q : Option Nat) (p : Nat × Nat) : Option (Int × Int) := match (fc .f32 p.1).map wid, (fc .f32 p.2).map wid, U, Q with
  | some a, some b, some c, some d => if qOk a b c d = true then some (bitF (qR a b c d), bitF (qI a b c d)) else none
  | _, _, _, _ => none
theorem fin_none {a : Nat} (h : fc .f64 a = none) : finB a = false := by
  rcases fc_cases .f64 a with ⟨h1, h2⟩ | ⟨h1, h2⟩
  · unfold finB; unfold fnan at h1; cases hd : FloatKind.f64.decode a <;> simp_all [Ieee.Datum.isNaN]
  · rw [h2] at h; cases h
theorem fc_raw {a b : Nat} (h : fc .f64 a = some b) : a = b := by
  rcases fc_cases .f64 a with ⟨h1, h2⟩ | ⟨h1, h2⟩
  · rw [h2] at h; cases h
  · rw [h2] at h; cases h; rfl
theorem bq_of {U Q : Option Nat} {p : Nat × Nat} {a b c d : Nat} (ha : fc .f64 a = (fc .f32 p.1).map wid) (hb : fc .f64 b = (fc .f32 p.2).map wid) (hc : fc .f64 c = U) (hd : fc .f64 d = Q) :
    bq U Q p = if qOk a b c d = true then some (bitF (qR a b c d), bitF (qI a b c d)) else none := by
  have hno : ∀ x, fc .f64 x = none → (x = a ∨ x = b ∨ x = c ∨ x = d) → qOk a b c d = false := by
    intro x hx h
    have := fin_none hx
    unfold qOk
    rcases h with rfl | rfl | rfl | rfl <;> rw [this] <;> simp
  unfold bq
  rw [← ha, ← hb, ← hc, ← hd]
  cases ea : fc .f64 a with
  | none => rw [hno a ea (by simp)]; simp
  | some a' =>
    cases eb : fc .f64 b with
    | none => rw [hno b eb (by simp)]; simp
    | some b' =>
      cases ec : fc .f64 c with
      | none => rw [hno c ec (by simp)]; simp
      | some c' =>
        cases ed : fc .f64 d with
        | none => rw [hno d ed (by simp)]; simp
        | some d' => rw [fc_raw ea, fc_raw eb, fc_raw ec, fc_raw ed]
def bqL (U Q : Option Nat) (ls : List (Nat × Nat)) : List Int := ls.flatMap fun p => match bq U Q p with
  | some (x, y) => [x, y]
  | none => []
theorem bqL_len (U Q : Option Nat) : ∀ ls : List (Nat × Nat), (bqL U Q ls).length ≤ 2 * ls.length
  | [] => by simp [bqL]
  | p :: r => by
    have := bqL_len U Q r
    have e : bqL U Q (p :: r) = (match bq U Q p with | some (x, y) => [x, y] | none => []) ++ bqL U Q r := rfl
    rw [e, List.length_append, List.length_cons]
    split <;> simp <;> omega
theorem bqL_app (U Q : Option Nat) (ls : List (Nat × Nat)) (p : Nat × Nat) (x y : Int) (h : bq U Q p = some (x, y)) : bqL U Q (ls ++ [p]) = bqL U Q ls ++ [x, y] := by
  unfold bqL; rw [List.flatMap_append]; simp [h]
/-- the samples that are not of the training -/
def restS (ls : List (Nat × Nat)) : List (Nat × Nat) := ls.take (gnH ls) ++ ls.drop (gnH ls + 26)
def btB (ls : List (Nat × Nat)) : Bool := gnB ls && (restS ls).all fun p => (bq (gnF pXR ls) (gnF pXI ls) p).isSome
def btL (ls : List (Nat × Nat)) : List Int := if btB ls = true then bqL (gnF pXR ls) (gnF pXI ls) (restS ls) else []
def BtR (ls : List (Nat × Nat)) (w : World) (e : Ending) (w' : World) : Prop := ∃ v, e = .returned (.tuple #[v, .bool (btB ls)]) ∧ Ow .i64 3 w.heap.size w' v (btL ls) ∧ Below w.heap.size w w'
theorem btB_no {ls : List (Nat × Nat)} (k : Nat) (hk : k < (restS ls).length) (h : bq (gnF pXR ls) (gnF pXI ls) (restS ls)[k] = none) : btB ls = false := by
  unfold btB
  cases e : (restS ls).all fun p => (bq (gnF pXR ls) (gnF pXI ls) p).isSome with
  | false => simp
  | true =>
    rw [List.all_eq_true] at e
    have := e _ (List.getElem_mem hk)
    rw [h] at this; cases this
theorem btB_all {ls : List (Nat × Nat)} (hg : gnB ls = true) (h : ∀ k (hk : k < (restS ls).length), (bq (gnF pXR ls) (gnF pXI ls) (restS ls)[k]).isSome = true) : btB ls = true := by
  unfold btB
  rw [hg, Bool.true_and, List.all_eq_true]
  intro p hp
  obtain ⟨k, hk, rfl⟩ := List.getElem_of_mem hp
  exact h k hk
theorem restS_len {ls : List (Nat × Nat)} (h : 27 ≤ ls.length) : (restS ls).length = ls.length - 26 := by unfold restS gnH; simp; omega
theorem bt_no {ls : List (Nat × Nat)} (h : btB ls = false) : btL ls = [] := by unfold btL; rw [h]; rfl

end Go.Proofs.Ytomgdlnpajfjhaa

/- A player that plays in order; no condition. -/
import Derived.Test.YtkjfcebdjnclaaaDoorFrm
import Derived.Test.YtkjfcebdjnclaaaDoorPti
import Derived.Test.YtkjfcebdjnclaaaDoorPyi
import Derived.Test.YtkjfcebdjnclaaaDoorVbL
namespace Go.Proofs.YtkjfcebdjnclaaaDoor
open Go.RowKit Go.ChangeShapes Go.WideShapes Go.ChangeAt
set_option linter.unusedVariables false
set_option linter.unusedSimpArgs false
set_option maxRecDepth 8000
/-- a player that plays in order -/
abbrev Tp (j : Nat) (L : Int) (x : Int) : Pl := ⟨j, 1, L, 0, x⟩
structure Tk (j : Nat) (k : Pk) : Prop where
  t : k.t = 30 * (j : Int)
  s : k.s = (j : Int)
  f : 0 ≤ k.f 0 ∧ k.f 0 ≤ 48
  b : PkBy k
structure Tb (j : Nat) (L x : Int) : Prop where
  j : j ≤ 100
  L : 0 ≤ L ∧ L ≤ 100
  x : -32767 ≤ x ∧ x ≤ 32767
theorem tp_ok {j : Nat} {L x : Int} (h : Tb j L x) : PlP (Tp j L x) := by
  have h1 := h.j; have h2 := h.L; have h3 := h.x
  refine ⟨⟨?_, ?_⟩, ⟨?_, ?_⟩, ⟨?_, ?_⟩, ⟨?_, ?_⟩, ?_, ?_⟩ <;> dsimp only <;> omega
theorem tk_pk {j : Nat} {k : Pk} (h : Tk j k) (hj : j ≤ 100) : pkB k = true := by
  rw [pkB_iff, h.t, h.s]; omega
theorem pc_nil (x : Int) : pcF [] x = 0 := rfl
theorem th_nil (x : Int) : thB [] x = false := rfl
theorem pc_one0 {j : Nat} {k : Pk} (h : Tk j k) : pcF [k] (j : Int) = 0 := by
  unfold pcF
  rw [List.takeWhile_cons, if_neg (by simp [h.s])]; rfl
theorem pc_one1 {j : Nat} {k : Pk} (h : Tk j k) : pcF [k] ((j : Int) + 1) = 1 := by
  unfold pcF
  rw [List.takeWhile_cons, if_pos (by simp [h.s]; omega)]; rfl
theorem th_one {j : Nat} {k : Pk} (h : Tk j k) : thB [k] (j : Int) = true := by
  unfold thB
  rw [pc_one0 h]
  simp [h.s]
theorem put_first {j : Nat} {k : Pk} {L x : Int} (h : Tk j k) (hb : Tb j L x) : PuP (Tp j L x) k [] ∧ puF (Tp j L x) k [] = (Tp j L x, [k]) := by
  refine ⟨⟨⟨tp_ok hb, fun i hi => by simp at hi⟩, tk_pk h hb.j, ?_⟩, ?_⟩
  · have := hb.L; dsimp only; omega
  · rw [puF, if_neg, h.s, pc_nil]
    · rfl
    · rintro (h1 | h1)
      · rw [th_nil] at h1; cases h1
      · apply h1; rw [h.s]; dsimp only; omega
theorem st_one {j : Nat} {k : Pk} (h : Tk j k) (hj : j ≤ 100) : StOk (j : Int) [k] := fun i hi => by
  have h0 : i = 0 := by simpa using hi
  subst h0
  refine ⟨tk_pk h hj, ?_, fun h => absurd h (Nat.lt_irrefl 0)⟩
  simp only [List.getElem_cons_zero, h.s]; omega
theorem put_again {j : Nat} {k : Pk} {L x : Int} (h : Tk j k) (hb : Tb j L x) : PuP (Tp j L x) k [k] ∧ puF (Tp j L x) k [k] = (Tp j (L + 1) x, [k]) := by
  refine ⟨⟨⟨tp_ok hb, st_one h hb.j⟩, tk_pk h hb.j, ?_⟩, ?_⟩
  · have := hb.L; dsimp only; omega
  · rw [puF, if_pos (.inl (by rw [h.s]; exact th_one h))]
/-- what is played, and the last of it -/
def twL (k : Pk) (j : Nat) (x : Int) : List Int := (lvF [k] (j : Int) x).1
def twX (k : Pk) (j : Nat) (x : Int) : Int := (twL k j x).getD 29 0
theorem tw_cok {j : Nat} {k : Pk} {L x : Int} (h : Tk j k) (hb : Tb j L x) : COk (x, k.f 0) := ⟨hb.x, h.f⟩
theorem tw_lv {j : Nat} {k : Pk} {L x : Int} (h : Tk j k) (hb : Tb j L x) : lvF [k] (j : Int) x = (exL (x, k.f 0) (frNs k.f 15), false) := by
  have h1 : thB [k] (j : Int) = true ∧ ∃ h : pcF [k] (j : Int) < [k].length, COk (x, ([k][pcF [k] (j : Int)]'h).f 0) := by
    refine ⟨th_one h, ?_⟩
    simp only [pc_one0 h]
    exact ⟨by simp, tw_cok h hb⟩
  rw [lvF, dif_pos h1]
  simp only [pc_one0 h, List.getElem_cons_zero]
theorem play_one {j : Nat} {k : Pk} {L x : Int} (h : Tk j k) (hb : Tb j L x) : PyP (Tp j L x) [k] ∧ pyF (Tp j L x) [k] = Tp (j + 1) L (twX k j x) ∧ [k].drop (pcF [k] ((Tp j L x).n + 1)) = [] ∧ (-32767 ≤ twX k j x ∧ twX k j x ≤ 32767) := by
  refine ⟨⟨⟨tp_ok hb, st_one h hb.j⟩, ?_, ?_⟩, ?_, ?_, ?_⟩
  · have := hb.j; dsimp only; omega
  · dsimp only; omega
  · have e := tw_lv h hb
    simp only [pyF, e, twX, twL]
    rfl
  · show [k].drop (pcF [k] ((j : Int) + 1)) = []
    rw [pc_one1 h]; rfl
  · have hc : COk (cdE (x, k.f 0) (frNs k.f 15)) := cdE_ok _ (tw_cok h hb)
    have hl : (lvF [k] (j : Int) x).1.length = 30 := lvF_len _ _ _
    rw [tw_lv h hb] at hl
    have := exLast (x, k.f 0) (frNs k.f 15) 29 (by rw [hl])
    unfold twX twL
    rw [tw_lv h hb, this]
    exact hc.1
theorem twL_len (k : Pk) (j : Nat) (x : Int) : (twL k j x).length = 30 := lvF_len _ _ _
theorem FmP.at {ls : List Pk} (h : FmP ls) (j : Nat) (hj : j < ls.length) : Tk j ls[j] := ⟨(h j hj).1, (h j hj).2.1, (h j hj).2.2.1, (h j hj).2.2.2⟩
/-- the contracts, at these -/
theorem put_t1 {j : Nat} {k : Pk} {L x : Int} (h : Tk j k) (hb : Tb j L x) (W : World) (u : Value) (hu : Rg 18 pkC W u []) : Calls Tryd.prog 27 #[.agg (plA (Tp j L x) u), .agg (pkA k)] W (PuR (Tp j L x) [k] true W) :=
  (putI_c (Tp j L x) k u [] W hu (by simp)).mono fun e w' hh => by have := hh.1 (put_first h hb).1; rw [(put_first h hb).2] at this; exact this
theorem put_t2 {j : Nat} {k : Pk} {L x : Int} (h : Tk j k) (hb : Tb j L x) (W : World) (u : Value) (hu : Rg 18 pkC W u [k]) : Calls Tryd.prog 27 #[.agg (plA (Tp j L x) u), .agg (pkA k)] W (PuR (Tp j (L + 1) x) [k] true W) :=
  (putI_c (Tp j L x) k u [k] W hu (by simp)).mono fun e w' hh => by have := hh.1 (put_again h hb).1; rw [(put_again h hb).2] at this; exact this
theorem play_t {j : Nat} {k : Pk} {L x : Int} (h : Tk j k) (hb : Tb j L x) (W : World) (u : Value) (hu : Rg 18 pkC W u [k]) (hG : ChG W) : Calls Tryd.prog 28 #[.agg (plA (Tp j L x) u)] W (PyR (Tp (j + 1) L (twX k j x)) [] (twL k j x) true W) :=
  (playI_c (Tp j L x) u [k] W hu (by simp) hG (fun q hq => by rw [List.mem_singleton] at hq; subst hq; exact h.b)).mono fun e w' hh => by
    have := hh.1 (play_one h hb).1
    rw [(play_one h hb).2.1, (play_one h hb).2.2.1] at this
    exact this
end Go.Proofs.YtkjfcebdjnclaaaDoor

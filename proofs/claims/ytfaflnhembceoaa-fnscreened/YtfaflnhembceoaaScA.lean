/- Who is screened; no condition. -/
import Derived.Test.YtfaflnhembceoaaHpA
namespace Go.Proofs.Ytfaflnhembceoaa
open Go.RowKit Go.ChangeShapes Go.WideShapes Go.ChangeAt
set_option linter.unusedVariables false
set_option linter.unusedSimpArgs false
set_option maxRecDepth 8000

theorem has7 {n : Int} : ∀ (fs : Fts), (∀ x ∈ fs, ftB n x = true) → decide (0 ≤ hasV fs 7) = fs.any (fun x => x.1 == 7)
  | [], _ => by decide
  | x :: r, h => by
    have ih := has7 r (fun y hy => h y (List.mem_cons_of_mem _ hy))
    rw [hasV, List.any_cons]
    by_cases e : x.1 = 7
    · rw [if_pos e]
      have hx := h x (List.mem_cons_self ..)
      obtain ⟨k, o⟩ := x
      simp only at e
      subst e
      rw [ftB_no (by decide) (by omega)] at hx
      simp only [decide_eq_true_eq] at hx
      subst hx
      simp
    · rw [if_neg e, ih]
      have : (x.1 == 7) = false := by simp [e]
      rw [this, Bool.false_or]
theorem turn_talk (pv : Bool) (f : Int) (s : Sb) (h : (turnF pv f s).1 = 1 ∨ (turnF pv f s).1 = 2 ∨ (turnF pv f s).1 = 3) : s.2.2.any (scF pv f) = false := by
  cases hq : s.2.2.any (scF pv f) with
  | false => rfl
  | true => unfold turnF at h; rw [if_pos hq] at h; simp at h
theorem goR_talk (cs : Sbs) (f : Nat) : ∀ (m t : Nat) (hops : List Int), ((goR cs f m t hops).1 = 1 ∨ (goR cs f m t hops).1 = 2 ∨ (goR cs f m t hops).1 = 3) → (fsOf cs (goR cs f m t hops).2.1.toNat).any (scF (prvB cs f) f) = false
  | 0, t, hops, h => by unfold goR at h; simp at h
  | m + 1, t, hops, h => by
    unfold goR at h ⊢
    by_cases h1 : stopB f t hops = true
    · rw [if_pos h1] at h; simp at h
    · rw [if_neg h1] at h ⊢
      by_cases h2 : (turnF (prvB cs f) f (cs.getD t sb0)).1 = 0
      · rw [if_pos h2] at h ⊢; exact goR_talk cs f m _ _ h
      · rw [if_neg h2] at h ⊢
        simp only [Int.toNat_natCast]
        exact turn_talk _ _ _ h
theorem rt_talk (cs : Sbs) (f t : Int) (h : (rtF cs f t).1 = 1 ∨ (rtF cs f t).1 = 2 ∨ (rtF cs f t).1 = 3) : (fsOf cs (rtF cs f t).2.1.toNat).any (scF (prvB cs f.toNat) f) = false := by
  unfold rtF at h ⊢
  by_cases hg : goodB cs f t
  · rw [if_pos hg] at h ⊢
    obtain ⟨-, ⟨f0, -⟩, -⟩ := hg
    by_cases hb : 0 ≤ hasV (fsOf cs f.toNat) 4
    · rw [if_pos hb] at h; simp at h
    · rw [if_neg hb] at h ⊢
      have := goR_talk cs f.toNat 7 t.toNat [] h
      rw [Int.toNat_of_nonneg f0] at this
      exact this
  · rw [if_neg hg] at h; simp at h
theorem rt_scr2 : rtF [(false, false, []), (false, false, [(5, 0)])] 0 1 = (6, 1, []) := by decide +kernel
theorem fld29 (c a : Int) (v : Value) (w : World) : (Instr.field 29 (.agg (O3 c a v)) 0).run Try.prog w = .ok (.int .i64 c) w := by kernel_rfl
end Go.Proofs.Ytfaflnhembceoaa

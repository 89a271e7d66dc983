/- Packets from a place on; no condition. -/
import Derived.Test.YtkjfcebdjnclaaaDoorFad
namespace Go.Proofs.YtkjfcebdjnclaaaDoor
open Go.RowKit Go.ChangeShapes Go.WideShapes Go.ChangeAt
set_option linter.unusedVariables false
set_option linter.unusedSimpArgs false
set_option maxRecDepth 8000
theorem sl_from (a : Option Addr) (n cap j : Nat) (hj : j ≤ n) (W : World) : (Instr.slice 36 (.slice a n cap) (some (.int .i64 (j : Int))) none none).run Tryd.prog W = .ok (sliced a j n cap 18) W := by
  rw [run_slice_l (P := Tryd.prog) W 36 a n cap (by kernel_rfl) .i64 (j : Int) (by omega) (by omega)]
  have : (sizeOf (Tryd.prog.elem 36)).run Tryd.prog W = .ok 18 W := by kernel_rfl
  rw [this]; rfl
theorem sl_to (a : Option Addr) (n cap j : Nat) (hj : j ≤ cap) (W : World) : (Instr.slice 36 (.slice a n cap) none (some (.int .i64 (j : Int))) none).run Tryd.prog W = .ok (sliced a 0 j cap 18) W := by
  rw [run_slice_h (P := Tryd.prog) W 36 a n cap (by kernel_rfl) .i64 (j : Int) (by omega) (by omega)]
  have : (sizeOf (Tryd.prog.elem 36)).run Tryd.prog W = .ok 18 W := by kernel_rfl
  rw [this]; rfl
theorem add_plain (b off k : Nat) : (⟨b, off, none⟩ : Addr).add k = ⟨b, off + k, none⟩ := by unfold Addr.add; split <;> simp_all
/-- packets from a place on, and up to it -/
theorem rg_from {w : World} {a : Option Addr} {cap : Nat} {ls : List Pk} (h : Rg 18 pkC w (.slice a ls.length cap) ls) (j : Nat) (hj : j ≤ ls.length) : Rg 18 pkC w (sliced a j ls.length cap 18) (ls.drop j) := by
  obtain ⟨a2, c2, hv, h1, h2, h3⟩ := h
  injection hv with e1 e2 e3
  subst e1; subst e3
  by_cases hlt : j = ls.length
  · refine ⟨_, cap - j, by unfold sliced; rw [List.length_drop], by rw [List.length_drop]; omega, by omega, .inl (by rw [hlt, List.drop_length])⟩
  · rcases h3 with rfl | ⟨b, off, rfl, h4⟩
    · simp at hj; exact absurd (by simpa using hj) hlt
    have := Rg.drop h4 h1 h2 j hj
    unfold sliced
    rw [if_neg (by omega), Option.map_some, add_plain]
    exact this
theorem rg_to {w : World} {a : Option Addr} {cap : Nat} {ls : List Pk} (h : Rg 18 pkC w (.slice a ls.length cap) ls) (j : Nat) (hj : j ≤ ls.length) : Rg 18 pkC w (sliced a 0 j cap 18) (ls.take j) := by
  obtain ⟨a2, c2, hv, h1, h2, h3⟩ := h
  injection hv with e1 e2 e3
  subst e1; subst e3
  rcases h3 with rfl | ⟨b, off, rfl, h4⟩
  · obtain rfl : j = 0 := by simpa using hj
    exact ⟨_, cap, rfl, by simp, h2, .inl rfl⟩
  · have := Rg.take h4 h1 h2 j hj
    have e : sliced (some ⟨b, off, none⟩) 0 j cap 18 = .slice (some ⟨b, off, none⟩) j cap := by
      unfold sliced
      split
      · simp
      · simp [add_plain]
    rw [e]; exact this
theorem own_sliced (a : Option Addr) (l h m s : Nat) : (sliced a l h m s).ownBlock = (Value.slice a h m).ownBlock := by
  unfold sliced
  split
  · cases a <;> rfl
  · cases a with
    | none => rfl
    | some ad => obtain ⟨b, o, sp⟩ := ad; simp [Value.ownBlock, Addr.add]; split <;> rfl
theorem sliced_form (a : Option Addr) (l h m s : Nat) : ∃ a', sliced a l h m s = .slice a' (h - l) (m - l) := ⟨_, rfl⟩
end Go.Proofs.YtkjfcebdjnclaaaDoor

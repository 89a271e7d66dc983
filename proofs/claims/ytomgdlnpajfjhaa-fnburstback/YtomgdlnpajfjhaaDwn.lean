/- Drawn gains and noise as numbers; no condition. -/
import Derived.Test.YtomgdlnpajfjhaaBai
import Derived.Test.YtomgdlnpajfjhaaDws
import Derived.Test.YtomgdlnpajfjhaaExa
namespace Go.Proofs.Ytomgdlnpajfjhaa
open Go.RowKit Go.ChangeShapes Go.WideShapes Go.ChangeAt
set_option linter.unusedVariables false
set_option linter.unusedSimpArgs false
set_option maxRecDepth 8000

theorem mulS0 : ∀ x, x < 5 → ∀ y, y < 2 → floatBits .mul .f32 (fi .f32 (1 + (x : Nat))) (fi .f32 (2 * (y : Nat) - 1)) = some (wE .f32 6 (decide (y = 0)) (64 * (1 + x))) := by decide +kernel
theorem quoS0 : ∀ z, z < 11 → floatBits .quo .f32 (fi .f32 ((z : Nat) - 5)) 1073741824 = some (wE .f32 6 (decide (z < 5)) (32 * ((z : Int) - 5).natAbs)) := by decide +kernel
theorem quoN0 : ∀ z, z < 17 → floatBits .quo .f32 (fi .f32 ((z : Nat) - 8)) 1115684864 = some (wE .f32 6 (decide (z < 8)) (((z : Int) - 8).natAbs)) := by decide +kernel
theorem run_some {P : Program} (op : BinOp) (hop : op = .add ∨ op = .sub ∨ op = .mul ∨ op = .quo) {k : FloatKind} {a b r : Nat} (h : floatBits op k a b = some r) (t : TypeId) (w : World) : (binOp op t (.float k a) (.float k b)).run P w = .ok (.float k r) w := by
  rw [run_fop op hop]
  unfold fv fn
  rw [h]
  rfl
theorem mulS {P : Program} (x y : Int) (x0 : 0 ≤ x) (x1 : x < 5) (y0 : 0 ≤ y) (y1 : y < 2) : ∃ r G, (∀ t w, (binOp .mul t (.float .f32 (floatOfInt .f32 (1 + x))) (.float .f32 (floatOfInt .f32 (2 * y - 1)))).run P w = .ok (.float .f32 r) w) ∧ Dy .f32 6 r G ∧ 64 ≤ G.natAbs ∧ G.natAbs ≤ 320 := by
  obtain ⟨m, rfl⟩ := Int.eq_ofNat_of_zero_le x0
  obtain ⟨n, rfl⟩ := Int.eq_ofNat_of_zero_le y0
  refine ⟨_, _, fun t w => run_some .mul (by simp) (mulS0 m (by omega) n (by omega)) t w, ⟨_, _, rfl, rfl, by omega⟩, ?_, ?_⟩ <;> rw [sg_abs] <;> omega
theorem quoS {P : Program} (z : Int) (z0 : 0 ≤ z) (z1 : z < 11) : ∃ r G, (∀ t w, (binOp .quo t (.float .f32 (floatOfInt .f32 (z - 5))) (.float .f32 1073741824)).run P w = .ok (.float .f32 r) w) ∧ Dy .f32 6 r G ∧ G.natAbs ≤ 160 := by
  obtain ⟨m, rfl⟩ := Int.eq_ofNat_of_zero_le z0
  refine ⟨_, _, fun t w => run_some .quo (by simp) (quoS0 m (by omega)) t w, ⟨_, _, rfl, rfl, by omega⟩, ?_⟩
  rw [sg_abs]; omega
theorem quoN {P : Program} (z : Int) (z0 : 0 ≤ z) (z1 : z < 17) : ∃ r G, (∀ t w, (binOp .quo t (.float .f32 (floatOfInt .f32 (z - 8))) (.float .f32 1115684864)).run P w = .ok (.float .f32 r) w) ∧ Dy .f32 6 r G ∧ G.natAbs ≤ 8 := by
  obtain ⟨m, rfl⟩ := Int.eq_ofNat_of_zero_le z0
  refine ⟨_, _, fun t w => run_some .quo (by simp) (quoN0 m (by omega)) t w, ⟨_, _, rfl, rfl, by omega⟩, ?_⟩
  rw [sg_abs]; omega
/-- a gain as it is drawn -/
def GnD (p q : Nat) (GR GI : Int) : Prop := Dy .f32 6 p GR ∧ Dy .f32 6 q GI ∧ GR.natAbs + GI.natAbs ≤ 480 ∧ GR.natAbs ≤ 320 ∧ GI.natAbs ≤ 320 ∧ (64 ≤ GR.natAbs ∨ 64 ≤ GI.natAbs)
theorem GnD.of {p q : Nat} {a b : Int} (h1 : Dy .f32 6 p a) (h2 : Dy .f32 6 q b) (a0 : 64 ≤ a.natAbs) (a1 : a.natAbs ≤ 320) (b1 : b.natAbs ≤ 160) : GnD p q a b ∧ GnD q p b a := ⟨⟨h1, h2, by omega, a1, by omega, .inl a0⟩, ⟨h2, h1, by omega, by omega, a1, .inr a0⟩⟩
/-- noise as it is drawn -/
def NsD (M : List (Nat × Nat)) : Prop := ∀ p ∈ M, ∃ a b : Int, Dy .f32 6 p.1 a ∧ Dy .f32 6 p.2 b ∧ a.natAbs ≤ 8 ∧ b.natAbs ≤ 8
theorem NsD.app {M : List (Nat × Nat)} {x y : Nat} {a b : Int} (h : NsD M) (h1 : Dy .f32 6 x a) (h2 : Dy .f32 6 y b) (h3 : a.natAbs ≤ 8) (h4 : b.natAbs ≤ 8) : NsD (M ++ [(x, y)]) := fun p hp => by
  rcases List.mem_append.1 hp with h0 | h0
  · exact h p h0
  · simp at h0; subst h0; exact ⟨a, b, h1, h2, h3, h4⟩

end Go.Proofs.Ytomgdlnpajfjhaa

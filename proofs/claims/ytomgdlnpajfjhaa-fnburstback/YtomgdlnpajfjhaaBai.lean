/- The air over dyadic samples; no condition. -/
import Derived.Test.YtomgdlnpajfjhaaBbk
import Derived.Test.YtomgdlnpajfjhaaLea
namespace Go.Proofs.Ytomgdlnpajfjhaa
open Go.RowKit Go.ChangeShapes Go.WideShapes Go.ChangeAt
set_option linter.unusedVariables false
set_option linter.unusedSimpArgs false
set_option maxRecDepth 8000

/-- a sample times the gain, and the noise -/
def AR (s g n o : Nat × Nat) : Prop := ∃ x y, PR s.1 s.2 g.1 g.2 x y ∧ fc .f32 o.1 = fo .add .f32 (fc .f32 x) (fc .f32 n.1) ∧ fc .f32 o.2 = fo .add .f32 (fc .f32 y) (fc .f32 n.2)
theorem dy_of_fc {e o : Nat} {A : Option Nat} {a : Int} (h : fc .f32 o = A) (hA : DyO .f32 e A a) : Dy .f32 e o a := by
  obtain ⟨x, rfl, hx⟩ := hA
  rcases fc_cases .f32 o with ⟨h1, h2⟩ | ⟨h1, h2⟩
  · rw [h2] at h; cases h
  · rw [h2] at h; cases h; exact hx
theorem pm_abs {s x : Int} (h : s = 1 ∨ s = -1) : (s * x).natAbs = x.natAbs := by rcases h with rfl | rfl <;> omega
theorem air_dy {s g n o : Nat × Nat} {σ τ GR GI a b : Int} (h : AR s g n o) (hσ : σ = 1 ∨ σ = -1) (hτ : τ = 1 ∨ τ = -1) (hG : GR.natAbs + GI.natAbs ≤ 480) (ha : a.natAbs ≤ 8) (hb : b.natAbs ≤ 8)
    (s1 : Dy .f32 0 s.1 σ) (s2 : Dy .f32 0 s.2 τ) (g1 : Dy .f32 6 g.1 GR) (g2 : Dy .f32 6 g.2 GI) (n1 : Dy .f32 6 n.1 a) (n2 : Dy .f32 6 n.2 b) :
    Dy .f32 6 o.1 (σ * GR - τ * GI + a) ∧ Dy .f32 6 o.2 (σ * GI + τ * GR + b) := by
  obtain ⟨x, y, ⟨p1, p2⟩, o1, o2⟩ := h
  have k1 := pm_abs (x := GR) hσ
  have k2 := pm_abs (x := GI) hσ
  have k3 := pm_abs (x := GR) hτ
  have k4 := pm_abs (x := GI) hτ
  have m1 : DyO .f64 6 _ (σ * GR) := DyO.mul (k := .f64) (e := 0) (e' := 6) (by omega) (by omega) (DyO.wid (by omega) s1.fc) (DyO.wid (by omega) g1.fc) (by omega)
  have m2 : DyO .f64 6 _ (τ * GI) := DyO.mul (k := .f64) (e := 0) (e' := 6) (by omega) (by omega) (DyO.wid (by omega) s2.fc) (DyO.wid (by omega) g2.fc) (by omega)
  have m3 : DyO .f64 6 _ (σ * GI) := DyO.mul (k := .f64) (e := 0) (e' := 6) (by omega) (by omega) (DyO.wid (by omega) s1.fc) (DyO.wid (by omega) g2.fc) (by omega)
  have m4 : DyO .f64 6 _ (τ * GR) := DyO.mul (k := .f64) (e := 0) (e' := 6) (by omega) (by omega) (DyO.wid (by omega) s2.fc) (DyO.wid (by omega) g1.fc) (by omega)
  have d1 := (DyO.sub (by omega) m1 m2 (by omega)).nar (by omega) p1
  have d2 := (DyO.add (by omega) m3 m4 (by omega)).nar (by omega) p2
  exact ⟨dy_of_fc o1 (DyO.add (by omega) d1.fc n1.fc (by omega)), dy_of_fc o2 (DyO.add (by omega) d2.fc n2.fc (by omega))⟩
/-- the air, sample by sample -/
theorem air_v {L N air : List (Nat × Nat)} {g : Nat × Nat} {GR GI : Int} {a b : Nat → Int} (hl : air.length = L.length) (h : ∀ k, k < air.length → AR (L.getD k (0, 0)) g (N.getD k (0, 0)) (air.getD k (0, 0)))
    (hG : GR.natAbs + GI.natAbs ≤ 480) (ha : ∀ k, (a k).natAbs ≤ 8) (hb : ∀ k, (b k).natAbs ≤ 8) (g1 : Dy .f32 6 g.1 GR) (g2 : Dy .f32 6 g.2 GI)
    (hN : ∀ k, k < air.length → Dy .f32 6 (N.getD k (0, 0)).1 (a k) ∧ Dy .f32 6 (N.getD k (0, 0)).2 (b k)) : AirV L GR GI a b air :=
  ⟨hl, fun k hk s t hs ht d1 d2 => air_dy (h k hk) hs ht hG (ha k) (hb k) d1 d2 g1 g2 (hN k hk).1 (hN k hk).2⟩
theorem zero32 (e : Nat) : Dy .f32 e 0 0 := by
  refine ⟨false, 0, ?_, rfl, by omega⟩
  show 0 = FloatKind.f32.format.nearest false 0 (-(e : Int))
  unfold Ieee.Format.nearest
  rw [if_pos rfl]; decide +kernel
/-- floats of one value are equal or zeros -/
theorem Dy.eq {e x y : Nat} {a : Int} (hx : Dy .f32 e x a) (hy : Dy .f32 e y a) (h : a ≠ 0) : x = y := by
  obtain ⟨s, n, rfl, rfl, hn⟩ := hx
  obtain ⟨t, m, rfl, e2, hm⟩ := hy
  have h1 : n = m := by have := congrArg Int.natAbs e2; rw [sg_abs, sg_abs] at this; exact this.symm
  subst h1
  have h0 : n ≠ 0 := fun e => h (by rw [e]; unfold sg; cases s <;> rfl)
  have : s = t := by unfold sg at e2; cases s <;> cases t <;> simp at e2 ⊢ <;> omega
  rw [this]

end Go.Proofs.Ytomgdlnpajfjhaa

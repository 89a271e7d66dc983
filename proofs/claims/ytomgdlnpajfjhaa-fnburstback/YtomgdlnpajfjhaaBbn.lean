/- The bits and the gain come back, as numbers; no condition. -/
import Derived.Test.YtomgdlnpajfjhaaDaw
import Derived.Test.YtomgdlnpajfjhaaAir
import Derived.Test.YtomgdlnpajfjhaaBbk
namespace Go.Proofs.Ytomgdlnpajfjhaa
open Go.RowKit Go.ChangeShapes Go.WideShapes Go.ChangeAt
set_option linter.unusedVariables false
set_option linter.unusedSimpArgs false
set_option maxRecDepth 8000

theorem DyO.narU {e : Nat} {A : Option Nat} {a : Int} (he : e ≤ 40) (h : DyO .f64 e A a) : ∃ x, Dy .f32 e x a ∧ ∀ y, NA A y → y = x := by
  obtain ⟨x, rfl, s, n, rfl, rfl, hb⟩ := h
  obtain ⟨i, hi, -⟩ := read_nearestE (fitE .f64 e he) s n (Nat.lt_of_lt_of_le hb (bk .f64))
  obtain ⟨j, hj, -⟩ := read_nearestE (fitE .f32 e he) s n (Nat.lt_of_lt_of_le hb (bk .f32))
  have he2 : FloatKind.f32.encode (.number s (n <<< i) (-((e + i : Nat) : Int))) = wE .f32 e s n := nearest_shiftE (fitE .f32 e he) s n i (Nat.lt_of_lt_of_le hb (bk .f32))
  refine ⟨wE .f32 e s n, ⟨s, n, rfl, rfl, hb⟩, fun y hn => ?_⟩
  unfold NA at hn
  simp only at hn
  rw [show FloatKind.f64.decode (wE .f64 e s n) = _ from hi] at hn
  simp only [he2] at hn
  rw [show FloatKind.f32.decode (wE .f32 e s n) = _ from hj] at hn
  exact hn rfl
theorem zero_order : ∀ s t : Bool, FloatKind.f32.format.order (wE .f32 6 s 0) (wE .f32 6 t 0) = some .eq := by decide +kernel
theorem dy_order {x y : Nat} {a : Int} (hx : Dy .f32 6 x a) (hy : Dy .f32 6 y a) : FloatKind.f32.format.order x y = some .eq := by
  by_cases h : a = 0
  · subst h
    obtain ⟨s, n, rfl, e1, -⟩ := hx
    obtain ⟨t, m, rfl, e2, -⟩ := hy
    have n0 : n = 0 := by have := congrArg Int.natAbs e1; rw [sg_abs] at this; exact this
    have m0 : m = 0 := by have := congrArg Int.natAbs e2; rw [sg_abs] at this; exact this
    subst n0 m0
    exact zero_order s t
  · have e := Dy.eq hx hy h
    subst e
    obtain ⟨s, n, rfl, -, -⟩ := hx
    exact order_self (wE_nan ..)
/-- noise as functions of the place -/
theorem NsD.fn {M : List (Nat × Nat)} (h : NsD M) : ∃ a b : Nat → Int, (∀ k, (a k).natAbs ≤ 8) ∧ (∀ k, (b k).natAbs ≤ 8) ∧ ∀ k, k < M.length → Dy .f32 6 (M.getD k (0, 0)).1 (a k) ∧ Dy .f32 6 (M.getD k (0, 0)).2 (b k) := by
  have h1 : ∀ k : Nat, ∃ x : Int × Int, x.1.natAbs ≤ 8 ∧ x.2.natAbs ≤ 8 ∧ (k < M.length → Dy .f32 6 (M.getD k (0, 0)).1 x.1 ∧ Dy .f32 6 (M.getD k (0, 0)).2 x.2) := fun k => by
    by_cases hk : k < M.length
    · rw [getD_at M k _ hk]
      obtain ⟨a, b, h1, h2, h3, h4⟩ := h _ (List.getElem_mem hk)
      exact ⟨(a, b), h3, h4, fun _ => ⟨h1, h2⟩⟩
    · exact ⟨(0, 0), by decide, by decide, fun e => absurd e hk⟩
  obtain ⟨f, hf⟩ := Classical.axiomOfChoice h1
  exact ⟨fun k => (f k).1, fun k => (f k).2, fun k => (hf k).1, fun k => (hf k).2.1, fun k hk => (hf k).2.2 hk⟩
theorem brB_of {zs : List Int} (h : 2 ≤ zs.length ∧ zs.length ≤ 80 ∧ zs.length % 2 = 0) (hz : ∀ z ∈ zs, 0 ≤ z ∧ z ≤ 1) : brB zs = true := by
  have hb : bsB zs = true := by unfold bsB; rw [List.all_eq_true]; intro z hm; rw [decide_eq_true_eq]; exact hz z hm
  unfold brB
  rw [hb, decide_eq_true (show 2 ≤ (zs.length : Int) by omega), decide_eq_true (show (zs.length : Int) ≤ 320 by omega), decide_eq_true h.2.2]; rfl
theorem bit_or {zs : List Int} (hz : ∀ z ∈ zs, 0 ≤ z ∧ z ≤ 1) (k : Nat) : zs.getD k 0 = 0 ∨ zs.getD k 0 = 1 := by
  by_cases hk : k < zs.length
  · have := hz _ (List.getElem_mem hk)
    rw [getD_at zs k _ hk]; omega
  · rw [List.getD_eq_getElem?_getD, List.getElem?_eq_none (by omega)]; exact .inl rfl
/-- the bits come back -/
theorem back_bits {zs : List Int} {p q : Nat} {GR GI : Int} {M air : List (Nat × Nat)} (hl : 2 ≤ zs.length ∧ zs.length ≤ 80 ∧ zs.length % 2 = 0) (hz : ∀ z ∈ zs, 0 ≤ z ∧ z ≤ 1) (hg : GnD p q GR GI) (hN : NsD M) (hml : M.length = zs.length / 2 + 26)
    (hal : air.length = (brL zs).length) (har : ∀ k, k < (brL zs).length → AR ((brL zs).getD k (0, 0)) (p, q) (M.getD k (0, 0)) (air.getD k (0, 0))) : btB air = true ∧ btL air = zs := by
  have hb := brB_of hl hz
  obtain ⟨a, b, ha, hbb, hn⟩ := hN.fn
  have hbl := brL_len hb
  have hv : AirV (brL zs) GR GI a b air := air_v (g := (p, q)) (N := M) hal (fun k hk => har k (by rw [← hal]; exact hk)) hg.2.2.1 ha hbb hg.1 hg.2.1 (fun k hk => hn k (by rw [hml, ← hbl, ← hal]; exact hk))
  exact bits_back hb (bit_or hz) hv (by omega) hg.2.2.1 hg.2.2.2.1 hg.2.2.2.2.1 hg.2.2.2.2.2 ha hbb hl.1 hl.2.2
/-- the gain is told as it is -/
theorem back_gain {zs : List Int} {p q : Nat} {GR GI : Int} {air : List (Nat × Nat)} {n : Nat} (hl : 2 ≤ zs.length ∧ zs.length ≤ 80 ∧ zs.length % 2 = 0) (hz : ∀ z ∈ zs, 0 ≤ z ∧ z ≤ 1) (hg : GnD p q GR GI)
    (hal : air.length = (brL zs).length) (har : ∀ k, k < (brL zs).length → AR ((brL zs).getD k (0, 0)) (p, q) ((List.replicate n ((0, 0) : Nat × Nat)).getD k (0, 0)) (air.getD k (0, 0))) :
    gnB air = true ∧ ∃ x y, (∀ y', NA (gnF pXR air) y' → y' = x) ∧ (∀ y', NA (gnF pXI air) y' → y' = y) ∧ FloatKind.f32.format.order x p = some .eq ∧ FloatKind.f32.format.order y q = some .eq := by
  have hb := brB_of hl hz
  have hbl := brL_len hb
  have hz0 : ∀ k, (List.replicate n ((0, 0) : Nat × Nat)).getD k (0, 0) = (0, 0) := fun k => by
    by_cases hk : k < n
    · rw [getD_at _ _ _ (by simp; exact hk)]; simp
    · rw [List.getD_eq_getElem?_getD, List.getElem?_eq_none (by simp; omega)]; rfl
  have hv : AirV (brL zs) GR GI (fun _ => 0) (fun _ => 0) air := air_v (g := (p, q)) (N := List.replicate n (0, 0)) hal (fun k hk => har k (by rw [← hal]; exact hk)) hg.2.2.1 (fun _ => by decide) (fun _ => by decide) hg.1 hg.2.1 (fun k hk => by rw [hz0]; exact ⟨zero32 6, zero32 6⟩)
  obtain ⟨h1, h2, h3⟩ := gain_back hb hv (by omega) hg.2.2.1 hl.1
  obtain ⟨x, hx, ux⟩ := h2.narU (by omega)
  obtain ⟨y, hy, uy⟩ := h3.narU (by omega)
  exact ⟨h1, x, y, ux, uy, dy_order hx hg.1, dy_order hy hg.2.1⟩

end Go.Proofs.Ytomgdlnpajfjhaa

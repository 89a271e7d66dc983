/- One act of a trunk's day; no condition. -/
import Derived.Test.YtkehcalijamhjaaTdM
import Derived.Test.YtkehcalijamhjaaCaM
import Derived.Test.YtkehcalijamhjaaSzI
import Derived.Test.YtkehcalijamhjaaSzM
import Derived.Test.YtkehcalijamhjaaLvI
import Derived.Test.YtkehcalijamhjaaLvX
namespace Go.Proofs.Ytkehcalijamhjaa
open Go.RowKit Go.ChangeShapes Go.WideShapes Go.ChangeAt
set_option linter.unusedVariables false
set_option linter.unusedSimpArgs false
set_option maxRecDepth 8000
theorem Day.sum {n : Nat} {t : Ts} (h : Day n t) : (t.z0.length : Int) + t.z1.length + (t.n0.length + t.n1.length) ≤ 1048576 := by
  have h1 := h.ways
  have h2 := h.ok.2.1
  have h3 := h.len
  have h4 := h.few
  omega
theorem Day.sz0 {n : Nat} {t : Ts} (h : Day n t) {asked left : Int} (ha : Acc t asked left) (hok : SzOk0 t.z0 t.z1 t.l0 t.l1 t.n0 t.n1) : Day n (Ts.mk t.l0 t.l1 (t.z0.set (freeF t.z0 0).toNat 1) t.z1 t.n0 (t.n1 ++ [(1, freeF t.z0 0)])) ∧ Acc (Ts.mk t.l0 t.l1 (t.z0.set (freeF t.z0 0).toNat 1) t.z1 t.n0 (t.n1 ++ [(1, freeF t.z0 0)])) (asked + 1) left := by
  obtain ⟨-, h1, -⟩ := hok
  obtain ⟨h2, h3⟩ := freeF_free t.z0 0 h1
  obtain ⟨m, hm⟩ := Int.eq_ofNat_of_zero_le h1
  rw [hm] at h2 h3 ⊢
  have e : ((m : Nat) : Int).toNat = m := Int.toNat_natCast m
  rw [show (Int.toNat (m : Int)) = m from e] at *
  have hl : t.z0.length = n := by have := h.ok.2.1; have := h.len; omega
  refine ⟨h.seize0 m (by omega) h3, ?_, ha.2⟩
  have h5 := cnt_set t.z0 m 1 h2
  rw [h3] at h5
  have h6 := ha.1
  simp at h5
  simp only
  omega
theorem Day.lv0 {n : Nat} {t : Ts} (h : Day n t) {asked left : Int} (ha : Acc t asked left) (c : Int) (hok : LvOk0 c t.z0 t.z1 t.l0 t.l1 t.n0 t.n1) : Day n (Ts.mk t.l0 t.l1 (t.z0.set c.toNat 4) t.z1 t.n0 (t.n1 ++ [(4, c)])) ∧ Acc (Ts.mk t.l0 t.l1 (t.z0.set c.toNat 4) t.z1 t.n0 (t.n1 ++ [(4, c)])) asked (left + 1) := by
  obtain ⟨-, h1, h3, -⟩ := hok
  obtain ⟨m, hm⟩ := Int.eq_ofNat_of_zero_le h1.1
  subst hm
  have e : ((m : Nat) : Int).toNat = m := Int.toNat_natCast m
  rw [show (Int.toNat (m : Int)) = m from e] at *
  have hl : t.z0.length = n := by have := h.ok.2.1; have := h.len; omega
  have hl0 := h.len
  refine ⟨h.leave0 m (by omega) h3, ?_, by have := ha.2; omega⟩
  have h5 := cnt_set t.z0 m 4 (by omega)
  rw [h3] at h5
  have h6 := ha.1
  simp at h5
  simp only
  omega
theorem Day.ca0 {n : Nat} {t : Ts} (h : Day n t) {asked left : Int} (ha : Acc t asked left) (hok : CaOk0 t.z0 t.z1 t.l0 t.l1 t.n0 t.n1) : Day n t.c0 ∧ Acc t.c0 asked left := by
  have hne : t.n0.length ≠ 0 := by have := hok.2.1; omega
  have hA := (Ts.ca0 t h.ok hne).1 hok
  cases hn : t.n0 with
  | nil => rw [hn] at hne; exact absurd rfl hne
  | cons x ns =>
    obtain ⟨kd, m, rfl, -, -⟩ := (t.head h.ok).1 x ns hn
    exact ⟨h.carry0 kd m ns hn hA, ha.carry0 h.ok kd m ns hn⟩
theorem Day.sz1 {n : Nat} {t : Ts} (h : Day n t) {asked left : Int} (ha : Acc t asked left) (hok : SzOk1 t.z0 t.z1 t.l0 t.l1 t.n0 t.n1) : Day n (Ts.mk t.l0 t.l1 t.z0 (t.z1.set (freeF t.z1 1).toNat 1) (t.n0 ++ [(1, freeF t.z1 1)]) t.n1) ∧ Acc (Ts.mk t.l0 t.l1 t.z0 (t.z1.set (freeF t.z1 1).toNat 1) (t.n0 ++ [(1, freeF t.z1 1)]) t.n1) (asked + 1) left := by
  obtain ⟨-, h1, -⟩ := hok
  obtain ⟨h2, h3⟩ := freeF_free t.z1 1 h1
  obtain ⟨m, hm⟩ := Int.eq_ofNat_of_zero_le h1
  rw [hm] at h2 h3 ⊢
  have e : ((m : Nat) : Int).toNat = m := Int.toNat_natCast m
  rw [show (Int.toNat (m : Int)) = m from e] at *
  have hl : t.z1.length = n := by have := h.ok.2.1; have := h.len; omega
  refine ⟨h.seize1 m (by omega) h3, ?_, ha.2⟩
  have h5 := cnt_set t.z1 m 1 h2
  rw [h3] at h5
  have h6 := ha.1
  simp at h5
  simp only
  omega
theorem Day.lv1 {n : Nat} {t : Ts} (h : Day n t) {asked left : Int} (ha : Acc t asked left) (c : Int) (hok : LvOk1 c t.z0 t.z1 t.l0 t.l1 t.n0 t.n1) : Day n (Ts.mk t.l0 t.l1 t.z0 (t.z1.set c.toNat 4) (t.n0 ++ [(4, c)]) t.n1) ∧ Acc (Ts.mk t.l0 t.l1 t.z0 (t.z1.set c.toNat 4) (t.n0 ++ [(4, c)]) t.n1) asked (left + 1) := by
  obtain ⟨-, h1, h3, -⟩ := hok
  obtain ⟨m, hm⟩ := Int.eq_ofNat_of_zero_le h1.1
  subst hm
  have e : ((m : Nat) : Int).toNat = m := Int.toNat_natCast m
  rw [show (Int.toNat (m : Int)) = m from e] at *
  have hl : t.z1.length = n := by have := h.ok.2.1; have := h.len; omega
  have hl0 := h.len
  refine ⟨h.leave1 m (by omega) h3, ?_, by have := ha.2; omega⟩
  have h5 := cnt_set t.z1 m 4 (by omega)
  rw [h3] at h5
  have h6 := ha.1
  simp at h5
  simp only
  omega
theorem Day.ca1 {n : Nat} {t : Ts} (h : Day n t) {asked left : Int} (ha : Acc t asked left) (hok : CaOk1 t.z0 t.z1 t.l0 t.l1 t.n0 t.n1) : Day n t.c1 ∧ Acc t.c1 asked left := by
  have hne : t.n1.length ≠ 0 := by have := hok.2.1; omega
  have hA := (Ts.ca1 t h.ok hne).1 hok
  cases hn : t.n1 with
  | nil => rw [hn] at hne; exact absurd rfl hne
  | cons x ns =>
    obtain ⟨kd, m, rfl, -, -⟩ := (t.head h.ok).2 x ns hn
    exact ⟨h.carry1 kd m ns hn hA, ha.carry1 h.ok kd m ns hn⟩
end Go.Proofs.Ytkehcalijamhjaa

/- Sizes of dyadic floats, and signs that come back; no condition. -/
import Derived.Test.YtomgdlnpajfjhaaFsg
import Derived.Test.YtomgdlnpajfjhaaDya
import Derived.Test.YtomgdlnpajfjhaaSng
import Derived.Test.YtomgdlnpajfjhaaGna
namespace Go.Proofs.Ytomgdlnpajfjhaa
open Go.RowKit Go.ChangeShapes Go.WideShapes Go.ChangeAt
set_option linter.unusedVariables false
set_option linter.unusedSimpArgs false
set_option maxRecDepth 8000

theorem Dy.fn {e x : Nat} {a : Int} (he : e ≤ 40) (h : Dy .f64 e x a) : FN x (a * (2 ^ (200 - e) : Nat)) := by
  obtain ⟨s, n, rfl, rfl, hn⟩ := h
  by_cases h0 : n = 0
  · subst h0
    have e1 : wE .f64 e s 0 = F6.word s 0 := near0 s _
    rw [e1]
    have e2 : sg s 0 * ((2 ^ (200 - e) : Nat) : Int) = 0 := by unfold sg; cases s <;> simp
    rw [e2]; exact FN.zero s
  · have hL : n.log2 < 24 := (Nat.log2_lt h0).2 (by omega)
    obtain ⟨kp, m', p', hr, k1, k2, k3, k4⟩ := round64 s n (-(e : Int)) (by omega) (by omega) (by omega)
    have hk : kp = n * 2 ^ (52 - n.log2) := by
      rcases k4 with ⟨_, h⟩ | ⟨h, _⟩
      · exact h
      · omega
    have hs := sc_round m' kp p' (-(e : Int) + n.log2 - 52) (by omega) (by omega)
    have hs2 : sc m' p' = n * 2 ^ (200 - e) := by
      rw [hs, hk, Nat.mul_assoc, ← Nat.pow_add]
      congr 2
      omega
    refine ⟨s, m', p', hr, .inr ⟨by omega, by omega, by omega, by omega, ?_⟩⟩
    unfold sv sg
    rw [hs2]
    cases s <;> simp [Int.neg_mul]
theorem sq_le (c : Nat) : 1248 * c ≤ c * c + 389376 := by
  by_cases h : c ≤ 624
  · obtain ⟨k, hk⟩ : ∃ k, k + c = 624 := ⟨624 - c, by omega⟩
    have : (k + c) * (k + c) = 389376 := by rw [hk]
    rw [Nat.mul_add, Nat.add_mul, Nat.add_mul] at this
    have e : 1248 * c = 2 * ((k + c) * c) := by rw [hk]; omega
    rw [e, Nat.add_mul, Nat.mul_comm k c]
    rw [Nat.mul_comm k c] at this
    omega
  · obtain ⟨k, hk⟩ : ∃ k, c = 624 + k := ⟨c - 624, by omega⟩
    subst hk
    rw [Nat.mul_add 1248, Nat.add_mul 624 k, Nat.mul_add 624, Nat.mul_add k]
    omega
theorem sq_ge (c : Nat) (h : 2912 ≤ c) : 1248 * c + 4845568 ≤ c * c := by
  have h1 : 2912 * c ≤ c * c := Nat.mul_le_mul_right _ h
  omega
theorem mul_lo (x C : Int) (h : x.natAbs ≤ 1248) : -((1248 * C.natAbs : Nat) : Int) ≤ x * C := by
  have h1 : (x * C).natAbs ≤ 1248 * C.natAbs := by rw [Int.natAbs_mul]; exact Nat.mul_le_mul_right _ h
  omega
theorem sq_abs (C : Int) : C * C = ((C.natAbs * C.natAbs : Nat) : Int) := by rw [Int.natCast_mul]; exact (Int.natAbs_mul_self' C).symm
/-- what is received, turned back by what is learnt, has the sign that was sent -/
theorem back_pos (C D x y : Int) (hx : x.natAbs ≤ 1248) (hy : y.natAbs ≤ 1248) (h : 2912 ≤ C.natAbs ∨ 2912 ≤ D.natAbs) : 0 < C * C + D * D + x * C + y * D := by
  have h1 := mul_lo x C hx
  have h2 := mul_lo y D hy
  rw [sq_abs C, sq_abs D]
  have a1 := sq_le C.natAbs
  have a2 := sq_le D.natAbs
  rcases h with h | h
  · have a3 := sq_ge _ h
    omega
  · have a3 := sq_ge _ h
    omega
theorem back_re (a b C D u v x y : Int) (hu : u = 1 ∨ u = -1) (hx : x.natAbs ≤ 1248) (hy : y.natAbs ≤ 1248) (h : 2912 ≤ C.natAbs ∨ 2912 ≤ D.natAbs)
    (ha : 52 * a = u * C - v * D + x) (hb : 52 * b = u * D + v * C + y) : a * C + b * D ≠ 0 ∧ decide (a * C + b * D < 0) = decide (u < 0) := by
  have e1 : 52 * (a * C + b * D) = u * (C * C) + u * (D * D) + x * C + y * D := by
    have : 52 * (a * C + b * D) = 52 * a * C + 52 * b * D := by rw [Int.mul_add, Int.mul_assoc, Int.mul_assoc]
    rw [this, ha, hb]
    simp only [Int.add_mul, Int.sub_mul]
    have w : v * D * C = v * C * D := by ac_rfl
    rw [w, Int.mul_assoc, Int.mul_assoc u D D]
    omega
  rcases hu with rfl | rfl
  · have hp := back_pos C D x y hx hy h
    have hT : 0 < a * C + b * D := by omega
    refine ⟨by omega, ?_⟩
    rw [decide_eq_false (by omega), decide_eq_false (by omega)]
  · have hp := back_pos C D (-x) (-y) (by omega) (by omega) h
    rw [Int.neg_mul, Int.neg_mul] at hp
    have hT : a * C + b * D < 0 := by omega
    refine ⟨by omega, ?_⟩
    rw [decide_eq_true hT, decide_eq_true (by omega)]
theorem back_im (a b C D u v x y : Int) (hv : v = 1 ∨ v = -1) (hx : x.natAbs ≤ 1248) (hy : y.natAbs ≤ 1248) (h : 2912 ≤ C.natAbs ∨ 2912 ≤ D.natAbs)
    (ha : 52 * a = u * C - v * D + x) (hb : 52 * b = u * D + v * C + y) : b * C - a * D ≠ 0 ∧ decide (b * C - a * D < 0) = decide (v < 0) := by
  have h1 := back_re b (-a) C D v (-u) y (-x) hv hy (by omega) h (by rw [hb, Int.neg_mul]; omega) (by rw [Int.mul_neg, ha, Int.neg_mul]; omega)
  rw [Int.neg_mul, ← Int.sub_eq_add_neg] at h1
  exact h1

end Go.Proofs.Ytomgdlnpajfjhaa
namespace Go.Proofs.Ytomgdlnpajfjhaa
open Go.RowKit Go.ChangeShapes Go.WideShapes Go.ChangeAt
set_option linter.unusedVariables false
set_option linter.unusedSimpArgs false
set_option maxRecDepth 8000

theorem FN.dec {x : Nat} {v : Int} (h : FN x v) : ∃ s m p, FloatKind.f64.decode x = .number s m p := by
  obtain ⟨s, m, p, r, -⟩ := h
  exact ⟨s, m, p, r⟩
theorem FN.fin {x : Nat} {v : Int} (h : FN x v) : finB x = true := by
  obtain ⟨s, m, p, r⟩ := h.dec
  unfold finB; rw [r]
theorem FN.fc {x : Nat} {v : Int} (h : FN x v) : Go.Proofs.Ytomgdlnpajfjhaa.fc .f64 x = some x := by
  obtain ⟨s, m, p, r⟩ := h.dec
  apply fc_some
  unfold fnan; rw [r]; rfl
theorem SG.ne0 {x : Nat} {s : Bool} (h : SG x s) : (F6.order x 0 == some .eq) = false := by
  obtain ⟨m, p, r, h1, -⟩ := h
  have ho : F6.order x 0 = some (compare (Ieee.signed s m (p - min p (-1074)).toNat) 0) := by
    unfold Ieee.Format.order
    rw [r, show F6.read 0 = .number false 0 (-1074) from read_zero]
    simp only [Ieee.Datum.order]
    congr 2
    simp [Ieee.signed]
  rw [ho, signed_pow]
  have hp : 0 < m * 2 ^ (p - min p (-1074)).toNat := Nat.mul_pos (by omega) (Nat.two_pow_pos _)
  generalize m * 2 ^ (p - min p (-1074)).toNat = u at hp
  cases s
  · have e : compare (u : Int) 0 = .gt := by
      show (if (u : Int) < 0 then Ordering.lt else if (u : Int) = 0 then .eq else .gt) = _
      rw [if_neg (by omega), if_neg (by omega)]
    simp [e]
  · have e : compare (-(u : Int)) 0 = .lt := by
      show (if (-(u : Int)) < 0 then Ordering.lt else if (-(u : Int)) = 0 then .eq else .gt) = _
      rw [if_pos (by omega)]
    simp [e]
theorem c130 (E : Nat) (hE : (2 : Nat) ^ 162 = E) : 2 ^ 130 ≤ E := by rw [← hE]; exact Nat.pow_le_pow_right (by decide) (by decide)
theorem c250 (E : Nat) (hE : (2 : Nat) ^ 162 = E) : (2 : Nat) ^ 250 = 309485009821345068724781056 * E := by rw [← hE, show (309485009821345068724781056 : Nat) = 2 ^ 88 by decide, ← Nat.pow_add]
/-- a product with the ratio: its size -/
theorem part_ok {y r : Nat} {q vr : Int} (E : Nat) (hE : (2 : Nat) ^ 162 = E) (hy : FN y (q * (4294967296 * E : Nat))) (hq : q.natAbs ≤ 600) (hr : FN r vr) (r0 : vr = 0 ∨ 65536 * E ≤ vr.natAbs) (r1 : vr.natAbs ≤ 2 * (274877906944 * E)) :
    ∃ (t : Nat) (vt : Int), floatBits .mul .f64 y r = some t ∧ FN t vt ∧ 4503599627370496 * (vt * (274877906944 * E : Nat) - (q * (4294967296 * E : Nat)) * vr).natAbs ≤ ((q * (4294967296 * E : Nat)) * vr).natAbs ∧ (vt = 0 ∨ E ≤ vt.natAbs) ∧ vt.natAbs ≤ 100000 * (274877906944 * E) := by
  have hEp : 0 < E := by rw [← hE]; exact Nat.two_pow_pos _
  have hqa : (q * ((4294967296 * E : Nat) : Int)).natAbs = q.natAbs * (4294967296 * E) := by rw [Int.natAbs_mul, Int.natAbs_natCast]
  have hq1 : q.natAbs * (4294967296 * E) ≤ 600 * (4294967296 * E) := Nat.mul_le_mul_right _ hq
  have hq0 : q * ((4294967296 * E : Nat) : Int) = 0 ∨ 4294967296 * E ≤ q.natAbs * (4294967296 * E) := by
    by_cases h : q = 0
    · left; rw [h, Int.zero_mul]
    · right
      have : 1 * (4294967296 * E) ≤ q.natAbs * (4294967296 * E) := Nat.mul_le_mul_right _ (by omega)
      omega
  obtain ⟨t, vt, h1, h2, h3, h4, h5⟩ := prod_ok E hE hy hr (by rw [hqa]; rcases hq0 with h | h; exact .inl h; exact .inr (by omega)) (by rw [hqa]; exact hq1) r0 (by omega)
  refine ⟨t, vt, h1, h2, h3, ?_, ?_⟩
  · by_cases hz : q * ((4294967296 * E : Nat) : Int) * vr = 0
    · exact .inl (h4 hz)
    · right
      have n1 : q * ((4294967296 * E : Nat) : Int) ≠ 0 := fun e => hz (by rw [e, Int.zero_mul])
      have n2 : vr ≠ 0 := fun e => hz (by rw [e, Int.mul_zero])
      have g1 : 4294967296 * E ≤ q.natAbs * (4294967296 * E) := by rcases hq0 with h | h; exact absurd h n1; exact h
      have g2 : 65536 * E ≤ vr.natAbs := by rcases r0 with h | h; exact absurd h n2; exact h
      have g3 : 4294967296 * E * (65536 * E) ≤ (q * ((4294967296 * E : Nat) : Int) * vr).natAbs := by
        rw [Int.natAbs_mul, hqa]; exact Nat.mul_le_mul g1 g2
      have g4 : (q * ((4294967296 * E : Nat) : Int) * vr).natAbs ≤ (vt * ((274877906944 * E : Nat) : Int)).natAbs + (vt * ((274877906944 * E : Nat) : Int) - q * ((4294967296 * E : Nat) : Int) * vr).natAbs := by
        generalize vt * ((274877906944 * E : Nat) : Int) = u
        generalize q * ((4294967296 * E : Nat) : Int) * vr = v
        omega
      by_cases hlt : E ≤ vt.natAbs
      · exact hlt
      · exfalso
        have g5 : (vt * ((274877906944 * E : Nat) : Int)).natAbs ≤ E * (274877906944 * E) := by
          rw [Int.natAbs_mul, Int.natAbs_natCast]; exact Nat.mul_le_mul_right _ (by omega)
        have e1 : 4294967296 * E * (65536 * E) = 4294967296 * 65536 * (E * E) := by ac_rfl
        have e2 : E * (274877906944 * E) = 274877906944 * (E * E) := by ac_rfl
        have hEE : 0 < E * E := Nat.mul_pos hEp hEp
        rw [e1] at g3
        rw [e2] at g5
        generalize E * E = z at *
        generalize (vt * ((274877906944 * E : Nat) : Int) - q * ((4294967296 * E : Nat) : Int) * vr).natAbs = u1 at *
        generalize (q * ((4294967296 * E : Nat) : Int) * vr).natAbs = u2 at *
        generalize (vt * ((274877906944 * E : Nat) : Int)).natAbs = u3 at *
        omega
  · have g3 : (q * ((4294967296 * E : Nat) : Int) * vr).natAbs ≤ 600 * (4294967296 * E) * (2 * (274877906944 * E)) := by
      rw [Int.natAbs_mul, hqa]; exact Nat.mul_le_mul hq1 r1
    have g4 : (vt * ((274877906944 * E : Nat) : Int)).natAbs ≤ (q * ((4294967296 * E : Nat) : Int) * vr).natAbs + (vt * ((274877906944 * E : Nat) : Int) - q * ((4294967296 * E : Nat) : Int) * vr).natAbs := by
      generalize vt * ((274877906944 * E : Nat) : Int) = u
      generalize q * ((4294967296 * E : Nat) : Int) * vr = v
      omega
    rw [Int.natAbs_mul, Int.natAbs_natCast] at g4
    have g5 : vt.natAbs * (274877906944 * E) ≤ 100000 * (274877906944 * E) * (274877906944 * E) := by
      have e1 : 600 * (4294967296 * E) * (2 * (274877906944 * E)) = 600 * 2 * 4294967296 * E * (274877906944 * E) := by ac_rfl
      rw [e1] at g3
      have e3 : 600 * 2 * 4294967296 * E * (274877906944 * E) * 2 ≤ 100000 * (274877906944 * E) * (274877906944 * E) := by
        rw [Nat.mul_right_comm]; exact Nat.mul_le_mul_right _ (by omega)
      generalize 100000 * (274877906944 * E) * (274877906944 * E) = y3 at *
      generalize 600 * 2 * 4294967296 * E * (274877906944 * E) = y1 at *
      generalize vt.natAbs * (274877906944 * E) = y2 at *
      generalize (vt * ((274877906944 * E : Nat) : Int) - q * ((4294967296 * E : Nat) : Int) * vr).natAbs = u1 at *
      generalize (q * ((4294967296 * E : Nat) : Int) * vr).natAbs = u2 at *
      omega
    exact Nat.le_of_mul_le_mul_right g5 (by omega)
/-- the divisor of a quotient has the sign of its greater part -/
theorem den_ok {c d r : Nat} {vc vd vr : Int} (E : Nat) (hE : (2 : Nat) ^ 162 = E) (hc : FN c vc) (hd : FN d vd) (c0 : 137438953472 * E ≤ vc.natAbs) (c1 : vc.natAbs ≤ 6 * (274877906944 * E)) (d0 : vd = 0 ∨ 33554432 * E ≤ vd.natAbs) (hdc : vd.natAbs ≤ vc.natAbs)
    (hr : FN r vr) (r0 : vr = 0 ∨ 65536 * E ≤ vr.natAbs) (r1 : vr.natAbs ≤ 2 * (274877906944 * E)) (rz : vd = 0 → vr = 0) (rs : vd ≠ 0 → vr ≠ 0 ∧ decide (vr < 0) = (decide (vd < 0) ^^ decide (vc < 0))) :
    ∃ t g, floatBits .mul .f64 r d = some t ∧ floatBits .add .f64 c t = some g ∧ SG g (decide (vc < 0)) := by
  have hEp : 0 < E := by rw [← hE]; exact Nat.two_pow_pos _
  have h130 := c130 E hE
  have h250 := c250 E hE
  obtain ⟨t, vt, h1, h2, h3, h4, h5⟩ := prod_ok E hE hr hd r0 (by omega) (by omega) (by omega)
  have hsame : vt = 0 ∨ (vt ≠ 0 ∧ decide (vt < 0) = decide (vc < 0)) := by
    by_cases hz : vr * vd = 0
    · exact .inl (h4 hz)
    · have n2 : vd ≠ 0 := fun e => hz (by rw [e, Int.mul_zero])
      obtain ⟨k1, k2⟩ := h5 hz
      refine .inr ⟨k1, ?_⟩
      rw [k2, (rs n2).2]
      cases decide (vd < 0) <;> cases decide (vc < 0) <;> rfl
  have hlo : vt = 0 ∨ 2 ^ 130 ≤ vt.natAbs := by
    by_cases hz : vr * vd = 0
    · exact .inl (h4 hz)
    · right
      have n1 : vr ≠ 0 := fun e => hz (by rw [e, Int.zero_mul])
      have n2 : vd ≠ 0 := fun e => hz (by rw [e, Int.mul_zero])
      have g1 : 65536 * E ≤ vr.natAbs := by omega
      have g2 : 33554432 * E ≤ vd.natAbs := by omega
      have g3 : 65536 * E * (33554432 * E) ≤ (vr * vd).natAbs := by rw [Int.natAbs_mul]; exact Nat.mul_le_mul g1 g2
      have g4 : (vr * vd).natAbs ≤ (vt * ((274877906944 * E : Nat) : Int)).natAbs + (vt * ((274877906944 * E : Nat) : Int) - vr * vd).natAbs := by
        generalize vt * ((274877906944 * E : Nat) : Int) = u
        generalize vr * vd = v
        omega
      by_cases hlt : E ≤ vt.natAbs
      · omega
      · exfalso
        have g5 : (vt * ((274877906944 * E : Nat) : Int)).natAbs ≤ E * (274877906944 * E) := by
          rw [Int.natAbs_mul, Int.natAbs_natCast]; exact Nat.mul_le_mul_right _ (by omega)
        have e1 : 65536 * E * (33554432 * E) = 65536 * 33554432 * (E * E) := by ac_rfl
        have e2 : E * (274877906944 * E) = 274877906944 * (E * E) := by ac_rfl
        have hEE : 0 < E * E := Nat.mul_pos hEp hEp
        rw [e1] at g3
        rw [e2] at g5
        generalize E * E = z at *
        generalize (vt * ((274877906944 * E : Nat) : Int) - vr * vd).natAbs = u1 at *
        generalize (vr * vd).natAbs = u2 at *
        generalize (vt * ((274877906944 * E : Nat) : Int)).natAbs = u3 at *
        omega
  have hhi : vt.natAbs ≤ 2 ^ 250 := by
    have g3 : (vr * vd).natAbs ≤ 2 * (274877906944 * E) * (6 * (274877906944 * E)) := by
      rw [Int.natAbs_mul]; exact Nat.mul_le_mul r1 (by omega)
    have g4 : (vt * ((274877906944 * E : Nat) : Int)).natAbs ≤ (vr * vd).natAbs + (vt * ((274877906944 * E : Nat) : Int) - vr * vd).natAbs := by
      generalize vt * ((274877906944 * E : Nat) : Int) = u
      generalize vr * vd = v
      omega
    rw [Int.natAbs_mul, Int.natAbs_natCast] at g4
    have g5 : vt.natAbs * (274877906944 * E) ≤ 24 * (274877906944 * E) * (274877906944 * E) := by
      have e1 : 24 * (274877906944 * E) * (274877906944 * E) = 2 * (2 * (274877906944 * E) * (6 * (274877906944 * E))) := by
        have : 2 * (2 * (274877906944 * E) * (6 * (274877906944 * E))) = (2 * 2 * 6) * (274877906944 * E) * (274877906944 * E) := by ac_rfl
        rw [this]
      rw [e1]
      generalize 2 * (274877906944 * E) * (6 * (274877906944 * E)) = y1 at *
      generalize vt.natAbs * (274877906944 * E) = y2 at *
      generalize (vt * ((274877906944 * E : Nat) : Int) - vr * vd).natAbs = u1 at *
      generalize (vr * vd).natAbs = u2 at *
      omega
    have g6 := Nat.le_of_mul_le_mul_right g5 (by omega)
    omega
  have hsum : vc + vt ≠ 0 ∧ decide (vc + vt < 0) = decide (vc < 0) := by
    rcases hsame with e | ⟨e1, e2⟩
    · subst e
      rw [Int.add_zero]
      exact ⟨by omega, rfl⟩
    · rw [decide_eq_decide] at e2
      refine ⟨by omega, ?_⟩
      rw [decide_eq_decide]
      omega
  obtain ⟨g, k1, k2⟩ := hc.add h2 (by omega) (by omega) hlo hhi hsum.1
  exact ⟨t, g, h1, k1, by rw [← hsum.2]; exact k2⟩

end Go.Proofs.Ytomgdlnpajfjhaa
namespace Go.Proofs.Ytomgdlnpajfjhaa
open Go.RowKit Go.ChangeShapes Go.WideShapes Go.ChangeAt
set_option linter.unusedVariables false
set_option linter.unusedSimpArgs false
set_option maxRecDepth 8000

theorem half_ok {c d : Nat} {vc vd Cn Dn : Int} (E : Nat) (hE : (2 : Nat) ^ 162 = E) (hc : FN c vc) (hd : FN d vd) (hC : Cn.natAbs ≤ 17500) (hD : Dn.natAbs ≤ 17500)
    (kc : (3328 * vc - Cn * (274877906944 * E : Nat)).natAbs ≤ 3328 * E) (kd : (3328 * vd - Dn * (274877906944 * E : Nat)).natAbs ≤ 3328 * E) (zd : Dn = 0 → vd = 0) (big : 2912 ≤ Cn.natAbs ∨ 2912 ≤ Dn.natAbs) (hdc : vd.natAbs ≤ vc.natAbs) :
    vc ≠ 0 ∧ ∃ r t2 g, floatBits .quo .f64 d c = some r ∧ floatBits .mul .f64 r d = some t2 ∧ floatBits .add .f64 c t2 = some g ∧ SG g (decide (vc < 0)) ∧
      ∀ (y : Nat) (q : Int), q.natAbs ≤ 600 → FN y (q * (4294967296 * E : Nat)) → ∃ (t : Nat) (vt : Int), floatBits .mul .f64 y r = some t ∧ FN t vt ∧ (vt = 0 ∨ 2 ^ 130 ≤ vt.natAbs) ∧ vt.natAbs ≤ 2 ^ 250 ∧
        (∀ p : Int, p.natAbs ≤ 600 → p * Cn + q * Dn ≠ 0 → p * (4294967296 * E : Nat) + vt ≠ 0 ∧ decide (p * (4294967296 * E : Nat) + vt < 0) = (decide (p * Cn + q * Dn < 0) ^^ decide (vc < 0))) ∧
        (∀ p : Int, p.natAbs ≤ 600 → p * Cn - q * Dn ≠ 0 → p * (4294967296 * E : Nat) - vt ≠ 0 ∧ decide (p * (4294967296 * E : Nat) - vt < 0) = (decide (p * Cn - q * Dn < 0) ^^ decide (vc < 0))) := by
  have hEp : 0 < E := by rw [← hE]; exact Nat.two_pow_pos _
  have h130 := c130 E hE
  have h250 := c250 E hE
  have size : ∀ (v K : Int), (3328 * v - K * (274877906944 * E : Nat)).natAbs ≤ 3328 * E → 3328 * v.natAbs ≤ K.natAbs * (274877906944 * E) + 3328 * E ∧ K.natAbs * (274877906944 * E) ≤ 3328 * v.natAbs + 3328 * E := by
    intro v K h
    have e1 : (K * ((274877906944 * E : Nat) : Int)).natAbs = K.natAbs * (274877906944 * E) := by rw [Int.natAbs_mul, Int.natAbs_natCast]
    generalize K * ((274877906944 * E : Nat) : Int) = u at *
    rw [← e1]
    omega
  obtain ⟨sc1, sc2⟩ := size vc Cn kc
  obtain ⟨sd1, sd2⟩ := size vd Dn kd
  have bc : Cn.natAbs * (274877906944 * E) ≤ 17500 * (274877906944 * E) := Nat.mul_le_mul_right _ hC
  have c1 : vc.natAbs ≤ 6 * (274877906944 * E) := by omega
  have c0 : 137438953472 * E ≤ vc.natAbs := by
    rcases big with h | h
    · have := Nat.mul_le_mul_right (274877906944 * E) h
      omega
    · have := Nat.mul_le_mul_right (274877906944 * E) h
      omega
  have d0 : vd = 0 ∨ 33554432 * E ≤ vd.natAbs := by
    by_cases h : Dn = 0
    · exact .inl (zd h)
    · right
      have := Nat.mul_le_mul_right (274877906944 * E) (show 1 ≤ Dn.natAbs by omega)
      omega
  have vc0 : vc ≠ 0 := by omega
  obtain ⟨r, vr, h1, h2, h3, h4, h5, h6, h7⟩ := ratio_ok E hE hc hd c0 c1 d0 hdc
  obtain ⟨t2, g, g1, g2, g3⟩ := den_ok E hE hc hd c0 c1 d0 hdc h2 h4 h5 h6 h7
  refine ⟨vc0, r, t2, g, h1, g1, g2, g3, ?_⟩
  intro y q hq hy
  obtain ⟨t, vt, k1, k2, k3, k4, k5⟩ := part_ok E hE hy hq h2 h4 h5
  refine ⟨t, vt, k1, k2, by rcases k4 with h | h; exact .inl h; exact .inr (by omega), by omega, ?_, ?_⟩
  · intro p hp hT
    exact core_sign p q Cn Dn vc vd vr vt (274877906944 * E) (4294967296 * E) E (by omega) hEp (by omega) rfl hp hq hC kc kd hdc h3 k3 vc0 hT
  · intro p hp hT
    have e : p * Cn - q * Dn = p * Cn + (-q) * Dn := by rw [Int.neg_mul]; omega
    have k3' : 4503599627370496 * ((-vt) * ((274877906944 * E : Nat) : Int) - (-q * ((4294967296 * E : Nat) : Int)) * vr).natAbs ≤ ((-q * ((4294967296 * E : Nat) : Int)) * vr).natAbs := by
      rw [Int.neg_mul, Int.neg_mul, Int.neg_mul, Int.natAbs_neg]
      generalize vt * ((274877906944 * E : Nat) : Int) = u at *
      generalize q * ((4294967296 * E : Nat) : Int) * vr = v at *
      omega
    have h := core_sign p (-q) Cn Dn vc vd vr (-vt) (274877906944 * E) (4294967296 * E) E (by omega) hEp (by omega) rfl hp (by omega) hC kc kd hdc h3 k3' vc0 (by rw [← e]; exact hT)
    rw [← e, ← Int.sub_eq_add_neg] at h
    exact h
theorem bit_of {n g : Nat} {s T t : Bool} (hn : SG n s) (hg : SG g t) (h : s = (T ^^ t)) : bitF (floatBits .quo .f64 n g) = if T = true then 0 else 1 := by
  obtain ⟨r, m, p, e1, e2, e3⟩ := SG.quo hn hg
  rw [e1, bit_num e2 e3 trivial, h]
  cases T <;> cases t <;> rfl
/-- the bits of what is received, divided by what is learnt -/
theorem bits_ok {a b c d : Nat} {p q vc vd Cn Dn : Int} (E : Nat) (hE : (2 : Nat) ^ 162 = E) (ha : FN a (p * (4294967296 * E : Nat))) (hb : FN b (q * (4294967296 * E : Nat))) (hp : p.natAbs ≤ 600) (hq : q.natAbs ≤ 600)
    (hc : FN c vc) (hd : FN d vd) (hC : Cn.natAbs ≤ 17500) (hD : Dn.natAbs ≤ 17500)
    (kc : (3328 * vc - Cn * (274877906944 * E : Nat)).natAbs ≤ 3328 * E) (kd : (3328 * vd - Dn * (274877906944 * E : Nat)).natAbs ≤ 3328 * E) (zc : Cn = 0 → vc = 0) (zd : Dn = 0 → vd = 0) (big : 2912 ≤ Cn.natAbs ∨ 2912 ≤ Dn.natAbs)
    (T1 : p * Cn + q * Dn ≠ 0) (T2 : q * Cn - p * Dn ≠ 0) :
    qOk a b c d = true ∧ bitF (qR a b c d) = (if decide (p * Cn + q * Dn < 0) = true then 0 else 1) ∧ bitF (qI a b c d) = (if decide (q * Cn - p * Dn < 0) = true then 0 else 1) := by
  have hEp : 0 < E := by rw [← hE]; exact Nat.two_pow_pos _
  have h130 := c130 E hE
  have h250 := c250 E hE
  have size : ∀ K : Int, K.natAbs ≤ 600 → (K * ((4294967296 * E : Nat) : Int) = 0 ∨ 2 ^ 130 ≤ (K * ((4294967296 * E : Nat) : Int)).natAbs) ∧ (K * ((4294967296 * E : Nat) : Int)).natAbs ≤ 2 ^ 250 := by
    intro K hK
    rw [Int.natAbs_mul, Int.natAbs_natCast]
    have h2 : K.natAbs * (4294967296 * E) ≤ 600 * (4294967296 * E) := Nat.mul_le_mul_right _ hK
    refine ⟨?_, by omega⟩
    by_cases h : K = 0
    · left; rw [h, Int.zero_mul]
    · right
      have := Nat.mul_le_mul_right (4294967296 * E) (show 1 ≤ K.natAbs by omega)
      omega
  obtain ⟨p0, p1⟩ := size p hp
  obtain ⟨q0, q1⟩ := size q hq
  have hge := abs_ge hc hd
  by_cases hdc : vd.natAbs ≤ vc.natAbs
  · rw [decide_eq_true hdc] at hge
    obtain ⟨vc0, r, t2, g, h1, h2, h3, h4, h5⟩ := half_ok E hE hc hd hC hD kc kd zd big hdc
    have hok : qOk a b c d = true := by
      unfold qOk z2
      rw [ha.fin, hb.fin, hc.fin, hd.fin, (hc.sg vc0).ne0]; rfl
    obtain ⟨tb, vb, b1, b2, b3, b4, b5, -⟩ := h5 b q hq hb
    obtain ⟨ta, va, a1, a2, a3, a4, -, a5⟩ := h5 a p hp ha
    obtain ⟨m1, m2⟩ := b5 p hp T1
    obtain ⟨n1, n2⟩ := a5 q hq T2
    obtain ⟨x, x1, x2⟩ := ha.add b2 p0 p1 b3 b4 m1
    obtain ⟨y, y1, y2⟩ := hb.sub a2 q0 q1 a3 a4 n1
    refine ⟨hok, ?_, ?_⟩
    · have e : qR a b c d = floatBits .quo .f64 x g := by
        unfold qR
        rw [if_pos hok, ha.fc, hb.fc, hc.fc, hd.fc, hge]
        simp only [qRe, if_true, fo, h1, h2, h3, b1, x1]
      rw [e]
      exact bit_of x2 h4 m2
    · have e : qI a b c d = floatBits .quo .f64 y g := by
        unfold qI
        rw [if_pos hok, ha.fc, hb.fc, hc.fc, hd.fc, hge]
        simp only [qIm, if_true, fo, h1, h2, h3, a1, y1]
      rw [e]
      exact bit_of y2 h4 n2
  · rw [decide_eq_false hdc] at hge
    obtain ⟨vd0, r, t2, g, h1, h2, h3, h4, h5⟩ := half_ok E hE hd hc hD hC kd kc zc big.symm (by omega)
    have hok : qOk a b c d = true := by
      unfold qOk z2
      rw [ha.fin, hb.fin, hc.fin, hd.fin, (hd.sg vd0).ne0, Bool.and_false]; rfl
    obtain ⟨ta, va, a1, a2, a3, a4, a5, -⟩ := h5 a p hp ha
    obtain ⟨tb, vb, b1, b2, b3, b4, b5, -⟩ := h5 b q hq hb
    have T1' : q * Dn + p * Cn ≠ 0 := by rw [Int.add_comm]; exact T1
    have e2 : q * Cn - p * Dn = -p * Dn + q * Cn := by rw [Int.neg_mul, Int.add_comm]; exact Int.sub_eq_add_neg
    obtain ⟨m1, m2⟩ := a5 q hq T1'
    obtain ⟨n1, n2⟩ := b5 (-p) (by rw [Int.natAbs_neg]; exact hp) (by rw [← e2]; exact T2)
    rw [Int.add_comm, Int.add_comm (q * Dn)] at m2
    rw [Int.add_comm] at m1
    rw [← e2] at n2
    have e3 : -p * ((4294967296 * E : Nat) : Int) + vb = vb - p * ((4294967296 * E : Nat) : Int) := by rw [Int.neg_mul, Int.add_comm]; exact Int.sub_eq_add_neg.symm
    rw [e3] at n1 n2
    obtain ⟨x, x1, x2⟩ := a2.add hb a3 a4 q0 q1 m1
    obtain ⟨y, y1, y2⟩ := b2.sub ha b3 b4 p0 p1 n1
    refine ⟨hok, ?_, ?_⟩
    · have e : qR a b c d = floatBits .quo .f64 x g := by
        unfold qR
        rw [if_pos hok, ha.fc, hb.fc, hc.fc, hd.fc, hge]
        simp only [qRe, Bool.false_eq_true, if_false, fo, h1, h2, h3, a1, x1]
      rw [e]
      exact bit_of x2 h4 m2
    · have e : qI a b c d = floatBits .quo .f64 y g := by
        unfold qI
        rw [if_pos hok, ha.fc, hb.fc, hc.fc, hd.fc, hge]
        simp only [qIm, Bool.false_eq_true, if_false, fo, h1, h2, h3, b1, y1]
      rw [e]
      exact bit_of y2 h4 n2

end Go.Proofs.Ytomgdlnpajfjhaa
namespace Go.Proofs.Ytomgdlnpajfjhaa
open Go.RowKit Go.ChangeShapes Go.WideShapes Go.ChangeAt
set_option linter.unusedVariables false
set_option linter.unusedSimpArgs false
set_option maxRecDepth 8000

theorem pXR_dy {p r c d : Nat} {u v s t : Int} (hp : Dy .f32 6 p u) (hr : Dy .f32 6 r v) (hc : Dy .f32 0 c s) (hd : Dy .f32 0 d t) (h1 : (u * s).natAbs < 100000) (h2 : (v * t).natAbs < 100000) : DyO .f64 6 (pXR p r c d) (u * s + v * t) := by
  have a1 := DyO.mul (k := .f64) (e := 6) (e' := 0) (by omega) (by omega) (DyO.wid (by omega) hp.fc) (DyO.wid (by omega) hc.fc) (by omega)
  have a2 := DyO.mul (k := .f64) (e := 6) (e' := 0) (by omega) (by omega) (DyO.wid (by omega) hr.fc) (DyO.wid (by omega) hd.neg.fc) (by rw [Int.mul_neg, Int.natAbs_neg]; omega)
  have a3 := DyO.sub (by omega) a1 a2 (by rw [Int.mul_neg]; omega)
  rw [Int.mul_neg, Int.sub_neg] at a3
  exact a3
theorem pXI_dy {p r c d : Nat} {u v s t : Int} (hp : Dy .f32 6 p u) (hr : Dy .f32 6 r v) (hc : Dy .f32 0 c s) (hd : Dy .f32 0 d t) (h1 : (u * t).natAbs < 100000) (h2 : (v * s).natAbs < 100000) : DyO .f64 6 (pXI p r c d) (v * s - u * t) := by
  have a1 := DyO.mul (k := .f64) (e := 6) (e' := 0) (by omega) (by omega) (DyO.wid (by omega) hp.fc) (DyO.wid (by omega) hd.neg.fc) (by rw [Int.mul_neg, Int.natAbs_neg]; omega)
  have a2 := DyO.mul (k := .f64) (e := 6) (e' := 0) (by omega) (by omega) (DyO.wid (by omega) hr.fc) (DyO.wid (by omega) hc.fc) (by omega)
  have a3 := DyO.add (by omega) a1 a2 (by rw [Int.mul_neg]; omega)
  rw [Int.mul_neg, Int.add_comm, ← Int.sub_eq_add_neg] at a3
  exact a3
def sI (f : Nat → Int) : Nat → Int
  | 0 => 0
  | n + 1 => sI f n + f n
theorem sI_abs (f : Nat → Int) (b : Nat) : ∀ n, (∀ i, i < n → (f i).natAbs ≤ b) → (sI f n).natAbs ≤ n * b
  | 0, _ => by simp [sI]
  | n + 1, h => by
    have h1 := sI_abs f b n (fun i hi => h i (by omega))
    have h2 := h n (by omega)
    show (sI f n + f n).natAbs ≤ _
    rw [Nat.succ_mul]
    omega
theorem sI_add (f g : Nat → Int) : ∀ n, sI (fun i => f i + g i) n = sI f n + sI g n
  | 0 => rfl
  | n + 1 => by
    show sI (fun i => f i + g i) n + (f n + g n) = (sI f n + f n) + (sI g n + g n)
    rw [sI_add f g n]; omega
theorem sI_mul (k : Int) (f : Nat → Int) : ∀ n, sI (fun i => k * f i) n = k * sI f n
  | 0 => by simp [sI]
  | n + 1 => by
    show sI (fun i => k * f i) n + k * f n = k * (sI f n + f n)
    rw [sI_mul k f n, Int.mul_add]
theorem sI_const (k : Int) : ∀ n : Nat, sI (fun _ => k) n = n * k
  | 0 => by simp [sI]
  | n + 1 => by
    show sI (fun _ => k) n + k = _
    rw [sI_const k n, Int.natCast_succ, Int.add_mul, Int.one_mul]
theorem sI_congr {f g : Nat → Int} : ∀ n : Nat, (∀ i, i < n → f i = g i) → sI f n = sI g n
  | 0, _ => rfl
  | n + 1, h => by
    show sI f n + f n = sI g n + g n
    rw [sI_congr n (fun i hi => h i (by omega)), h n (by omega)]
theorem zero_dy (e : Nat) : DyO .f64 e (some 0) 0 := by
  refine ⟨0, rfl, false, 0, ?_, rfl, by omega⟩
  show 0 = F6.nearest false 0 (-(e : Int))
  rw [near0]; decide +kernel
theorem mtF_dy (f : Nat → Nat → Nat → Nat → Option Nat) (ls ks : List (Nat × Nat)) (g : Nat → Int) (n : Nat) (hn : n ≤ 200)
    (h : ∀ j, j < n → DyO .f64 6 (f (ls.getD j (0, 0)).1 (ls.getD j (0, 0)).2 (ks.getD j (0, 0)).1 (ks.getD j (0, 0)).2) (g j)) (hb : ∀ j, j < n → (g j).natAbs ≤ 1300) : ∀ j, j ≤ n → DyO .f64 6 (mtF f ls ks j) (sI g j)
  | 0, _ => zero_dy 6
  | j + 1, hj => by
    have h1 := mtF_dy f ls ks g n hn h hb j (by omega)
    have h2 := sI_abs g 1300 (j + 1) (fun i hi => hb i (by omega))
    exact DyO.add (by omega) h1 (h j (by omega)) (Nat.lt_of_le_of_lt h2 (by omega))
theorem c52_dy : Dy .f64 0 c52 52 := ⟨false, 52, by decide +kernel, rfl, by omega⟩
theorem c194 : (2 : Nat) ^ 194 = 4294967296 * 2 ^ 162 := by rw [show (4294967296 : Nat) = 2 ^ 32 by decide, ← Nat.pow_add]
theorem Dy.fn6 {x : Nat} {a : Int} (E : Nat) (hE : (2 : Nat) ^ 162 = E) (h : Dy .f64 6 x a) : FN x (a * (4294967296 * E : Nat)) := by
  have := h.fn (by omega)
  rw [show 200 - 6 = 194 from rfl, c194, hE] at this
  exact this
/-- what is learnt, by the sum of the products -/
theorem gain_fn {A : Option Nat} {S : Int} (E : Nat) (hE : (2 : Nat) ^ 162 = E) (h : DyO .f64 6 A S) (hS : S.natAbs ≤ 17500) :
    ∃ (c : Nat) (vc : Int), fo .quo .f64 A (some c52) = some c ∧ FN c vc ∧ (3328 * vc - S * (274877906944 * E : Nat)).natAbs ≤ 3328 * E ∧ (S = 0 → vc = 0) := by
  have hEp : 0 < E := by rw [← hE]; exact Nat.two_pow_pos _
  obtain ⟨x, rfl, hx⟩ := h
  have fx := hx.fn6 E hE
  have fy := c52_dy.fn (by omega)
  rw [show 200 - 0 = 200 from rfl, c200, hE] at fy
  have ey : ((52 : Int) * ((274877906944 * E : Nat) : Int)).natAbs = 52 * (274877906944 * E) := by rw [Int.natAbs_mul, Int.natAbs_natCast]; rfl
  have ex : (S * ((4294967296 * E : Nat) : Int)).natAbs = S.natAbs * (4294967296 * E) := by rw [Int.natAbs_mul, Int.natAbs_natCast]
  have hx1 : S.natAbs * (4294967296 * E) ≤ 17500 * (4294967296 * E) := Nat.mul_le_mul_right _ hS
  have hx0 : S * ((4294967296 * E : Nat) : Int) = 0 ∨ 4294967296 * E ≤ S.natAbs * (4294967296 * E) := by
    by_cases h : S = 0
    · left; rw [h, Int.zero_mul]
    · right
      have := Nat.mul_le_mul_right (4294967296 * E) (show 1 ≤ S.natAbs by omega)
      omega
  obtain ⟨r, vr, h1, h2, h3, h4, h5, -⟩ := fx.quo fy (by rw [ey, c178, hE]; omega) (by rw [ey, c220, hE]; omega) (by rw [ex, c178, hE]; rcases hx0 with h | h; exact .inl h; exact .inr (by omega)) (by rw [ex, c240, hE]; omega) (by rw [ex, ey]; omega)
  refine ⟨r, vr, h1, h2, ?_, fun e => h5 (by rw [e, Int.zero_mul])⟩
  rw [c200, hE, ey] at h3 h4
  obtain ⟨U, hU⟩ : ∃ U : Nat, 274877906944 * E = U := ⟨_, rfl⟩
  have hUp : (0 : Int) < (U : Int) := by omega
  rw [hU] at h3 h4 ⊢
  obtain ⟨H, hH⟩ : ∃ H : Nat, 4294967296 * E = H := ⟨_, rfl⟩
  rw [hH] at h3 h4
  have e0 : vr * (52 * (U : Int)) - S * H * U = (52 * vr - S * H) * U := by rw [Int.sub_mul]; congr 1; ac_rfl
  have e1 : ((52 * U * E : Nat) : Int) = ((52 * E : Nat) : Int) * U := by rw [← Int.natCast_mul]; congr 1; ac_rfl
  have g1 : 52 * vr - S * H ≤ ((52 * E : Nat) : Int) := by
    refine Int.le_of_mul_le_mul_right (a := (U : Int)) ?_ hUp
    rw [← e0, ← e1]; exact h3
  have g2 : -((52 * E : Nat) : Int) ≤ 52 * vr - S * H := by
    refine Int.le_of_mul_le_mul_right (a := (U : Int)) ?_ hUp
    rw [← e0, Int.neg_mul, ← e1]; omega
  have e2 : S * (U : Int) = 64 * (S * H) := by
    have : (U : Int) = 64 * H := by omega
    rw [this, Int.mul_left_comm]
  rw [e2]
  generalize S * (H : Int) = y at *
  clear h3 h4 e0 e1 hx0 hx1 ex ey
  omega

end Go.Proofs.Ytomgdlnpajfjhaa
namespace Go.Proofs.Ytomgdlnpajfjhaa
open Go.RowKit Go.ChangeShapes Go.WideShapes Go.ChangeAt
set_option linter.unusedVariables false
set_option linter.unusedSimpArgs false
set_option maxRecDepth 8000

theorem read52 : F6.read c52 = .number false (52 <<< 47) (-47) := by decide +kernel
/-- a 52nd part that is exact -/
theorem quo52 {A : Option Nat} {G : Int} (h : DyO .f64 6 A (52 * G)) : DyO .f64 6 (fo .quo .f64 A (some c52)) G := by
  obtain ⟨x, rfl, s, n, rfl, hs, hn⟩ := h
  obtain ⟨g, hg, hG⟩ : ∃ g : Nat, n = 52 * g ∧ sg s g = G := by
    refine ⟨G.natAbs, ?_, ?_⟩
    · unfold sg at hs; cases s <;> simp at hs <;> omega
    · unfold sg at *; cases s <;> simp at hs ⊢ <;> omega
  obtain ⟨i, hi, -⟩ := read_nearestE (fitE .f64 6 (by omega)) s n (Nat.lt_of_lt_of_le hn (bk .f64))
  have hi : F6.read (wE .f64 6 s n) = .number s (n <<< i) (-((6 + i : Nat) : Int)) := hi
  have hL : (n <<< i).log2 ≤ 23 + i := by
    by_cases h0 : n <<< i = 0
    · rw [h0]; simp
    · have : (n <<< i).log2 < 24 + i := (Nat.log2_lt h0).2 (by rw [Nat.shiftLeft_eq, Nat.pow_add]; exact Nat.mul_lt_mul_of_pos_right (by omega) (Nat.two_pow_pos _))
      omega
  obtain ⟨mo, hmo⟩ : ∃ mo, 54 + (52 <<< 47 : Nat).log2 - (n <<< i).log2 = mo := ⟨_, rfl⟩
  have h52 : (52 <<< 47 : Nat).log2 = 52 := by decide +kernel
  have hk : 47 ≤ i + mo := by omega
  obtain ⟨k, hk⟩ : ∃ k, i + mo = 47 + k := ⟨i + mo - 47, by omega⟩
  have hdv : n <<< i <<< mo = (g <<< k) * (52 <<< 47) := by
    simp only [Nat.shiftLeft_eq]
    rw [hg, Nat.mul_assoc, ← Nat.pow_add, hk, Nat.pow_add]
    ac_rfl
  have hne : (52 <<< 47 : Nat) ≠ 0 := by decide
  refine ⟨wE .f64 6 s g, ?_, s, g, rfl, hG, by omega⟩
  show F6.div (wE .f64 6 s n) c52 = _
  unfold Ieee.Format.div
  rw [hi, read52]
  simp only [Ieee.Datum.quotient, if_neg hne, Option.map_some, Option.some.injEq]
  rw [show (FloatKind.f64.format).fractionBits + 2 = 54 from rfl, hmo, hdv, Nat.mul_div_cancel _ (by omega), Nat.mul_mod_left]
  have e1 : 2 * (g <<< k) + ((0 : Nat) != 0).toNat = g <<< (k + 1) := by
    simp only [Nat.shiftLeft_eq, Nat.pow_succ]
    have : ((0 : Nat) != 0).toNat = 0 := rfl
    rw [this, Nat.add_zero]; ac_rfl
  rw [e1, Bool.xor_false]
  have e2 : -((6 + i : Nat) : Int) - -47 - (mo : Int) - 1 = -((6 + (k + 1) : Nat) : Int) := by omega
  rw [e2]
  exact nearest_shiftE (fitE .f64 6 (by omega)) s g (k + 1) (Nat.lt_of_lt_of_le (by omega) (bk .f64))
/-- the training's sign -/
def ta (j : Nat) : Int := if st j % 2 = 1 then 1 else -1
theorem ta_or (j : Nat) : ta j = 1 ∨ ta j = -1 := by unfold ta; split; exact .inl rfl; exact .inr rfl
theorem sgB_dy (b : Int) : Dy .f32 0 (sgB b) (if b = 1 then 1 else -1) := by
  unfold sgB
  split
  · exact ⟨false, 1, by decide +kernel, rfl, by omega⟩
  · exact ⟨true, 1, by decide +kernel, rfl, by omega⟩
theorem trL_dy (j : Nat) (h : j < 26) : Dy .f32 0 (trL.getD j (0, 0)).1 (ta j) ∧ Dy .f32 0 (trL.getD j (0, 0)).2 (ta j) := by
  have hl : j < trL.length := by rw [trL_len]; exact h
  have e : trL.getD j (0, 0) = (sgB (st j % 2), sgB (st j % 2)) := by rw [List.getD_eq_getElem?_getD, List.getElem?_eq_getElem hl, Option.getD_some, trL_at]
  rw [e]
  exact ⟨sgB_dy _, sgB_dy _⟩
theorem ta_abs (j : Nat) (x : Int) : (x * ta j).natAbs = x.natAbs := by
  rcases ta_or j with h | h <;> rw [h] <;> omega
theorem ta_sq (j : Nat) : ta j * ta j = 1 := by rcases ta_or j with h | h <;> rw [h] <;> rfl
/-- the sums over the training of what came: u + i v at place j is gain times the training, with noise -/
theorem train_sums (ls : List (Nat × Nat)) (GR GI : Int) (a b : Nat → Int) (hG : GR.natAbs + GI.natAbs ≤ 480)
    (ha : ∀ j, j < 26 → (a j).natAbs ≤ 8) (hb : ∀ j, j < 26 → (b j).natAbs ≤ 8)
    (hl : ∀ j, j < 26 → Dy .f32 6 (ls.getD j (0, 0)).1 (ta j * (GR - GI) + a j) ∧ Dy .f32 6 (ls.getD j (0, 0)).2 (ta j * (GR + GI) + b j)) :
    DyO .f64 6 (mtF pXR ls trL 26) (52 * GR + sI (fun j => ta j * (a j + b j)) 26) ∧ DyO .f64 6 (mtF pXI ls trL 26) (52 * GI + sI (fun j => ta j * (b j - a j)) 26) := by
  have hab : ∀ j, j < 26 → (ta j * (GR - GI) + a j).natAbs ≤ 488 ∧ (ta j * (GR + GI) + b j).natAbs ≤ 488 := by
    intro j hj
    have h1 := ha j hj
    have h2 := hb j hj
    rcases ta_or j with h | h <;> rw [h] <;> omega
  have eR : ∀ j, (ta j * (GR - GI) + a j) * ta j + (ta j * (GR + GI) + b j) * ta j = 2 * GR + ta j * (a j + b j) := by
    intro j
    rcases ta_or j with h | h <;> rw [h] <;> omega
  have eI : ∀ j, (ta j * (GR + GI) + b j) * ta j - (ta j * (GR - GI) + a j) * ta j = 2 * GI + ta j * (b j - a j) := by
    intro j
    rcases ta_or j with h | h <;> rw [h] <;> omega
  have bR : ∀ j, j < 26 → (2 * GR + ta j * (a j + b j)).natAbs ≤ 1300 := by
    intro j hj
    have h1 := ha j hj
    have h2 := hb j hj
    rcases ta_or j with h | h <;> rw [h] <;> omega
  have bI : ∀ j, j < 26 → (2 * GI + ta j * (b j - a j)).natAbs ≤ 1300 := by
    intro j hj
    have h1 := ha j hj
    have h2 := hb j hj
    rcases ta_or j with h | h <;> rw [h] <;> omega
  have sR : sI (fun j => 2 * GR + ta j * (a j + b j)) 26 = 52 * GR + sI (fun j => ta j * (a j + b j)) 26 := by
    rw [sI_add (fun _ => 2 * GR), sI_const]; omega
  have sI' : sI (fun j => 2 * GI + ta j * (b j - a j)) 26 = 52 * GI + sI (fun j => ta j * (b j - a j)) 26 := by
    rw [sI_add (fun _ => 2 * GI), sI_const]; omega
  refine ⟨?_, ?_⟩
  · have h := mtF_dy pXR ls trL (fun j => 2 * GR + ta j * (a j + b j)) 26 (by omega) (fun j hj => ?_) bR 26 (by omega)
    · rw [sR] at h; exact h
    · obtain ⟨t1, t2⟩ := trL_dy j hj
      obtain ⟨l1, l2⟩ := hl j hj
      obtain ⟨b1, b2⟩ := hab j hj
      have := pXR_dy l1 l2 t1 t2 (by rw [ta_abs]; omega) (by rw [ta_abs]; omega)
      rw [eR] at this
      exact this
  · have h := mtF_dy pXI ls trL (fun j => 2 * GI + ta j * (b j - a j)) 26 (by omega) (fun j hj => ?_) bI 26 (by omega)
    · rw [sI'] at h; exact h
    · obtain ⟨t1, t2⟩ := trL_dy j hj
      obtain ⟨l1, l2⟩ := hl j hj
      obtain ⟨b1, b2⟩ := hab j hj
      have := pXI_dy l1 l2 t1 t2 (by rw [ta_abs]; omega) (by rw [ta_abs]; omega)
      rw [eI] at this
      exact this
theorem noise_sum (a b : Nat → Int) (ha : ∀ j, j < 26 → (a j).natAbs ≤ 8) (hb : ∀ j, j < 26 → (b j).natAbs ≤ 8) : (sI (fun j => ta j * (a j + b j)) 26).natAbs ≤ 416 ∧ (sI (fun j => ta j * (b j - a j)) 26).natAbs ≤ 416 := by
  refine ⟨sI_abs _ 16 26 (fun j hj => ?_), sI_abs _ 16 26 (fun j hj => ?_)⟩
  all_goals
    have h1 := ha j hj
    have h2 := hb j hj
    rcases ta_or j with h | h <;> rw [h] <;> omega

end Go.Proofs.Ytomgdlnpajfjhaa

/- What Needs and Connect have to do with one another; no condition. -/
import Derived.Test.YtikhfeafbckjlaaDoorFDa
namespace Go.Proofs.YtikhfeafbckjlaaDoor
open Go.RowKit Go.ChangeShapes Go.WideShapes Go.ChangeAt
set_option linter.unusedVariables false
set_option linter.unusedSimpArgs false
set_option maxRecDepth 8000
theorem bothF_mid {p : Int} {ps : Tri} {x y k : Nat} : bothF p ps x y k = !midB p ps x y k := by
  simp only [bothF, inF, outF, midB, Bool.not_or]
theorem needB_iff {p : Int} {M : Nat} {ps : Tri} {x y : Nat} : needB p M ps x y = true ↔ ¬ Busy x y ps ∧ cV p M ps x y < 0 := by
  have h1 : (¬ Busy x y ps) ↔ ((ps.any fun q => q.1 == (x : Int)) = false ∧ (ps.any fun q => q.2.1 == (y : Int)) = false) := by
    simp only [Busy, List.any_eq_false, beq_iff_eq]
    constructor
    · intro h
      exact ⟨fun q hq e => h ⟨q, hq, .inl e⟩, fun q hq e => h ⟨q, hq, .inr e⟩⟩
    · rintro ⟨h1, h2⟩ ⟨q, hq, e | e⟩
      · exact h1 q hq e
      · exact h2 q hq e
  have h2 : cV p M ps x y < 0 ↔ (List.range M).all (midB p ps x y) = true := by
    rw [cV, Int.toNat_natCast, List.all_eq_true]
    constructor
    · intro h k hk
      have := frV_neg h k (List.mem_range.1 hk)
      rw [bothF_mid] at this
      simpa using this
    · intro h
      exact frV_no fun i hi => by rw [bothF_mid, h i (List.mem_range.2 hi)]; rfl
  rw [h1, h2, needB]
  simp only [Bool.and_eq_true, Bool.not_eq_true']
  constructor
  · rintro ⟨a, b, c⟩; exact ⟨⟨a, b⟩, c⟩
  · rintro ⟨⟨a, b⟩, c⟩; exact ⟨a, b, c⟩
theorem need_mem {p : Int} {M : Nat} {ps : Tri} {N : Nat} {q : Int × Int × Int} : q ∈ needL p M ps N N ↔ ∃ a b : Nat, a < N ∧ b < N ∧ q = ((a : Int), (b : Int), -1) ∧ needB p M ps a b = true := by
  simp only [needL, needRow, List.mem_flatMap, List.mem_range, List.mem_map, List.mem_filter]
  constructor
  · rintro ⟨a, ha, b, ⟨hb, hn⟩, rfl⟩; exact ⟨a, b, ha, hb, rfl, hn⟩
  · rintro ⟨a, b, ha, hb, rfl, hn⟩; exact ⟨a, ha, b, ⟨hb, hn⟩, rfl⟩
/-- where no Mid is free at both switches a chain moves something -/
theorem mvs_pos {s p m f g : Int} {ps : Tri} {K1 K2 : Nat} (hc : cV p m ps f g < 0) (ha : 0 ≤ aV p m ps f) (hb : 0 ≤ bV p m ps g) (k1 : KF p ps (aV p m ps f) (bV p m ps g) true (ixV (outQ p (g / p) (aV p m ps f)) ps) K1) (k2 : KF p ps (bV p m ps g) (aV p m ps f) false (ixV (inQ p (f / p) (bV p m ps g)) ps) K2) : 0 < (mvs2 p ps f g (aV p m ps f) (bV p m ps g) K1 K2).length := by
  obtain ⟨a, ea, a1, a2⟩ := frV_pos ha
  obtain ⟨b, eb, b1, b2⟩ := frV_pos hb
  have ea' : aV p m ps f = a := ea
  have eb' : bV p m ps g = b := eb
  have h1 : K1 ≠ 0 := by
    rintro rfl
    have := k1.1
    rw [ea'] at this
    have h2 : decide (ixV (outQ p (g / p) a) ps < 0) = true := decide_eq_true this
    rw [ixV_any] at h2
    have := frV_neg hc a a1
    rw [bothF, a2, outF, h2] at this
    cases this
  have h2 : K2 ≠ 0 := by
    rintro rfl
    have := k2.1
    rw [eb'] at this
    have h2 : decide (ixV (inQ p (f / p) b) ps < 0) = true := decide_eq_true this
    rw [ixV_any] at h2
    have := frV_neg hc b b1
    rw [bothF, b2, inF, h2] at this
    cases this
  unfold mvs2
  split <;> rw [mvL_len] <;> omega
theorem con_need {s p m f g : Int} {ps ps' : Tri} {ms : Mvs} {c : Int} (h : ConS s p m f g ps ps' ms c) (ho : ConOk s p m f g ps) : (c = 0 ∨ c = 2 ∨ c = 3) ∧ ((¬ Busy f g ps ∧ cV p m ps f g < 0) ↔ (c = 3 ∨ (c = 0 ∧ 0 < ms.length))) ∧ ((¬ Busy f g ps ∧ cV p m ps f g < 0) → c ≠ 2) := by
  rcases h with ⟨h1, rfl, rfl, rfl⟩ | ⟨h1, h2, rfl, rfl, rfl⟩ | ⟨h1, h2, h3, rfl, rfl, rfl⟩ | ⟨h1, h2, h3, h4, rfl, rfl, rfl⟩ | ⟨h1, h2, h3, h4, K1, K2, k1, k2, rfl, rfl, rfl⟩
  · exact absurd ho h1
  · exact ⟨by omega, ⟨fun h => absurd h2 h.1, fun h => by omega⟩, fun h => absurd h2 h.1⟩
  · refine ⟨by omega, ⟨fun h => ?_, fun h => ?_⟩, fun _ => by omega⟩
    · have := h.2; omega
    · simp at h
  · exact ⟨by omega, ⟨fun _ => .inl rfl, fun _ => ⟨h2, h3⟩⟩, fun _ => by omega⟩
  · exact ⟨by omega, ⟨fun _ => .inr ⟨rfl, mvs_pos (s := s) h3 h4.1 h4.2 k1 k2⟩, fun _ => ⟨h2, h3⟩⟩, fun _ => by omega⟩
theorem con_one {ps' : Tri} {ms : Mvs} {c : Int} (h : ConS 1 1 1 0 0 [] ps' ms c) : c = 0 ∧ ps'.length = 1 := by
  have h0 : cV 1 1 [] 0 0 = 0 := by decide
  rcases h with ⟨h1, rfl, rfl, rfl⟩ | ⟨h1, h2, rfl, rfl, rfl⟩ | ⟨h1, h2, h3, rfl, rfl, rfl⟩ | ⟨h1, h2, h3, h4, rfl, rfl, rfl⟩ | ⟨h1, h2, h3, h4, K1, K2, k1, k2, rfl, rfl, rfl⟩
  · exfalso
    refine h1 ⟨⟨by decide, by decide, by decide, fun i hi => by simp at hi⟩, by decide, by decide⟩
  · obtain ⟨x, hx, -⟩ := h2; cases hx
  · exact ⟨rfl, rfl⟩
  · rw [h0] at h3; omega
  · rw [h0] at h3; omega
end Go.Proofs.YtikhfeafbckjlaaDoor

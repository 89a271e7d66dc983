/- Both ways to find a clash are alike; no condition. -/
import Derived.Test.YtfaflnhembceoaaClG
import Derived.Test.YtfaflnhembceoaaClD
namespace Go.Proofs.Ytfaflnhembceoaa
open Go.RowKit Go.ChangeShapes Go.WideShapes Go.ChangeAt
set_option linter.unusedVariables false
set_option linter.unusedSimpArgs false
set_option maxRecDepth 8000

def lpF (cs : Sbs) (t : Nat) : List Nat := (List.range (cs.length * cs.length)).filter fun p => atB cs t (p / cs.length) (p % cs.length)
def rsB (cs : Sbs) (t i k p : Nat) : Bool := unl (rtF (woS cs t i (-1)) ((p / cs.length : Nat) : Int) ((p % cs.length : Nat) : Int)) (rtF (woS cs t k (-1)) ((p / cs.length : Nat) : Int) ((p % cs.length : Nat) : Int)) && (unl (rtF (woS cs t k (-1)) ((p / cs.length : Nat) : Int) ((p % cs.length : Nat) : Int)) (rtF (woS cs t i k) ((p / cs.length : Nat) : Int) ((p % cs.length : Nat) : Int)) && unl (rtF (woS cs t i (-1)) ((p / cs.length : Nat) : Int) ((p % cs.length : Nat) : Int)) (rtF (woS cs t i k) ((p / cs.length : Nat) : Int) ((p % cs.length : Nat) : Int)))
theorem clF_lp (cs : Sbs) (t i k : Nat) : clF cs t i k = (lpF cs t).find? (rsB cs t i k) := by
  rw [lpF, List.find?_filter, clF]
  congr 1
  funext p
  simp [clB, rsB]
theorem cls_lp (cs : Sbs) (t : Nat) : clsF cs t (cs.length * cs.length) = (lpF cs t).map fun p => (((p / cs.length : Nat) : Int), ((p % cs.length : Nat) : Int)) := rfl
theorem lp_mem {cs : Sbs} {t p : Nat} (h : p ∈ lpF cs t) : p / cs.length < cs.length ∧ p % cs.length < cs.length ∧ ¬ p / cs.length = p % cs.length := by
  rw [lpF, List.mem_filter, List.mem_range] at h
  have h0 : 0 < cs.length := by
    rcases Nat.eq_zero_or_pos cs.length with e | e
    · rw [e] at h; simp at h
    · exact e
  refine ⟨Nat.div_lt_of_lt_mul h.1, Nat.mod_lt _ h0, ?_⟩
  have h1 := h.2
  unfold atB at h1
  simp at h1
  exact h1.1
theorem clsF_ok (cs : Sbs) (t : Nat) : ClOk cs (clsF cs t (cs.length * cs.length)) := by
  intro x hx
  rw [cls_lp, List.mem_map] at hx
  obtain ⟨p, hp, rfl⟩ := hx
  exact ⟨_, _, rfl, (lp_mem hp).1, (lp_mem hp).2.1⟩
theorem ClOk.wo {cs : Sbs} {ls : Mvs} (h : ClOk cs ls) (t : Nat) (a b : Int) : ClOk (woS cs t a b) ls := by
  intro x hx
  obtain ⟨f, u, e, h1, h2⟩ := h x hx
  exact ⟨f, u, e, by rw [woS_len]; exact h1, by rw [woS_len]; exact h2⟩
theorem utJ_rs {cs : Sbs} {t i k j : Nat} (hok : SbOk cs) (ht : t < cs.length) (hj : j < (lpF cs t).length) :
    utJ (ensF (woS cs t i (-1)) (clsF cs t (cs.length * cs.length))) (ensF (woS cs t k (-1)) (clsF cs t (cs.length * cs.length))) (ensF (woS cs t i k) (clsF cs t (cs.length * cs.length))) j = rsB cs t i k (lpF cs t)[j] := by
  have hl : j < (clsF cs t (cs.length * cs.length)).length := by rw [cls_lp, List.length_map]; exact hj
  have hx : (clsF cs t (cs.length * cs.length))[j] = ((((lpF cs t)[j] / cs.length : Nat) : Int), (((lpF cs t)[j] % cs.length : Nat) : Int)) := by simp [cls_lp]
  obtain ⟨m1, m2, m3⟩ := lp_mem (List.getElem_mem hj)
  have e1 : ∀ a b : Int, (ensF (woS cs t a b) (clsF cs t (cs.length * cs.length))).getD j (0, 0) = enF (woS cs t a b) ((lpF cs t)[j] / cs.length) ((lpF cs t)[j] % cs.length) := fun a b => by
    rw [getD_at (by rw [ensF_len]; exact hl), ensF_at hl hx]
  have e2 : ∀ a b : Int, rtF (woS cs t a b) (((lpF cs t)[j] / cs.length : Nat) : Int) (((lpF cs t)[j] % cs.length : Nat) : Int) = rgF (woS cs t a b) ((lpF cs t)[j] / cs.length) ((lpF cs t)[j] % cs.length) := fun a b => rt_rg (woS_ok hok ht) (by rw [woS_len]; exact m1) (by rw [woS_len]; exact m2) m3
  rw [utJ, e1, e1, e1, rsB, e2, e2, e2]
  simp only [enF]
  generalize rgF (woS cs t i (-1)) _ _ = x
  generalize rgF (woS cs t k (-1)) _ _ = y
  generalize rgF (woS cs t i k) _ _ = z
  have hu : ∀ a b : Out, unl a b = !(decide ((a.1, a.2.1) = (b.1, b.2.1))) := fun a b => by
    unfold unl
    by_cases h1 : a.1 = b.1 <;> by_cases h2 : a.2.1 = b.2.1 <;> simp [h1, h2]
  rw [hu, hu, hu, utB]
  have c1 : decide ((z.1, z.2.1) = (x.1, x.2.1)) = decide ((x.1, x.2.1) = (z.1, z.2.1)) := by rw [decide_eq_decide]; exact eq_comm
  have c2 : decide ((z.1, z.2.1) = (y.1, y.2.1)) = decide ((y.1, y.2.1) = (z.1, z.2.1)) := by rw [decide_eq_decide]; exact eq_comm
  rw [c1, c2, Bool.and_comm (!decide ((x.1, x.2.1) = (z.1, z.2.1)))]
theorem ut_cl {cs : Sbs} {t i k : Nat} {r : Int} (hok : SbOk cs) (ht : t < cs.length)
    (h : UtS (ensF (woS cs t i (-1)) (clsF cs t (cs.length * cs.length))) (ensF (woS cs t k (-1)) (clsF cs t (cs.length * cs.length))) (ensF (woS cs t i k) (clsF cs t (cs.length * cs.length))) (clsF cs t (cs.length * cs.length)).length r) :
    (r = -1 ∧ clAt cs t i k = []) ∨ (∃ j : Nat, r = j ∧ ∃ h : j < (clsF cs t (cs.length * cs.length)).length, clAt cs t i k = [((t : Int), (i : Int), (k : Int), (clsF cs t (cs.length * cs.length))[j].1, (clsF cs t (cs.length * cs.length))[j].2)]) := by
  have hll : (clsF cs t (cs.length * cs.length)).length = (lpF cs t).length := by rw [cls_lp, List.length_map]
  rcases h with ⟨rfl, h⟩ | ⟨j, hj, rfl, h1, h2⟩
  · refine .inl ⟨rfl, ?_⟩
    have e : clF cs t i k = none := by
      rw [clF_lp, List.find?_eq_none]
      intro p hp
      obtain ⟨j, hj, rfl⟩ := List.getElem_of_mem hp
      have := h j (by rw [hll]; exact hj)
      rw [utJ_rs hok ht hj] at this
      simp [this]
    rw [clAt, e]
  · have hj' : j < (lpF cs t).length := by rw [← hll]; exact hj
    refine .inr ⟨j, rfl, hj, ?_⟩
    have e : clF cs t i k = some (lpF cs t)[j] := by
      rw [clF_lp, List.find?_eq_some_iff_getElem]
      rw [utJ_rs hok ht hj'] at h1
      refine ⟨h1, j, hj', rfl, fun q hq => ?_⟩
      have := h2 q hq
      rw [utJ_rs hok ht (by omega)] at this
      simp [this]
    rw [clAt, e]
    simp [cls_lp]
end Go.Proofs.Ytfaflnhembceoaa

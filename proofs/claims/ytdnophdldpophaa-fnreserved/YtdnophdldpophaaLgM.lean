/- The mathematics of FnLonger; no condition. -/
import Derived.Test.YtdnophdldpophaaRT
import Derived.Laws.StructEq
namespace Go.Proofs.Ytdnophdldpophaa
open Go.RowKit Go.ChangeShapes Go.WideShapes Go.ChangeAt
set_option linter.unusedVariables false
set_option linter.unusedSimpArgs false
set_option maxRecDepth 8000
theorem guard29 : Try.prog.eqGuardType Try.prog.depth 34 = false := by kernel_rfl
theorem stood29 : Try.prog.stoodInHeld 34 = false := by kernel_rfl
theorem und29 : Try.prog.underlying 34 = some (.struct (Try.prog.fieldsOf 34)) := by kernel_rfl
theorem fields29 : (Try.prog.fieldsOf 34).toList.map (fun f => (f.name == "_", f.type, f.offset)) = [(false, 3, 0), (false, 3, 1)] := by kernel_rfl
theorem part0 (a b : Value) (w : World) : (part 3 #[a, b] 0).run Try.prog w = .ok a w := by kernel_rfl
theorem part1 (a b : Value) (w : World) : (part 3 #[a, b] 1).run Try.prog w = .ok b w := by kernel_rfl
theorem eqRun29 (x y x' y' : Int) (w : World) : (Op.equalIn 10000 34 (.agg (P2 x y)) (.agg (P2 x' y'))).run Try.prog w = .ok (decide ((x, y) = (x', y'))) w := by
  rw [run_equalIn_struct w 9999 34 _ _ und29 stood29]
  have hf := fields29
  have hl : (Try.prog.fieldsOf 34).toList.length = 2 := by simpa using congrArg List.length hf
  revert hf hl
  generalize (Try.prog.fieldsOf 34).toList = fs
  intro hf hl
  match fs, hl, hf with
  | [f0, f1], _, hf =>
    simp only [List.map_cons, List.map_nil, List.cons.injEq, Prod.mk.injEq, and_true] at hf
    obtain ⟨⟨n0, t0, o0⟩, ⟨n1, t1, o1⟩⟩ := hf
    have e0 : f0.name ≠ "_" := by simpa using n0
    have e1 : f1.name ≠ "_" := by simpa using n1
    have hi : ∀ a b : Int, (Op.equalIn 9999 3 (.int .i64 a) (.int .i64 b)).run Try.prog w = .ok (a == b) w := fun a b => run_equalIn_int w 9998 3 .i64 .i64 a b Try.underlying3
    simp only [Op.eqFields, e0, e1, ne_eq, not_false_eq_true, if_true, t0, t1, o0, o1, Sem.run_bind, part0, part1, Result.andThen_ok, hi, P2]
    by_cases h0 : x = x' <;> by_cases h1 : y = y' <;> simp [h0, h1, part1, hi]
theorem guard37 : Try.prog.eqGuardType Try.prog.depth 25 = false := by kernel_rfl
theorem stood37 : Try.prog.stoodInHeld 25 = false := by kernel_rfl
theorem und37 : Try.prog.underlying 25 = some (.struct (Try.prog.fieldsOf 25)) := by kernel_rfl
theorem fields37 : (Try.prog.fieldsOf 25).toList.map (fun f => (f.name == "_", f.type, f.offset)) = [(false, 3, 0), (false, 3, 1)] := by kernel_rfl
theorem eqRun37 (x y x' y' : Int) (w : World) : (Op.equalIn 10000 25 (.agg (P2 x y)) (.agg (P2 x' y'))).run Try.prog w = .ok (decide ((x, y) = (x', y'))) w := by
  rw [run_equalIn_struct w 9999 25 _ _ und37 stood37]
  have hf := fields37
  have hl : (Try.prog.fieldsOf 25).toList.length = 2 := by simpa using congrArg List.length hf
  revert hf hl
  generalize (Try.prog.fieldsOf 25).toList = fs
  intro hf hl
  match fs, hl, hf with
  | [f0, f1], _, hf =>
    simp only [List.map_cons, List.map_nil, List.cons.injEq, Prod.mk.injEq, and_true] at hf
    obtain ⟨⟨n0, t0, o0⟩, ⟨n1, t1, o1⟩⟩ := hf
    have e0 : f0.name ≠ "_" := by simpa using n0
    have e1 : f1.name ≠ "_" := by simpa using n1
    have hi : ∀ a b : Int, (Op.equalIn 9999 3 (.int .i64 a) (.int .i64 b)).run Try.prog w = .ok (a == b) w := fun a b => run_equalIn_int w 9998 3 .i64 .i64 a b Try.underlying3
    simp only [Op.eqFields, e0, e1, ne_eq, not_false_eq_true, if_true, t0, t1, o0, o1, Sem.run_bind, part0, part1, Result.andThen_ok, hi, P2]
    by_cases h0 : x = x' <;> by_cases h1 : y = y' <;> simp [h0, h1, part1, hi]
/-- what is counted never grows less -/
theorem cN_ge {ls : List Tf} {z e r : Int} (ok : TfOk ls) (hz : HasZ ls z) : ∀ (f : Nat) (t s c : Int), t ≤ (cN ls z e r f t s c).1 ∧ s ≤ (cN ls z e r f t s c).2.1 ∧ c ≤ (cN ls z e r f t s c).2.2
  | 0, t, s, c => by simp [cN]
  | f + 1, t, s, c => by
    rw [cN]
    split
    · simp
    · have h1 := tfA_bd ok hz t
      have := cN_ge ok hz (e := e) (r := r) f (t + (tfA ls z t).2.2.1) (s + 1) (c + (tfA ls z t).2.2.2.1)
      omega
/-- a longer call counts no less -/
theorem cN_more {ls : List Tf} {z e e' r : Int} (ok : TfOk ls) (hz : HasZ ls z) (he : e ≤ e') : ∀ (f g : Nat) (t s c : Int), e' - t ≤ g → (cN ls z e r f t s c).2.1 ≤ (cN ls z e' r g t s c).2.1 ∧ (cN ls z e r f t s c).2.2 ≤ (cN ls z e' r g t s c).2.2
  | 0, g, t, s, c, h => by have := cN_ge ok hz (e := e') (r := r) g t s c; simp only [cN]; omega
  | f + 1, g, t, s, c, h => by
    by_cases hc : e ≤ t ∨ r < c + (tfA ls z t).2.2.2.1
    · rw [cN_stop _ _ _ _ _ _ _ _ hc]
      have := cN_ge ok hz (e := e') (r := r) g t s c
      exact this.2
    · rw [cN_step _ _ _ _ _ _ _ _ hc]
      have h1 := tfA_bd ok hz t
      match g, h with
      | 0, h => omega
      | g + 1, h =>
        rw [cN_step _ _ _ _ _ _ _ _ (by omega)]
        exact cN_more ok hz he f g _ _ _ (by omega)
theorem RtS.more {ls : List Tf} {z b e e' s c s' c' : Int} (h : RtS ls z b e s c true) (h' : RtS ls z b e' s' c' true) (he : e ≤ e') : s ≤ s' ∧ c ≤ c' := by
  rcases h with ⟨h1, -, rfl, rfl⟩ | ⟨-, h1, -⟩
  · rcases h' with ⟨h2, -, rfl, rfl⟩ | ⟨-, h2, -⟩
    · exact cN_more h1.1.1 h1.1.2.2.2 he _ _ _ _ _ (by omega)
    · cases h2
  · cases h1
theorem RtS.bd {ls : List Tf} {z b e s c : Int} (h : RtS ls z b e s c true) : 0 ≤ b ∧ b ≤ e ∧ e ≤ 1000000000 := by
  rcases h with ⟨h1, -⟩ | ⟨-, h1, -⟩
  · exact ⟨h1.1.2.1, h1.2.1, h1.2.2.1⟩
  · cases h1
theorem PtS.rt {ls : List Tf} {z b e s c s' c' : Int} {cs : List Int} {ok : Bool} (h : PtS ls z b e cs s c true) (h' : RtS ls z b e s' c' ok) : s = s' ∧ c = c' := by
  rcases h with ⟨-, h⟩ | ⟨-, h, -⟩
  · have := h.uniq h'; exact ⟨this.1, this.2.1⟩
  · cases h
theorem one_ok : TfOk [(0, 0, 10, 3, 1)] := by
  refine ⟨fun i h _ => ?_, by decide⟩
  have h0 : i = 0 := by simp at h; omega
  subst h0
  exact ⟨by show tfB (0, 0, 10, 3, 1) = true; decide, rfl⟩
theorem one_has : HasZ [(0, 0, 10, 3, 1)] 0 := ⟨0, by decide, rfl⟩
theorem one_at (t : Int) : tfA [(0, 0, 10, 3, 1)] 0 t = (0, 0, 10, 3, 1) := by
  obtain ⟨i, h1, hi, -⟩ := hoF_neg (t := t) one_has
  have h0 : i = 0 := by simp at hi; omega
  subst h0
  rw [tfA_at h1 hi]; rfl
theorem small_rate {s c : Int} {ok : Bool} (h : RtS [(0, 0, 10, 3, 1)] 0 5 26 s c ok) : s = 3 ∧ c = 10 ∧ ok = true := by
  have hok : RtOk [(0, 0, 10, 3, 1)] 0 5 26 := ⟨⟨one_ok, by decide, by decide, one_has⟩, by decide, by decide, by decide⟩
  have hc : rtF [(0, 0, 10, 3, 1)] 0 5 26 9223372036854775807 = (35, 3, 10) := by
    rw [rtF, show (26 - 5 : Int).toNat = 17 + 1 + 1 + 1 + 1 from rfl]
    simp only [one_at]
    rw [cN_step _ _ _ _ _ _ _ _ (by simp only [one_at]; omega)]
    simp only [one_at]
    rw [cN_step _ _ _ _ _ _ _ _ (by simp only [one_at]; omega)]
    simp only [one_at]
    rw [cN_step _ _ _ _ _ _ _ _ (by simp only [one_at]; omega)]
    simp only [one_at]
    rw [cN_stop _ _ _ _ _ _ _ _ (.inl (by omega))]
    rfl
  rcases h with ⟨-, rfl, rfl, rfl⟩ | ⟨h, -⟩
  · rw [hc]; exact ⟨rfl, rfl, rfl⟩
  · exact absurd hok h
end Go.Proofs.Ytdnophdldpophaa

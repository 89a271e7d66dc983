/- Plain facts on stuffed bits: unstuffed they are what they were, and no more than five 1 stand in a row there; no condition. -/
import Derived.Test.YtadhiddnjhjioaaStuffI
import Derived.Test.YtadhiddnjhjioaaUnI
namespace Go.Proofs.Ytadhiddnjhjioaa
set_option linter.unusedVariables false
set_option linter.unusedSimpArgs false
/-- how many 1 stand in a row at the end of the first j -/
def runTo (s : List Int) (j : Nat) : Int := (s.take j).foldl (fun r b => b * (r + 1)) 0
theorem runTo_succ (s : List Int) (j : Nat) (h : j < s.length) : runTo s (j + 1) = s.getD j 0 * (runTo s j + 1) := by
  simp only [runTo]
  rw [List.take_succ_eq_append_getElem h, List.foldl_append]
  simp [List.getElem?_eq_getElem h]
def runsOk (s : List Int) : Prop := ∀ j, j ≤ s.length → 0 ≤ runTo s j ∧ runTo s j ≤ 5
theorem runTo_pre (s t : List Int) (j : Nat) (h : j ≤ s.length) : runTo (s ++ t) j = runTo s j := by
  simp only [runTo]; rw [List.take_append_of_le_length h]
theorem runTo_snoc (s : List Int) (b : Int) : runTo (s ++ [b]) (s.length + 1) = b * (runTo s s.length + 1) := by
  rw [runTo_succ _ _ (by simp), runTo_pre _ _ _ (Nat.le_refl _)]
  simp
theorem runsOk_snoc {s : List Int} {b : Int} (h : runsOk s) (hb : 0 ≤ b * (runTo s s.length + 1) ∧ b * (runTo s s.length + 1) ≤ 5) : runsOk (s ++ [b]) := by
  intro j hj
  by_cases hjs : j ≤ s.length
  · rw [runTo_pre _ _ _ hjs]; exact h j hjs
  · obtain rfl : j = s.length + 1 := by simp at hj; omega
    rw [runTo_snoc]; exact hb
theorem stS_facts (zs : List Int) (hz : areB zs = true) : ∀ j, j ≤ zs.length → runsOk (stS zs j).1 ∧ runTo (stS zs j).1 (stS zs j).1.length = (stS zs j).2 ∧ areB (stS zs j).1 = true ∧
    (stS zs j).1.foldl stepU (some ([], 0)) = some (zs.take j, (stS zs j).2)
  | 0, _ => by
    refine ⟨?_, rfl, rfl, rfl⟩
    intro j hj
    have : j = 0 := by simpa [stS] using hj
    subst this; simp [runTo]
  | j + 1, h => by
    have ih := stS_facts zs hz j (by omega)
    have bd := stS_bd zs j (by omega)
    have hb := (areB_iff zs).1 hz j (by omega)
    have tk : zs.take (j + 1) = zs.take j ++ [zs.getD j 0] := by
      rw [List.take_succ_eq_append_getElem (by omega)]; simp [List.getElem?_eq_getElem (show j < zs.length by omega)]
    rw [stS_succ zs j (by omega), tk]
    generalize stS zs j = st at ih bd
    obtain ⟨o, n⟩ := st
    generalize zs.getD j 0 = z at hb tk
    obtain ⟨i1, i2, i3, i4⟩ := ih
    dsimp only at i1 i2 i3 i4 bd
    have areB_snoc : ∀ (l : List Int) (x : Int), areB l = true → isBit x = true → areB (l ++ [x]) = true := by
      intro l x h1 h2
      simp only [areB, List.all_append, Bool.and_eq_true, List.all_cons, List.all_nil, Bool.and_true] at *
      exact ⟨h1, h2⟩
    rcases bit_cases hb with rfl | rfl
    · rw [stepS_0]
      refine ⟨runsOk_snoc i1 (by omega), ?_, areB_snoc _ _ i3 rfl, ?_⟩
      · dsimp only; rw [show (o ++ [(0 : Int)]).length = o.length + 1 by simp, runTo_snoc]; omega
      · dsimp only; rw [List.foldl_append, i4]; exact stepU_0 _ _ (by omega)
    · by_cases h4 : n = 4
      · subst h4
        rw [stepS_5]
        have r1 : runsOk (o ++ [1]) := runsOk_snoc i1 (by omega)
        have e1 : runTo (o ++ [1]) (o ++ [(1 : Int)]).length = 5 := by rw [show (o ++ [(1 : Int)]).length = o.length + 1 by simp, runTo_snoc]; omega
        refine ⟨runsOk_snoc r1 (by omega), ?_, areB_snoc _ _ (areB_snoc _ _ i3 rfl) rfl, ?_⟩
        · dsimp only; rw [show (o ++ [(1 : Int)] ++ [(0 : Int)]).length = (o ++ [(1 : Int)]).length + 1 by simp, runTo_snoc]; omega
        · dsimp only
          rw [List.foldl_append, List.foldl_append, i4]
          have s1 : List.foldl stepU (some (zs.take j, 4)) [1] = some (zs.take j ++ [1], 5) := by have := stepU_1 (zs.take j) 4 (by omega); simpa using this
          rw [s1]; exact stepU_50 _
      · rw [stepS_1 _ _ h4]
        refine ⟨runsOk_snoc i1 (by omega), ?_, areB_snoc _ _ i3 rfl, ?_⟩
        · dsimp only; rw [show (o ++ [(1 : Int)]).length = o.length + 1 by simp, runTo_snoc]; omega
        · dsimp only; rw [List.foldl_append, i4]; exact stepU_1 _ _ (by omega)
theorem stuffed_back {zs : List Int} (h : stuffOk zs = true) : runsOk (stuffL zs) ∧ unOk (stuffL zs) = true ∧ unL (stuffL zs) = zs := by
  have h2 : areB zs = true ∧ zs.length ≤ 2000 := by simpa [stuffOk] using h
  obtain ⟨f1, f2, f3, f4⟩ := stS_facts zs h2.1 zs.length (Nat.le_refl _)
  have bd := stS_bd zs zs.length (Nat.le_refl _)
  have e : stuffL zs = (stS zs zs.length).1 := by simp [stuffL, h]
  rw [e]
  have hin : unIn (stS zs zs.length).1 = true := by
    simp only [unIn, f3, Bool.true_and, decide_eq_true_eq]; omega
  have hst : stU (stS zs zs.length).1 (stS zs zs.length).1.length = some (zs, (stS zs zs.length).2) := by
    rw [stU, List.take_length, f4, List.take_length]
  have := un_good hin (by omega) hst
  exact ⟨f1, this.1, this.2⟩
theorem five_ok : stuffOk [1, 1, 1, 1, 1] = true := by decide
theorem five_len : (stuffL [1, 1, 1, 1, 1]).length = 6 := by decide
end Go.Proofs.Ytadhiddnjhjioaa

/- Loudness never falls; no condition. -/
import Derived.Test.YtikgempdohpdjaaLda
namespace Go.Proofs.Ytikgempdohpdjaa
open Go.RowKit Go.ChangeShapes Go.WideShapes Go.ChangeAt
set_option linter.unusedVariables false
set_option linter.unusedSimpArgs false
set_option maxRecDepth 8000

theorem cap6_mono {a b : Int} (h : a ≤ b) : cap6 a ≤ cap6 b := by unfold cap6; split <;> split <;> omega
theorem nxS_mono {g : List (List Int)} (hg : GOk g) {noise : Int} {x y : List Int} {i : Nat} (hi : i < g.length) (hxy : ∀ k, k < g.length → x.getD k 0 ≤ y.getD k 0) : ∀ k, k ≤ g.length → nxS (g.getD i []) noise x i k ≤ nxS (g.getD i []) noise y i k
  | 0, _ => Int.le_refl _
  | k + 1, hk => by
    have ih := nxS_mono (noise := noise) hg hi hxy k (by omega)
    have b := hg.bd i k hi (by omega)
    have p : (g.getD i []).getD k 0 * x.getD k 0 ≤ (g.getD i []).getD k 0 * y.getD k 0 := Int.mul_le_mul_of_nonneg_left (hxy k (by omega)) b.1
    rw [nxS, nxS]
    split <;> omega
theorem nxV_mono {g : List (List Int)} (hg : GOk g) {noise want : Int} (hw : 1 ≤ want) {x y : List Int} {i : Nat} (hi : i < g.length) (hxy : ∀ k, k < g.length → x.getD k 0 ≤ y.getD k 0) : nxV g noise want x i ≤ nxV g noise want y i := by
  unfold nxV
  have m := nxS_mono (noise := noise) hg hi hxy g.length (Nat.le_refl _)
  have p : want * nxS (g.getD i []) noise x i g.length ≤ want * nxS (g.getD i []) noise y i g.length := Int.mul_le_mul_of_nonneg_left m (by omega)
  have d := hg.dg i hi
  exact cap6_mono (Int.ediv_le_ediv (by omega) (by omega))
/-- a step more makes none less loud -/
theorem ldN_mono {g : List (List Int)} (hg : GOk g) {noise want : Int} (h1 : 1 ≤ noise) (h2 : noise ≤ 1000) (hw : 1 ≤ want) : ∀ s k, k < g.length → (ldN g noise want s).getD k 0 ≤ (ldN g noise want (s + 1)).getD k 0
  | 0, k, hk => by
    have := (ldN_ok hg h1 h2 hw 1).bd k hk
    have e : (ldN g noise want 0).getD k 0 = 1 := by simp [ldN, List.getElem?_replicate, hk]
    rw [e]; exact this.1
  | s + 1, k, hk => by
    rw [ldN, ldN, nxL_at _ _ _ _ _ hk, nxL_at _ _ _ _ _ hk]
    exact nxV_mono hg hw hk (ldN_mono hg h1 h2 hw s)
/-- where it stays each is heard as wanted, or as loud as it can -/
theorem ldN_still {g : List (List Int)} (hg : GOk g) {noise want : Int} {s : Nat} {i : Nat} (hi : i < g.length) (he : (ldN g noise want (s + 1)).getD i 0 = (ldN g noise want s).getD i 0) (hx : (ldN g noise want s).getD i 0 < 1000000) :
    want * nxS (g.getD i []) noise (ldN g noise want s) i g.length ≤ (g.getD i []).getD i 0 * (ldN g noise want s).getD i 0 := by
  rw [ldN, nxL_at _ _ _ _ _ hi] at he
  rw [← he] at hx
  rw [← he]
  have d := hg.dg i hi
  unfold nxV at hx ⊢
  obtain ⟨S, hS⟩ : ∃ S, want * nxS (g.getD i []) noise (ldN g noise want s) i g.length = S := ⟨_, rfl⟩
  obtain ⟨D, hD⟩ : ∃ D, (g.getD i []).getD i 0 = D := ⟨_, rfl⟩
  rw [hS, hD] at hx ⊢
  rw [hD] at d
  have hq : cap6 ((S + D - 1) / D) = (S + D - 1) / D := by
    unfold cap6 at hx ⊢
    split
    · rename_i h; rw [if_pos h] at hx; omega
    · rfl
  rw [hq]
  have h3 := Int.emod_add_mul_ediv (S + D - 1) D
  have h4 := Int.emod_lt_of_pos (S + D - 1) (show 0 < D by omega)
  omega

end Go.Proofs.Ytikgempdohpdjaa

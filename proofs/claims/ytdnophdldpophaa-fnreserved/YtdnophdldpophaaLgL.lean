/- FnLonger's body answers true at every code; no condition. -/
import Derived.Test.YtdnophdldpophaaLgM
import Derived.Test.YtdnophdldpophaaDrH
import Derived.Test.YtdnophdldpophaaOpen
namespace Go.Proofs.Ytdnophdldpophaa
open Go.RowKit Go.ChangeShapes Go.WideShapes Go.ChangeAt
set_option linter.unusedVariables false
set_option linter.unusedSimpArgs false
set_option maxRecDepth 8000
theorem big_c (v : Value) (zs : List Int) (w : World) (h : Rd .u8 w v zs) : Calls Try.prog 9 #[v] w fun e w' => e = .returned (.bool (decide ((1048576 : Int) < (zs.length : Int)))) ∧ w' = w := by
  obtain ⟨a, cap, rfl, -, h2, -⟩ := h
  unfold maxLen at h2
  go_enter Try.func9, Try.ntmps9
  go_wp2
  go_ret
  exact ⟨rfl, rfl⟩
set_option maxHeartbeats 1600000 in
theorem at_c (v : Value) (zs : List Int) (i : Int) (w : World) (h : Rd .u8 w v zs) (hok : ∀ z ∈ zs, 0 ≤ z ∧ z ≤ 255) (hi0 : 0 ≤ i) (hi : i ≤ 100000) (hlen : zs.length ≤ 1048576) :
   Calls Try.prog 14 #[v, .int .i64 i] w fun e w' => ∃ x : Int, e = .returned (.int .i64 x) ∧ 0 ≤ x ∧ x ≤ 255 ∧ w' = w := by
  obtain ⟨a, cap, rfl, h1, h2, h3⟩ := h
  unfold maxLen at h2
  obtain ⟨k, rfl⟩ := Int.eq_ofNat_of_zero_le hi0
  by_cases hlt : k < zs.length
  · rcases h3 with h3 | ⟨b, off, rfl, h4⟩
    · subst h3; simp at hlt
    have hc := h4 k hlt
    have hb := hok _ (List.getElem_mem hlt)
    have hltI : (k : Int) < (zs.length : Int) := by omega
    clear h4 hok
    go_enter Try.func14, Try.ntmps14
    go_wp2
    go_ret
    exact ⟨_, rfl, hb.1, hb.2, rfl⟩
  · clear h3 hok
    go_enter Try.func14, Try.ntmps14
    go_wp2
    go_ret
    exact ⟨_, rfl, by omega, by omega, rfl⟩
end Go.Proofs.Ytdnophdldpophaa

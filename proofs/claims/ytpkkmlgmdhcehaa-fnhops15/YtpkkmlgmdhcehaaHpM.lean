/- Hop at eight channels; no condition. -/
import Derived.Test.YtpkkmlgmdhcehaaDrH
import Derived.Test.YtpkkmlgmdhcehaaKey
namespace Go.Proofs.Ytpkkmlgmdhcehaa
open Go.RowKit Go.ChangeShapes Go.WideShapes Go.ChangeAt
set_option linter.unusedVariables false
set_option linter.unusedSimpArgs false
set_option maxRecDepth 8000

theorem hop8 (s f : Int) (s0 : 0 ≤ s) (s1 : s ≤ 65535) (f0 : 0 ≤ f) (f1 : f ≤ 1000000) : hopR s f 8 = hopX s f / 8192 := by
  have hb : hopB s f 8 = true := by unfold hopB; rw [decide_eq_true (show 0 ≤ s ∧ s ≤ 65535 from ⟨s0, s1⟩), decide_eq_true (show 0 ≤ f ∧ f ≤ 1000000 from ⟨f0, f1⟩)]; rfl
  unfold hopR
  rw [if_pos hb]
  have x0 : 0 ≤ hopX s f := by unfold hopX; omega
  have x1 : hopX s f ≤ 65535 := by unfold hopX; omega
  have := xo_top (hopX s f) (hopX s f / 256) x0 x1 (by omega) (by omega)
  omega
/-- within some steps each of the eight is used -/
theorem hop_all (s b : Int) (m : Nat) (hm : m < 8) : ∃ k : Nat, k < 256 ∧ hopX s (16 * (k : Int) + b) / 8192 = (m : Int) := by
  obtain ⟨c, hc⟩ : ∃ c, s + 40503 * b = c := ⟨_, rfl⟩
  obtain ⟨k, hk⟩ : ∃ k : Nat, ((c - 8192 * (m : Int)) % 65536) / 7312 = (k : Int) := ⟨(((c - 8192 * (m : Int)) % 65536) / 7312).toNat, by omega⟩
  refine ⟨k, by omega, ?_⟩
  unfold hopX
  have e : s + 40503 * (16 * (k : Int) + b) = c - 7312 * k + 65536 * (10 * k) := by omega
  rw [e, Int.add_mul_emod_self_left]
  omega
theorem hop_lt (s f c : Int) (h : c ≤ hopR s f c) : hopR s f c < 0 := by
  unfold hopR at *
  split at h
  · rename_i hb
    unfold hopB at hb
    simp only [Bool.and_eq_true, decide_eq_true_eq] at hb
    obtain ⟨⟨-, -⟩, c0, c1⟩ := hb
    have x0 : 0 ≤ hopX s f := by unfold hopX; omega
    have x1 : hopX s f ≤ 65535 := by unfold hopX; omega
    have xb := xo_bd (hopX s f) (hopX s f / 256) x0 x1 (by omega) (by omega)
    have m1 : xo (hopX s f) (hopX s f / 256) * c ≤ 65535 * c := Int.mul_le_mul_of_nonneg_right xb.2 (by omega)
    omega
  · rename_i hb
    rw [if_neg hb]; decide
/-- the byte of a code at a place -/
def atV (zs : List Int) (k : Nat) : Int := if k < zs.length then zs.getD k 0 else ((k : Int) * 7 + (zs.length : Int)) % 256
theorem atV_bd (zs : List Int) (k : Nat) (h : ∀ z ∈ zs, 0 ≤ z ∧ z ≤ 255) : 0 ≤ atV zs k ∧ atV zs k ≤ 255 := by
  unfold atV
  split
  · exact getD_bd _ k _ _ h (by omega)
  · omega
set_option maxHeartbeats 800000 in
theorem at_x (v : Value) (zs : List Int) (k : Nat) (w : World) (h : Rd .u8 w v zs) (hok : ∀ z ∈ zs, 0 ≤ z ∧ z ≤ 255) (hk : k ≤ 100000) (hlen : zs.length ≤ 1048576) :
   Calls Try.prog 10 #[v, .int .i64 k] w fun e w' => e = .returned (.int .i64 (atV zs k)) ∧ w' = w := by
  obtain ⟨a, cap, rfl, h1, h2, h3⟩ := h
  unfold maxLen at h2
  by_cases hlt : k < zs.length
  · rcases h3 with h3 | ⟨b, off, rfl, h4⟩
    · subst h3; simp at hlt
    obtain ⟨z, hz⟩ : ∃ z, zs.getD k 0 = z := ⟨_, rfl⟩
    have HE : Hid (atV zs k = z) := by show _ = _; unfold atV; rw [if_pos hlt, hz]
    have hb : 0 ≤ z ∧ z ≤ 255 := by rw [← hz]; exact getD_bd _ k _ _ hok hlt
    have hc := h4 k hlt
    rw [hz] at hc
    have hltI : (k : Int) < (zs.length : Int) := by omega
    have hb0 := hb.1
    have hb1 := hb.2
    clear h4 hok hz hb
    go_enter Try.func10, Try.ntmps10
    go_wp2
    go_ret
    exact ⟨by rw [HE.out]; rfl, rfl⟩
  · have HE : Hid (atV zs k = ((k : Int) * 7 + (zs.length : Int)) % 256) := by show _ = _; unfold atV; rw [if_neg hlt]
    clear h3 hok
    go_enter Try.func10, Try.ntmps10
    go_wp2
    go_ret
    exact ⟨by rw [HE.out]; rfl, rfl⟩

end Go.Proofs.Ytpkkmlgmdhcehaa

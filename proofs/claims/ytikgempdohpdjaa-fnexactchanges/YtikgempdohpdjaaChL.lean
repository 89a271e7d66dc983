/- The law of Changes; no condition. -/
import Derived.Test.YtikgempdohpdjaaChn
namespace Go.Proofs.Ytikgempdohpdjaa
open Go.RowKit Go.ChangeShapes Go.WideShapes Go.ChangeAt
set_option linter.unusedVariables false
set_option linter.unusedSimpArgs false
set_option maxRecDepth 8000

set_option maxHeartbeats 3200000 in
theorem changesLaw (v : Value) (zs : List Int) (w : World) (h : Rd .i64 w v zs) : Calls Try.prog 8 #[v] w fun e w' => e = .returned (.bool true) ∧ Below w.heap.size w w' := by
  have HR : Hid (Rd .i64 w v zs) := h
  obtain ⟨a, cap, hv, h1, h2, -⟩ := h
  unfold maxLen at h2
  by_cases hbig : (1048576 : Int) < (zs.length : Int)
  case pos =>
    subst hv
    have hd : decide ((1048576 : Int) < (zs.length : Int)) = true := decide_eq_true hbig
    go_enter Try.func8, Try.ntmps8
    go_wp2
    go_ret
    exact ⟨rfl, Below.refl _ _⟩
  have HLN : Hid (zs.length ≤ 1048576) := by show _ ≤ _; omega
  have hd : decide ((1048576 : Int) < (zs.length : Int)) = false := decide_eq_false hbig
  have he : ((1048576 : Int) < (zs.length : Int)) = False := eq_false hbig
  obtain ⟨p, hp⟩ : ∃ p : Int, ((chT zs zs.length).length : Int) = p := ⟨_, rfl⟩
  obtain ⟨q, hq⟩ : ∃ q : Int, fwT (chT zs zs.length) (chT zs zs.length).length = q := ⟨_, rfl⟩
  have HPQ : Hid (((chT zs zs.length).length : Int) = p ∧ fwT (chT zs zs.length) (chT zs zs.length).length = q) := ⟨hp, hq⟩
  have hn1 : (p != p) = false := by simp
  have hn2 : (q != q) = false := by simp
  clear hbig hp hq
  subst hv
  go_enter Try.func8, Try.ntmps8
  go_wp2_with (fail)
  obtain ⟨v0, hv0⟩ : ∃ x, Value.slice a zs.length cap = x := ⟨_, rfl⟩
  rw [hv0] at HR ⊢
  clear hd he h1 h2 hv0
  refine (toI v0 zs _ HR.out HLN.out).mono ?_
  rintro e w1 ⟨v1, rfl, o1, b1⟩
  have HB1 : Hid (Below w.heap.size w w1) := b1
  have K1 : Hid (Rd .i64 w1 v1 zs) := o1.rd
  clear o1 b1
  go_wp2_with (fail)
  refine (chM_c v1 zs _ K1.out HLN.out).mono ?_
  rintro e w2 ⟨rfl, b1⟩
  have HB2 : Hid (Below w.heap.size w w2) := belowCall HB1.out b1 HB1.out.size
  rw [HPQ.out.1, HPQ.out.2]
  clear b1 HB1 K1
  go_wp2_with (fail)
  refine (toI v0 zs _ (HR.out.below HB2.out) HLN.out).mono ?_
  rintro e w3 ⟨v3, rfl, o1, b1⟩
  have HB3 : Hid (Below w.heap.size w w3) := belowCall HB2.out b1 HB2.out.size
  have K3 : Hid (Rd .i64 w3 v3 zs) := o1.rd
  clear o1 b1 HB2
  go_wp2_with (fail)
  refine (chI_c v3 zs _ K3.out HLN.out).mono ?_
  rintro e w4 ⟨rfl, b1⟩
  have HB4 : Hid (Below w.heap.size w w4) := belowCall HB3.out b1 HB3.out.size
  have K4 : Hid (Rd .i64 w4 v3 zs) := K3.out.below b1
  rw [HPQ.out.1, HPQ.out.2]
  clear b1 HB3 K3
  go_wp2_with (fail)
  refine (toI v0 zs _ (HR.out.below HB4.out) HLN.out).mono ?_
  rintro e w5 ⟨v5, rfl, o1, b1⟩
  have HB5 : Hid (Below w.heap.size w w5) := belowCall HB4.out b1 HB4.out.size
  have K5 : Hid (Rd .i64 w5 v5 zs) := o1.rd
  have K6 : Hid (Rd .i64 w5 v3 zs) := K4.out.below b1
  clear o1 b1 HB4 K4
  go_wp2_with (fail)
  refine (eqIS v3 v5 zs _ K6.out K5.out).mono ?_
  rintro e w6 ⟨rfl, b1⟩
  have HB6 : Hid (Below w.heap.size w w6) := belowCall HB5.out b1 HB5.out.size
  clear b1
  go_wp2
  go_ret
  exact ⟨rfl, HB6.out⟩

end Go.Proofs.Ytikgempdohpdjaa

/- Finite floats, of both sides; no condition. -/
import Derived.Test.YtmhpfbcdikldcaaQuo
namespace Go.Proofs.Ytmhpfbcdikldcaa
open Go.RowKit Go.ChangeShapes Go.WideShapes Go.ChangeAt
set_option linter.unusedVariables false
set_option linter.unusedSimpArgs false
set_option maxRecDepth 8000
theorem cf97 (x : Nat) (w : World) : (callFunc 43 #[.float .f64 x]).run Try.prog w = .ok (.value (.int .u64 (x : Int))) w := by kernel_rfl
theorem cf96 (x : Int) (w : World) : (callFunc 42 #[.int .u64 x]).run Try.prog w = .ok (.value (.float .f64 x.toNat)) w := by kernel_rfl
theorem andnot63 (x : Nat) (hx : x < 2 ^ 64) : (bits .andNot .u64 (x : Int) 9223372036854775808).toNat = x % 2 ^ 63 := by
  have h1 : BitVec.ofInt 64 (x : Int) = BitVec.ofNat 64 x := by simp
  have h2 : ~~~ (BitVec.ofInt 64 9223372036854775808) = BitVec.ofNat 64 (2 ^ 63 - 1) := by decide
  have h3 : (BitVec.ofInt 64 (x : Int) &&& ~~~ (BitVec.ofInt 64 9223372036854775808)).toNat = x % 2 ^ 63 := by
    rw [h1, h2, BitVec.toNat_and, BitVec.toNat_ofNat, BitVec.toNat_ofNat, Nat.mod_eq_of_lt hx, Nat.mod_eq_of_lt (by decide), Nat.and_two_pow_sub_one_eq_mod]
  have h4 : bits .andNot .u64 (x : Int) 9223372036854775808 = IntKind.wrap .u64 ((BitVec.ofInt 64 (x : Int) &&& ~~~ (BitVec.ofInt 64 9223372036854775808)).toNat) := rfl
  rw [h4, h3]
  have h5 : x % 2 ^ 63 < 2 ^ 63 := Nat.mod_lt _ (Nat.two_pow_pos _)
  generalize x % 2 ^ 63 = r at h5
  have e : (2:Nat) ^ 63 = 9223372036854775808 := by decide
  rw [e] at h5
  simp [IntKind.wrap, IntKind.signed, IntKind.bits]
  omega
theorem abs_c (x : Nat) (hx : x < 2 ^ 64) (w : World) : Calls Try.prog 41 #[.float .f64 x] w fun e w' => e = .returned (.float .f64 (x % 2 ^ 63)) ∧ w' = w := by
  have HA : Hid ((bits .andNot .u64 (x : Int) 9223372036854775808).toNat = x % 2 ^ 63) := andnot63 x hx
  have h1 := cf97
  have h2 := cf96
  go_enter Try.func41, Try.ntmps41
  go_wp2
  go_ret
  exact ⟨by rw [← HA.out]; rfl, rfl⟩
theorem isNaN_c (x : Nat) (w : World) : Calls Try.prog 39 #[.float .f64 x] w fun e w' => e = .returned (.bool (fnan .f64 x)) ∧ w' = w := by
  have ho : (FloatKind.f64.format.order x x != some .eq) = fnan .f64 x := by
    cases h : fnan .f64 x
    · rw [order_self h]; rfl
    · rw [order_nan h]; rfl
  have HO : Hid ((FloatKind.f64.format.order x x != some .eq) = fnan .f64 x) := ho
  clear ho
  go_enter Try.func39, Try.ntmps39
  go_wp2
  go_ret
  exact ⟨by rw [← HO.out]; rfl, rfl⟩
theorem isInf_c (x : Nat) (hx : x < 2 ^ 64) (hn : fnan .f64 x = false) (w : World) : Calls Try.prog 40 #[.float .f64 x, .int .i64 0] w fun e w' => e = .returned (.bool (!finB x)) ∧ w' = w := by
  have HI : Hid ((FloatKind.f64.format.order (x % 2 ^ 63) 9218868437227405311 == some .gt) = !finB x) := inf_cmp hn
  go_enter Try.func40, Try.ntmps40
  go_wp2_with (fail)
  refine (abs_c x hx w).mono ?_
  rintro e w' ⟨rfl, hw⟩
  rw [hw]
  clear hw
  go_wp2
  go_ret
  exact ⟨by rw [← HI.out]; rfl, rfl⟩
theorem fin_nan {x : Nat} (h : fnan .f64 x = true) : finB x = false := by
  unfold fnan at h
  unfold finB
  cases hd : FloatKind.f64.decode x <;> rw [hd] at h <;> first | rfl | (cases h; done)
theorem finPart_c (x : Nat) (hx : x < 2 ^ 64) (w : World) : Calls Try.prog 36 #[.float .f64 x] w fun e w' => e = .returned (.bool (finB x)) ∧ w' = w := by
  cases hn : fnan .f64 x
  · have HN : Hid (fnan .f64 x = false) := hn
    go_enter Try.func36, Try.ntmps36
    go_wp2_with (fail)
    refine (isNaN_c x w).mono ?_
    rintro e w' ⟨rfl, hw⟩
    rw [hw]
    clear hw
    go_wp2_with (fail)
    refine (isInf_c x hx HN.out w).mono ?_
    rintro e w' ⟨rfl, hw⟩
    rw [hw]
    clear hw
    go_wp2
    go_ret
    exact ⟨by simp, rfl⟩
  · have HF : Hid (finB x = false) := fin_nan hn
    go_enter Try.func36, Try.ntmps36
    go_wp2_with (fail)
    refine (isNaN_c x w).mono ?_
    rintro e w' ⟨rfl, hw⟩
    rw [hw]
    clear hw
    go_wp2
    go_ret
    exact ⟨by rw [HF.out]; rfl, rfl⟩
theorem finI_c (x y : Nat) (hx : x < 2 ^ 64) (hy : y < 2 ^ 64) (w : World) : Calls Try.prog 34 #[.complex .f64 x y] w fun e w' => e = .returned (.bool (finB x && finB y)) ∧ w' = w := by
  cases h : finB x
  · have HF : Hid (finB x = false) := h
    go_enter Try.func34, Try.ntmps34
    go_wp2_with (fail)
    refine (finPart_c x hx w).mono ?_
    rintro e w' ⟨rfl, hw⟩
    rw [hw]
    clear hw
    go_wp2
    go_ret
    exact ⟨rfl, rfl⟩
  · have HF : Hid (finB x = true) := h
    go_enter Try.func34, Try.ntmps34
    go_wp2_with (fail)
    refine (finPart_c x hx w).mono ?_
    rintro e w' ⟨rfl, hw⟩
    rw [hw]
    clear hw
    go_wp2_with (fail)
    refine (finPart_c y hy w).mono ?_
    rintro e w' ⟨rfl, hw⟩
    rw [hw]
    clear hw
    go_wp2
    go_ret
    exact ⟨by simp, rfl⟩
end Go.Proofs.Ytmhpfbcdikldcaa

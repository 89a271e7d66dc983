/- Plain facts on cells: exclusive-or twice is what was; one byte that is turned changes the sum, unless by 251; no condition. -/
import Derived.Test.YtadhiddnjhjioaaXor
import Derived.Laws.BitsAllLaws
namespace Go.Proofs.Ytadhiddnjhjioaa
set_option linter.unusedVariables false
set_option linter.unusedSimpArgs false
theorem xb_xb (x y : Int) (hx : 0 ≤ x ∧ x ≤ 255) (hy : 0 ≤ y ∧ y ≤ 255) : xb (xb x y) y = x := by
  have hb := xb_bd x y
  have e1 : xb x y = ((x.toNat ^^^ y.toNat : Nat) : Int) := u8_xor x y (by omega) (by omega) (by omega) (by omega)
  have e2 : xb (xb x y) y = (((xb x y).toNat ^^^ y.toNat : Nat) : Int) := u8_xor _ y (by omega) (by omega) (by omega) (by omega)
  rw [e2, e1, Int.toNat_natCast, Nat.xor_assoc, Nat.xor_self, Nat.xor_zero]
  omega
theorem xz_xz {a b : List Int} (ha : B16 a) (hb : B16 b) : xz (xz a b 16) b 16 = a :=
  B16_ext (xz_B16 b (xz_B16 b ha 16) 16) ha fun k hk => by
    rw [xz_at _ _ _ _ hk, if_pos hk, xz_at _ _ _ _ hk, if_pos hk]
    exact xb_xb _ _ (B16_at ha k) (B16_at hb k)
theorem sumTo_set (a : List Int) (k : Nat) (x : Int) (hk : k < a.length) : ∀ j, sumTo (a.set k x) j = sumTo a j + if k < j then ((k + 1 : Nat) : Int) * (x - a.getD k 0) else 0
  | 0 => by simp [sumTo]
  | j + 1 => by
    have ih := sumTo_set a k x hk j
    simp only [sumTo]
    rw [ih]
    by_cases hkj : k = j
    · subst hkj
      have e : (a.set k x).getD k 0 = x := by simp [List.getElem?_set, hk]
      rw [e, if_neg (Nat.lt_irrefl _), if_pos (by omega), Int.mul_sub]
      omega
    · have e : (a.set k x).getD j 0 = a.getD j 0 := by simp [List.getElem?_set, hkj]
      rw [e]
      by_cases hlt : k < j
      · rw [if_pos hlt, if_pos (by omega)]; omega
      · rw [if_neg hlt, if_neg (by omega)]; omega
theorem prime251 (k : Nat) (hk : k < 16) (t : Int) (h : (((k + 1 : Nat) : Int) * t) % 251 = 0) : t % 251 = 0 := by
  have key : ∀ m : Nat, m < 17 → m ≠ 0 → ∀ t : Int, ((m : Int) * t) % 251 = 0 → t % 251 = 0 := by
    intro m hm h0 t ht
    match m, hm, h0, ht with
    | 1, _, _, ht => omega
    | 2, _, _, ht => omega
    | 3, _, _, ht => omega
    | 4, _, _, ht => omega
    | 5, _, _, ht => omega
    | 6, _, _, ht => omega
    | 7, _, _, ht => omega
    | 8, _, _, ht => omega
    | 9, _, _, ht => omega
    | 10, _, _, ht => omega
    | 11, _, _, ht => omega
    | 12, _, _, ht => omega
    | 13, _, _, ht => omega
    | 14, _, _, ht => omega
    | 15, _, _, ht => omega
    | 16, _, _, ht => omega
    | n + 17, hm, _, _ => exact absurd hm (by omega)
  exact key (k + 1) (by omega) (by omega) t h
theorem hurt_sum {a : List Int} (ha : B16 a) (k : Nat) (hk : k < 16) (x : Int) (hd : (x - a.getD k 0) % 251 ≠ 0) : sumTo (a.set k x) 16 % 251 ≠ sumTo a 16 % 251 := by
  have h1 := ha.1
  intro he
  rw [sumTo_set a k x (by omega) 16, if_pos hk] at he
  exact hd (prime251 k hk _ (by omega))
theorem tmod_ne {t : Int} (h : ¬ t.tmod 251 = 0) : t % 251 ≠ 0 := fun h0 => h (Int.tmod_eq_zero_of_dvd (Int.dvd_of_emod_eq_zero h0))
theorem two_sum : sumTo (0 :: 1 :: List.replicate 14 0) 16 % 251 = 2 := by decide
end Go.Proofs.Ytadhiddnjhjioaa

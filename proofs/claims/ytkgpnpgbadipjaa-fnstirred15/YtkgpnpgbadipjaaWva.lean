/- What Weave15 and Unweave15 tell; no condition. -/
import Derived.Test.YtkgpnpgbadipjaaSta
namespace Go.Proofs.Ytkgpnpgbadipjaa
open Go.RowKit Go.ChangeShapes Go.WideShapes Go.ChangeAt
set_option linter.unusedVariables false
set_option linter.unusedSimpArgs false
set_option maxRecDepth 8000

/-- told column by column: r inner, c columns -/
def wvA (zs : List Int) (r c t : Nat) : Int := zs.getD (t % r * c + t / r) 0
def wvL (zs : List Int) (r c : Nat) : List Int := (List.range (r * c)).map (wvA zs r c)
theorem wvL_len (zs : List Int) (r c : Nat) : (wvL zs r c).length = r * c := by simp [wvL]
theorem wvL_at (zs : List Int) (r c t : Nat) (h : t < r * c) : (wvL zs r c).getD t 0 = wvA zs r c t := by simp [wvL, List.getElem?_map, List.getElem?_range h]
theorem wvL_rc (zs : List Int) (r c k i : Nat) (hk : k < c) (hi : i < r) : (wvL zs r c).getD (k * r + i) 0 = zs.getD (i * c + k) 0 := by
  have hlt : k * r + i < r * c := by
    have : (k + 1) * r ≤ c * r := Nat.mul_le_mul_right r hk
    rw [Nat.add_mul, Nat.one_mul] at this
    rw [Nat.mul_comm r c]; omega
  rw [wvL_at zs r c _ hlt]
  unfold wvA
  have e1 : (k * r + i) % r = i := by rw [Nat.add_comm, Nat.add_mul_mod_self_right, Nat.mod_eq_of_lt hi]
  have e2 : (k * r + i) / r = k := by rw [Nat.add_comm, Nat.add_mul_div_right _ _ (by omega), Nat.div_eq_of_lt hi]; omega
  rw [e1, e2]
theorem wv_lt {r c k i : Nat} (hk : k < c) (hi : i < r) : i * c + k < r * c := by
  have : (i + 1) * c ≤ r * c := Nat.mul_le_mul_right c hi
  rw [Nat.add_mul, Nat.one_mul] at this
  omega
/-- back again -/
theorem wv_back (zs : List Int) (r c : Nat) (h : zs.length = r * c) : wvL (wvL zs r c) c r = zs := by
  refine ext_getD (by rw [wvL_len, h, Nat.mul_comm]) ?_
  intro t ht
  rw [wvL_len] at ht
  have hc : 0 < c := by rcases Nat.eq_zero_or_pos c with h0 | h0; (subst h0; simp at ht); exact h0
  have hq : t / c < r := Nat.div_lt_of_lt_mul ht
  have hm : t % c < c := Nat.mod_lt t hc
  rw [wvL_at _ _ _ _ ht]
  show (wvL zs r c).getD (t % c * r + t / c) 0 = _
  rw [wvL_rc zs r c (t % c) (t / c) hm hq]
  congr 1
  have := Nat.div_add_mod t c
  rw [Nat.mul_comm] at this; exact this
/-- may they be woven? -/
def wvB (zs : List Int) (rows : Int) : Bool := bbB zs && decide (1 ≤ rows ∧ rows ≤ 16) && decide ((zs.length : Int) % rows = 0)
def wvR (zs : List Int) (rows : Int) : List Int := if wvB zs rows = true then wvL zs rows.toNat (zs.length / rows.toNat) else []
def uwR (zs : List Int) (rows : Int) : List Int := if wvB zs rows = true then wvL zs (zs.length / rows.toNat) rows.toNat else []
def WvR (zs : List Int) (rows : Int) (w : World) (e : Ending) (w' : World) : Prop := ∃ v, e = .returned (.tuple #[v, .bool (wvB zs rows)]) ∧ Ow .i64 3 w.heap.size w' v (wvR zs rows) ∧ Below w.heap.size w w'
def UwR (zs : List Int) (rows : Int) (w : World) (e : Ending) (w' : World) : Prop := ∃ v, e = .returned (.tuple #[v, .bool (wvB zs rows)]) ∧ Ow .i64 3 w.heap.size w' v (uwR zs rows) ∧ Below w.heap.size w w'
theorem wv_no {zs : List Int} {rows : Int} (h : wvB zs rows = false) : wvR zs rows = [] ∧ uwR zs rows = [] := by unfold wvR uwR; rw [h]; exact ⟨rfl, rfl⟩
/-- what is known where they may -/
theorem wv_yes {zs : List Int} {rows : Int} (h : wvB zs rows = true) : ∃ r c : Nat, rows = (r : Int) ∧ 1 ≤ r ∧ r ≤ 16 ∧ zs.length = r * c ∧ zs.length / r = c ∧ (zs.length : Int).tdiv rows = (c : Int) ∧ zs.length ≤ 320 ∧ wvR zs rows = wvL zs r c ∧ uwR zs rows = wvL zs c r := by
  have h' := h
  unfold wvB at h
  simp only [Bool.and_eq_true, decide_eq_true_eq] at h
  obtain ⟨⟨hb, h1, h2⟩, h3⟩ := h
  obtain ⟨r, rfl⟩ := Int.eq_ofNat_of_zero_le (show 0 ≤ rows by omega)
  have hm : zs.length % r = 0 := by have : ((zs.length % r : Nat) : Int) = 0 := by rw [Int.natCast_emod]; exact h3
                                    omega
  have hr : 0 < r := by omega
  obtain ⟨c, hc⟩ : ∃ c, zs.length / r = c := ⟨_, rfl⟩
  have hl : zs.length = r * c := by have := Nat.div_add_mod zs.length r; rw [hm, hc] at this; omega
  refine ⟨r, c, rfl, by omega, by omega, hl, hc, ?_, bbB_len hb, ?_, ?_⟩
  · rw [Int.tdiv_eq_ediv_of_nonneg (by omega), ← hc]; exact (Int.natCast_ediv _ _).symm
  · unfold wvR; rw [if_pos h', Int.toNat_natCast, hc]
  · unfold uwR; rw [if_pos h', Int.toNat_natCast, hc]
theorem wv_len (zs : List Int) (key : Int) (h : zs.length ≤ 1048576) : (wvR zs key).length ≤ 4194304 := by
  cases hb : wvB zs key with
  | false => rw [(wv_no hb).1]; simp
  | true =>
    obtain ⟨r, c, -, -, -, hl, -, -, -, e, -⟩ := wv_yes hb
    rw [e, wvL_len, ← hl]; omega
theorem uw_len (zs : List Int) (key : Int) (h : zs.length ≤ 1048576) : (uwR zs key).length ≤ 4194304 := by
  cases hb : wvB zs key with
  | false => rw [(wv_no hb).2]; simp
  | true =>
    obtain ⟨r, c, -, -, -, hl, -, -, -, -, e⟩ := wv_yes hb
    rw [e, wvL_len, Nat.mul_comm, ← hl]; omega

end Go.Proofs.Ytkgpnpgbadipjaa

/- The mathematics of tariffs; no condition. -/
import Derived.Test.YtdnophdldpophaaTf
namespace Go.Proofs.Ytdnophdldpophaa
open Go.RowKit Go.ChangeShapes Go.WideShapes Go.ChangeAt
set_option linter.unusedVariables false
set_option linter.unusedSimpArgs false
set_option maxRecDepth 8000
/-- how long ago a tariff came, around the day -/
def ago (f t : Int) : Int := (t - f + 86400) % 86400
def tfB (x : Tf) : Bool := decide (0 ≤ x.1 ∧ x.1 ≤ 99) && decide (0 ≤ x.2.1 ∧ x.2.1 ≤ 86399) && decide (1 ≤ x.2.2.1 ∧ x.2.2.1 ≤ 10000) && decide (0 ≤ x.2.2.2.1 ∧ x.2.2.2.1 ≤ 100000) && decide (0 ≤ x.2.2.2.2 ∧ x.2.2.2.2 ≤ 100000)
/-- no earlier one of its zone has its From -/
def tkn (ls : List Tf) (z f : Int) : Bool := ls.any fun x => decide (x.1 = z) && decide (x.2.1 = f)
/-- the first j are right -/
def TfU (ls : List Tf) (j : Nat) : Prop := ∀ i (h : i < ls.length), i < j → tfB ls[i] = true ∧ tkn (ls.take i) ls[i].1 ls[i].2.1 = false
def TfOk (ls : List Tf) : Prop := TfU ls ls.length ∧ ls.length ≤ 40
theorem tkn_iff (ls : List Tf) (z f : Int) : tkn ls z f = true ↔ ∃ k, ∃ h : k < ls.length, ls[k].1 = z ∧ ls[k].2.1 = f := by
  simp only [tkn, List.any_eq_true, Bool.and_eq_true, decide_eq_true_eq]
  constructor
  · rintro ⟨x, hx, h⟩
    obtain ⟨k, hk, rfl⟩ := List.mem_iff_getElem.1 hx
    exact ⟨k, hk, h⟩
  · rintro ⟨k, hk, h⟩
    exact ⟨_, List.getElem_mem hk, h⟩
theorem TfOk.tf {ls : List Tf} (h : TfOk ls) (i : Nat) (hi : i < ls.length) : 0 ≤ ls[i].1 ∧ ls[i].1 ≤ 99 ∧ 0 ≤ ls[i].2.1 ∧ ls[i].2.1 ≤ 86399 ∧ 1 ≤ ls[i].2.2.1 ∧ ls[i].2.2.1 ≤ 10000 ∧ 0 ≤ ls[i].2.2.2.1 ∧ ls[i].2.2.2.1 ≤ 100000 ∧ 0 ≤ ls[i].2.2.2.2 ∧ ls[i].2.2.2.2 ≤ 100000 := by
  have := (h.1 i hi hi).1
  simp only [tfB, Bool.and_eq_true, decide_eq_true_eq] at this
  obtain ⟨⟨⟨⟨⟨a, b⟩, c, d⟩, e, f⟩, g, i⟩, j, k⟩ := this
  exact ⟨a, b, c, d, e, f, g, i, j, k⟩
theorem TfOk.lt_ne {ls : List Tf} (h : TfOk ls) (k i : Nat) (hk : k < i) (hi : i < ls.length) : ¬ (ls[k].1 = ls[i].1 ∧ ls[k].2.1 = ls[i].2.1) := by
  intro he
  have h1 := (h.1 i hi hi).2
  have : tkn (ls.take i) ls[i].1 ls[i].2.1 = true := (tkn_iff _ _ _).2 ⟨k, by simp; omega, by simpa using he⟩
  rw [h1] at this; cases this
theorem TfOk.ne {ls : List Tf} (h : TfOk ls) (k i : Nat) (hk : k < ls.length) (hi : i < ls.length) (he : ls[k].1 = ls[i].1) (hf : ls[k].2.1 = ls[i].2.1) : k = i := by
  rcases Nat.lt_trichotomy k i with h1 | h1 | h1
  · exact absurd ⟨he, hf⟩ (h.lt_ne k i h1 hi)
  · exact h1
  · exact absurd ⟨he.symm, hf.symm⟩ (h.lt_ne i k h1 hk)
/-- p is the place of the tariff of zone z that holds at t, or -1 -/
def HoS (ls : List Tf) (z t : Int) (p : Int) : Prop :=
  (p = -1 ∧ ∀ i (h : i < ls.length), ls[i].1 ≠ z) ∨ ∃ i : Nat, p = i ∧ ∃ h : i < ls.length, ls[i].1 = z ∧ ∀ j (hj : j < ls.length), ls[j].1 = z → ago ls[i].2.1 t ≤ ago ls[j].2.1 t
theorem ago_inj {f f' t : Int} (h : 0 ≤ f ∧ f ≤ 86399) (h' : 0 ≤ f' ∧ f' ≤ 86399) (he : ago f t = ago f' t) : f = f' := by unfold ago at he; omega
theorem HoS.uniq {ls : List Tf} {z t p q : Int} (ok : TfOk ls) (h : HoS ls z t p) (h' : HoS ls z t q) : p = q := by
  rcases h with ⟨rfl, h⟩ | ⟨i, rfl, hi, hz, h⟩ <;> rcases h' with ⟨rfl, h'⟩ | ⟨i', rfl, hi', hz', h'⟩
  · rfl
  · exact absurd hz' (h i' hi')
  · exact absurd hz (h' i hi)
  · have h1 := ok.tf i hi
    have h2 := ok.tf i' hi'
    have h3 := h i' hi' hz'
    have h4 := h' i hi hz
    have := ok.ne i i' hi hi' (by rw [hz, hz']) (ago_inj (t := t) ⟨h1.2.2.1, h1.2.2.2.1⟩ ⟨h2.2.2.1, h2.2.2.2.1⟩ (by omega))
    rw [this]
/-- the program's way: the first j have been gone through -/
def HoP (ls : List Tf) (z t : Int) (j : Nat) (p m : Int) : Prop :=
  (p = -1 ∧ m = 86400 ∧ ∀ i (h : i < ls.length), i < j → ls[i].1 ≠ z) ∨ ∃ i : Nat, p = i ∧ i < j ∧ ∃ h : i < ls.length, ls[i].1 = z ∧ m = ago ls[i].2.1 t ∧ ∀ k (hk : k < ls.length), k < j → ls[k].1 = z → ago ls[i].2.1 t ≤ ago ls[k].2.1 t
theorem HoP.zero (ls : List Tf) (z t : Int) : HoP ls z t 0 (-1) 86400 := .inl ⟨rfl, rfl, fun _ _ h => by omega⟩
theorem ago_bd (f t : Int) : 0 ≤ ago f t ∧ ago f t < 86400 := by unfold ago; omega
theorem HoP.bd {ls : List Tf} {z t : Int} {j : Nat} {p m : Int} (h : HoP ls z t j p m) : 0 ≤ m ∧ m ≤ 86400 ∧ -1 ≤ p ∧ p < ls.length := by
  rcases h with ⟨rfl, rfl, -⟩ | ⟨i, rfl, -, hi, -, rfl, -⟩
  · omega
  · have := ago_bd ls[i].2.1 t
    omega
theorem HoP.skip {ls : List Tf} {z t : Int} {j : Nat} {p m : Int} (h : HoP ls z t j p m) (hj : j < ls.length) (hz : ls[j].1 ≠ z) : HoP ls z t (j + 1) p m := by
  rcases h with ⟨rfl, rfl, h⟩ | ⟨i, rfl, hij, hi, hzi, rfl, h⟩
  · refine .inl ⟨rfl, rfl, fun k hk hkj => ?_⟩
    by_cases hkj2 : k = j
    · subst hkj2; exact hz
    · exact h k hk (by omega)
  · refine .inr ⟨i, rfl, by omega, hi, hzi, rfl, fun k hk hkj hkz => ?_⟩
    by_cases hkj2 : k = j
    · subst hkj2; exact absurd hkz hz
    · exact h k hk (by omega) hkz
theorem HoP.take {ls : List Tf} {z t : Int} {j : Nat} {p m : Int} (h : HoP ls z t j p m) (hj : j < ls.length) (hz : ls[j].1 = z) (hm : ago ls[j].2.1 t < m) : HoP ls z t (j + 1) j (ago ls[j].2.1 t) := by
  refine .inr ⟨j, rfl, by omega, hj, hz, rfl, fun k hk hkj hkz => ?_⟩
  by_cases hkj2 : k = j
  · subst hkj2; omega
  · rcases h with ⟨rfl, rfl, h⟩ | ⟨i, rfl, hij, hi, hzi, rfl, h⟩
    · exact absurd hkz (h k hk (by omega))
    · have := h k hk (by omega) hkz; omega
theorem HoP.keep {ls : List Tf} {z t : Int} {j : Nat} {p m : Int} (h : HoP ls z t j p m) (hj : j < ls.length) (hz : ls[j].1 = z) (hm : ¬ ago ls[j].2.1 t < m) : HoP ls z t (j + 1) p m := by
  rcases h with ⟨rfl, rfl, h⟩ | ⟨i, rfl, hij, hi, hzi, rfl, h⟩
  · exact absurd (ago_bd ls[j].2.1 t).2 hm
  · refine .inr ⟨i, rfl, by omega, hi, hzi, rfl, fun k hk hkj hkz => ?_⟩
    by_cases hkj2 : k = j
    · subst hkj2; omega
    · exact h k hk (by omega) hkz
theorem HoP.done {ls : List Tf} {z t : Int} {p m : Int} (h : HoP ls z t ls.length p m) : HoS ls z t p := by
  rcases h with ⟨rfl, rfl, h⟩ | ⟨i, rfl, hij, hi, hzi, rfl, h⟩
  · exact .inl ⟨rfl, fun i hi => h i hi hi⟩
  · exact .inr ⟨i, rfl, hi, hzi, fun k hk hkz => h k hk hk hkz⟩
/-- the model's way: the greatest From among those that q lets in -/
def HoM (ls : List Tf) (z : Int) (q : Int → Bool) (j : Nat) (p : Int) : Prop :=
  (p = -1 ∧ ∀ i (h : i < ls.length), i < j → ls[i].1 = z → q ls[i].2.1 = false) ∨ ∃ i : Nat, p = i ∧ i < j ∧ ∃ h : i < ls.length, ls[i].1 = z ∧ q ls[i].2.1 = true ∧ ∀ k (hk : k < ls.length), k < j → ls[k].1 = z → q ls[k].2.1 = true → ls[k].2.1 ≤ ls[i].2.1
theorem HoM.zero (ls : List Tf) (z : Int) (q : Int → Bool) : HoM ls z q 0 (-1) := .inl ⟨rfl, fun _ _ h => by omega⟩
theorem HoM.bd {ls : List Tf} {z : Int} {q : Int → Bool} {j : Nat} {p : Int} (h : HoM ls z q j p) : -1 ≤ p ∧ p < ls.length := by
  rcases h with ⟨rfl, -⟩ | ⟨i, rfl, -, hi, -⟩ <;> omega
theorem HoM.skip {ls : List Tf} {z : Int} {q : Int → Bool} {j : Nat} {p : Int} (h : HoM ls z q j p) (hj : j < ls.length) (hz : ls[j].1 = z → q ls[j].2.1 = false) : HoM ls z q (j + 1) p := by
  rcases h with ⟨rfl, h⟩ | ⟨i, rfl, hij, hi, hzi, hq, h⟩
  · refine .inl ⟨rfl, fun k hk hkj hkz => ?_⟩
    by_cases hkj2 : k = j
    · subst hkj2; exact hz hkz
    · exact h k hk (by omega) hkz
  · refine .inr ⟨i, rfl, by omega, hi, hzi, hq, fun k hk hkj hkz hkq => ?_⟩
    by_cases hkj2 : k = j
    · subst hkj2; rw [hz hkz] at hkq; cases hkq
    · exact h k hk (by omega) hkz hkq
theorem HoM.take {ls : List Tf} {z : Int} {q : Int → Bool} {j : Nat} {p : Int} (h : HoM ls z q j p) (hj : j < ls.length) (hz : ls[j].1 = z) (hq : q ls[j].2.1 = true) (hp : p < 0 ∨ ∃ i : Nat, p = i ∧ ∃ h : i < ls.length, ls[i].2.1 < ls[j].2.1) : HoM ls z q (j + 1) j := by
  refine .inr ⟨j, rfl, by omega, hj, hz, hq, fun k hk hkj hkz hkq => ?_⟩
  by_cases hkj2 : k = j
  · subst hkj2; omega
  · rcases h with ⟨rfl, h⟩ | ⟨i, rfl, hij, hi, hzi, hqi, h⟩
    · rw [h k hk (by omega) hkz] at hkq; cases hkq
    · have h1 := h k hk (by omega) hkz hkq
      rcases hp with hp | ⟨i', he, hi', hp⟩
      · omega
      · obtain rfl : i = i' := by omega
        omega
theorem HoM.keep {ls : List Tf} {z : Int} {q : Int → Bool} {j : Nat} {i : Nat} (h : HoM ls z q j i) (hj : j < ls.length) (hi : i < ls.length) (hp : ¬ ls[i].2.1 < ls[j].2.1) : HoM ls z q (j + 1) i := by
  rcases h with ⟨h0, -⟩ | ⟨i', he, hij, hi', hzi, hqi, h⟩
  · omega
  · obtain rfl : i = i' := by omega
    refine .inr ⟨i, rfl, by omega, hi, hzi, hqi, fun k hk hkj hkz hkq => ?_⟩
    by_cases hkj2 : k = j
    · subst hkj2; omega
    · exact h k hk (by omega) hkz hkq
theorem HoM.done {ls : List Tf} {z t b l : Int} (ok : TfOk ls) (h0 : 0 ≤ t) (hb : HoM ls z (fun f => decide (f ≤ t % 86400)) ls.length b) (hl : HoM ls z (fun _ => true) ls.length l) : HoS ls z t (if b < 0 then l else b) := by
  rcases hb with ⟨rfl, hb⟩ | ⟨i, rfl, -, hi, hzi, hq, hb⟩
  · rw [if_pos (by decide)]
    rcases hl with ⟨rfl, hl⟩ | ⟨i, rfl, -, hi, hzi, -, hl⟩
    · exact .inl ⟨rfl, fun i hi hz => by have := hl i hi hi hz; cases this⟩
    · refine .inr ⟨i, rfl, hi, hzi, fun k hk hkz => ?_⟩
      have h1 := hl k hk hk hkz rfl
      have h2 := hb k hk hk hkz
      have h3 := hb i hi hi hzi
      have h4 := ok.tf k hk
      have h5 := ok.tf i hi
      simp at h2 h3
      unfold ago
      omega
  · rw [if_neg (by omega)]
    refine .inr ⟨i, rfl, hi, hzi, fun k hk hkz => ?_⟩
    have h2 := hb k hk hk hkz
    have h4 := ok.tf k hk
    have h5 := ok.tf i hi
    simp at hq h2
    unfold ago
    by_cases hc : ls[k].2.1 ≤ t % 86400
    · have := h2 hc; omega
    · omega
end Go.Proofs.Ytdnophdldpophaa

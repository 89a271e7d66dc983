/- slices.BinarySearchFunc over settings; no condition. -/
import Derived.Test.YtlknakijdpeaoaaCmp
import Derived.Test.YtlknakijdpeaoaaOver
import Derived.WalkSmall
namespace Go.Proofs.Ytlknakijdpeaoaa
open Go.RowKit Go.ChangeShapes Go.WideShapes Go.ChangeAt
set_option linter.unusedVariables false
set_option linter.unusedSimpArgs false
set_option maxRecDepth 8000

/-- the names ascend -/
def Asc (ls : Ses) : Prop := ∀ i k (hk : k < ls.length), ∀ h : i < k, bl (ls[i]'(by omega)).nm ls[k].nm = true
theorem asc_of {ls : Ses} (h : ∀ i (hi : i + 1 < ls.length), bl (ls[i]'(by omega)).nm ls[i + 1].nm = true) : Asc ls := by
  intro i k hk hik
  induction k with
  | zero => omega
  | succ k ih =>
    by_cases e : i = k
    · subst e; exact h i hk
    · exact bl_trans (ih (by omega) (by omega)) (h k hk)
/-- where a name stands, or would stand -/
def Plc (ls : Ses) (x : ByteArray) (p : Nat) : Prop := p ≤ ls.length ∧ (∀ i (h : i < ls.length), i < p → bl ls[i].nm x = true) ∧ ∀ i (h : i < ls.length), p ≤ i → bl ls[i].nm x = false
def BsR (ls : Ses) (x : ByteArray) (w : World) (e : Ending) (w' : World) : Prop := ∃ (p : Nat) (q : Bool), e = .returned (.tuple #[.int .i64 (p : Int), .bool q]) ∧ Plc ls x p ∧ (q = true ↔ ∃ h : p < ls.length, ls[p].nm = x) ∧ Below w.heap.size w w'
def BsI (ls : Ses) (x : ByteArray) (lo hi : Nat) : Prop := lo ≤ hi ∧ hi ≤ ls.length ∧ (∀ i (h : i < ls.length), i < lo → bl ls[i].nm x = true) ∧ ∀ i (h : i < ls.length), hi ≤ i → bl ls[i].nm x = false
theorem BsI.up {ls : Ses} {x : ByteArray} {lo hi m : Nat} (h : BsI ls x lo hi) (ha : Asc ls) (h1 : lo ≤ m) (h2 : m < hi) (hm : m < ls.length) (hb : bl ls[m].nm x = true) : BsI ls x (m + 1) hi := by
  refine ⟨by omega, h.2.1, fun i hi2 h3 => ?_, h.2.2.2⟩
  by_cases e : i = m
  · subst e; exact hb
  · exact bl_trans (ha i m hm (by omega)) hb
theorem BsI.dn {ls : Ses} {x : ByteArray} {lo hi m : Nat} (h : BsI ls x lo hi) (ha : Asc ls) (h1 : lo ≤ m) (h2 : m < hi) (hm : m < ls.length) (hb : bl ls[m].nm x = false) : BsI ls x lo m := by
  refine ⟨h1, by omega, h.2.2.1, fun i hi2 h3 => ?_⟩
  by_cases e : i = m
  · subst e; exact hb
  · cases hq : bl ls[i].nm x with
    | false => rfl
    | true =>
      have := bl_trans (ha m i hi2 (by omega)) hq
      rw [hb] at this; cases this
theorem BsI.fin {ls : Ses} {x : ByteArray} {lo : Nat} (h : BsI ls x lo lo) : Plc ls x lo := ⟨h.2.1, h.2.2.1, h.2.2.2⟩
set_option maxHeartbeats 6400000 in
theorem bs_c (v : Value) (ls : Ses) (x : ByteArray) (w : World) (h : Rs w v ls) (ha : Asc ls) (hln : ls.length ≤ 1048576) : Calls Try.prog 60 #[v, .string x, .func (.func 61) #[] #[]] w (BsR ls x w) := by
  obtain ⟨a, cap, rfl, h1, h2, h3⟩ := h
  unfold maxLen at h2
  have HA : Hid (Asc ls) := ha
  clear ha
  go_enter Try.func60, Try.ntmps60
  go_wp2
  go_loopw [9, 10] (fun l hh wr => ∃ lo hi : Nat, l = .int .i64 lo ∧ hh = .int .i64 hi ∧ lo ≤ hi ∧ hi ≤ ls.length ∧ Hid (BsI ls x lo hi) ∧ Hid (Below w.heap.size w wr)) (fun l hh _ => (intOf hh).toNat - (intOf l).toNat)
  case atStart => exact ⟨0, ls.length, rfl, rfl, Nat.zero_le _, Nat.le_refl _, ⟨Nat.zero_le _, Nat.le_refl _, fun i _ h => by omega, fun i h1 h2 => by omega⟩, Below.refl _ _⟩
  case round =>
    obtain ⟨lo, hi, rfl, rfl, hlh, hhn, hA, hbr⟩ := hrel
    by_cases hlt : lo < hi
    case pos =>
      have hI : (lo : Int) < (hi : Int) := by omega
      obtain ⟨m, hm⟩ : ∃ m, (lo + hi) / 2 = m := ⟨_, rfl⟩
      have hmI : ((lo : Int) + (hi : Int)) / 2 = (m : Int) := by omega
      have hm1 : lo ≤ m := by omega
      have hm2 : m < hi := by omega
      have hml : m < ls.length := by omega
      have hmlI : (m : Int) < (ls.length : Int) := by omega
      rcases h3 with h3 | ⟨b, off, rfl, h4⟩
      · subst h3; simp at hml
      have hc := h4 m hml
      have hcb : b < w.heap.size := block_lt_of_cell hc.1
      obtain ⟨r, hr⟩ : ∃ r, ls[m] = r := ⟨_, rfl⟩
      rw [hr] at hc
      have e0 := (hbr.out.cell (p := ⟨b, off + m * 2, none⟩) hcb).trans hc.1
      have e1 := (hbr.out.cell (p := ⟨b, off + m * 2 + 1, none⟩) hcb).trans hc.2
      have HR : Hid (ls[m] = r) := hr
      clear h4 hc hr hm
      go_wp2_with (fail)
      refine (clos_c r x wr).mono ?_
      rintro e w2 ⟨rfl, b2⟩
      have HB2 : Hid (Below w.heap.size w w2) := belowCall hbr.out b2 hbr.out.size
      have hcl := cmp_lt r.nm x
      obtain ⟨cv, hcv⟩ : ∃ cv, cmpB r.nm x = cv := ⟨_, rfl⟩
      rw [hcv] at hcl ⊢
      clear b2 e0 e1 hcv
      by_cases hneg : cv < 0
      · have HN : Hid (BsI ls x (m + 1) hi) := hA.out.up HA.out hm1 hm2 hml (by rw [HR.out]; exact hcl.1 hneg)
        clear hcl
        go_wp2
        go_roundw
        case rel => exact ⟨m + 1, hi, by go_num, rfl, by omega, hhn, HN.out, HB2.out⟩
        case measure => simp [intOf]; omega
      · have HN : Hid (BsI ls x lo m) := hA.out.dn HA.out hm1 hm2 hml (by
          rw [HR.out]
          cases hq : bl r.nm x with
          | false => rfl
          | true => exact absurd (hcl.2 hq) hneg)
        clear hcl
        go_wp2
        go_roundw
        case rel => exact ⟨lo, m, rfl, rfl, hm1, by omega, HN.out, HB2.out⟩
        case measure => simp [intOf]; omega
    case neg =>
      obtain rfl : lo = hi := by omega
      have hP := hA.out.fin
      have hI : ¬ ((lo : Int) < (lo : Int)) := by omega
      by_cases hl : lo < ls.length
      case neg =>
        have hlI : ¬ ((lo : Int) < (ls.length : Int)) := by omega
        have HP : Hid (Plc ls x lo) := hP
        clear hP h3
        go_wp2
        go_ret2
        exact ⟨lo, false, rfl, HP.out, ⟨fun h => (by cases h), fun ⟨h, _⟩ => absurd h hl⟩, hbr.out⟩
      case pos =>
        have hlI : (lo : Int) < (ls.length : Int) := by omega
        rcases h3 with h3 | ⟨b, off, rfl, h4⟩
        · subst h3; simp at hl
        have hc := h4 lo hl
        have hcb : b < w.heap.size := block_lt_of_cell hc.1
        obtain ⟨r, hr⟩ : ∃ r, ls[lo] = r := ⟨_, rfl⟩
        rw [hr] at hc
        have e0 := (hbr.out.cell (p := ⟨b, off + lo * 2, none⟩) hcb).trans hc.1
        have e1 := (hbr.out.cell (p := ⟨b, off + lo * 2 + 1, none⟩) hcb).trans hc.2
        have HR : Hid (ls[lo] = r) := hr
        have HP : Hid (Plc ls x lo) := hP
        clear h4 hc hr hP
        go_wp2_with (fail)
        refine (clos_c r x wr).mono ?_
        rintro e w2 ⟨rfl, b2⟩
        have HB2 : Hid (Below w.heap.size w w2) := belowCall hbr.out b2 hbr.out.size
        have hcl := cmp_eq0 r.nm x
        obtain ⟨cv, hcv⟩ : ∃ cv, cmpB r.nm x = cv := ⟨_, rfl⟩
        rw [hcv] at hcl ⊢
        clear b2 e0 e1 hcv
        by_cases hz : cv = 0
        · have hq := hcl.1 hz
          have HX : Hid (ls[lo].nm = x) := by show ls[lo].nm = x; rw [HR.out]; exact hq
          subst hz
          clear hcl hq
          go_wp2
          go_ret2
          exact ⟨lo, true, rfl, HP.out, ⟨fun _ => ⟨hl, HX.out⟩, fun _ => rfl⟩, HB2.out⟩
        · have HX : Hid (¬ ls[lo].nm = x) := by
            show ¬ ls[lo].nm = x
            rw [HR.out]; exact fun h => hz (hcl.2 h)
          have hz2 : (cv == 0) = false := by simpa using hz
          clear hcl
          go_wp2
          go_ret2
          exact ⟨lo, false, rfl, HP.out, ⟨fun h => (by cases h), fun ⟨_, h⟩ => absurd h HX.out⟩, HB2.out⟩

end Go.Proofs.Ytlknakijdpeaoaa

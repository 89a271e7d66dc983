/- Values, on both sides; no condition. -/
import Derived.Test.YtlknakijdpeaoaaWom
import Derived.Test.YtlknakijdpeaoaaWoi
import Derived.Laws.RangeString
import Derived.Laws.RangeAny
namespace Go.Proofs.Ytlknakijdpeaoaa
open Go.RowKit Go.ChangeShapes Go.WideShapes Go.ChangeAt
set_option linter.unusedVariables false
set_option linter.unusedSimpArgs false
set_option maxRecDepth 8000

/-- 1 to 9 digits; a value -/
def nB (s : ByteArray) : Bool := decide (1 ≤ s.size ∧ s.size ≤ 9) && s.data.all fun b => decide (48 ≤ b.toNat ∧ b.toNat ≤ 57)
def vB (s : ByteArray) : Bool := wB s || nB s
/-- the first j bytes are digits -/
def DiT (s : ByteArray) (j : Nat) : Prop := ∀ i (h : i < s.size), i < j → 48 ≤ (s[i]'h).toNat ∧ (s[i]'h).toNat ≤ 57
theorem DiT.zero (s : ByteArray) : DiT s 0 := fun i _ h => by omega
theorem DiT.succ {s : ByteArray} {j : Nat} (h : DiT s j) (hj : j < s.size) (hd : 48 ≤ (s[j]'hj).toNat ∧ (s[j]'hj).toNat ≤ 57) : DiT s (j + 1) := fun i hi hij => by
  by_cases e : i < j
  · exact h i hi e
  · obtain rfl : i = j := by omega
    exact hd
theorem DiT.all {s : ByteArray} (h : DiT s s.size) : s.data.all (fun b => decide (48 ≤ b.toNat ∧ b.toNat ≤ 57)) = true := by
  rw [Array.all_eq_true]
  intro i hi
  exact decide_eq_true (h i hi hi)
theorem DiT.bad {s : ByteArray} {j : Nat} (hj : j < s.size) (hd : ¬ (48 ≤ (s[j]'hj).toNat ∧ (s[j]'hj).toNat ≤ 57)) : nB s = false := by
  have : s.data.all (fun b => decide (48 ≤ b.toNat ∧ b.toNat ≤ 57)) = false := by
    cases e : s.data.all (fun b => decide (48 ≤ b.toNat ∧ b.toNat ≤ 57)) with
    | false => rfl
    | true =>
      rw [Array.all_eq_true] at e
      exact absurd (of_decide_eq_true (e j hj)) hd
  unfold nB; rw [this, Bool.and_false]
theorem DiT.fin {s : ByteArray} (h : DiT s s.size) : nB s = decide (1 ≤ s.size ∧ s.size ≤ 9) := by unfold nB; rw [h.all, Bool.and_true]
set_option maxHeartbeats 3200000 in
theorem valM_c (s : ByteArray) (w : World) (hs : s.size ≤ 4611686018427387904) : Calls Try.prog 33 #[.string s] w fun e w' => e = .returned (.bool (vB s)) ∧ w' = w := by
  cases hw : wB s with
  | true =>
    have HV : Hid (vB s = true) := by show vB s = true; unfold vB; rw [hw]; rfl
    go_enter Try.func33, Try.ntmps33
    go_wp2_with (fail)
    refine (wordM_c s w hs).mono ?_
    rintro e w2 ⟨rfl, hw2⟩
    obtain rfl : w = w2 := hw2.symm
    rw [hw]
    go_wp2
    go_ret
    exact ⟨by rw [HV.out]; rfl, rfl⟩
  | false =>
  have HV : Hid (vB s = nB s) := by show vB s = nB s; unfold vB; rw [hw]; rfl
  go_enter Try.func33, Try.ntmps33
  go_wp2_with (fail)
  refine (wordM_c s w hs).mono ?_
  rintro e w2 ⟨rfl, hw2⟩
  obtain rfl : w = w2 := hw2.symm
  rw [hw]
  clear hw
  go_wp2
  go_loopw [3] (fun i wr => ∃ j : Nat, j ≤ s.size ∧ i = .int .i64 j ∧ wr = w ∧ Hid (DiT s j)) (fun i _ => s.size - (intOf i).toNat)
  case atStart => exact ⟨0, Nat.zero_le _, rfl, rfl, DiT.zero s⟩
  case round =>
    obtain ⟨j, hj, rfl, hwr, hA⟩ := hrel
    obtain rfl : w = wr := hwr.symm
    by_cases hlt : j < s.size
    case neg =>
      obtain rfl : s.size = j := by omega
      have hF := hA.out.fin
      by_cases hk : 1 ≤ s.size ∧ s.size ≤ 9
      · rw [decide_eq_true hk] at hF
        have HF : Hid (vB s = true) := HV.out.trans hF
        clear hF
        go_wp2_with (fail)
        refine (in_t (by omega) w).mono ?_
        rintro e w2 ⟨rfl, hw2⟩
        obtain rfl : w = w2 := hw2.symm
        go_wp2
        go_ret
        exact ⟨by rw [HF.out]; rfl, rfl⟩
      · rw [decide_eq_false hk] at hF
        have HF : Hid (vB s = false) := HV.out.trans hF
        clear hF
        go_wp2_with (fail)
        refine (in_f (by omega) w).mono ?_
        rintro e w2 ⟨rfl, hw2⟩
        obtain rfl : w = w2 := hw2.symm
        go_wp2
        go_ret
        exact ⟨by rw [HF.out]; rfl, rfl⟩
    case pos =>
    have hI : (j : Int) < (s.size : Int) := by omega
    by_cases h1 : 48 ≤ (s[j]'hlt).toNat
    case neg =>
      have q1 : ((s[j]'hlt).toNat : Int) < 48 := by omega
      have HF : Hid (vB s = false) := HV.out.trans (DiT.bad hlt (fun h => h1 h.1))
      clear h1
      go_wp2
      go_ret
      exact ⟨by rw [HF.out]; rfl, rfl⟩
    case pos =>
    have q1 : ¬ (((s[j]'hlt).toNat : Int) < 48) := by omega
    by_cases h2 : (s[j]'hlt).toNat ≤ 57
    case neg =>
      have q2 : 57 < ((s[j]'hlt).toNat : Int) := by omega
      have HF : Hid (vB s = false) := HV.out.trans (DiT.bad hlt (fun h => h2 h.2))
      clear h1 h2
      go_wp2
      go_ret
      exact ⟨by rw [HF.out]; rfl, rfl⟩
    case pos =>
    have q2 : ¬ (57 < ((s[j]'hlt).toNat : Int)) := by omega
    have HN : Hid (DiT s (j + 1)) := hA.out.succ hlt ⟨h1, h2⟩
    clear h1 h2
    go_wp2
    go_roundw
    case rel => exact ⟨j + 1, by omega, by go_num, by first | rfl | trivial, HN.out⟩
    case measure => simp [intOf]; omega
theorem below_iter (w : World) (s : ByteArray) (pos : Nat) : Below w.heap.size w (w.iter s pos) := (Below.refl _ _).alloc (Nat.le_refl _) _
set_option maxHeartbeats 6400000 in
theorem numI_c (s : ByteArray) (w : World) (hs : s.size ≤ 4611686018427387904) : Calls Try.prog 56 #[.string s] w fun e w' => e = .returned (.bool (nB s)) ∧ Below w.heap.size w w' := by
  by_cases hl : 1 ≤ s.size ∧ s.size ≤ 9
  case neg =>
    have HF : Hid (nB s = false) := by show nB s = false; unfold nB; rw [decide_eq_false hl]; rfl
    go_enter Try.func56, Try.ntmps56
    go_wp2_with (fail)
    refine (wi_f (by omega) w).mono ?_
    rintro e w2 ⟨rfl, hw2⟩
    obtain rfl : w = w2 := hw2.symm
    go_wp2
    go_ret
    exact ⟨by rw [HF.out]; rfl, Below.refl _ _⟩
  case pos =>
  go_enter Try.func56, Try.ntmps56
  go_wp2_with (fail)
  refine (wi_t (by omega) w).mono ?_
  rintro e w2 ⟨rfl, hw2⟩
  obtain rfl : w = w2 := hw2.symm
  go_wp2
  go_loopw [] (fun wr => ∃ pos : Nat, pos ≤ s.size ∧ wr = w.iter s pos ∧ Hid (DiT s pos)) (fun wr => s.size - wr.iterPos w.heap.size)
  case atStart => exact ⟨0, Nat.zero_le _, rfl, DiT.zero s⟩
  case round =>
    obtain ⟨pos, hpos, hwr, hA⟩ := hrel
    subst hwr
    by_cases hp : pos < s.size
    case neg =>
      obtain rfl : s.size = pos := by omega
      have hnx : ∀ ty, (Instr.next (.pointer (some ⟨w.heap.size, 0, none⟩)) true ty).run Try.prog (w.iter s s.size) = _ := fun ty => run_next_end w s s.size ty hp
      have HN : Hid (nB s = true) := by have := hA.out.fin; rw [decide_eq_true hl] at this; exact this
      go_wp2
      go_ret
      exact ⟨by rw [HN.out]; rfl, below_iter _ _ _⟩
    case pos =>
    obtain ⟨b, hbb⟩ : ∃ b, (s[pos]'hp).toNat = b := ⟨_, rfl⟩
    by_cases ha : b < 128
    · have hnx : ∀ ty, (Instr.next (.pointer (some ⟨w.heap.size, 0, none⟩)) true ty).run Try.prog (w.iter s pos) = .ok (.tuple #[.bool true, .int .i64 pos, .int .i32 (b : Int)]) (w.iter s (pos + 1)) := fun ty => by
        have := run_next_any (P := Try.prog) w s pos ty hp
        rw [decode_ascii s pos hp (by rw [hbb]; exact ha), hbb] at this
        exact this
      by_cases hd : 48 ≤ b ∧ b ≤ 57
      · have HN : Hid (DiT s (pos + 1)) := hA.out.succ hp (by rw [hbb]; exact hd)
        clear hbb ha
        go_wp2_with (fail)
        refine (am_t (by omega) _).mono ?_
        rintro e w3 ⟨rfl, hw3⟩
        rw [hw3]
        clear hw3 w3
        go_wp2
        go_roundw
        case rel => exact ⟨pos + 1, by omega, rfl, HN.out⟩
        case measure => simp; omega
      · have HN : Hid (nB s = false) := DiT.bad hp (by rw [hbb]; exact hd)
        clear hbb ha
        go_wp2_with (fail)
        refine (am_f (by omega) _).mono ?_
        rintro e w3 ⟨rfl, hw3⟩
        rw [hw3]
        clear hw3 w3
        go_wp2
        go_ret
        exact ⟨by rw [HN.out]; rfl, below_iter _ _ _⟩
    · have hh := decode_high s pos hp (by rw [hbb]; omega)
      obtain ⟨c, hc⟩ : ∃ c, (Utf8.decode s pos).1 = c := ⟨_, rfl⟩
      obtain ⟨d, hd⟩ : ∃ d, (Utf8.decode s pos).2 = d := ⟨_, rfl⟩
      rw [hc, hd] at hh
      have hnx : ∀ ty, (Instr.next (.pointer (some ⟨w.heap.size, 0, none⟩)) true ty).run Try.prog (w.iter s pos) = .ok (.tuple #[.bool true, .int .i64 pos, .int .i32 (c : Int)]) (w.iter s (pos + d)) := fun ty => by
        have := run_next_any (P := Try.prog) w s pos ty hp
        rw [hc, hd] at this
        exact this
      have HN : Hid (nB s = false) := DiT.bad hp (by rw [hbb]; omega)
      clear hc hd hbb ha
      go_wp2_with (fail)
      refine (am_f (by omega) _).mono ?_
      rintro e w3 ⟨rfl, hw3⟩
      rw [hw3]
      clear hw3 w3 hh
      go_wp2
      go_ret
      exact ⟨by rw [HN.out]; rfl, below_iter _ _ _⟩
set_option maxHeartbeats 3200000 in
theorem valI_c (s : ByteArray) (w : World) (hs : s.size ≤ 4611686018427387904) : Calls Try.prog 48 #[.string s] w fun e w' => e = .returned (.bool (vB s)) ∧ Below w.heap.size w w' := by
  cases hw : wB s with
  | true =>
    have HV : Hid (vB s = true) := by show vB s = true; unfold vB; rw [hw]; rfl
    go_enter Try.func48, Try.ntmps48
    go_wp2_with (fail)
    refine (wordI_c s w hs).mono ?_
    rintro e w2 ⟨rfl, b2⟩
    have HB : Hid (Below w.heap.size w w2) := b2
    clear b2
    rw [hw]
    go_wp2
    go_ret
    exact ⟨by rw [HV.out]; rfl, HB.out⟩
  | false =>
    have HV : Hid (vB s = nB s) := by show vB s = nB s; unfold vB; rw [hw]; rfl
    go_enter Try.func48, Try.ntmps48
    go_wp2_with (fail)
    refine (wordI_c s w hs).mono ?_
    rintro e w2 ⟨rfl, b2⟩
    have HB : Hid (Below w.heap.size w w2) := b2
    clear b2
    rw [hw]
    clear hw
    go_wp2_with (fail)
    refine (numI_c s w2 hs).mono ?_
    rintro e w3 ⟨rfl, b3⟩
    have HB3 : Hid (Below w.heap.size w w3) := belowCall HB.out b3 HB.out.size
    clear b3
    go_wp2
    go_ret
    exact ⟨by rw [HV.out]; rfl, HB3.out⟩

end Go.Proofs.Ytlknakijdpeaoaa

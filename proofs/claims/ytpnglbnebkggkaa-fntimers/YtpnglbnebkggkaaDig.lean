/- Digits; no condition. -/
import Derived.Test.YtpnglbnebkggkaaRul
import Derived.Laws.Closers25b
namespace Go.Proofs.Ytpnglbnebkggkaa
open Go.RowKit Go.ChangeShapes Go.WideShapes Go.ChangeAt
set_option linter.unusedVariables false
set_option linter.unusedSimpArgs false
set_option maxRecDepth 8000
/-- a byte of digits -/
def dg (b : Nat) : Prop := (48 ≤ b ∧ b ≤ 57) ∨ b = 42 ∨ b = 35
instance (b : Nat) : Decidable (dg b) := inferInstanceAs (Decidable ((48 ≤ b ∧ b ≤ 57) ∨ b = 42 ∨ b = 35))
/-- digits -/
def DgTo (s : ByteArray) (j : Nat) : Prop := ∀ i (h : i < s.size), i < j → dg (s[i]'h).toNat
def DgOk (s : ByteArray) : Prop := s.size ≤ 20 ∧ DgTo s s.size
theorem l4Digit_c (b : Nat) (w : World) : Calls Try.prog 61 #[.int .u8 (b : Int)] w fun e w' => e = .returned (.bool (decide (dg b))) ∧ w' = w := by
  by_cases h1 : 48 ≤ b
  · by_cases h2 : b ≤ 57
    · have e : decide (dg b) = true := decide_eq_true (.inl ⟨h1, h2⟩)
      rw [e]
      have g1 : (48 : Int) ≤ (b : Int) := by omega
      have g2 : (b : Int) ≤ 57 := by omega
      go_enter Try.func61, Try.ntmps61
      go_wp2
      go_ret
      exact ⟨rfl, rfl⟩
    · have e : decide (dg b) = false := decide_eq_false (by unfold dg; omega)
      rw [e]
      have g1 : (48 : Int) ≤ (b : Int) := by omega
      have g2 : ¬ ((b : Int) ≤ 57) := by omega
      have g3 : ((b : Int) == 42) = false := by simp; omega
      have g4 : ((b : Int) == 35) = false := by simp; omega
      clear e
      go_enter Try.func61, Try.ntmps61
      go_wp2
      go_ret
      exact ⟨rfl, rfl⟩
  · have g1 : ¬ ((48 : Int) ≤ (b : Int)) := by omega
    by_cases h3 : b = 42
    · subst h3
      have e : decide (dg 42) = true := by decide
      rw [e]
      go_enter Try.func61, Try.ntmps61
      go_wp2
      go_ret
      exact ⟨rfl, rfl⟩
    · have g3 : ((b : Int) == 42) = false := by simp; omega
      by_cases h4 : b = 35
      · subst h4
        have e : decide (dg 35) = true := by decide
        rw [e]
        go_enter Try.func61, Try.ntmps61
        go_wp2
        go_ret
        exact ⟨rfl, rfl⟩
      · have g4 : ((b : Int) == 35) = false := by simp; omega
        have e : decide (dg b) = false := decide_eq_false (by unfold dg; omega)
        rw [e]
        clear e
        go_enter Try.func61, Try.ntmps61
        go_wp2
        go_ret
        exact ⟨rfl, rfl⟩
/-- whether a text is digits -/
def DgR (s : ByteArray) (w : World) (e : Ending) (w' : World) : Prop := ∃ q, e = .returned (.bool q) ∧ (q = true ↔ DgOk s) ∧ Below w.heap.size w w'
theorem DgR.no {s : ByteArray} {w w' : World} (h : ¬ DgOk s) (b : Below w.heap.size w w') : DgR s w (.returned (.bool false)) w' := ⟨_, rfl, ⟨fun h => (by cases h), fun h' => absurd h' h⟩, b⟩
theorem DgR.yes {s : ByteArray} {w w' : World} (h : DgOk s) (b : Below w.heap.size w w') : DgR s w (.returned (.bool true)) w' := ⟨_, rfl, ⟨fun _ => h, fun _ => rfl⟩, b⟩
theorem DgTo.succ {s : ByteArray} {j : Nat} (h : DgTo s j) (hj : j < s.size) (hd : dg (s[j]'hj).toNat) : DgTo s (j + 1) := fun i hi hij => by
  by_cases e : i < j
  · exact h i hi e
  · obtain rfl : i = j := by omega
    exact hd
set_option maxHeartbeats 1600000 in
theorem l4Digits_c (s : ByteArray) (w : World) (hs : s.size ≤ 4611686018427387904) : Calls Try.prog 32 #[.string s] w (DgR s w) := by
  go_enter Try.func32, Try.ntmps32
  go_wp2
  go_loopw [3] (fun i wr => ∃ j : Nat, j ≤ s.size ∧ i = .int .i64 j ∧ wr = w ∧ Hid (DgTo s j)) (fun i _ => s.size - (intOf i).toNat)
  case atStart => exact ⟨0, Nat.zero_le _, rfl, rfl, fun i _ h => by omega⟩
  case round =>
    obtain ⟨j, hj, rfl, rfl, hA⟩ := hrel
    by_cases hlt : j < s.size
    · have hI : (j : Int) < (s.size : Int) := by omega
      go_wp2_with (fail)
      refine (l4Digit_c _ wr).mono ?_
      rintro e w2 ⟨rfl, hw2⟩
      obtain rfl : wr = w2 := hw2.symm
      by_cases hd : dg (s[j]'hlt).toNat
      · rw [decide_eq_true hd]
        have HN : Hid (DgTo s (j + 1)) := hA.out.succ hlt hd
        clear hd
        go_wp2
        go_roundw
        case rel => exact ⟨j + 1, by omega, by go_num, by first | rfl | trivial, HN.out⟩
        case measure => simp [intOf]; omega
      · rw [decide_eq_false hd]
        have HN : Hid (¬ DgOk s) := fun h => hd (h.2 j hlt hlt)
        clear hd
        go_wp2
        go_ret
        exact DgR.no HN.out (Below.refl _ _)
    · obtain rfl : s.size = j := by omega
      by_cases h20 : s.size ≤ 20
      · have hI : (s.size : Int) ≤ 20 := by omega
        have HN : Hid (DgOk s) := ⟨h20, hA.out⟩
        go_wp2
        go_ret
        exact DgR.yes HN.out (Below.refl _ _)
      · have hI : ¬ ((s.size : Int) ≤ 20) := by omega
        have HN : Hid (¬ DgOk s) := fun h => h20 h.1
        go_wp2
        go_ret
        exact DgR.no HN.out (Below.refl _ _)
theorem below_iter (w : World) (s : ByteArray) (pos : Nat) : Below w.heap.size w (w.iter s pos) := (Below.refl _ _).alloc (Nat.le_refl _) _
set_option maxHeartbeats 3200000 in
theorem areDigits_c (s : ByteArray) (w : World) (hs : s.size ≤ 4611686018427387904) : Calls Try.prog 28 #[.string s] w (DgR s w) := by
  by_cases hl : 20 < s.size
  · have hI : (20 : Int) < (s.size : Int) := by omega
    have HF : Hid (¬ DgOk s) := fun h => by have := h.1; omega
    go_enter Try.func28, Try.ntmps28
    go_wp2
    go_ret
    exact DgR.no HF.out (Below.refl _ _)
  have hI : ¬ ((20 : Int) < (s.size : Int)) := by omega
  go_enter Try.func28, Try.ntmps28
  go_wp2
  go_loopw [] (fun wr => ∃ pos : Nat, pos ≤ s.size ∧ wr = w.iter s pos ∧ Hid (DgTo s pos)) (fun wr => s.size - wr.iterPos w.heap.size)
  case atStart => exact ⟨0, Nat.zero_le _, rfl, fun i _ h => by omega⟩
  case round =>
    obtain ⟨pos, hpos, rfl, hA⟩ := hrel
    by_cases hp : pos < s.size
    · obtain ⟨b, hbb⟩ : ∃ b, (s[pos]'hp).toNat = b := ⟨_, rfl⟩
      by_cases ha : b < 128
      · have hnx : ∀ ty, (Instr.next (.pointer (some ⟨w.heap.size, 0, none⟩)) true ty).run Try.prog (w.iter s pos) = .ok (.tuple #[.bool true, .int .i64 pos, .int .i32 (b : Int)]) (w.iter s (pos + 1)) := fun ty => by
          have := run_next_any (P := Try.prog) w s pos ty hp
          rw [decode_ascii s pos hp (by rw [hbb]; exact ha), hbb] at this
          exact this
        by_cases hd : dg b
        · have HN : Hid (DgTo s (pos + 1)) := hA.out.succ hp (by rw [hbb]; exact hd)
          have hd' : (48 ≤ b ∧ b ≤ 57) ∨ b = 42 ∨ b = 35 := hd
          clear hbb hd ha
          rcases hd' with ⟨g1, g2⟩ | g1 | g1
          · have k1 : (48 : Int) ≤ (b : Int) := by omega
            have k2 : ¬ ((57 : Int) < (b : Int)) := by omega
            have k3 : ¬ ((b : Int) < 48) := by omega
            go_wp2
            go_roundw
            case rel => exact ⟨pos + 1, by omega, rfl, HN.out⟩
            case measure => simp; omega
          · subst g1
            go_wp2
            go_roundw
            case rel => exact ⟨pos + 1, by omega, rfl, HN.out⟩
            case measure => simp; omega
          · subst g1
            go_wp2
            go_roundw
            case rel => exact ⟨pos + 1, by omega, rfl, HN.out⟩
            case measure => simp; omega
        · have HN : Hid (¬ DgOk s) := fun h => hd (by have := h.2 pos hp hp; rw [hbb] at this; exact this)
          have hd' : ¬ ((48 ≤ b ∧ b ≤ 57) ∨ b = 42 ∨ b = 35) := hd
          have k3 : ((b : Int) != 42) = true := by simp; omega
          have k4 : ((b : Int) != 35) = true := by simp; omega
          by_cases k1 : (b : Int) < 48
          · clear hbb hd hd' ha
            go_wp2
            go_ret
            exact DgR.no HN.out (below_iter _ _ _)
          · have k2 : (57 : Int) < (b : Int) := by omega
            clear hbb hd hd' ha
            go_wp2
            go_ret
            exact DgR.no HN.out (below_iter _ _ _)
      · have hh := decode_high s pos hp (by rw [hbb]; omega)
        obtain ⟨c, hc⟩ : ∃ c, (Utf8.decode s pos).1 = c := ⟨_, rfl⟩
        obtain ⟨d, hd⟩ : ∃ d, (Utf8.decode s pos).2 = d := ⟨_, rfl⟩
        rw [hc, hd] at hh
        have hnx : ∀ ty, (Instr.next (.pointer (some ⟨w.heap.size, 0, none⟩)) true ty).run Try.prog (w.iter s pos) = .ok (.tuple #[.bool true, .int .i64 pos, .int .i32 (c : Int)]) (w.iter s (pos + d)) := fun ty => by
          have := run_next_any (P := Try.prog) w s pos ty hp
          rw [hc, hd] at this
          exact this
        have HN : Hid (¬ DgOk s) := fun h => by
          have h1 := h.2 pos hp hp
          rw [hbb] at h1
          unfold dg at h1
          omega
        have k1 : ¬ ((c : Int) < 48) := by omega
        have k2 : (57 : Int) < (c : Int) := by omega
        have k3 : ((c : Int) != 42) = true := by simp; omega
        have k4 : ((c : Int) != 35) = true := by simp; omega
        clear hh hc hd hbb ha
        go_wp2
        go_ret
        exact DgR.no HN.out (below_iter _ _ _)
    · obtain rfl : s.size = pos := by omega
      have hnx : ∀ ty, (Instr.next (.pointer (some ⟨w.heap.size, 0, none⟩)) true ty).run Try.prog (w.iter s s.size) = _ := fun ty => run_next_end w s s.size ty hp
      have HN : Hid (DgOk s) := ⟨by omega, hA.out⟩
      go_wp2
      go_ret
      exact DgR.yes HN.out (below_iter _ _ _)
/-- digits, at least one -/
def NbR (s : ByteArray) (w : World) (e : Ending) (w' : World) : Prop := ∃ q, e = .returned (.bool q) ∧ (q = true ↔ (DgOk s ∧ 0 < s.size)) ∧ Below w.heap.size w w'
theorem empty_size {s : ByteArray} : s.toList.isEmpty = true ↔ s.size = 0 := by
  rw [List.isEmpty_iff, toList_nil_iff_emptyBytes]
  constructor
  · rintro rfl; rfl
  · intro h
    apply ByteArray.ext
    exact Array.eq_empty_of_size_eq_zero h
set_option maxHeartbeats 1600000 in
theorem isNumber_c (s : ByteArray) (w : World) (hs : s.size ≤ 4611686018427387904) : Calls Try.prog 64 #[.string s] w (NbR s w) := by
  cases he : s.toList.isEmpty with
  | true =>
    have hz := empty_size.1 he
    have HF : Hid (¬ (DgOk s ∧ 0 < s.size)) := fun h => by have := h.2; omega
    clear hz
    have hl : s.toList = [] := by simpa using he
    go_enter Try.func64, Try.ntmps64
    go_wp2
    go_ret
    exact ⟨_, rfl, ⟨fun h => (by cases h), fun h => absurd h HF.out⟩, Below.refl _ _⟩
  | false =>
    have hz : 0 < s.size := by
      refine Nat.pos_of_ne_zero fun h => ?_
      have := empty_size.2 h
      rw [he] at this; cases this
    have hl : ¬ (s.toList = []) := by simpa using he
    go_enter Try.func64, Try.ntmps64
    go_wp2_with (fail)
    refine (areDigits_c s w hs).mono ?_
    rintro e w2 ⟨q, rfl, hq, b2⟩
    have HQ : Hid (q = true ↔ (DgOk s ∧ 0 < s.size)) := ⟨fun h => ⟨hq.1 h, hz⟩, fun h => hq.2 h.1⟩
    have HB : Hid (Below w.heap.size w w2) := b2
    clear hq b2 hz
    cases q with
    | true =>
      have HT : Hid (DgOk s ∧ 0 < s.size) := HQ.out.1 rfl
      clear HQ
      go_wp2
      go_ret
      exact ⟨_, rfl, ⟨fun _ => HT.out, fun _ => rfl⟩, HB.out⟩
    | false =>
      have HT : Hid (¬ (DgOk s ∧ 0 < s.size)) := fun h => by have := HQ.out.2 h; cases this
      clear HQ
      go_wp2
      go_ret
      exact ⟨_, rfl, ⟨fun h => (by cases h), fun h => absurd h HT.out⟩, HB.out⟩
end Go.Proofs.Ytpnglbnebkggkaa

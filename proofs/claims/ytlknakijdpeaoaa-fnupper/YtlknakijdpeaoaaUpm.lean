/- The model's Upper; no condition. -/
import Derived.Test.YtlknakijdpeaoaaWom
import Derived.Test.YtlknakijdpeaoaaPut
import Derived.Test.YtlknakijdpeaoaaUpp
namespace Go.Proofs.Ytlknakijdpeaoaa
open Go.RowKit Go.ChangeShapes Go.WideShapes Go.ChangeAt
set_option linter.unusedVariables false
set_option linter.unusedSimpArgs false
set_option maxRecDepth 8000

theorem wB_dec {s : ByteArray} {j : Nat} {ps : List Nat} (hw : wB s = true) (hp : rn s 0 = ps ++ rn s j) (hj : j < s.size) : isL (Utf8.decode s j).1 = true ∨ isM (Utf8.decode s j).1 = true := by
  refine wdB_good (rs := rn s 0) hw _ ?_
  rw [hp, rn_step hj]
  simp
/-- so far made great -/
def UpT (s : ByteArray) (j : Nat) (out : ByteArray) : Prop := ∃ ps, rn s 0 = ps ++ rn s j ∧ out = runesBytes (rI (ps.map up))
theorem UpT.zero (s : ByteArray) : UpT s 0 ⟨#[]⟩ := ⟨[], rfl, rfl⟩
/-- a rune's bytes -/
def encN (r : Nat) : ByteArray := Utf8.encode (r : Int)
theorem putN_c (r : Nat) (w : World) (hr : r < 2048) : Calls Try.prog 30 #[.int .i64 (r : Int)] w fun e w' => e = .returned (.string (encN r)) ∧ Below w.heap.size w w' := put19_c r w hr
theorem UpT.next {s : ByteArray} {j r n : Nat} {out : ByteArray} (h : UpT s j out) (hj : j < s.size) (he : Utf8.decode s j = (r, n)) : UpT s (j + n) (out ++ encN (up r)) := by
  obtain ⟨ps, h1, h2⟩ := h
  rw [rn_step hj, he] at h1
  refine ⟨ps ++ [r], by rw [h1, List.append_assoc]; rfl, ?_⟩
  rw [h2, List.map_append, rI_app, List.map_cons, List.map_nil]
  exact (runesBytes_snoc _ _).symm
theorem UpT.fin {s out : ByteArray} (h : UpT s s.size out) (hw : wB s = true) : upS s = out := by
  obtain ⟨ps, h1, h2⟩ := h
  rw [rn_end (Nat.le_refl _), List.append_nil] at h1
  unfold upS; rw [hw, h1, h2]; rfl
theorem UpT.size {s out : ByteArray} {j : Nat} (h : UpT s j out) (hw : wB s = true) : out.size ≤ 64 := by
  obtain ⟨ps, h1, h2⟩ := h
  have h3 := (wdB_one (rs := rn s 0) hw).2
  have h4 := runesBytes_size_le (rI (ps.map up))
  have h5 : (rn s 0).length = ps.length + (rn s j).length := by rw [h1, List.length_append]
  have h6 : (rI (ps.map up)).length = ps.length := by simp [rI]
  rw [h2]; omega
theorem long_w {s : ByteArray} (hw : wB s = true) : s.size ≤ 64 := by
  cases Nat.lt_or_ge 64 s.size with
  | inl h => have := wB_long h; rw [hw] at this; cases this
  | inr h => exact h
set_option maxHeartbeats 12800000 in
theorem upperM_c (s : ByteArray) (w : World) (hs : s.size ≤ 4611686018427387904) : Calls Try.prog 12 #[.string s] w fun e w' => e = .returned (.string (upS s)) ∧ Below w.heap.size w w' := by
  cases hw : wB s with
  | false =>
    have hu : upS s = ⟨#[]⟩ := by unfold upS; rw [hw]; rfl
    rw [hu]; clear hu
    go_enter Try.func12, Try.ntmps12
    go_wp2_with (fail)
    refine (wordM_c s w hs).mono ?_
    rintro e w2 ⟨rfl, hw2⟩
    obtain rfl : w = w2 := hw2.symm
    rw [hw]
    clear hw
    go_wp2
    go_ret
    exact ⟨rfl, Below.refl _ _⟩
  | true =>
  have HW : Hid (wB s = true) := hw
  go_enter Try.func12, Try.ntmps12
  go_wp2_with (fail)
  refine (wordM_c s w hs).mono ?_
  rintro e w2 ⟨rfl, hw2⟩
  obtain rfl : w = w2 := hw2.symm
  rw [hw]
  clear hw
  go_wp2
  go_loopw [3, 4] (fun o i wr => ∃ (j : Nat) (out : ByteArray), j ≤ s.size ∧ o = .string out ∧ i = .int .i64 j ∧ Hid (UpT s j out) ∧ Hid (Below w.heap.size w wr)) (fun _ i _ => s.size - (intOf i).toNat)
  case atStart => exact ⟨0, _, Nat.zero_le _, rfl, rfl, UpT.zero s, Below.refl _ _⟩
  case round =>
    obtain ⟨j, out, hj, rfl, rfl, hA, hbr⟩ := hrel
    by_cases hlt : j < s.size
    case neg =>
      obtain rfl : s.size = j := by omega
      have hF := hA.out.fin HW.out
      go_wp2
      go_ret
      exact ⟨by rw [hF]; rfl, hbr.out⟩
    case pos =>
    have hI : (j : Int) < (s.size : Int) := by omega
    obtain ⟨ps, hps, -⟩ := hA.out
    have hgood := wB_dec HW.out hps hlt
    clear hps
    go_wp2_with (fail)
    refine (rune_c s j wr hlt hs).mono ?_
    rintro e w2 ⟨r, n, rfl, hw2, hd⟩
    obtain rfl : wr = w2 := hw2.symm
    rcases hd with ⟨rfl, hd⟩ | ⟨n1, n2, hd, hn⟩
    · have := good_lt hgood; omega
    have HN : Hid (UpT s (j + n) (out ++ encN (up r))) := hA.out.next hlt hd
    have hr : r < 2048 := by rw [hd] at hgood; exact good_lt hgood
    have hup : up r < 2048 := by have := up_le r; omega
    have hsz : out.size + (encN (up r)).size ≤ 9223372036854775807 := by
      have h1 := hA.out.size HW.out
      have h2 : (encN (up r)).size ≤ 4 := encode_size_le ((up r : Nat) : Int)
      omega
    have hs64 := long_w HW.out
    clear hd hgood
    rcases (show (0 ≤ r ∧ r ≤ 96) ∨ (97 ≤ r ∧ r ≤ 122) ∨ (123 ≤ r ∧ r ≤ 223) ∨ (224 ≤ r ∧ r ≤ 246) ∨ (247 ≤ r ∧ r ≤ 247) ∨ (248 ≤ r ∧ r ≤ 254) ∨ (255 ≤ r ∧ r ≤ 944) ∨ (945 ≤ r ∧ r ≤ 961) ∨ (962 ≤ r ∧ r ≤ 962) ∨ (963 ≤ r ∧ r ≤ 969) ∨ (970 ≤ r ∧ r ≤ 1071) ∨ (1072 ≤ r ∧ r ≤ 1103) ∨ 1104 ≤ r by omega) with h | h | h | h | h | h | h | h | h | h | h | h | h
    · have hup2 : up r = r := by unfold up; rw [if_neg (by omega)]
      have q1 : ¬ ((97 : Int) ≤ (r : Int)) := by omega
      rw [hup2] at hsz HN
      obtain ⟨en, hen⟩ : ∃ en, encN (r) = en := ⟨_, rfl⟩
      rw [hen] at hsz HN
      have HE : Hid (∀ q : Nat, q = (r) → encN q = en) := fun q hq => by rw [hq]; exact hen
      clear hup hup2 hen
      go_wp2_with (fail)
      refine (in_f (by omega) wr).mono ?_
      rintro e w3 ⟨rfl, hw3⟩
      obtain rfl : wr = w3 := hw3.symm
      go_wp2_with (fail)
      refine (in_f (by omega) wr).mono ?_
      rintro e w3 ⟨rfl, hw3⟩
      obtain rfl : wr = w3 := hw3.symm
      go_wp2_with (fail)
      refine (in_f (by omega) wr).mono ?_
      rintro e w3 ⟨rfl, hw3⟩
      obtain rfl : wr = w3 := hw3.symm
      go_wp2_with (fail)
      refine (putN_c (r) wr (by omega)).mono ?_
      rintro e w3 ⟨rfl, b3⟩
      rw [HE.out _ rfl]
      have HB3 : Hid (Below w.heap.size w w3) := belowCall hbr.out b3 hbr.out.size
      clear b3
      go_wp2
      go_roundw
      case rel => exact ⟨j + n, _, hn, rfl, by go_num, HN, HB3⟩
      case measure => simp [intOf]; omega
    · have hup2 : up r = r - 32 := by unfold up; rw [if_pos (by omega)]
      have q1 : ((97 : Int) ≤ (r : Int)) := by omega
      have q2 : ((r : Int) ≤ 122) := by omega
      rw [hup2] at hsz HN
      obtain ⟨en, hen⟩ : ∃ en, encN (r - 32) = en := ⟨_, rfl⟩
      rw [hen] at hsz HN
      have HE : Hid (∀ q : Nat, q = (r - 32) → encN q = en) := fun q hq => by rw [hq]; exact hen
      clear hup hup2 hen
      go_wp2_with (fail)
      rw [show (r : Int) - 32 = ((r - 32 : Nat) : Int) by omega]
      refine (putN_c (r - 32) wr (by omega)).mono ?_
      rintro e w3 ⟨rfl, b3⟩
      rw [HE.out _ rfl]
      have HB3 : Hid (Below w.heap.size w w3) := belowCall hbr.out b3 hbr.out.size
      clear b3
      go_wp2
      go_roundw
      case rel => exact ⟨j + n, _, hn, rfl, by go_num, HN, HB3⟩
      case measure => simp [intOf]; omega
    · have hup2 : up r = r := by unfold up; rw [if_neg (by omega)]
      have q1 : ((97 : Int) ≤ (r : Int)) := by omega
      have q2 : ¬ ((r : Int) ≤ 122) := by omega
      rw [hup2] at hsz HN
      obtain ⟨en, hen⟩ : ∃ en, encN (r) = en := ⟨_, rfl⟩
      rw [hen] at hsz HN
      have HE : Hid (∀ q : Nat, q = (r) → encN q = en) := fun q hq => by rw [hq]; exact hen
      clear hup hup2 hen
      go_wp2_with (fail)
      refine (in_f (by omega) wr).mono ?_
      rintro e w3 ⟨rfl, hw3⟩
      obtain rfl : wr = w3 := hw3.symm
      go_wp2_with (fail)
      refine (in_f (by omega) wr).mono ?_
      rintro e w3 ⟨rfl, hw3⟩
      obtain rfl : wr = w3 := hw3.symm
      go_wp2_with (fail)
      refine (in_f (by omega) wr).mono ?_
      rintro e w3 ⟨rfl, hw3⟩
      obtain rfl : wr = w3 := hw3.symm
      go_wp2_with (fail)
      refine (putN_c (r) wr (by omega)).mono ?_
      rintro e w3 ⟨rfl, b3⟩
      rw [HE.out _ rfl]
      have HB3 : Hid (Below w.heap.size w w3) := belowCall hbr.out b3 hbr.out.size
      clear b3
      go_wp2
      go_roundw
      case rel => exact ⟨j + n, _, hn, rfl, by go_num, HN, HB3⟩
      case measure => simp [intOf]; omega
    · have hup2 : up r = r - 32 := by unfold up; rw [if_pos (by omega)]
      have q1 : ((97 : Int) ≤ (r : Int)) := by omega
      have q2 : ¬ ((r : Int) ≤ 122) := by omega
      have q3 : ((r : Int) != 247) = true := by simp; omega
      rw [hup2] at hsz HN
      obtain ⟨en, hen⟩ : ∃ en, encN (r - 32) = en := ⟨_, rfl⟩
      rw [hen] at hsz HN
      have HE : Hid (∀ q : Nat, q = (r - 32) → encN q = en) := fun q hq => by rw [hq]; exact hen
      clear hup hup2 hen
      go_wp2_with (fail)
      refine (in_t (by omega) wr).mono ?_
      rintro e w3 ⟨rfl, hw3⟩
      obtain rfl : wr = w3 := hw3.symm
      go_wp2_with (fail)
      rw [show (r : Int) - 32 = ((r - 32 : Nat) : Int) by omega]
      refine (putN_c (r - 32) wr (by omega)).mono ?_
      rintro e w3 ⟨rfl, b3⟩
      rw [HE.out _ rfl]
      have HB3 : Hid (Below w.heap.size w w3) := belowCall hbr.out b3 hbr.out.size
      clear b3
      go_wp2
      go_roundw
      case rel => exact ⟨j + n, _, hn, rfl, by go_num, HN, HB3⟩
      case measure => simp [intOf]; omega
    · have hup2 : up r = r := by unfold up; rw [if_neg (by omega)]
      have q1 : ((97 : Int) ≤ (r : Int)) := by omega
      have q2 : ¬ ((r : Int) ≤ 122) := by omega
      have q3 : ((r : Int) != 247) = false := by simp; omega
      rw [hup2] at hsz HN
      obtain ⟨en, hen⟩ : ∃ en, encN (r) = en := ⟨_, rfl⟩
      rw [hen] at hsz HN
      have HE : Hid (∀ q : Nat, q = (r) → encN q = en) := fun q hq => by rw [hq]; exact hen
      clear hup hup2 hen
      go_wp2_with (fail)
      refine (in_t (by omega) wr).mono ?_
      rintro e w3 ⟨rfl, hw3⟩
      obtain rfl : wr = w3 := hw3.symm
      go_wp2_with (fail)
      refine (in_f (by omega) wr).mono ?_
      rintro e w3 ⟨rfl, hw3⟩
      obtain rfl : wr = w3 := hw3.symm
      go_wp2_with (fail)
      refine (in_f (by omega) wr).mono ?_
      rintro e w3 ⟨rfl, hw3⟩
      obtain rfl : wr = w3 := hw3.symm
      go_wp2_with (fail)
      refine (putN_c (r) wr (by omega)).mono ?_
      rintro e w3 ⟨rfl, b3⟩
      rw [HE.out _ rfl]
      have HB3 : Hid (Below w.heap.size w w3) := belowCall hbr.out b3 hbr.out.size
      clear b3
      go_wp2
      go_roundw
      case rel => exact ⟨j + n, _, hn, rfl, by go_num, HN, HB3⟩
      case measure => simp [intOf]; omega
    · have hup2 : up r = r - 32 := by unfold up; rw [if_pos (by omega)]
      have q1 : ((97 : Int) ≤ (r : Int)) := by omega
      have q2 : ¬ ((r : Int) ≤ 122) := by omega
      have q3 : ((r : Int) != 247) = true := by simp; omega
      rw [hup2] at hsz HN
      obtain ⟨en, hen⟩ : ∃ en, encN (r - 32) = en := ⟨_, rfl⟩
      rw [hen] at hsz HN
      have HE : Hid (∀ q : Nat, q = (r - 32) → encN q = en) := fun q hq => by rw [hq]; exact hen
      clear hup hup2 hen
      go_wp2_with (fail)
      refine (in_t (by omega) wr).mono ?_
      rintro e w3 ⟨rfl, hw3⟩
      obtain rfl : wr = w3 := hw3.symm
      go_wp2_with (fail)
      rw [show (r : Int) - 32 = ((r - 32 : Nat) : Int) by omega]
      refine (putN_c (r - 32) wr (by omega)).mono ?_
      rintro e w3 ⟨rfl, b3⟩
      rw [HE.out _ rfl]
      have HB3 : Hid (Below w.heap.size w w3) := belowCall hbr.out b3 hbr.out.size
      clear b3
      go_wp2
      go_roundw
      case rel => exact ⟨j + n, _, hn, rfl, by go_num, HN, HB3⟩
      case measure => simp [intOf]; omega
    · have hup2 : up r = r := by unfold up; rw [if_neg (by omega)]
      have q1 : ((97 : Int) ≤ (r : Int)) := by omega
      have q2 : ¬ ((r : Int) ≤ 122) := by omega
      rw [hup2] at hsz HN
      obtain ⟨en, hen⟩ : ∃ en, encN (r) = en := ⟨_, rfl⟩
      rw [hen] at hsz HN
      have HE : Hid (∀ q : Nat, q = (r) → encN q = en) := fun q hq => by rw [hq]; exact hen
      clear hup hup2 hen
      go_wp2_with (fail)
      refine (in_f (by omega) wr).mono ?_
      rintro e w3 ⟨rfl, hw3⟩
      obtain rfl : wr = w3 := hw3.symm
      go_wp2_with (fail)
      refine (in_f (by omega) wr).mono ?_
      rintro e w3 ⟨rfl, hw3⟩
      obtain rfl : wr = w3 := hw3.symm
      go_wp2_with (fail)
      refine (in_f (by omega) wr).mono ?_
      rintro e w3 ⟨rfl, hw3⟩
      obtain rfl : wr = w3 := hw3.symm
      go_wp2_with (fail)
      refine (putN_c (r) wr (by omega)).mono ?_
      rintro e w3 ⟨rfl, b3⟩
      rw [HE.out _ rfl]
      have HB3 : Hid (Below w.heap.size w w3) := belowCall hbr.out b3 hbr.out.size
      clear b3
      go_wp2
      go_roundw
      case rel => exact ⟨j + n, _, hn, rfl, by go_num, HN, HB3⟩
      case measure => simp [intOf]; omega
    · have hup2 : up r = r - 32 := by unfold up; rw [if_pos (by omega)]
      have q1 : ((97 : Int) ≤ (r : Int)) := by omega
      have q2 : ¬ ((r : Int) ≤ 122) := by omega
      have q3 : ((r : Int) != 962) = true := by simp; omega
      rw [hup2] at hsz HN
      obtain ⟨en, hen⟩ : ∃ en, encN (r - 32) = en := ⟨_, rfl⟩
      rw [hen] at hsz HN
      have HE : Hid (∀ q : Nat, q = (r - 32) → encN q = en) := fun q hq => by rw [hq]; exact hen
      clear hup hup2 hen
      go_wp2_with (fail)
      refine (in_f (by omega) wr).mono ?_
      rintro e w3 ⟨rfl, hw3⟩
      obtain rfl : wr = w3 := hw3.symm
      go_wp2_with (fail)
      refine (in_t (by omega) wr).mono ?_
      rintro e w3 ⟨rfl, hw3⟩
      obtain rfl : wr = w3 := hw3.symm
      go_wp2_with (fail)
      rw [show (r : Int) - 32 = ((r - 32 : Nat) : Int) by omega]
      refine (putN_c (r - 32) wr (by omega)).mono ?_
      rintro e w3 ⟨rfl, b3⟩
      rw [HE.out _ rfl]
      have HB3 : Hid (Below w.heap.size w w3) := belowCall hbr.out b3 hbr.out.size
      clear b3
      go_wp2
      go_roundw
      case rel => exact ⟨j + n, _, hn, rfl, by go_num, HN, HB3⟩
      case measure => simp [intOf]; omega
    · have hup2 : up r = r := by unfold up; rw [if_neg (by omega)]
      have q1 : ((97 : Int) ≤ (r : Int)) := by omega
      have q2 : ¬ ((r : Int) ≤ 122) := by omega
      have q3 : ((r : Int) != 962) = false := by simp; omega
      rw [hup2] at hsz HN
      obtain ⟨en, hen⟩ : ∃ en, encN (r) = en := ⟨_, rfl⟩
      rw [hen] at hsz HN
      have HE : Hid (∀ q : Nat, q = (r) → encN q = en) := fun q hq => by rw [hq]; exact hen
      clear hup hup2 hen
      go_wp2_with (fail)
      refine (in_f (by omega) wr).mono ?_
      rintro e w3 ⟨rfl, hw3⟩
      obtain rfl : wr = w3 := hw3.symm
      go_wp2_with (fail)
      refine (in_t (by omega) wr).mono ?_
      rintro e w3 ⟨rfl, hw3⟩
      obtain rfl : wr = w3 := hw3.symm
      go_wp2_with (fail)
      refine (in_f (by omega) wr).mono ?_
      rintro e w3 ⟨rfl, hw3⟩
      obtain rfl : wr = w3 := hw3.symm
      go_wp2_with (fail)
      refine (putN_c (r) wr (by omega)).mono ?_
      rintro e w3 ⟨rfl, b3⟩
      rw [HE.out _ rfl]
      have HB3 : Hid (Below w.heap.size w w3) := belowCall hbr.out b3 hbr.out.size
      clear b3
      go_wp2
      go_roundw
      case rel => exact ⟨j + n, _, hn, rfl, by go_num, HN, HB3⟩
      case measure => simp [intOf]; omega
    · have hup2 : up r = r - 32 := by unfold up; rw [if_pos (by omega)]
      have q1 : ((97 : Int) ≤ (r : Int)) := by omega
      have q2 : ¬ ((r : Int) ≤ 122) := by omega
      have q3 : ((r : Int) != 962) = true := by simp; omega
      rw [hup2] at hsz HN
      obtain ⟨en, hen⟩ : ∃ en, encN (r - 32) = en := ⟨_, rfl⟩
      rw [hen] at hsz HN
      have HE : Hid (∀ q : Nat, q = (r - 32) → encN q = en) := fun q hq => by rw [hq]; exact hen
      clear hup hup2 hen
      go_wp2_with (fail)
      refine (in_f (by omega) wr).mono ?_
      rintro e w3 ⟨rfl, hw3⟩
      obtain rfl : wr = w3 := hw3.symm
      go_wp2_with (fail)
      refine (in_t (by omega) wr).mono ?_
      rintro e w3 ⟨rfl, hw3⟩
      obtain rfl : wr = w3 := hw3.symm
      go_wp2_with (fail)
      rw [show (r : Int) - 32 = ((r - 32 : Nat) : Int) by omega]
      refine (putN_c (r - 32) wr (by omega)).mono ?_
      rintro e w3 ⟨rfl, b3⟩
      rw [HE.out _ rfl]
      have HB3 : Hid (Below w.heap.size w w3) := belowCall hbr.out b3 hbr.out.size
      clear b3
      go_wp2
      go_roundw
      case rel => exact ⟨j + n, _, hn, rfl, by go_num, HN, HB3⟩
      case measure => simp [intOf]; omega
    · have hup2 : up r = r := by unfold up; rw [if_neg (by omega)]
      have q1 : ((97 : Int) ≤ (r : Int)) := by omega
      have q2 : ¬ ((r : Int) ≤ 122) := by omega
      rw [hup2] at hsz HN
      obtain ⟨en, hen⟩ : ∃ en, encN (r) = en := ⟨_, rfl⟩
      rw [hen] at hsz HN
      have HE : Hid (∀ q : Nat, q = (r) → encN q = en) := fun q hq => by rw [hq]; exact hen
      clear hup hup2 hen
      go_wp2_with (fail)
      refine (in_f (by omega) wr).mono ?_
      rintro e w3 ⟨rfl, hw3⟩
      obtain rfl : wr = w3 := hw3.symm
      go_wp2_with (fail)
      refine (in_f (by omega) wr).mono ?_
      rintro e w3 ⟨rfl, hw3⟩
      obtain rfl : wr = w3 := hw3.symm
      go_wp2_with (fail)
      refine (in_f (by omega) wr).mono ?_
      rintro e w3 ⟨rfl, hw3⟩
      obtain rfl : wr = w3 := hw3.symm
      go_wp2_with (fail)
      refine (putN_c (r) wr (by omega)).mono ?_
      rintro e w3 ⟨rfl, b3⟩
      rw [HE.out _ rfl]
      have HB3 : Hid (Below w.heap.size w w3) := belowCall hbr.out b3 hbr.out.size
      clear b3
      go_wp2
      go_roundw
      case rel => exact ⟨j + n, _, hn, rfl, by go_num, HN, HB3⟩
      case measure => simp [intOf]; omega
    · have hup2 : up r = r - 32 := by unfold up; rw [if_pos (by omega)]
      have q1 : ((97 : Int) ≤ (r : Int)) := by omega
      have q2 : ¬ ((r : Int) ≤ 122) := by omega
      rw [hup2] at hsz HN
      obtain ⟨en, hen⟩ : ∃ en, encN (r - 32) = en := ⟨_, rfl⟩
      rw [hen] at hsz HN
      have HE : Hid (∀ q : Nat, q = (r - 32) → encN q = en) := fun q hq => by rw [hq]; exact hen
      clear hup hup2 hen
      go_wp2_with (fail)
      refine (in_f (by omega) wr).mono ?_
      rintro e w3 ⟨rfl, hw3⟩
      obtain rfl : wr = w3 := hw3.symm
      go_wp2_with (fail)
      refine (in_f (by omega) wr).mono ?_
      rintro e w3 ⟨rfl, hw3⟩
      obtain rfl : wr = w3 := hw3.symm
      go_wp2_with (fail)
      refine (in_t (by omega) wr).mono ?_
      rintro e w3 ⟨rfl, hw3⟩
      obtain rfl : wr = w3 := hw3.symm
      go_wp2_with (fail)
      rw [show (r : Int) - 32 = ((r - 32 : Nat) : Int) by omega]
      refine (putN_c (r - 32) wr (by omega)).mono ?_
      rintro e w3 ⟨rfl, b3⟩
      rw [HE.out _ rfl]
      have HB3 : Hid (Below w.heap.size w w3) := belowCall hbr.out b3 hbr.out.size
      clear b3
      go_wp2
      go_roundw
      case rel => exact ⟨j + n, _, hn, rfl, by go_num, HN, HB3⟩
      case measure => simp [intOf]; omega
    · have hup2 : up r = r := by unfold up; rw [if_neg (by omega)]
      have q1 : ((97 : Int) ≤ (r : Int)) := by omega
      have q2 : ¬ ((r : Int) ≤ 122) := by omega
      rw [hup2] at hsz HN
      obtain ⟨en, hen⟩ : ∃ en, encN (r) = en := ⟨_, rfl⟩
      rw [hen] at hsz HN
      have HE : Hid (∀ q : Nat, q = (r) → encN q = en) := fun q hq => by rw [hq]; exact hen
      clear hup hup2 hen
      go_wp2_with (fail)
      refine (in_f (by omega) wr).mono ?_
      rintro e w3 ⟨rfl, hw3⟩
      obtain rfl : wr = w3 := hw3.symm
      go_wp2_with (fail)
      refine (in_f (by omega) wr).mono ?_
      rintro e w3 ⟨rfl, hw3⟩
      obtain rfl : wr = w3 := hw3.symm
      go_wp2_with (fail)
      refine (in_f (by omega) wr).mono ?_
      rintro e w3 ⟨rfl, hw3⟩
      obtain rfl : wr = w3 := hw3.symm
      go_wp2_with (fail)
      refine (putN_c (r) wr (by omega)).mono ?_
      rintro e w3 ⟨rfl, b3⟩
      rw [HE.out _ rfl]
      have HB3 : Hid (Below w.heap.size w w3) := belowCall hbr.out b3 hbr.out.size
      clear b3
      go_wp2
      go_roundw
      case rel => exact ⟨j + n, _, hn, rfl, by go_num, HN, HB3⟩
      case measure => simp [intOf]; omega


end Go.Proofs.Ytlknakijdpeaoaa

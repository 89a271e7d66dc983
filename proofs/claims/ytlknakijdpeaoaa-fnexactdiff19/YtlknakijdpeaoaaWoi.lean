/- The program's runes of a word, and WordOk; no condition. -/
import Derived.Test.YtlknakijdpeaoaaRun
import Derived.Test.YtlknakijdpeaoaaSl
import Derived.Test.YtlknakijdpeaoaaBase
namespace Go.Proofs.Ytlknakijdpeaoaa
open Go.RowKit Go.ChangeShapes Go.WideShapes Go.ChangeAt
set_option linter.unusedVariables false
set_option linter.unusedSimpArgs false
set_option maxRecDepth 8000

theorem rI_len (rs : List Nat) : (rI rs).length = rs.length := by simp [rI]
theorem rI_at (rs : List Nat) (j : Nat) (h : j < rs.length) : (rI rs)[j]? = some ((rs[j]'h : Nat) : Int) := by simp [rI, h]
/-- a text of at most 64 bytes as runes -/
theorem run_runes (s : ByteArray) (w : World) (hs : s.size ≤ 64) : ∃ (cap : Nat) (w1 : World), (convert 9 43 (.string s)).run Try.prog w = .ok (.slice (some ⟨w.heap.size, 0, none⟩) (rn s 0).length cap) w1 ∧ Ow .i32 21 w.heap.size w1 (.slice (some ⟨w.heap.size, 0, none⟩) (rn s 0).length cap) (rI (rn s 0)) ∧ Below w.heap.size w w1 ∧ cap ≤ maxLen ∧ (rn s 0).length ≤ cap := by
  have hl := rn_len s 0
  have e := runesFrom_rn s
  have hsz : (Conv.runesFrom s s.size 0 #[]).size = (rn s 0).length := by rw [e]; simp [rI]
  have hr := run_runes_of_string (P := Try.prog) w 9 43 21 s Try.underlying9 Try.underlying43 Try.underlying21 (by rw [hsz]; omega)
  rw [hsz] at hr
  have hc := grownCap_ge w (rn s 0).length 0 21
  have hm := grownCap_le_maxLen w (rn s 0).length 0 21 (by unfold maxLen; omega)
  refine ⟨_, _, hr, ?_, ((Below.refl _ _).drew).alloc (by simp) _, hm, hc⟩
  refine ⟨by simp [rI], .inr ⟨w.heap.size, _, _, by rw [rI_len], Nat.le_refl _, heap_alloc_new w.drew _, by rw [rI_len]; exact hc, hm, ?_, ?_⟩⟩
  · rw [Array.size_append, hsz, Array.size_replicate]; omega
  · rw [e]
    simp [rI]
/-- of a list of runes the first j are such as a word has -/
def GdT (rs : List Nat) (j : Nat) : Prop := (rs.take j).all (fun r => isL r || isM r) = true
theorem GdT.zero (rs : List Nat) : GdT rs 0 := by simp [GdT]
theorem GdT.next {rs : List Nat} {j : Nat} (h : GdT rs j) (hj : j < rs.length) (hr : isL rs[j] = true ∨ isM rs[j] = true) : GdT rs (j + 1) := by
  unfold GdT at h ⊢
  rw [List.take_succ_eq_append_getElem hj, List.all_append, h]
  rcases hr with hr | hr <;> simp [hr]
theorem GdT.bad {rs : List Nat} {j : Nat} (hj : j < rs.length) (h1 : isL rs[j] = false) (h2 : isM rs[j] = false) : wdB rs = false := by
  have : rs.all (fun r => isL r || isM r) = false := by
    rw [List.all_eq_false]
    exact ⟨rs[j], List.getElem_mem hj, by simp [h1, h2]⟩
  unfold wdB; rw [this]; simp
theorem GdT.fin {rs : List Nat} (h : GdT rs rs.length) (h16 : rs.length ≤ 16) (hh : headL rs = true) : wdB rs = true := by
  unfold GdT at h
  rw [List.take_length] at h
  unfold wdB; rw [h, hh, decide_eq_true h16]; rfl
/-- what runesOfWord tells -/
def RuR (s : ByteArray) (w : World) (e : Ending) (w' : World) : Prop := ∃ v : Value, e = .returned (.tuple #[v, .bool (wB s)]) ∧ (wB s = true → Ow .i32 21 w.heap.size w' v (rI (rn s 0))) ∧ (wB s = false → v = .slice none 0 0) ∧ Below w.heap.size w w'
set_option maxHeartbeats 6400000 in
theorem runes_c (s : ByteArray) (w : World) (hs : s.size ≤ 4611686018427387904) : Calls Try.prog 26 #[.string s] w (RuR s w) := by
  have no : ∀ e w', wB s = false → e = .returned (.tuple #[.slice none 0 0, .bool false]) → Below w.heap.size w w' → RuR s w e w' := fun e w' hw he hb => ⟨_, by rw [hw]; exact he, fun h => by rw [hw] at h; (cases h), fun _ => rfl, hb⟩
  by_cases h64 : 64 < s.size
  · have hI : (64 : Int) < (s.size : Int) := by omega
    have HF : Hid (wB s = false) := wB_long h64
    go_enter Try.func26, Try.ntmps26
    go_wp2
    go_ret2
    exact no _ _ HF.out rfl (Below.refl _ _)
  have hI : ¬ ((64 : Int) < (s.size : Int)) := by omega
  obtain ⟨cap, w1, hcv, hO, hB, hcm, hlc⟩ := run_runes s w (by omega)
  have hcells : ∀ j (h : j < (rn s 0).length), w1.cell? ⟨w.heap.size, j, none⟩ = some (.int .i32 (((rn s 0)[j]'h : Nat) : Int)) := fun j h => by
    have := World.ownsRow.cellAt (by have := hO; rw [Ow, rI_len] at this; exact this) j (by omega)
    rw [this, List.getElem?_map, rI_at _ _ h]; rfl
  have hw : wB s = wdB (rn s 0) := rfl
  have yes : ∀ e w', wB s = true → e = .returned (.tuple #[.slice (some ⟨w.heap.size, 0, none⟩) (rn s 0).length cap, .bool true]) → w' = w1 → RuR s w e w' := fun e w' hw he hw' => by
    subst hw'
    exact ⟨_, by rw [hw]; exact he, fun _ => hO, fun h => by rw [hw] at h; (cases h), hB⟩
  obtain ⟨rs, hrs⟩ : ∃ rs, rn s 0 = rs := ⟨_, rfl⟩
  have hrl := rn_len s 0
  rw [hrs] at hcv hcells hw yes hlc hrl
  have HY : Hid (∀ e w', wB s = true → e = .returned (.tuple #[.slice (some ⟨w.heap.size, 0, none⟩) rs.length cap, .bool true]) → w' = w1 → RuR s w e w') := yes
  have HNO : Hid (∀ e w', wB s = false → e = .returned (.tuple #[.slice none 0 0, .bool false]) → Below w.heap.size w w' → RuR s w e w') := no
  have HB : Hid (Below w.heap.size w w1) := hB
  have HW : Hid (wB s = wdB rs) := hw
  unfold maxLen at hcm
  clear hO hB hw no yes hrs
  by_cases hlen : 1 ≤ rs.length ∧ rs.length ≤ 16
  case neg =>
    have HF : Hid (wB s = false) := by
      show wB s = false
      rw [HW.out]
      cases hq : wdB rs with
      | false => rfl
      | true => exact absurd (wdB_one hq) hlen
    go_enter Try.func26, Try.ntmps26
    go_wp2_with (fail)
    refine (wi_f (by omega) w1).mono ?_
    rintro e w2 ⟨rfl, hw2⟩
    obtain rfl : w1 = w2 := hw2.symm
    go_wp2
    go_ret2
    exact HNO.out _ _ HF.out rfl HB.out
  case pos =>
  have h0 := hcells 0 (by omega)
  have hp0 : 0 < rs.length := by omega
  have hp0I : (0 : Int) < (rs.length : Int) := by omega
  cases hL0 : isL (rs[0]'hp0) with
  | false =>
    have HF : Hid (wB s = false) := by
      show wB s = false
      rw [HW.out]
      unfold wdB
      have : headL rs = false := by
        cases rs with
        | nil => rfl
        | cons r l => exact hL0
      rw [this]; simp
    go_enter Try.func26, Try.ntmps26
    go_wp2_with (fail)
    refine (wi_t (by omega) w1).mono ?_
    rintro e w2 ⟨rfl, hw2⟩
    obtain rfl : w1 = w2 := hw2.symm
    go_wp2_with (fail)
    refine (letI_c _ w1).mono ?_
    rintro e w2 ⟨rfl, hw2⟩
    obtain rfl : w1 = w2 := hw2.symm
    rw [hL0]
    go_wp2
    go_ret2
    exact HNO.out _ _ HF.out rfl HB.out
  | true =>
    have HH : Hid (headL rs = true) := by
      show headL rs = true
      cases rs with
      | nil => simp at hp0
      | cons r l => exact hL0
    go_enter Try.func26, Try.ntmps26
    go_wp2_with (fail)
    refine (wi_t (by omega) w1).mono ?_
    rintro e w2 ⟨rfl, hw2⟩
    obtain rfl : w1 = w2 := hw2.symm
    go_wp2_with (fail)
    refine (letI_c _ w1).mono ?_
    rintro e w2 ⟨rfl, hw2⟩
    obtain rfl : w1 = w2 := hw2.symm
    rw [hL0]
    clear hL0 h0
    go_wp2
    go_loopw [25] (fun i wr => ∃ j : Nat, j ≤ rs.length ∧ i = .int .i64 j ∧ wr = w1 ∧ Hid (GdT rs j)) (fun i _ => rs.length - (intOf i).toNat)
    case atStart => exact ⟨0, Nat.zero_le _, rfl, rfl, GdT.zero rs⟩
    case round =>
      obtain ⟨j, hj, rfl, hwr, hA⟩ := hrel
      obtain rfl : w1 = wr := hwr.symm
      by_cases hlt : j < rs.length
      case neg =>
        obtain rfl : j = rs.length := by omega
        have HF : Hid (wB s = true) := by
          show wB s = true
          rw [HW.out]
          exact hA.out.fin hlen.2 HH.out
        go_wp2
        go_ret2
        exact HY.out _ _ HF.out rfl rfl
      case pos =>
      have hc := hcells j hlt
      have hjI : (j : Int) < (rs.length : Int) := by omega
      cases hL : isL (rs[j]'hlt) with
      | true =>
        have HN : Hid (GdT rs (j + 1)) := hA.out.next hlt (.inl hL)
        go_wp2_with (fail)
        refine (letI_c _ w1).mono ?_
        rintro e w2 ⟨rfl, hw2⟩
        obtain rfl : w1 = w2 := hw2.symm
        rw [hL]
        clear hL
        go_wp2
        go_roundw
        case rel => exact ⟨j + 1, by omega, by go_num, by first | rfl | trivial, HN.out⟩
        case measure => simp [intOf]; omega
      | false =>
        cases hM : isM (rs[j]'hlt) with
        | true =>
          have HN : Hid (GdT rs (j + 1)) := hA.out.next hlt (.inr hM)
          go_wp2_with (fail)
          refine (letI_c _ w1).mono ?_
          rintro e w2 ⟨rfl, hw2⟩
          obtain rfl : w1 = w2 := hw2.symm
          rw [hL]
          clear hL
          go_wp2_with (fail)
          refine (mrkI_c _ w1).mono ?_
          rintro e w2 ⟨rfl, hw2⟩
          obtain rfl : w1 = w2 := hw2.symm
          rw [hM]
          clear hM
          go_wp2
          go_roundw
          case rel => exact ⟨j + 1, by omega, by go_num, by first | rfl | trivial, HN.out⟩
          case measure => simp [intOf]; omega
        | false =>
          have HF : Hid (wB s = false) := by
            show wB s = false
            rw [HW.out]
            exact GdT.bad hlt hL hM
          go_wp2_with (fail)
          refine (letI_c _ w1).mono ?_
          rintro e w2 ⟨rfl, hw2⟩
          obtain rfl : w1 = w2 := hw2.symm
          rw [hL]
          clear hL
          go_wp2_with (fail)
          refine (mrkI_c _ w1).mono ?_
          rintro e w2 ⟨rfl, hw2⟩
          obtain rfl : w1 = w2 := hw2.symm
          rw [hM]
          clear hM
          go_wp2
          go_ret2
          exact HNO.out _ _ HF.out rfl HB.out
set_option maxHeartbeats 1600000 in
theorem wordI_c (s : ByteArray) (w : World) (hs : s.size ≤ 4611686018427387904) : Calls Try.prog 13 #[.string s] w fun e w' => e = .returned (.bool (wB s)) ∧ Below w.heap.size w w' := by
  go_enter Try.func13, Try.ntmps13
  go_wp2_with (fail)
  refine (runes_c s w hs).mono ?_
  rintro e w2 ⟨v, rfl, -, -, hb⟩
  have HB : Hid (Below w.heap.size w w2) := hb
  clear hb
  go_wp2
  go_ret
  exact ⟨rfl, HB.out⟩

end Go.Proofs.Ytlknakijdpeaoaa

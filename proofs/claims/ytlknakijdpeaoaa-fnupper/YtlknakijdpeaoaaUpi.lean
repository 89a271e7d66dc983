/- The program's Upper; no condition. -/
import Derived.Test.YtlknakijdpeaoaaWoi
import Derived.Test.YtlknakijdpeaoaaGre
import Derived.Test.YtlknakijdpeaoaaUpp
namespace Go.Proofs.Ytlknakijdpeaoaa
open Go.RowKit Go.ChangeShapes Go.WideShapes Go.ChangeAt
set_option linter.unusedVariables false
set_option linter.unusedSimpArgs false
set_option maxRecDepth 8000

theorem convR {W : World} {v : Value} {l : List Int} (h : Rd .i32 W v l) : (convert 43 9 v).run Try.prog W = .ok (.string (runesBytes l)) W := by
  obtain ⟨a, cap, rfl, h1, h2, h3⟩ := h
  cases a with
  | none =>
    rcases h3 with rfl | ⟨b, off, e, -⟩
    · exact run_convert_runes_nil W 43 9 21 _ _ Try.underlying43 Try.underlying21 Try.underlying9
    · cases e
  | some ad =>
    have := run_convert_runes (P := Try.prog) W 43 9 21 ad l.length cap l (Nat.le_refl _) Try.underlying43 Try.underlying21 Try.underlying9 (fun j hj => by
      rcases h3 with rfl | ⟨b, off, e, h4⟩
      · simp at hj
      · cases e
        have hadd : (⟨b, off, none⟩ : Addr).add j = ⟨b, off + j, none⟩ := by unfold Addr.add; split <;> simp_all
        rw [hadd]
        exact h4 j hj)
    rw [List.take_length] at this
    exact this
/-- the first j made great -/
def upT (rs : List Nat) (j : Nat) : List Nat := (rs.take j).map up ++ rs.drop j
theorem upT_zero (rs : List Nat) : upT rs 0 = rs := by simp [upT]
theorem upT_full (rs : List Nat) : upT rs rs.length = rs.map up := by simp [upT]
theorem upT_len (rs : List Nat) (j : Nat) : (upT rs j).length = rs.length := by simp [upT]; omega
theorem upT_at (rs : List Nat) (j : Nat) (h : j < rs.length) : (upT rs j)[j]? = some rs[j] := by
  unfold upT
  rw [List.getElem?_append_right (by simp; omega)]
  simp
  rw [show j - min j rs.length = 0 by omega]
  simp [h]
theorem upT_set (rs : List Nat) (j : Nat) (h : j < rs.length) : (upT rs j).set j (up rs[j]) = upT rs (j + 1) := by
  unfold upT
  rw [List.take_succ_eq_append_getElem h, List.drop_eq_getElem_cons h, List.set_append]
  have h1 : ¬ j < ((rs.take j).map up).length := by simp; omega
  have h2 : j - ((rs.take j).map up).length = 0 := by simp; omega
  rw [if_neg h1, h2]
  simp only [List.set_cons_zero, List.map_append, List.map_cons, List.map_nil, List.append_assoc, List.cons_append, List.nil_append]
theorem rI_set (rs : List Nat) (j x : Nat) : ((rI rs).map (Value.int .i32)).set j (.int .i32 (x : Int)) = (rI (rs.set j x)).map (Value.int .i32) := by
  simp [rI, List.map_set]
set_option maxHeartbeats 6400000 in
theorem upperI_c (s : ByteArray) (w : World) (hs : s.size ≤ 4611686018427387904) : Calls Try.prog 11 #[.string s] w fun e w' => e = .returned (.string (upS s)) ∧ Below w.heap.size w w' := by
  cases hw : wB s with
  | false =>
    have hu : upS s = ⟨#[]⟩ := by unfold upS; rw [hw]; rfl
    rw [hu]; clear hu
    go_enter Try.func11, Try.ntmps11
    go_wp2_with (fail)
    refine (runes_c s w hs).mono ?_
    rintro e w2 ⟨v, rfl, -, hv, hb⟩
    obtain rfl := hv hw
    rw [hw]
    have HB : Hid (Below w.heap.size w w2) := hb
    clear hb hv hw
    go_wp2
    go_ret
    exact ⟨rfl, HB.out⟩
  | true =>
    have hu : upS s = runesBytes (rI ((rn s 0).map up)) := by unfold upS; rw [hw]; rfl
    have hg := wdB_good (rs := rn s 0) hw
    have hl := wdB_one (rs := rn s 0) hw
    rw [hu]; clear hu
    go_enter Try.func11, Try.ntmps11
    go_wp2_with (fail)
    refine (runes_c s w hs).mono ?_
    rintro e w2 ⟨v, rfl, hO, -, hb⟩
    rw [hw]
    have hO1 := hO hw
    clear hO hw
    obtain ⟨rs, hrs⟩ : ∃ rs, rn s 0 = rs := ⟨_, rfl⟩
    rw [hrs] at hg hl hO1
    have HRS : Hid (rn s 0 = rs) := hrs
    have HG : Hid (∀ r ∈ rs, isL r = true ∨ isM r = true) := hg
    clear hrs hg
    have hO2 := hO1
    rw [Ow, rI_len] at hO2
    obtain ⟨g, cap, rfl, hge⟩ : ∃ g cap, v = .slice (some ⟨g, 0, none⟩) rs.length cap ∧ w.heap.size ≤ g := by
      rcases hO2.2 with ⟨-, h0⟩ | ⟨g, cap, cur, hv, hgg, -⟩
      · omega
      · exact ⟨g, cap, hv, hgg⟩
    clear hO2
    have HO : Hid (Ow .i32 21 w.heap.size w2 (.slice (some ⟨g, 0, none⟩) rs.length cap) (rI (upT rs 0))) := by
      show Ow _ _ _ _ _ _
      rw [upT_zero]; exact hO1
    have HB : Hid (Below w.heap.size w w2) := hb
    clear hb hO1
    go_wp2
    go_loopw [16] (fun i wr => ∃ j : Nat, j ≤ rs.length ∧ i = .int .i64 j ∧ Hid (Ow .i32 21 w.heap.size wr (.slice (some ⟨g, 0, none⟩) rs.length cap) (rI (upT rs j))) ∧ Hid (Below w.heap.size w wr)) (fun i _ => rs.length - (intOf i).toNat)
    case atStart => exact ⟨0, Nat.zero_le _, rfl, HO, HB⟩
    case round =>
      obtain ⟨j, hj, rfl, hA, hbr⟩ := hrel
      clear HO HB
      by_cases hlt : j < rs.length
      case neg =>
        obtain rfl : j = rs.length := by omega
        have hcv := convR hA.out.rd
        rw [upT_full] at hcv
        go_wp2
        go_ret
        exact ⟨by rw [HRS.out]; rfl, hbr.out⟩
      case pos =>
      have hjI : (j : Int) < (rs.length : Int) := by omega
      have hO := hA.out
      rw [Ow, rI_len, upT_len] at hO
      have hc : wr.cell? ⟨g, j, none⟩ = some (.int .i32 ((rs[j]'hlt : Nat) : Int)) := by
        rw [hO.cellAt j (by omega), List.getElem?_map]
        have : (rI (upT rs j))[j]? = some ((rs[j]'hlt : Nat) : Int) := by simp [rI, List.getElem?_map, upT_at rs j hlt]
        rw [this]; rfl
      have hf := hO.frozenAt j
      have hs2 := (World.ownsRow.stored hO j (.int .i32 ((up (rs[j]'hlt) : Nat) : Int))).1
      rw [rI_set, upT_set rs j hlt] at hs2
      have hbw : Below w.heap.size w (wr.setCell ⟨g, j, none⟩ (.int .i32 ((up (rs[j]'hlt) : Nat) : Int))) := hbr.out.setCell hge _
      have HS : Hid (Ow .i32 21 w.heap.size (wr.setCell ⟨g, j, none⟩ (.int .i32 ((up (rs[j]'hlt) : Nat) : Int))) (.slice (some ⟨g, 0, none⟩) rs.length cap) (rI (upT rs (j + 1)))) := by
        show Ow _ _ _ _ _ _
        rw [Ow, rI_len, upT_len]; exact hs2
      have HW : Hid (Below w.heap.size w (wr.setCell ⟨g, j, none⟩ (.int .i32 ((up (rs[j]'hlt) : Nat) : Int)))) := hbw
      have hn := good_247 (HG.out _ (List.getElem_mem hlt))
      clear hO hs2 hbw
      go_wp2_with (fail)
      refine (great_c _ wr hn).mono ?_
      rintro e w3 ⟨rfl, hw3⟩
      obtain rfl : wr = w3 := hw3.symm
      go_wp2
      go_roundw
      case rel => exact ⟨j + 1, by omega, by go_num, HS, HW⟩
      case measure => simp [intOf]; omega

end Go.Proofs.Ytlknakijdpeaoaa

/- startMeter, endOk and l9Ticks; no condition. -/
import Derived.Test.YtdnophdldpophaaRMa
namespace Go.Proofs.Ytdnophdldpophaa
open Go.RowKit Go.ChangeShapes Go.WideShapes Go.ChangeAt
set_option linter.unusedVariables false
set_option linter.unusedSimpArgs false
set_option maxRecDepth 8000
theorem endOk_c (b e : Int) (hb : 0 ≤ b ∧ b ≤ 1000000000) (w : World) : Calls Try.prog 40 #[.int .i64 b, .int .i64 e] w fun x w' => x = .returned (.bool (decide (b ≤ e ∧ e ≤ 1000000000 ∧ e ≤ b + 86400))) ∧ w' = w := by
  go_enter Try.func40, Try.ntmps40
  go_wp2_with (fail)
  refine (within_c _ _ _ _).mono ?_
  rintro x w1 ⟨rfl, hw⟩
  rw [hw]
  clear hw w1
  by_cases h : b ≤ e ∧ e ≤ 1000000000
  · have hd : decide (b ≤ e ∧ e ≤ 1000000000) = true := by simpa using h
    rw [hd]
    have h1 : -9223372036854775808 ≤ e - b ∧ e - b ≤ 9223372036854775807 := by omega
    have HH : Hid (b ≤ e ∧ e ≤ 1000000000) := h
    clear hd h
    go_wp2
    go_ret
    refine ⟨congrArg (fun q : Bool => Ending.returned (Value.bool q)) (Bool.eq_iff_iff.2 ?_), rfl⟩
    have := HH.out
    simp
    omega
  · have hd : decide (b ≤ e ∧ e ≤ 1000000000) = false := by simpa using h
    rw [hd]
    have HH : Hid (¬ (b ≤ e ∧ e ≤ 1000000000)) := h
    clear hd h
    go_wp2
    go_ret
    refine ⟨?_, rfl⟩
    have := HH.out
    simp
    omega
theorem l9Ticks_c (b e : Int) (hb : 0 ≤ b ∧ b ≤ 1000000000) (w : World) : Calls Try.prog 47 #[.int .i64 b, .int .i64 e] w fun x w' => x = .returned (.bool (decide (b ≤ e ∧ e ≤ 1000000000 ∧ e ≤ b + 86400))) ∧ w' = w := by
  have HB : Hid (0 ≤ b ∧ b ≤ 1000000000) := hb
  have hd : decide (0 ≤ b ∧ b ≤ 1000000000) = true := by simpa using hb
  have h1 : -9223372036854775808 ≤ b + 86400 ∧ b + 86400 ≤ 9223372036854775807 := by omega
  clear hb
  go_enter Try.func47, Try.ntmps47
  go_wp2_with (fail)
  refine (l4Tick_c _ _).mono ?_
  rintro x w1 ⟨rfl, hw⟩
  rw [hw, hd]
  clear hw w1 hd
  go_wp2_with (fail)
  refine (l1In_c _ _ _ _).mono ?_
  rintro x w1 ⟨rfl, hw⟩
  rw [hw]
  clear hw w1
  by_cases h : b ≤ e ∧ e ≤ b + 86400
  · have hd : decide (b ≤ e ∧ e ≤ b + 86400) = true := by simpa using h
    rw [hd]
    have HH : Hid (b ≤ e ∧ e ≤ b + 86400) := h
    clear hd h
    go_wp2_with (fail)
    refine (l4Tick_c _ _).mono ?_
    rintro x w1 ⟨rfl, hw⟩
    rw [hw]
    clear hw w1
    go_wp2
    go_ret
    refine ⟨congrArg (fun q : Bool => Ending.returned (Value.bool q)) (Bool.eq_iff_iff.2 ?_), rfl⟩
    have := HH.out
    have := HB.out
    simp
    omega
  · have hd : decide (b ≤ e ∧ e ≤ b + 86400) = false := by simpa using h
    rw [hd]
    have HH : Hid (¬ (b ≤ e ∧ e ≤ b + 86400)) := h
    clear hd h
    go_wp2
    go_ret
    refine ⟨?_, rfl⟩
    have := HH.out
    simp
    omega
/-- what startMeter answers -/
def SmR (ls : List Tf) (v : Value) (z b : Int) (w : World) (e : Ending) (w' : World) : Prop :=
  (e = .returned (.tuple #[.pointer none, .bool false]) ∧ ¬ (TfOk ls ∧ 0 ≤ b ∧ b ≤ 1000000000 ∧ HasZ ls z) ∧ Below w.heap.size w w') ∨
  (∃ M, e = .returned (.tuple #[.pointer (some ⟨M, 0, none⟩), .bool true]) ∧ (TfOk ls ∧ 0 ≤ b ∧ b ≤ 1000000000 ∧ HasZ ls z) ∧ w.heap.size ≤ M ∧ Blk w' M #[v, .int .i64 z, .int .i64 b, .int .i64 0, .int .i64 (tfA ls z b).2.2.2.2] 71 ∧ Below w.heap.size w w')
set_option maxHeartbeats 1600000 in
theorem startMeter_c (v : Value) (ls : List Tf) (z b : Int) (w : World) (h : Rg 5 tfC w v ls) : Calls Try.prog 34 #[v, .int .i64 z, .int .i64 b] w (SmR ls v z b w) := by
  have HH : Hid (Rg 5 tfC w v ls) := h
  obtain ⟨a, cap, rfl, h1, h2, h3⟩ := h
  unfold maxLen at h2
  go_enter Try.func34, Try.ntmps34
  go_wp2_with (fail)
  refine (atI_c _ ls z b w HH.out).mono ?_
  rintro e w1 ⟨p, rfl, hp, hn, b1⟩
  have HB1 : Hid (Below w.heap.size w w1) := b1
  by_cases hc : TfOk ls ∧ 0 ≤ b ∧ b ≤ 1000000000 ∧ HasZ ls z
  · obtain ⟨i, hi, hil, -⟩ := hoF_neg (t := b) hc.2.2.2
    have hpi : p = i := by rw [hp ⟨hc.1, hc.2.1, hc.2.2.1⟩, hi]
    subst hpi
    have HF : Hid (tfA ls z b = ls[i]) := tfA_at hi hil
    have HC : Hid (TfOk ls ∧ 0 ≤ b ∧ b ≤ 1000000000 ∧ HasZ ls z) := hc
    rcases h3 with h3 | ⟨bb, off, rfl, h4⟩
    · subst h3; simp at hil
    obtain ⟨r, hr⟩ : ∃ r, ls[i] = r := ⟨_, rfl⟩
    have HR : Hid (ls[i] = r) := hr
    have hcl := rangeAt_below (h4 i hil) b1 (block_lt_of_cell (h4 i hil 0 _ rfl))
    rw [hr] at hcl
    have e4 : w1.cell? ⟨bb, off + i * 5 + 4, none⟩ = some (.int .i64 r.2.2.2.2) := hcl 4 _ rfl
    have hiI : (i : Int) < (ls.length : Int) := by omega
    have hd : decide (0 ≤ (i : Int)) = true := by simp
    rw [hd]
    have HE : Hid (SmR ls (.slice (some ⟨bb, off, none⟩) ls.length cap) z b w (.returned (.tuple #[.pointer (some ⟨w1.heap.size, 0, none⟩), .bool true])) (w1.alloc (Obj.cells #[.slice (some ⟨bb, off, none⟩) ls.length cap, .int .i64 z, .int .i64 b, .int .i64 0, .int .i64 r.2.2.2.2] 71))) := by
      refine .inr ⟨_, rfl, HC.out, HB1.out.size, ?_, HB1.out.alloc HB1.out.size _⟩
      rw [HF.out, HR.out]
      exact Blk.new _ _ _
    clear h4 hcl hr hc hp hn b1 hi hd
    go_wp2
    go_ret2
    exact HE.out
  · have HN : Hid (¬ (TfOk ls ∧ 0 ≤ b ∧ b ≤ 1000000000 ∧ HasZ ls z)) := hc
    have hp1 : p < 0 := by
      by_cases h5 : TfOk ls ∧ 0 ≤ b ∧ b ≤ 1000000000
      · have h6 := hp h5
        by_cases h7 : 0 ≤ p
        · exact absurd ⟨h5.1, h5.2.1, h5.2.2, hasZ_of (h6 ▸ h7)⟩ hc
        · omega
      · rw [hn h5]; decide
    have hd : decide (0 ≤ p) = false := by simp; omega
    rw [hd]
    clear h3 hc hp hn b1 hp1 hd
    go_wp2
    go_ret2
    exact .inl ⟨rfl, HN.out, HB1.out⟩
end Go.Proofs.Ytdnophdldpophaa

/- What comes of digits, the program's way; no condition. -/
import Derived.Test.YtpnglbnebkggkaaDiI
namespace Go.Proofs.Ytpnglbnebkggkaa
open Go.RowKit Go.ChangeShapes Go.WideShapes Go.ChangeAt
set_option linter.unusedVariables false
set_option linter.unusedSimpArgs false
set_option maxRecDepth 8000
/-- what came of digits: more wanted, may end, has ended, none -/
abbrev oMore : Value := .iface 72 (.agg #[])
abbrev oNone : Value := .iface 98 (.agg #[])
abbrev oMay (k : Int) : Value := .iface 92 (.agg #[.int .i64 k])
abbrev oDone (k : Int) : Value := .iface 93 (.agg #[.int .i64 k])
def OutS (ls : Rls) (s : ByteArray) (o : Value) : Prop :=
    (0 ≤ lfi (qF s) ls ls.length ∧ o = oDone (lfi (qF s) ls ls.length)) ∨
    (lfi (qF s) ls ls.length < 0 ∧ (
      (lfi (qB s) ls ls.length < 0 ∧ o = if ls.any (oB s) = true then oMore else oNone) ∨
      (∃ k : Nat, ∃ h : k < ls.length, lfi (qB s) ls ls.length = (k : Int) ∧ (
        (ls[k].mo < (s.size : Int) ∧ o = if ls.any (oB s) = true then oMore else oNone) ∨
        ((s.size : Int) < ls[k].le ∧ o = oMore) ∨
        ((ls[k].le ≤ (s.size : Int) ∧ (s.size : Int) = ls[k].mo ∧ ls.any (oB s) = false) ∧ o = oDone k) ∨
        ((ls[k].le ≤ (s.size : Int) ∧ (s.size : Int) ≤ ls[k].mo ∧ ¬ ((s.size : Int) = ls[k].mo ∧ ls.any (oB s) = false)) ∧ o = oMay k)))))
def OuR (ls : Rls) (s : ByteArray) (w : World) (e : Ending) (w' : World) : Prop := ∃ o, e = .returned o ∧ OutS ls s o ∧ Below w.heap.size w w'
set_option maxHeartbeats 12800000 in
theorem outcome_c (v : Value) (ls : Rls) (s : ByteArray) (w : World) (h : Rr w v ls) (hok : RsOk ls) (hs : s.size ≤ 1048576) : Calls Try.prog 31 #[v, .string s] w (OuR ls s w) := by
  have HRR : Hid (Rr w v ls) := h
  have HOK : Hid (RsOk ls) := hok
  obtain ⟨a, cap, rfl, h1, h2, h3⟩ := h
  unfold maxLen at h2
  have H3 : Hid (ls = [] ∨ ∃ b off, a = some ⟨b, off, none⟩ ∧ ∀ i (h : i < ls.length), w.cell? ⟨b, off + i * 6, none⟩ = some (.string ls[i].pre) ∧ w.cell? ⟨b, off + i * 6 + 1, none⟩ = some (.int .i64 ls[i].le) ∧ w.cell? ⟨b, off + i * 6 + 2, none⟩ = some (.int .i64 ls[i].mo) ∧ w.cell? ⟨b, off + i * 6 + 3, none⟩ = some (.int .i64 ls[i].ro) ∧ w.cell? ⟨b, off + i * 6 + 4, none⟩ = some (.int .i64 ls[i].st) ∧ w.cell? ⟨b, off + i * 6 + 5, none⟩ = some (.string ls[i].ad)) := h3
  obtain ⟨n, hn⟩ : ∃ n, ls.length = n := ⟨_, rfl⟩
  have HN : Hid (ls.length = n) := hn
  rw [hn] at h1 HRR ⊢
  clear hn h3 hok
  obtain ⟨W1, hW1⟩ : ∃ W1, w.alloc (Obj.cells #[.int .i64 (s.size : Int)] 3) = W1 := ⟨_, rfl⟩
  have K1 : Hid (Below w.heap.size w W1 ∧ Blk W1 w.heap.size #[.int .i64 (s.size : Int)] 3) := hW1 ▸ ⟨(Below.refl _ _).alloc (Nat.le_refl _) _, Blk.new _ _ _⟩
  have HW1 : Hid (w.alloc (Obj.cells #[.int .i64 (s.size : Int)] 3) = W1) := hW1
  clear hW1
  have hfge := lfi_ge (q := qF s) (ls := ls) ls.length
  have hbge := lfi_ge (q := qB s) (ls := ls) ls.length
  have HBA : Hid (0 ≤ lfi (qB s) ls ls.length → ∃ k : Nat, ∃ h : k < ls.length, lfi (qB s) ls ls.length = (k : Int) ∧ k < ls.length ∧ qB s ls[k] = true) := lfi_at ls.length (Nat.le_refl _)
  obtain ⟨b, hbn⟩ : ∃ b, lfi (qB s) ls ls.length = b := ⟨_, rfl⟩
  obtain ⟨f, hfn⟩ : ∃ f, lfi (qF s) ls ls.length = f := ⟨_, rfl⟩
  obtain ⟨o, hon⟩ : ∃ o, ls.any (oB s) = o := ⟨_, rfl⟩
  have HB : Hid (lfi (qB s) ls ls.length = b) := hbn
  have HFN : Hid (lfi (qF s) ls ls.length = f) := hfn
  have HO : Hid (ls.any (oB s) = o) := hon
  rw [hbn] at HBA hbge
  rw [hfn] at hfge
  clear hbn hfn hon
  go_enter Try.func31, Try.ntmps31
  go_wp2_with (fail)
  rw [HW1.out]
  refine (fit58_c _ ls s w.heap.size W1 (HRR.out.below K1.out.1) K1.out.2 HOK.out hs).mono ?_
  rintro e w2 ⟨rfl, b2⟩
  rw [HFN.out]
  have K2 : Hid (Below w.heap.size w w2 ∧ Blk w2 w.heap.size #[.int .i64 (s.size : Int)] 3) := ⟨belowCall K1.out.1 b2 K1.out.1.size, K1.out.2.below b2 K1.out.2.lt⟩
  clear b2 K1 HW1
  by_cases hf0 : f = -1
  case neg =>
    have hfb : (f != -1) = true := by simpa using hf0
    have HF0 : Hid (0 ≤ f) := by show 0 ≤ f; omega
    clear hf0
    go_wp2
    go_ret
    exact ⟨_, rfl, .inl ⟨by rw [HFN.out]; exact HF0.out, by rw [HFN.out]; rfl⟩, K2.out.1⟩
  case pos =>
  subst hf0
  clear hfge
  have HFL : Hid (lfi (qF s) ls ls.length < 0) := by show _ < _; rw [HFN.out]; decide
  go_wp2_with (fail)
  refine (fit59_c _ ls s w2 (HRR.out.below K2.out.1) HOK.out hs).mono ?_
  rintro e w3 ⟨rfl, b3⟩
  rw [HB.out]
  have K3 : Hid (Below w.heap.size w w3 ∧ Blk w3 w.heap.size #[.int .i64 (s.size : Int)] 3) := ⟨belowCall K2.out.1 b3 K2.out.1.size, K2.out.2.below b3 K2.out.2.lt⟩
  clear b3 K2
  go_wp2_with (fail)
  refine (open_c _ ls s w3 (HRR.out.below K3.out.1) HOK.out hs).mono ?_
  rintro e w4 ⟨rfl, b4⟩
  rw [HO.out]
  have K4 : Hid (Below w.heap.size w w4 ∧ Blk w4 w.heap.size #[.int .i64 (s.size : Int)] 3) := ⟨belowCall K3.out.1 b4 K3.out.1.size, K3.out.2.below b4 K3.out.2.lt⟩
  clear b4 K3
  by_cases hb0 : 0 ≤ b
  case neg =>
    obtain rfl : b = -1 := by omega
    clear hb0 hbge HBA
    have z0 : ∀ W : Ov w4, W.wd.cell? ⟨w.heap.size, 0, none⟩ = some (.int .i64 (s.size : Int)) := ov_cell (K4.out.2.cell 0)
    have ne : Nonempty (Ov w4) := ⟨⟨_, Below.refl _ _⟩⟩
    go_wp2
    refine region_over (by kernel_rfl) (by kernel_rfl) ?_
    repeat (go_big_quiet_step (fail))
    refine wpQuiet_nil ?_
    rintro _ ⟨W, rfl⟩
    obtain ⟨u1, hu1⟩ : ∃ x, W.wd = x := ⟨_, rfl⟩
    have K5 : Hid (Below w.heap.size w u1 ∧ Blk u1 w.heap.size #[.int .i64 (s.size : Int)] 3) := hu1 ▸ ⟨belowCall K4.out.1 W.ok K4.out.1.size, K4.out.2.below W.ok K4.out.2.lt⟩
    rw [hu1]
    clear hu1 W z0 ne K4
    cases o with
    | true =>
      go_wp2
      go_ret
      exact ⟨_, rfl, .inr ⟨HFL.out, .inl ⟨by rw [HB.out]; decide, by rw [HO.out]; rfl⟩⟩, K5.out.1⟩
    | false =>
      go_wp2
      go_ret
      exact ⟨_, rfl, .inr ⟨HFL.out, .inl ⟨by rw [HB.out]; decide, by rw [HO.out]; rfl⟩⟩, K5.out.1⟩
  case pos =>
  obtain ⟨kb, hkl, ekb, -, -⟩ := HBA.out hb0
  subst ekb
  obtain ⟨b0, off, rfl, h4⟩ : ∃ b off, a = some ⟨b, off, none⟩ ∧ _ := by
    rcases H3.out with h | h
    · rw [h] at hkl; simp at hkl
    · exact h
  have hc := h4 kb hkl
  have hcb : b0 < w.heap.size := block_lt_of_cell hc.1
  obtain ⟨le, hle⟩ : ∃ le, ls[kb].le = le := ⟨_, rfl⟩
  obtain ⟨mo, hmo⟩ : ∃ mo, ls[kb].mo = mo := ⟨_, rfl⟩
  have HLE : Hid (ls[kb].le = le ∧ ls[kb].mo = mo) := ⟨hle, hmo⟩
  rw [hle, hmo] at hc
  have HX1 : Hid (w.cell? ⟨b0, off + kb * 6 + 1, none⟩ = some (.int .i64 le)) := hc.2.1
  have HX2 : Hid (w.cell? ⟨b0, off + kb * 6 + 2, none⟩ = some (.int .i64 mo)) := hc.2.2.1
  have hkn : kb < n := by have := HN.out; omega
  have hkI : (kb : Int) < (n : Int) := by omega
  have hkF : ((kb : Int) = -1) = False := eq_false (by omega)
  have hkb1 : ((kb : Int) == -1) = false := by simp
  clear hle hmo h4 hc hb0 hbge HBA H3
  by_cases hm : mo < (s.size : Int)
  case pos =>
    have z0 : ∀ W : Ov w4, W.wd.cell? ⟨w.heap.size, 0, none⟩ = some (.int .i64 (s.size : Int)) := ov_cell (K4.out.2.cell 0)
    have z1 : ∀ W : Ov w4, W.wd.cell? ⟨b0, off + kb * 6 + 1, none⟩ = some (.int .i64 le) := ov_cell ((K4.out.1.cell (p := ⟨b0, off + kb * 6 + 1, none⟩) hcb).trans HX1.out)
    have z2 : ∀ W : Ov w4, W.wd.cell? ⟨b0, off + kb * 6 + 2, none⟩ = some (.int .i64 mo) := ov_cell ((K4.out.1.cell (p := ⟨b0, off + kb * 6 + 2, none⟩) hcb).trans HX2.out)
    have ne : Nonempty (Ov w4) := ⟨⟨_, Below.refl _ _⟩⟩
    go_wp2
    refine region_over (by kernel_rfl) (by kernel_rfl) ?_
    repeat (go_big_quiet_step (fail))
    refine wpQuiet_nil ?_
    rintro _ ⟨W, rfl⟩
    obtain ⟨u1, hu1⟩ : ∃ x, W.wd = x := ⟨_, rfl⟩
    have K5 : Hid (Below w.heap.size w u1 ∧ Blk u1 w.heap.size #[.int .i64 (s.size : Int)] 3) := hu1 ▸ ⟨belowCall K4.out.1 W.ok K4.out.1.size, K4.out.2.below W.ok K4.out.2.lt⟩
    rw [hu1]
    clear hu1 W z0 z1 z2 ne K4
    cases o with
    | true =>
      go_wp2
      go_ret
      exact ⟨_, rfl, .inr ⟨HFL.out, .inr ⟨kb, hkl, HB.out, .inl ⟨by rw [HLE.out.2]; exact hm, by rw [HO.out]; rfl⟩⟩⟩, K5.out.1⟩
    | false =>
      go_wp2
      go_ret
      exact ⟨_, rfl, .inr ⟨HFL.out, .inr ⟨kb, hkl, HB.out, .inl ⟨by rw [HLE.out.2]; exact hm, by rw [HO.out]; rfl⟩⟩⟩, K5.out.1⟩
  case neg =>
  have hmF : (mo < (s.size : Int)) = False := eq_false hm
  have HM : Hid ((s.size : Int) ≤ mo) := by show _ ≤ mo; omega
  clear hm
  have z0 : ∀ W : Ov w4, W.wd.cell? ⟨w.heap.size, 0, none⟩ = some (.int .i64 (s.size : Int)) := ov_cell (K4.out.2.cell 0)
  have z1 : ∀ W : Ov w4, W.wd.cell? ⟨b0, off + kb * 6 + 1, none⟩ = some (.int .i64 le) := ov_cell ((K4.out.1.cell (p := ⟨b0, off + kb * 6 + 1, none⟩) hcb).trans HX1.out)
  have z2 : ∀ W : Ov w4, W.wd.cell? ⟨b0, off + kb * 6 + 2, none⟩ = some (.int .i64 mo) := ov_cell ((K4.out.1.cell (p := ⟨b0, off + kb * 6 + 2, none⟩) hcb).trans HX2.out)
  have ne : Nonempty (Ov w4) := ⟨⟨_, Below.refl _ _⟩⟩
  go_wp2
  refine region_over (by kernel_rfl) (by kernel_rfl) ?_
  repeat (go_big_quiet_step (fail))
  refine wpQuiet_nil ?_
  rintro _ ⟨W, rfl⟩
  obtain ⟨u1, hu1⟩ : ∃ x, W.wd = x := ⟨_, rfl⟩
  have K5 : Hid (Below w.heap.size w u1 ∧ Blk u1 w.heap.size #[.int .i64 (s.size : Int)] 3) := hu1 ▸ ⟨belowCall K4.out.1 W.ok K4.out.1.size, K4.out.2.below W.ok K4.out.2.lt⟩
  rw [hu1]
  clear hu1 W z0 z1 z2 ne K4
  by_cases hl : (s.size : Int) < le
  case pos =>
    have z0 : ∀ W : Ov u1, W.wd.cell? ⟨w.heap.size, 0, none⟩ = some (.int .i64 (s.size : Int)) := ov_cell (K5.out.2.cell 0)
    have z1 : ∀ W : Ov u1, W.wd.cell? ⟨b0, off + kb * 6 + 1, none⟩ = some (.int .i64 le) := ov_cell ((K5.out.1.cell (p := ⟨b0, off + kb * 6 + 1, none⟩) hcb).trans HX1.out)
    have z2 : ∀ W : Ov u1, W.wd.cell? ⟨b0, off + kb * 6 + 2, none⟩ = some (.int .i64 mo) := ov_cell ((K5.out.1.cell (p := ⟨b0, off + kb * 6 + 2, none⟩) hcb).trans HX2.out)
    have ne : Nonempty (Ov u1) := ⟨⟨_, Below.refl _ _⟩⟩
    go_wp2
    refine region_over (by kernel_rfl) (by kernel_rfl) ?_
    repeat (go_big_quiet_step (fail))
    refine wpQuiet_nil ?_
    rintro _ ⟨W, rfl⟩
    obtain ⟨u2, hu2⟩ : ∃ x, W.wd = x := ⟨_, rfl⟩
    have K6 : Hid (Below w.heap.size w u2 ∧ Blk u2 w.heap.size #[.int .i64 (s.size : Int)] 3) := hu2 ▸ ⟨belowCall K5.out.1 W.ok K5.out.1.size, K5.out.2.below W.ok K5.out.2.lt⟩
    rw [hu2]
    clear hu2 W z0 z1 z2 ne K5
    go_wp2
    go_ret
    exact ⟨_, rfl, .inr ⟨HFL.out, .inr ⟨kb, hkl, HB.out, .inr (.inl ⟨by rw [HLE.out.1]; exact hl, rfl⟩)⟩⟩, K6.out.1⟩
  case neg =>
  have hlF : ((s.size : Int) < le) = False := eq_false hl
  have HL : Hid (le ≤ (s.size : Int)) := by show le ≤ _; omega
  clear hl
  have z0 : ∀ W : Ov u1, W.wd.cell? ⟨w.heap.size, 0, none⟩ = some (.int .i64 (s.size : Int)) := ov_cell (K5.out.2.cell 0)
  have z1 : ∀ W : Ov u1, W.wd.cell? ⟨b0, off + kb * 6 + 1, none⟩ = some (.int .i64 le) := ov_cell ((K5.out.1.cell (p := ⟨b0, off + kb * 6 + 1, none⟩) hcb).trans HX1.out)
  have z2 : ∀ W : Ov u1, W.wd.cell? ⟨b0, off + kb * 6 + 2, none⟩ = some (.int .i64 mo) := ov_cell ((K5.out.1.cell (p := ⟨b0, off + kb * 6 + 2, none⟩) hcb).trans HX2.out)
  have ne : Nonempty (Ov u1) := ⟨⟨_, Below.refl _ _⟩⟩
  go_wp2
  refine region_over (by kernel_rfl) (by kernel_rfl) ?_
  repeat (go_big_quiet_step (fail))
  refine wpQuiet_nil ?_
  rintro _ ⟨W, rfl⟩
  obtain ⟨u2, hu2⟩ : ∃ x, W.wd = x := ⟨_, rfl⟩
  have K6 : Hid (Below w.heap.size w u2 ∧ Blk u2 w.heap.size #[.int .i64 (s.size : Int)] 3) := hu2 ▸ ⟨belowCall K5.out.1 W.ok K5.out.1.size, K5.out.2.below W.ok K5.out.2.lt⟩
  rw [hu2]
  clear hu2 W z0 z1 z2 ne K5
  by_cases he : (s.size : Int) = mo
  case pos =>
    have heb : ((s.size : Int) == mo) = true := by simpa using he
    have HE : Hid ((s.size : Int) = mo) := he
    clear he
    cases o with
    | false =>
      have z0 : ∀ W : Ov u2, W.wd.cell? ⟨w.heap.size, 0, none⟩ = some (.int .i64 (s.size : Int)) := ov_cell (K6.out.2.cell 0)
      have z1 : ∀ W : Ov u2, W.wd.cell? ⟨b0, off + kb * 6 + 1, none⟩ = some (.int .i64 le) := ov_cell ((K6.out.1.cell (p := ⟨b0, off + kb * 6 + 1, none⟩) hcb).trans HX1.out)
      have z2 : ∀ W : Ov u2, W.wd.cell? ⟨b0, off + kb * 6 + 2, none⟩ = some (.int .i64 mo) := ov_cell ((K6.out.1.cell (p := ⟨b0, off + kb * 6 + 2, none⟩) hcb).trans HX2.out)
      have ne : Nonempty (Ov u2) := ⟨⟨_, Below.refl _ _⟩⟩
      go_wp2
      refine region_over (by kernel_rfl) (by kernel_rfl) ?_
      repeat (go_big_quiet_step (fail))
      refine wpQuiet_nil ?_
      rintro _ ⟨W, rfl⟩
      obtain ⟨u3, hu3⟩ : ∃ x, W.wd = x := ⟨_, rfl⟩
      have K7 : Hid (Below w.heap.size w u3 ∧ Blk u3 w.heap.size #[.int .i64 (s.size : Int)] 3) := hu3 ▸ ⟨belowCall K6.out.1 W.ok K6.out.1.size, K6.out.2.below W.ok K6.out.2.lt⟩
      rw [hu3]
      clear hu3 W z0 z1 z2 ne K6
      go_wp2
      go_ret
      exact ⟨_, rfl, .inr ⟨HFL.out, .inr ⟨kb, hkl, HB.out, .inr (.inr (.inl ⟨⟨by rw [HLE.out.1]; exact HL.out, by rw [HLE.out.2]; exact HE.out, HO.out⟩, rfl⟩))⟩⟩, K7.out.1⟩
    | true =>
      have z0 : ∀ W : Ov u2, W.wd.cell? ⟨w.heap.size, 0, none⟩ = some (.int .i64 (s.size : Int)) := ov_cell (K6.out.2.cell 0)
      have z1 : ∀ W : Ov u2, W.wd.cell? ⟨b0, off + kb * 6 + 1, none⟩ = some (.int .i64 le) := ov_cell ((K6.out.1.cell (p := ⟨b0, off + kb * 6 + 1, none⟩) hcb).trans HX1.out)
      have z2 : ∀ W : Ov u2, W.wd.cell? ⟨b0, off + kb * 6 + 2, none⟩ = some (.int .i64 mo) := ov_cell ((K6.out.1.cell (p := ⟨b0, off + kb * 6 + 2, none⟩) hcb).trans HX2.out)
      have ne : Nonempty (Ov u2) := ⟨⟨_, Below.refl _ _⟩⟩
      go_wp2
      refine region_over (by kernel_rfl) (by kernel_rfl) ?_
      repeat (go_big_quiet_step (fail))
      refine wpQuiet_nil ?_
      rintro _ ⟨W, rfl⟩
      obtain ⟨u3, hu3⟩ : ∃ x, W.wd = x := ⟨_, rfl⟩
      have K7 : Hid (Below w.heap.size w u3 ∧ Blk u3 w.heap.size #[.int .i64 (s.size : Int)] 3) := hu3 ▸ ⟨belowCall K6.out.1 W.ok K6.out.1.size, K6.out.2.below W.ok K6.out.2.lt⟩
      rw [hu3]
      clear hu3 W z0 z1 z2 ne K6
      go_wp2
      go_ret
      exact ⟨_, rfl, .inr ⟨HFL.out, .inr ⟨kb, hkl, HB.out, .inr (.inr (.inr ⟨⟨by rw [HLE.out.1]; exact HL.out, by rw [HLE.out.2]; exact HM.out, fun h => by have := h.2; rw [HO.out] at this; cases this⟩, rfl⟩))⟩⟩, K7.out.1⟩
  case neg =>
    have heb : ((s.size : Int) == mo) = false := by simpa using he
    have HE : Hid (¬ ((s.size : Int) = mo)) := he
    clear he
    have z0 : ∀ W : Ov u2, W.wd.cell? ⟨w.heap.size, 0, none⟩ = some (.int .i64 (s.size : Int)) := ov_cell (K6.out.2.cell 0)
    have z1 : ∀ W : Ov u2, W.wd.cell? ⟨b0, off + kb * 6 + 1, none⟩ = some (.int .i64 le) := ov_cell ((K6.out.1.cell (p := ⟨b0, off + kb * 6 + 1, none⟩) hcb).trans HX1.out)
    have z2 : ∀ W : Ov u2, W.wd.cell? ⟨b0, off + kb * 6 + 2, none⟩ = some (.int .i64 mo) := ov_cell ((K6.out.1.cell (p := ⟨b0, off + kb * 6 + 2, none⟩) hcb).trans HX2.out)
    have ne : Nonempty (Ov u2) := ⟨⟨_, Below.refl _ _⟩⟩
    go_wp2
    refine region_over (by kernel_rfl) (by kernel_rfl) ?_
    repeat (go_big_quiet_step (fail))
    refine wpQuiet_nil ?_
    rintro _ ⟨W, rfl⟩
    obtain ⟨u3, hu3⟩ : ∃ x, W.wd = x := ⟨_, rfl⟩
    have K7 : Hid (Below w.heap.size w u3 ∧ Blk u3 w.heap.size #[.int .i64 (s.size : Int)] 3) := hu3 ▸ ⟨belowCall K6.out.1 W.ok K6.out.1.size, K6.out.2.below W.ok K6.out.2.lt⟩
    rw [hu3]
    clear hu3 W z0 z1 z2 ne K6
    go_wp2
    go_ret
    exact ⟨_, rfl, .inr ⟨HFL.out, .inr ⟨kb, hkl, HB.out, .inr (.inr (.inr ⟨⟨by rw [HLE.out.1]; exact HL.out, by rw [HLE.out.2]; exact HM.out, fun h => HE.out (by have := h.1; rw [HLE.out.2] at this; exact this)⟩, rfl⟩))⟩⟩, K7.out.1⟩
end Go.Proofs.Ytpnglbnebkggkaa

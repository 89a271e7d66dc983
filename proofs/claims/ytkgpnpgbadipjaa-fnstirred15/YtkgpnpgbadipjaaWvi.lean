/- Weave15 and Unweave15, as the program has them; no condition. -/
import Derived.Test.YtkgpnpgbadipjaaWvc
namespace Go.Proofs.Ytkgpnpgbadipjaa
open Go.RowKit Go.ChangeShapes Go.WideShapes Go.ChangeAt
set_option linter.unusedVariables false
set_option linter.unusedSimpArgs false
set_option maxRecDepth 8000

set_option maxHeartbeats 3200000 in
theorem weaveI_c (v : Value) (zs : List Int) (rows : Int) (w : World) (h : Rd .i64 w v zs) : Calls Try.prog 14 #[v, .int .i64 rows] w (WvR zs rows w) := by
  have HR : Hid (Rd .i64 w v zs) := h
  obtain ⟨a, cap, rfl, h1, h2, -⟩ := h
  unfold maxLen at h2
  go_enter Try.func14, Try.ntmps14
  go_wp2_with (fail)
  refine (weaveOkI_c _ zs rows _ HR.out).mono ?_
  rintro e w1 ⟨rfl, b1⟩
  have HB1 : Hid (Below w.heap.size w w1) := b1
  have HR1 : Hid (Rd .i64 w1 (.slice a zs.length cap) zs) := HR.out.below b1
  obtain ⟨q, hq⟩ : ∃ q, wvB zs rows = q := ⟨_, rfl⟩
  rw [hq]
  have HQ : Hid (wvB zs rows = q) := hq
  clear b1 hq
  cases q with
  | false =>
    go_wp2
    go_ret2
    exact ⟨_, by rw [HQ.out]; rfl, by rw [(wv_no HQ.out).1]; exact Ow.nil .i64 3 _ _, HB1.out⟩
  | true =>
  obtain ⟨r, c, rfl, r1, r2, hl, hc, hd, hn, e1, e2⟩ := wv_yes HQ.out
  have HE : Hid (wvR zs (r : Int) = wvL zs r c) := e1
  have HL : Hid (zs.length = r * c ∧ zs.length ≤ 320 ∧ r ≤ 320 ∧ c ≤ 320) := ⟨by first | exact hl | (rw [Nat.mul_comm]; exact hl), hn, by omega, by rw [← hc]; exact Nat.le_trans (Nat.div_le_self _ _) hn⟩
  have hr0 : ((r : Int) == 0) = false := by simp; omega
  have hr1 : (r : Int) ≠ 0 := by omega
  have hm1 : (r : Int) ≠ -1 := by omega
  have hcb : (c : Int) ≤ 320 := by have := HL.out.2.2.2; omega
  have hd' : (zs.length : Int) / (r : Int) = (c : Int) := by rw [← hc]; exact (Int.natCast_ediv _ _).symm
  clear e1 e2 hl hc hn
  go_wp2_with (fail)
  refine (byCol_c _ zs r c _ HR1.out HL.out.1 HL.out.2.1 HL.out.2.2.1 HL.out.2.2.2).mono ?_
  rintro e w2 ⟨v2, rfl, o2, b2⟩
  have HO2 : Hid (Ow .i64 3 w.heap.size w2 v2 (wvR zs (r : Int))) := by show Ow _ _ _ _ _ _; rw [HE.out]; exact o2.mono HB1.out.size
  have HB2 : Hid (Below w.heap.size w w2) := belowCall HB1.out b2 HB1.out.size
  clear o2 b2
  go_wp2
  go_ret2
  exact ⟨_, by rw [HQ.out]; rfl, HO2.out, HB2.out⟩

set_option maxHeartbeats 3200000 in
theorem unweaveI_c (v : Value) (zs : List Int) (rows : Int) (w : World) (h : Rd .i64 w v zs) : Calls Try.prog 16 #[v, .int .i64 rows] w (UwR zs rows w) := by
  have HR : Hid (Rd .i64 w v zs) := h
  obtain ⟨a, cap, rfl, h1, h2, -⟩ := h
  unfold maxLen at h2
  go_enter Try.func16, Try.ntmps16
  go_wp2_with (fail)
  refine (weaveOkI_c _ zs rows _ HR.out).mono ?_
  rintro e w1 ⟨rfl, b1⟩
  have HB2 : Hid (Below w.heap.size w w1) := b1
  have HR1 : Hid (Rd .i64 w1 (.slice a zs.length cap) zs) := HR.out.below b1
  obtain ⟨q, hq⟩ : ∃ q, wvB zs rows = q := ⟨_, rfl⟩
  rw [hq]
  have HQ : Hid (wvB zs rows = q) := hq
  clear b1 hq
  cases q with
  | false =>
    go_wp2
    go_ret2
    exact ⟨_, by rw [HQ.out]; rfl, by rw [(wv_no HQ.out).2]; exact Ow.nil .i64 3 _ _, HB2.out⟩
  | true =>
  obtain ⟨r, c, rfl, r1, r2, hl, hc, hd, hn, e1, e2⟩ := wv_yes HQ.out
  have HE : Hid (uwR zs (r : Int) = wvL zs c r) := e2
  have HL : Hid (zs.length = c * r ∧ zs.length ≤ 320 ∧ r ≤ 320 ∧ c ≤ 320) := ⟨by first | exact hl | (rw [Nat.mul_comm]; exact hl), hn, by omega, by rw [← hc]; exact Nat.le_trans (Nat.div_le_self _ _) hn⟩
  have hr0 : ((r : Int) == 0) = false := by simp; omega
  have hr1 : (r : Int) ≠ 0 := by omega
  have hm1 : (r : Int) ≠ -1 := by omega
  have hcb : (c : Int) ≤ 320 := by have := HL.out.2.2.2; omega
  have hd' : (zs.length : Int) / (r : Int) = (c : Int) := by rw [← hc]; exact (Int.natCast_ediv _ _).symm
  clear e1 e2 hl hc hn
  go_wp2_with (fail)
  refine (byCol_c _ zs c r _ HR1.out HL.out.1 HL.out.2.1 HL.out.2.2.2 HL.out.2.2.1).mono ?_
  rintro e w2 ⟨v2, rfl, o2, b2⟩
  have HO2 : Hid (Ow .i64 3 w.heap.size w2 v2 (uwR zs (r : Int))) := by show Ow _ _ _ _ _ _; rw [HE.out]; exact o2.mono HB2.out.size
  have HB1 : Hid (Below w.heap.size w w2) := belowCall HB2.out b2 HB2.out.size
  clear o2 b2
  go_wp2
  go_ret2
  exact ⟨_, by rw [HQ.out]; rfl, HO2.out, HB1.out⟩

end Go.Proofs.Ytkgpnpgbadipjaa

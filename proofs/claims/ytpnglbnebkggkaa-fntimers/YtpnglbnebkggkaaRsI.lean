/- Rules, the program's way; no condition. -/
import Derived.Test.YtpnglbnebkggkaaRsM
namespace Go.Proofs.Ytpnglbnebkggkaa
open Go.RowKit Go.ChangeShapes Go.WideShapes Go.ChangeAt
set_option linter.unusedVariables false
set_option linter.unusedSimpArgs false
set_option maxRecDepth 8000
theorem clo_c (r : Rl) (s : ByteArray) (B : Nat) (w : World) (hB : Blk w B #[.string s] 9) : Calls Try.prog 67 #[.agg (R6 r), .pointer (some ⟨B, 0, none⟩)] w fun e w' => e = .returned (.bool (r.pre.toList == s.toList)) ∧ Below w.heap.size w w' := by
  have HB : Hid (Below w.heap.size w (w.alloc (Obj.cells (R6 r) 31))) := (Below.refl _ _).alloc (Nat.le_refl _) _
  have hl := hB.lt
  have c0 := hB.cell 0
  simp at c0
  go_enter Try.func67, Try.ntmps67
  go_wp2
  go_ret
  exact ⟨rfl, HB.out⟩
/-- the first rule with a prefix -/
def IxR (s : ByteArray) (ls : Rls) (w : World) (e : Ending) (w' : World) : Prop := ∃ r : Int, e = .returned (.int .i64 r) ∧ ((∃ k : Nat, ∃ h : k < ls.length, r = k ∧ ls[k].pre.toList = s.toList ∧ ∀ i (hi : i < k), ¬ (ls[i].pre.toList = s.toList)) ∨ (r = -1 ∧ ∀ i (hi : i < ls.length), ¬ (ls[i].pre.toList = s.toList))) ∧ Below w.heap.size w w'
set_option maxHeartbeats 3200000 in
theorem index_c (v : Value) (ls : Rls) (s : ByteArray) (B : Nat) (w : World) (h : Rr w v ls) (hB : Blk w B #[.string s] 9) :
   Calls Try.prog 66 #[v, .func (.func 67) #[] #[.pointer (some ⟨B, 0, none⟩)]] w (IxR s ls w) := by
  obtain ⟨a, cap, rfl, h1, h2, h3⟩ := h
  unfold maxLen at h2
  have HK : Hid (Blk w B #[.string s] 9) := hB
  clear hB
  go_enter Try.func66, Try.ntmps66
  go_wp2
  go_loopw [8] (fun i wr => ∃ j : Nat, j ≤ ls.length ∧ i = .int .i64 j ∧ Hid (∀ t (ht : t < j) (h : t < ls.length), ¬ (ls[t].pre.toList = s.toList)) ∧ Hid (Below w.heap.size w wr)) (fun i _ => ls.length - (intOf i).toNat)
  case atStart => exact ⟨0, Nat.zero_le _, rfl, fun t ht => by omega, Below.refl _ _⟩
  case round =>
    obtain ⟨j, hj, rfl, hA, hbr⟩ := hrel
    by_cases hlt : j < ls.length
    case neg =>
      obtain rfl : j = ls.length := by omega
      have HN : Hid (∀ i (hi : i < ls.length), ¬ (ls[i].pre.toList = s.toList)) := fun i h => hA.out i h h
      clear h3
      go_wp2
      go_ret
      exact ⟨_, rfl, .inr ⟨rfl, HN.out⟩, hbr.out⟩
    case pos =>
    rcases h3 with h3 | ⟨b, off, rfl, h4⟩
    · subst h3; simp at hlt
    have hc := h4 j hlt
    have hcb : b < w.heap.size := block_lt_of_cell hc.1
    obtain ⟨r, hr⟩ : ∃ r, ls[j] = r := ⟨_, rfl⟩
    have HR : Hid (ls[j] = r) := hr
    rw [hr] at hc
    have e0 := (hbr.out.cell (p := ⟨b, off + j * 6, none⟩) hcb).trans hc.1
    have e1 := (hbr.out.cell (p := ⟨b, off + j * 6 + 1, none⟩) hcb).trans hc.2.1
    have e2 := (hbr.out.cell (p := ⟨b, off + j * 6 + 2, none⟩) hcb).trans hc.2.2.1
    have e3 := (hbr.out.cell (p := ⟨b, off + j * 6 + 3, none⟩) hcb).trans hc.2.2.2.1
    have e4 := (hbr.out.cell (p := ⟨b, off + j * 6 + 4, none⟩) hcb).trans hc.2.2.2.2.1
    have e5 := (hbr.out.cell (p := ⟨b, off + j * 6 + 5, none⟩) hcb).trans hc.2.2.2.2.2
    clear h4 hc hr
    go_wp2_with (fail)
    refine (clo_c r s B wr (HK.out.below hbr.out HK.out.lt)).mono ?_
    rintro e w2 ⟨rfl, b2⟩
    have HB2 : Hid (Below w.heap.size w w2) := belowCall hbr.out b2 hbr.out.size
    clear b2
    by_cases ht : r.pre.toList = s.toList
    · rw [show (r.pre.toList == s.toList) = true by simpa using ht]
      have HF : Hid (ls[j].pre.toList = s.toList ∧ ∀ i (hi : i < j), ¬ (ls[i].pre.toList = s.toList)) := ⟨by rw [HR.out]; exact ht, fun i hi => hA.out i hi (by omega)⟩
      clear ht
      go_wp2
      go_ret
      exact ⟨_, rfl, .inl ⟨j, hlt, rfl, HF.out⟩, HB2.out⟩
    · rw [show (r.pre.toList == s.toList) = false by simpa using ht]
      have HF : Hid (∀ t (ht : t < j + 1) (h : t < ls.length), ¬ (ls[t].pre.toList = s.toList)) := fun t htt h => by
        by_cases htj : t < j
        · exact hA.out t htj h
        · obtain rfl : t = j := by omega
          rw [HR.out]; exact ht
      clear ht
      go_wp2
      go_roundw
      case rel => exact ⟨j + 1, by omega, by go_num, HF.out, HB2.out⟩
      case measure => simp [intOf]; omega
set_option maxHeartbeats 3200000 in
theorem place_c (v : Value) (ls : Rls) (s : ByteArray) (w : World) (h : Rr w v ls) : Calls Try.prog 48 #[v, .string s] w (IxR s ls w) := by
  obtain ⟨W1, hW1⟩ : ∃ W1, w.alloc (Obj.cells #[.string s] 9) = W1 := ⟨_, rfl⟩
  have b1 : Below w.heap.size w W1 := hW1 ▸ (Below.refl _ _).alloc (Nat.le_refl _) _
  have HC : Hid (Calls Try.prog 66 #[v, .func (.func 67) #[] #[.pointer (some ⟨w.heap.size, 0, none⟩)]] W1 (IxR s ls W1)) := index_c v ls s w.heap.size W1 (h.below b1) (hW1 ▸ Blk.new _ _ _)
  have HB1 : Hid (Below w.heap.size w W1) := b1
  have HW1 : Hid (w.alloc (Obj.cells #[.string s] 9) = W1) := hW1
  obtain ⟨a, cap, rfl, -⟩ := h
  clear b1 hW1
  go_enter Try.func48, Try.ntmps48
  go_wp2_with (fail)
  rw [HW1.out]
  refine HC.out.mono ?_
  rintro e w2 ⟨r, rfl, hr, b2⟩
  have HF : Hid (IxR s ls w (.returned (.int .i64 r)) w2) := ⟨_, rfl, hr, belowCall HB1.out b2 HB1.out.size⟩
  clear hr b2
  go_wp2
  go_ret
  exact HF.out
set_option maxHeartbeats 6400000 in
theorem rulesI_c (v : Value) (ls : Rls) (w : World) (h : Rr w v ls) (hz : Szs ls) : Calls Try.prog 19 #[v] w (RsR ls w) := by
  have HRR : Hid (Rr w v ls) := h
  obtain ⟨a, cap, rfl, h1, h2, h3⟩ := h
  unfold maxLen at h2
  have HZ : Hid (Szs ls) := hz
  obtain ⟨n, hn⟩ : ∃ n, ls.length = n := ⟨_, rfl⟩
  have HN : Hid (ls.length = n) := hn
  have H3 : Hid (ls = [] ∨ ∃ b off, a = some ⟨b, off, none⟩ ∧ ∀ i (h : i < ls.length), w.cell? ⟨b, off + i * 6, none⟩ = some (.string ls[i].pre) ∧ w.cell? ⟨b, off + i * 6 + 1, none⟩ = some (.int .i64 ls[i].le) ∧ w.cell? ⟨b, off + i * 6 + 2, none⟩ = some (.int .i64 ls[i].mo) ∧ w.cell? ⟨b, off + i * 6 + 3, none⟩ = some (.int .i64 ls[i].ro) ∧ w.cell? ⟨b, off + i * 6 + 4, none⟩ = some (.int .i64 ls[i].st) ∧ w.cell? ⟨b, off + i * 6 + 5, none⟩ = some (.string ls[i].ad)) := h3
  rw [hn] at h1 HRR ⊢
  clear hn h3 hz
  by_cases h60 : 60 < n
  · have hI : (60 : Int) < (n : Int) := by omega
    have HY : Hid (¬ RsOk ls) := fun h => by have := h.1; have := HN.out; omega
    go_enter Try.func19, Try.ntmps19
    go_wp2
    go_ret
    exact RsR.no HY.out (Below.refl _ _)
  have hI : ¬ ((60 : Int) < (n : Int)) := by omega
  go_enter Try.func19, Try.ntmps19
  go_wp2
  go_loopw [10] (fun i wr => ∃ j : Nat, j ≤ n ∧ i = .int .i64 j ∧ Hid (Below w.heap.size w wr) ∧ Hid (RsTo ls j)) (fun i _ => n - (intOf i).toNat)
  case atStart => exact ⟨0, Nat.zero_le _, rfl, Below.refl _ _, fun i _ h => by omega⟩
  case round =>
    obtain ⟨j, hj, rfl, BJ, hA⟩ := hrel
    by_cases hlt : j < n
    case neg =>
      obtain rfl : n = j := by omega
      have HY : Hid (RsOk ls) := ⟨by rw [HN.out]; omega, by rw [HN.out]; exact hA.out⟩
      go_wp2
      go_ret
      exact RsR.yes HY.out BJ.out
    case pos =>
    have hjl : j < ls.length := by rw [HN.out]; exact hlt
    obtain ⟨b, off, rfl, h4⟩ : ∃ b off, a = some ⟨b, off, none⟩ ∧ _ := by
      rcases H3.out with h | h
      · rw [h] at hjl; simp at hjl
      · exact h
    have hc := h4 j hjl
    have hcb : b < w.heap.size := block_lt_of_cell hc.1
    obtain ⟨r, hr⟩ : ∃ r, ls[j] = r := ⟨_, rfl⟩
    rw [hr] at hc
    have hsz := HZ.out _ (List.getElem_mem hjl)
    rw [hr] at hsz
    have HR : Hid (ls[j] = r) := hr
    have e0 := (BJ.out.cell (p := ⟨b, off + j * 6, none⟩) hcb).trans hc.1
    have e1 := (BJ.out.cell (p := ⟨b, off + j * 6 + 1, none⟩) hcb).trans hc.2.1
    have e2 := (BJ.out.cell (p := ⟨b, off + j * 6 + 2, none⟩) hcb).trans hc.2.2.1
    have e3 := (BJ.out.cell (p := ⟨b, off + j * 6 + 3, none⟩) hcb).trans hc.2.2.2.1
    have e4 := (BJ.out.cell (p := ⟨b, off + j * 6 + 4, none⟩) hcb).trans hc.2.2.2.2.1
    have e5 := (BJ.out.cell (p := ⟨b, off + j * 6 + 5, none⟩) hcb).trans hc.2.2.2.2.2
    clear h4 hc hr
    obtain ⟨W1, hW1⟩ : ∃ W1, wr.alloc (Obj.cells (R6 r) 31) = W1 := ⟨_, rfl⟩
    have bA : Below wr.heap.size wr W1 := hW1 ▸ (Below.refl _ _).alloc (Nat.le_refl _) _
    have B1 : Hid (Below w.heap.size w W1) := belowCall BJ.out bA BJ.out.size
    have K1 : Hid (Blk W1 wr.heap.size (R6 r) 31) := hW1 ▸ Blk.new _ _ _
    have HW1 : Hid (wr.alloc (Obj.cells (R6 r) 31) = W1) := hW1
    clear hW1 bA
    go_wp2_with (fail)
    rw [HW1.out]
    clear HW1 e0 e1 e2 e3 e4 e5
    refine (ruleOkI_c r W1 hsz.1 hsz.2).mono ?_
    rintro e w2 ⟨q, rfl, hq, b2⟩
    have B2 : Hid (Below w.heap.size w w2) := belowCall B1.out b2 B1.out.size
    have K2 : Hid (Blk w2 wr.heap.size (R6 r) 31) := K1.out.below b2 K1.out.lt
    have HQ : Hid (q = true ↔ RuleOk r) := hq
    clear hq b2 BJ B1 K1
    cases q with
    | false =>
      have HY : Hid (¬ RsOk ls) := fun h => by
        have := (h.2 j hjl hjl).1
        rw [HR.out] at this
        have := HQ.out.2 this; cases this
      clear HQ
      go_wp2
      go_ret
      exact RsR.no HY.out B2.out
    | true =>
    have HOK : Hid (RuleOk r) := HQ.out.1 rfl
    clear HQ
    have c0 := K2.out.cell 0
    simp at c0
    go_wp2_with (fail)
    refine (place_c _ ls r.pre w2 (HRR.out.below B2.out)).mono ?_
    rintro e w3 ⟨x, rfl, hx, b3⟩
    have B3 : Hid (Below w.heap.size w w3) := belowCall B2.out b3 B2.out.size
    obtain ⟨k, hk, rfl, k1, k2⟩ : ∃ k : Nat, ∃ h : k < ls.length, x = k ∧ ls[k].pre.toList = r.pre.toList ∧ ∀ i (hi : i < k), ¬ (ls[i].pre.toList = r.pre.toList) := by
      rcases hx with h | ⟨-, h⟩
      · exact h
      · exact absurd (by rw [HR.out]) (h j hjl)
    have hkj : k ≤ j := by
      refine Nat.le_of_not_lt fun h => ?_
      exact k2 j h (by rw [HR.out])
    clear b3 B2 K2 c0 hx
    by_cases he : k = j
    · subst he
      have HS : Hid (RsTo ls (k + 1)) := hA.out.succ hjl (by rw [HR.out]; exact HOK.out) (fun u hu => by rw [HR.out]; exact k2 u hu)
      have hne : ((k : Int) != (k : Int)) = false := by simp
      clear k1 k2
      go_wp2
      go_roundw
      case rel => exact ⟨k + 1, by omega, by go_num, B3.out, HS.out⟩
      case measure => simp [intOf]; omega
    · have HY : Hid (¬ RsOk ls) := fun h => by
        have := (h.2 j hjl hjl).2 k (by omega)
        rw [HR.out] at this
        exact this k1
      have hne : ((k : Int) != (j : Int)) = true := by simp; omega
      clear k1 k2 he
      go_wp2
      go_ret
      exact RsR.no HY.out B3.out
end Go.Proofs.Ytpnglbnebkggkaa

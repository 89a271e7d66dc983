/- The model's way with a call: its parts; no condition. -/
import Derived.Test.YtfaflnhembceoaaRtD
namespace Go.Proofs.Ytfaflnhembceoaa
open Go.RowKit Go.ChangeShapes Go.WideShapes Go.ChangeAt
set_option linter.unusedVariables false
set_option linter.unusedSimpArgs false
set_option maxRecDepth 8000
set_option maxHeartbeats 1600000 in
theorem has_c (p q : Bool) (v : Value) (ls : Fts) (k : Int) (w : World) (h : Rp mf mg w v ls) : Calls Try.prog 44 #[.agg (S3 p q v), .int .i64 k] w fun e w' => e = .returned (.int .i64 (hasV ls k)) ∧ Below w.heap.size w w' := by
  obtain ⟨a, cap, rfl, h1, h2, h3⟩ := h
  unfold maxLen at h2
  obtain ⟨m, hm⟩ : ∃ m, ls.length = m := ⟨_, rfl⟩
  have HM : Hid (ls.length = m) := hm
  have H3 : Hid (ls = [] ∨ ∃ b off, a = some ⟨b, off, none⟩ ∧ ∀ i (h : i < ls.length), w.cell? ⟨b, off + i * 2, none⟩ = some (mf ls[i]) ∧ w.cell? ⟨b, off + i * 2 + 1, none⟩ = some (mg ls[i])) := h3
  rw [hm] at h1 ⊢
  obtain ⟨W0, hW0⟩ : ∃ W0, w.alloc (Obj.cells (S3 p q (.slice a m cap)) 35) = W0 := ⟨_, rfl⟩
  have hb0 : Below w.heap.size w W0 := hW0 ▸ (Below.refl _ _).alloc (Nat.le_refl _) _
  have B0 : Hid (Below w.heap.size w W0) := hb0
  have k0 : Blk W0 w.heap.size (S3 p q (.slice a m cap)) 35 := hW0 ▸ Blk.new _ _ _
  have s2 := k0.cell 2
  simp at s2
  have HW0 : Hid (w.alloc (Obj.cells (S3 p q (.slice a m cap)) 35) = W0) := hW0
  clear hm h3 hb0 k0 hW0
  go_enter Try.func44, Try.ntmps44
  go_wp2
  rw [HW0.out]
  go_loopw [5] (fun i wr => wr = W0 ∧ ∃ j : Nat, j ≤ m ∧ i = .int .i64 j ∧ Hid (∀ t (ht : t < j) (h : t < ls.length), ls[t].1 ≠ k)) (fun i _ => m - (intOf i).toNat)
  case atStart => exact ⟨rfl, 0, Nat.zero_le _, rfl, fun t ht => by omega⟩
  case round =>
    obtain ⟨rfl, j, hj, rfl, hA⟩ := hrel
    by_cases hlt : j < m
    case neg =>
      obtain rfl : m = j := by omega
      have HN : Hid (hasV ls k = -1) := hasV_none ls k (fun t ht => hA.out t (by have := HM.out; omega) ht)
      go_wp2
      go_ret
      exact ⟨by rw [HN.out]; rfl, B0.out⟩
    case pos =>
    have hjl : j < ls.length := by rw [HM.out]; exact hlt
    obtain ⟨b, off, rfl, h4⟩ : ∃ b off, a = some ⟨b, off, none⟩ ∧ _ := by
      rcases H3.out with h | h
      · rw [h] at hjl; simp at hjl
      · exact h
    have hc := h4 j hjl
    have hcb : b < w.heap.size := block_lt_of_cell hc.1
    obtain ⟨k', o', hr⟩ : ∃ k o, ls[j] = (k, o) := ⟨_, _, rfl⟩
    have HR : Hid (ls[j] = (k', o')) := hr
    rw [hr] at hc
    have e0 := (B0.out.cell (p := ⟨b, off + j * 2, none⟩) hcb).trans hc.1
    have e1 := (B0.out.cell (p := ⟨b, off + j * 2 + 1, none⟩) hcb).trans hc.2
    clear h4 hc hr
    by_cases hk : k' = k
    · have HF : Hid (hasV ls k = o') := by
        have := hasV_hit ls k j hjl (by rw [HR.out]; exact hk) (fun t ht => hA.out t ht (by omega))
        rw [HR.out] at this; exact this
      have y : (k' == k) = true := by simp [hk]
      clear hk
      go_wp2
      go_ret
      exact ⟨by rw [HF.out]; rfl, B0.out⟩
    · have HF : Hid (∀ t (ht : t < j + 1) (h : t < ls.length), ls[t].1 ≠ k) := fun t ht h => by
        by_cases e : t < j
        · exact hA.out t e h
        · obtain rfl : t = j := by omega
          rw [HR.out]; exact hk
      have y : (k' == k) = false := by simp [hk]
      clear hk
      go_wp2
      go_roundw
      case rel => exact ⟨by trivial, j + 1, by omega, by go_num, HF.out⟩
      case measure => simp [intOf]; omega
set_option maxHeartbeats 1600000 in
theorem within_c (v : Value) (zs : List Int) (x : Int) (w : World) (h : Rd .i64 w v zs) : Calls Try.prog 45 #[v, .int .i64 x] w fun e w' => e = .returned (.bool (decide (x ∈ zs))) ∧ w' = w := by
  obtain ⟨a, cap, rfl, h1, h2, h3⟩ := h
  unfold maxLen at h2
  obtain ⟨m, hm⟩ : ∃ m, zs.length = m := ⟨_, rfl⟩
  have HM : Hid (zs.length = m) := hm
  have H3 : Hid (zs = [] ∨ ∃ b off, a = some ⟨b, off, none⟩ ∧ ∀ i, i < zs.length → w.cell? ⟨b, off + i, none⟩ = some (.int .i64 (zs.getD i 0))) := h3
  rw [hm] at h1 ⊢
  clear hm h3
  go_enter Try.func45, Try.ntmps45
  go_wp2
  go_loopw [5] (fun i wr => wr = w ∧ ∃ j : Nat, j ≤ m ∧ i = .int .i64 j ∧ Hid (∀ t, t < j → zs.getD t 0 ≠ x)) (fun i _ => m - (intOf i).toNat)
  case atStart => exact ⟨rfl, 0, Nat.zero_le _, rfl, fun t ht => by omega⟩
  case round =>
    obtain ⟨rfl, j, hj, rfl, hA⟩ := hrel
    by_cases hlt : j < m
    case neg =>
      obtain rfl : m = j := by omega
      have HN : Hid (decide (x ∈ zs) = false) := by
        refine decide_eq_false fun hx => ?_
        obtain ⟨i, hi, e⟩ := List.getElem_of_mem hx
        refine hA.out i (by have := HM.out; omega) ?_
        simp [List.getElem?_eq_getElem hi, e]
      go_wp2
      go_ret
      exact ⟨by rw [HN.out]; rfl, rfl⟩
    case pos =>
    have hjl : j < zs.length := by rw [HM.out]; exact hlt
    obtain ⟨b, off, rfl, h4⟩ : ∃ b off, a = some ⟨b, off, none⟩ ∧ _ := by
      rcases H3.out with h | h
      · rw [h] at hjl; simp at hjl
      · exact h
    have hc := h4 j hjl
    obtain ⟨y, hy⟩ : ∃ y, zs.getD j 0 = y := ⟨_, rfl⟩
    have HR : Hid (zs.getD j 0 = y) := hy
    rw [hy] at hc
    clear h4 hy
    by_cases hk : y = x
    · have HF : Hid (decide (x ∈ zs) = true) := by
        refine decide_eq_true ?_
        have : zs[j] = x := by
          have := HR.out
          simp [List.getElem?_eq_getElem hjl] at this
          rw [this]; exact hk
        rw [← this]; exact List.getElem_mem hjl
      have y2 : (y == x) = true := by simp [hk]
      clear hk
      go_wp2
      go_ret
      exact ⟨by rw [HF.out]; rfl, rfl⟩
    · have HF : Hid (∀ t, t < j + 1 → zs.getD t 0 ≠ x) := fun t ht => by
        by_cases e : t < j
        · exact hA.out t e
        · obtain rfl : t = j := by omega
          rw [HR.out]; exact hk
      have y2 : (y == x) = false := by simp [hk]
      clear hk
      go_wp2
      go_roundw
      case rel => exact ⟨by trivial, j + 1, by omega, by go_num, HF.out⟩
      case measure => simp [intOf]; omega
theorem fsOf_at {cs : Sbs} {t : Nat} (ht : t < cs.length) : fsOf cs t = cs[t].2.2 := by simp [fsOf, List.getElem?_eq_getElem ht]
set_option maxHeartbeats 3200000 in
theorem screened_c (v : Value) (cs : Sbs) (f t : Nat) (w : World) (h : RdS w v cs) (hf : f < cs.length) (ht : t < cs.length) (hc1 : cs.length ≤ 16) : Calls Try.prog 46 #[v, .int .i64 (f : Int), .int .i64 (t : Int)] w fun e w' => e = .returned (.bool (scrB cs f t)) ∧ Below w.heap.size w w' := by
  have HE : Hid (scrB cs f t = cs[t].2.2.any (scF (decide (0 ≤ hasV cs[f].2.2 7)) f)) := by
    show scrB cs f t = _
    rw [scrB, prvB, fsOf_at hf, fsOf_at ht]
  obtain ⟨a, cap, rfl, g1, g2⟩ := h.len
  unfold maxLen at g2
  obtain ⟨b, off, v1, rfl, hcb, hRf, d0, d1, d2⟩ := h.at f hf
  obtain ⟨b', off', v2, e, -, hRt, -, -, d3⟩ := h.at t ht
  injection e with e
  injection e with e1 e2
  subst e1 e2
  obtain ⟨a1, cap1, rfl, -⟩ := id hRf
  obtain ⟨a2, cap2, rfl, q1, q2, q3⟩ := id hRt
  unfold maxLen at q2
  obtain ⟨p, hp⟩ : ∃ p, cs[f].1 = p := ⟨_, rfl⟩
  obtain ⟨q, hq⟩ : ∃ q, cs[f].2.1 = q := ⟨_, rfl⟩
  obtain ⟨L1, hL1⟩ : ∃ L, cs[f].2.2.length = L := ⟨_, rfl⟩
  obtain ⟨n, hn⟩ : ∃ n, cs.length = n := ⟨_, rfl⟩
  obtain ⟨ls, hls⟩ : ∃ ls, cs[t].2.2 = ls := ⟨_, rfl⟩
  rw [hp] at d0
  rw [hq] at d1
  have HR1 : Hid (Rp mf mg w (.slice a1 L1 cap1) cs[f].2.2) := by rw [← hL1]; exact hRf
  rw [hL1] at d2
  rw [hls] at d3 q1 q3 HE
  obtain ⟨m, hm⟩ : ∃ m, ls.length = m := ⟨_, rfl⟩
  have HM : Hid (ls.length = m) := hm
  have H3 : Hid (ls = [] ∨ ∃ b off, a2 = some ⟨b, off, none⟩ ∧ ∀ i (h : i < ls.length), w.cell? ⟨b, off + i * 2, none⟩ = some (mf ls[i]) ∧ w.cell? ⟨b, off + i * 2 + 1, none⟩ = some (mg ls[i])) := q3
  rw [hm] at d3 q1
  have HN : Hid (cs.length = n) := hn
  rw [hn] at g1 hf ht hc1 ⊢
  clear hp hq hL1 hn hls hm q3 hRf hRt h
  go_enter Try.func46, Try.ntmps46
  go_wp2_with (fail)
  refine (has_c p q _ _ 7 w HR1.out).mono ?_
  rintro e w1 ⟨rfl, b1⟩
  obtain ⟨z, hz⟩ : ∃ z, hasV cs[f].2.2 7 = z := ⟨_, rfl⟩
  rw [hz] at HE ⊢
  have B1 : Hid (Below w.heap.size w w1) := b1
  have c3 := (b1.cell (p := ⟨b, off + t * 3 + 2, none⟩) hcb).trans d3
  clear d0 d1 d2 d3 hz b1 HR1
  have hpv : decide (0 ≤ z) = (decide (z ≥ 0)) := rfl
  obtain ⟨pv, hpv⟩ : ∃ pv, decide (0 ≤ z) = pv := ⟨_, rfl⟩
  rw [hpv] at HE
  have hge : decide (z ≥ 0) = pv := hpv
  clear hpv
  go_wp2
  go_loopw [8] (fun i wr => ∃ j : Nat, j ≤ m ∧ i = .int .i64 j ∧ Hid (Below w1.heap.size w1 wr) ∧ Hid (∀ t (ht : t < j) (h : t < ls.length), scF pv f ls[t] = false)) (fun i _ => m - (intOf i).toNat)
  case atStart => exact ⟨0, Nat.zero_le _, rfl, Below.refl _ _, fun t ht => by omega⟩
  case round =>
    obtain ⟨j, hj, rfl, BJ, hA⟩ := hrel
    have BW : Hid (Below w.heap.size w wr) := belowCall B1.out BJ.out B1.out.size
    have hb1 : b < w1.heap.size := by have := B1.out.size; omega
    have c4 := (BJ.out.cell (p := ⟨b, off + t * 3 + 2, none⟩) hb1).trans c3
    clear c3 hb1
    by_cases hlt : j < m
    case neg =>
      obtain rfl : m = j := by omega
      have HN2 : Hid (scrB cs f t = false) := by
        show scrB cs f t = false
        rw [HE.out, List.any_eq_false]
        intro x hx
        obtain ⟨i, hi, rfl⟩ := List.getElem_of_mem hx
        simpa using hA.out i (by have := HM.out; omega) hi
      go_wp2
      go_ret
      exact ⟨by rw [HN2.out]; rfl, BW.out⟩
    case pos =>
    have hjl : j < ls.length := by rw [HM.out]; exact hlt
    obtain ⟨b2, off2, rfl, h4⟩ : ∃ b off, a2 = some ⟨b, off, none⟩ ∧ _ := by
      rcases H3.out with h | h
      · rw [h] at hjl; simp at hjl
      · exact h
    have hc := h4 j hjl
    have hcb2 : b2 < w.heap.size := block_lt_of_cell hc.1
    obtain ⟨k', o', hr⟩ : ∃ k o, ls[j] = (k, o) := ⟨_, _, rfl⟩
    have HR : Hid (ls[j] = (k', o')) := hr
    rw [hr] at hc
    have e0 := (BW.out.cell (p := ⟨b2, off2 + j * 2, none⟩) hcb2).trans hc.1
    have e1 := (BW.out.cell (p := ⟨b2, off2 + j * 2 + 1, none⟩) hcb2).trans hc.2
    clear h4 hc hr
    obtain ⟨W1, hW1⟩ : ∃ W1, wr.alloc (Obj.cells (H2 k' o') 37) = W1 := ⟨_, rfl⟩
    have bA : Below wr.heap.size wr W1 := hW1 ▸ (Below.refl _ _).alloc (Nat.le_refl _) _
    have B2 : Hid (Below w.heap.size w W1) := belowCall BW.out bA BW.out.size
    have B2' : Hid (Below w1.heap.size w1 W1) := belowCall BJ.out bA BJ.out.size
    have k1 : Blk W1 wr.heap.size (H2 k' o') 37 := hW1 ▸ Blk.new _ _ _
    have x0 := k1.cell 0
    have x1 := k1.cell 1
    simp at x0 x1
    have hY : Hid (scF pv f ls[j] = true → scrB cs f t = true) := fun h => by
      rw [HE.out, List.any_eq_true]
      exact ⟨ls[j], List.getElem_mem hjl, h⟩
    have hN : Hid (scF pv f ls[j] = false → ∀ t (ht : t < j + 1) (h : t < ls.length), scF pv f ls[t] = false) := fun hs t ht h => by
      by_cases e : t < j
      · exact hA.out t e h
      · obtain rfl : t = j := by omega
        exact hs
    have HS : Hid (scF pv f ls[j] = (k' == 5 && (pv || o' == (f : Int)))) := by
      show scF pv f ls[j] = _
      rw [HR.out]; rfl
    clear bA k1 hA
    by_cases y5 : k' = 5
    case neg =>
      have HF := hN.out (by rw [HS.out]; simp [y5])
      have HF2 : Hid (∀ t (ht : t < j + 1) (h : t < ls.length), scF pv f ls[t] = false) := HF
      have z5 : (k' == 5) = false := by simp [y5]
      clear y5 hY hN HS HF
      go_wp2
      go_roundw
      case rel => exact ⟨j + 1, by omega, by go_num, B2'.out, HF2.out⟩
      case measure => simp [intOf]; omega
    case pos =>
    subst y5
    have z5 : ((5 : Int) == 5) = true := by decide
    cases pv with
    | true =>
      have HF : Hid (scrB cs f t = true) := hY.out (by rw [HS.out]; rfl)
      clear hY hN HS
      go_wp2
      go_ret
      exact ⟨by rw [HF.out]; rfl, B2.out⟩
    | false =>
      by_cases yf : o' = (f : Int)
      · have HF : Hid (scrB cs f t = true) := hY.out (by rw [HS.out]; simp [yf])
        have zf : (o' == (f : Int)) = true := by simp [yf]
        clear hY hN HS yf
        go_wp2
        go_ret
        exact ⟨by rw [HF.out]; rfl, B2.out⟩
      · have HF := hN.out (by rw [HS.out]; simp [yf])
        have HF2 : Hid (∀ t (ht : t < j + 1) (h : t < ls.length), scF false f ls[t] = false) := HF
        have zf : (o' == (f : Int)) = false := by simp [yf]
        clear yf hY hN HS HF
        go_wp2
        go_roundw
        case rel => exact ⟨j + 1, by omega, by go_num, B2'.out, HF2.out⟩
        case measure => simp [intOf]; omega
end Go.Proofs.Ytfaflnhembceoaa

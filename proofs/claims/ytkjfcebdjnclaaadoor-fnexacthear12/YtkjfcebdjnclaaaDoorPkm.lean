/- Marks of packets; no condition. -/
import Derived.Test.YtkjfcebdjnclaaaDoorPkb
namespace Go.Proofs.YtkjfcebdjnclaaaDoor
open Go.RowKit Go.ChangeShapes Go.WideShapes Go.ChangeAt
set_option linter.unusedVariables false
set_option linter.unusedSimpArgs false
set_option maxRecDepth 8000

theorem fm_set1 {α : Type} {c : α → List Value} {n : Nat} (hc : ∀ x, (c x).length = n) (ls : List α) (j i : Nat) (y : α) (v : Value) (hj : j < ls.length) (hi : i < n) (h : (c ls[j]).set i v = c y) : (ls.flatMap c).set (j * n + i) v = (ls.set j y).flatMap c := by
  rw [← fm_set hc ls j y hj]
  apply List.ext_getElem?
  intro p
  have hl : j * n + n ≤ ls.length * n := by
    have := Nat.mul_le_mul_right n (show j + 1 ≤ ls.length by omega)
    rw [Nat.succ_mul] at this; exact this
  rw [setL_get, hc, fm_len hc, List.getElem?_set, ← h, List.getElem?_set, fm_len hc, hc]
  by_cases h2 : j * n + i = p
  · rw [if_pos h2, if_pos (by omega), if_pos ⟨by omega, by omega, by omega⟩, if_pos (by omega), if_pos hi]
  · rw [if_neg h2]
    by_cases h1 : j * n ≤ p ∧ p < j * n + n
    · rw [if_pos ⟨h1.1, h1.2, by omega⟩, if_neg (by omega)]
      have := fm_at hc ls j (p - j * n) hj (by omega)
      rw [show j * n + (p - j * n) = p by omega] at this
      exact this
    · rw [if_neg (by omega)]
theorem own_set1 {base : Nat} {w : World} {g n cap : Nat} {ls : List Pk} (h : Og 18 pkC 40 base w (.slice (some ⟨g, 0, none⟩) n cap) ls) (hn : ls.length = n) (j i : Nat) (hj : j < n) (hi : i < 18) (y : Pk) (v : Value) (hy : (pkC (ls[j]'(by omega))).set i v = pkC y) :
    Og 18 pkC 40 base (w.setCell ⟨g, j * 18 + i, none⟩ v) (.slice (some ⟨g, 0, none⟩) n cap) (ls.set j y) := by
  subst hn
  have h1 := (World.ownsRow.stored h (j * 18 + i) v).1
  rw [fm_set1 pkC_len ls j i y v hj hi hy] at h1
  rw [Og, List.length_set]; exact h1
theorem own_cell1 {base : Nat} {w : World} {g n cap : Nat} {ls : List Pk} (h : Og 18 pkC 40 base w (.slice (some ⟨g, 0, none⟩) n cap) ls) (hn : ls.length = n) (j i : Nat) (hj : j < n) (hi : i < 18) : (∃ u, w.cell? ⟨g, j * 18 + i, none⟩ = some u) ∧ w.frozen? ⟨g, j * 18 + i, none⟩ = false := by
  subst hn
  refine ⟨⟨(pkC ls[j])[i]'(by rw [pkC_len]; exact hi), ?_⟩, World.ownsRow.frozenAt h _⟩
  rw [World.ownsRow.cellAt h (j * 18 + i) (by omega), fm_at pkC_len ls j i hj hi, List.getElem?_eq_getElem]
/-- the mark of a packet -/
def mkPk (q : Int) (j : Nat) : Pk := ⟨q + 18 * (j : Int), q + 18 * (j : Int) + 1, fun i => (q + 18 * (j : Int) + 1 + 1 + (i : Int)) % 256⟩
/-- half marked -/
def hyPk (q : Int) (j : Nat) (k : Pk) (t : Nat) : Pk := ⟨q + 18 * (j : Int), q + 18 * (j : Int) + 1, fun i => if i < t then (mkPk q j).f i else k.f i⟩
theorem hyPk_full (q : Int) (j : Nat) (k : Pk) : pkC (hyPk q j k 16) = pkC (mkPk q j) := by
  have : frF (hyPk q j k 16).f = frF (mkPk q j).f := frF_congr fun i hi => by simp [hyPk, hi]
  simp only [pkC, this]; rfl
theorem flat_congr : ∀ {a b : List Pk}, a.map pkC = b.map pkC → a.flatMap pkC = b.flatMap pkC := by
  intro a b h
  rw [List.flatMap_def, List.flatMap_def, h]
theorem Og.congr {base : Nat} {w : World} {v : Value} {a b : List Pk} (h : Og 18 pkC 40 base w v a) (e : a.map pkC = b.map pkC) : Og 18 pkC 40 base w v b := by
  have hl : a.length = b.length := by have := congrArg List.length e; simpa using this
  rw [Og, ← hl, ← flat_congr e]; exact h
set_option maxHeartbeats 3200000 in
theorem markPkS_c (v : Value) (ls : List Pk) (q : Int) (base : Nat) (w : World) (h : Og 18 pkC 40 base w v ls) (h0 : 0 ≤ q) (hq : q + 18 * ls.length ≤ 1152921504606846976) :
   Calls Tryd.prog 52 #[v, .int .i64 q] w fun e w' => e = .returned (.int .i64 (q + 18 * ls.length)) ∧ Og 18 pkC 40 base w' v (mkg (mkPk q) ls.length) ∧ w.grownBy w' v.ownBlock := by
  have hh := h
  rcases h.2 with ⟨rfl, hn⟩ | ⟨g, cap, cur, rfl, hb, hg, hnc, hcm, hcs, ht⟩
  · obtain rfl : ls = [] := List.eq_nil_of_length_eq_zero hn
    clear hn h
    go_enter Tryd.func52, Tryd.ntmps52
    go_wp2
    refine wp_loop_rounds 1 ?_
    rw [rounds_succ]
    go_wp2
    go_ret
    exact ⟨by simp, by simpa [mkg] using hh, grown_refl _ _⟩
  · clear h hg hcs ht
    unfold maxLen at hcm
    go_enter Tryd.func52, Tryd.ntmps52
    go_wp2
    go_loopw [1, 5] (fun c i wr => ∃ j : Nat, j ≤ ls.length ∧ i = .int .i64 j ∧ c = .int .i64 (q + 18 * j) ∧ Hid (Og 18 pkC 40 base wr (.slice (some ⟨g, 0, none⟩) ls.length cap) (mkg (mkPk q) j ++ ls.drop j)) ∧ Hid (w.grownBy wr (some g))) (fun _ i _ => ls.length - (intOf i).toNat)
    case atStart => exact ⟨0, Nat.zero_le _, rfl, by simp, (by simpa [mkg] using hh : Og 18 pkC 40 base w (.slice (some ⟨g, 0, none⟩) ls.length cap) (mkg (mkPk q) 0 ++ ls.drop 0)), grown_refl _ _⟩
    case round =>
      obtain ⟨j, hj, rfl, rfl, hw, hbr⟩ := hrel
      clear hh
      by_cases hlt : j < ls.length
      · obtain ⟨L, hL⟩ : ∃ L, mkg (mkPk q) j ++ ls.drop j = L := ⟨_, rfl⟩
        have hlen : L.length = ls.length := by rw [← hL]; simp [mkg_len]; omega
        rw [hL] at hw
        have HN : Hid (∀ y, L.set j y = (mkg (mkPk q) j ++ [y] ++ ls.drop (j + 1))) := fun y => by
          rw [← hL, List.drop_eq_getElem_cons hlt, List.set_append]
          simp only [mkg_len, Nat.lt_irrefl, if_false, Nat.sub_self, List.set_cons_zero, List.append_assoc, List.cons_append, List.nil_append]
        have HLen : Hid (L.length = ls.length) := hlen
        have HL : Hid (∀ y, (L.set j y).length = ls.length) := fun y => by rw [List.length_set]; exact hlen
        have HA : Hid (∀ (y : Pk) (h : j < (L.set j y).length), (L.set j y)[j] = y) := fun y h => List.getElem_set_self h
        obtain ⟨k0, hk0⟩ : ∃ k, L[j]'(by omega) = k := ⟨_, rfl⟩
        have s1 := own_set1 hw.out hlen j 0 hlt (by decide) ⟨q + 18 * (j : Int), k0.s, k0.f⟩ (.int .i64 (q + 18 * (j : Int))) (by rw [hk0]; rfl)
        have c0 := own_cell1 hw.out hlen j 0 hlt (by decide)
        have c1 := own_cell1 s1 (HL.out _) j 1 hlt (by decide)
        have s2 := own_set1 s1 (HL.out _) j 1 hlt (by decide) (hyPk q j k0 0) (.int .i64 (q + 18 * (j : Int) + 1)) (by rw [HA.out]; simp [hyPk])
        rw [List.set_set] at s2
        obtain ⟨⟨u0, d0⟩, f0⟩ := c0
        obtain ⟨⟨u1, d1⟩, f1⟩ := c1
        simp only [Nat.add_zero] at d0 f0 d1 f1 s2
        have HS : Hid (Og 18 pkC 40 base ((wr.setCell ⟨g, j * 18, none⟩ (.int .i64 (q + 18 * (j : Int)))).setCell ⟨g, j * 18 + 1, none⟩ (.int .i64 (q + 18 * (j : Int) + 1))) (.slice (some ⟨g, 0, none⟩) ls.length cap) (L.set j (hyPk q j k0 0))) := s2
        have HG : Hid (w.grownBy ((wr.setCell ⟨g, j * 18, none⟩ (.int .i64 (q + 18 * (j : Int)))).setCell ⟨g, j * 18 + 1, none⟩ (.int .i64 (q + 18 * (j : Int) + 1))) (some g)) := grown_trans hbr.out (grown_trans (grown_set' wr g _ _) (grown_set' _ g _ _))
        clear s1 s2 hw hbr hk0 hL hlen
        go_wp2
        go_loopw [1, 6] (fun c i wr => ∃ t : Nat, t ≤ 16 ∧ i = .int .i64 t ∧ c = .int .i64 (q + 18 * (j : Int) + 1 + 1 + (t : Int)) ∧ Hid (Og 18 pkC 40 base wr (.slice (some ⟨g, 0, none⟩) ls.length cap) (L.set j (hyPk q j k0 t))) ∧ Hid (w.grownBy wr (some g))) (fun _ i _ => 16 - (intOf i).toNat)
        case atStart => exact ⟨0, by omega, rfl, by simp, HS.out, HG.out⟩
        case round =>
          clear HS HG d0 f0 d1 f1
          obtain ⟨t, ht, rfl, rfl, hw, hbr⟩ := hrel
          by_cases hlt2 : t < 16
          · have s1 := own_set1 hw.out (HL.out _) j (2 + t) hlt (by omega) (hyPk q j k0 (t + 1)) (.int .u8 ((q + 18 * (j : Int) + 1 + 1 + (t : Int)) % 256)) (by
              rw [HA.out]
              simp only [pkC]
              rw [show 2 + t = t + 1 + 1 by omega, List.set_cons_succ, List.set_cons_succ, frF_set]
              congr 2
              apply frF_congr
              intro i hi
              simp only [upf, hyPk, mkPk]
              by_cases e : i = t
              · subst e; simp
              · rw [if_neg e]
                by_cases e2 : i < t
                · rw [if_pos e2, if_pos (by omega)]
                · rw [if_neg e2, if_neg (by omega)])
            obtain ⟨⟨u0, d0⟩, f0⟩ := own_cell1 hw.out (HL.out _) j (2 + t) hlt (by omega)
            rw [List.set_set] at s1
            rw [← Nat.add_assoc] at d0 f0 s1
            have HS : Hid (Og 18 pkC 40 base (wr.setCell ⟨g, j * 18 + 2 + t, none⟩ (.int .u8 ((q + 18 * (j : Int) + 1 + 1 + (t : Int)) % 256))) (.slice (some ⟨g, 0, none⟩) ls.length cap) (L.set j (hyPk q j k0 (t + 1)))) := s1
            have HG : Hid (w.grownBy (wr.setCell ⟨g, j * 18 + 2 + t, none⟩ (.int .u8 ((q + 18 * (j : Int) + 1 + 1 + (t : Int)) % 256))) (some g)) := grown_trans hbr.out (grown_set' wr g _ _)
            have hi : (0 : Int) ≤ (j : Int) := by omega
            have hi2 : (j : Int) < (ls.length : Int) := by omega
            clear s1 hw hbr
            go_wp2
            go_roundw
            case rel => exact ⟨t + 1, by omega, by go_num, by go_num, HS.out, HG.out⟩
            case measure => simp [intOf]; omega
          · obtain rfl : t = 16 := by omega
            have h1 : Og 18 pkC 40 base wr (.slice (some ⟨g, 0, none⟩) ls.length cap) (mkg (mkPk q) (j + 1) ++ ls.drop (j + 1)) := by
              refine hw.out.congr ?_
              rw [HN.out, mkg_succ]
              simp only [List.map_append, List.map_cons, List.map_nil]
              rw [hyPk_full]
            have HS : Hid (Og 18 pkC 40 base wr (.slice (some ⟨g, 0, none⟩) ls.length cap) (mkg (mkPk q) (j + 1) ++ ls.drop (j + 1))) := h1
            clear h1 hw
            go_wp2
            go_roundw
            case rel => exact ⟨j + 1, by omega, by go_num, by go_num, HS.out, hbr.out⟩
            case measure => simp [intOf]; omega
      · obtain rfl : j = ls.length := by omega
        go_wp2
        go_ret
        exact ⟨rfl, by have := hw.out; simpa using this, hbr.out⟩
set_option maxHeartbeats 3200000 in
theorem heldPkS_c (v : Value) (q : Int) (n : Nat) (w : World) (h : Rg 18 pkC w v (mkg (mkPk q) n)) (h0 : 0 ≤ q) (hq : q + 18 * n ≤ 1152921504606846976) :
   Calls Tryd.prog 91 #[v, .int .i64 q] w fun e w' => e = .returned (.int .i64 (q + 18 * n)) ∧ Below w.heap.size w w' := by
  obtain ⟨a, cap, rfl, h1, h2, h3⟩ := h
  rw [mkg_len] at h1
  rw [mkg_len]
  unfold maxLen at h2
  go_enter Tryd.func91, Tryd.ntmps91
  go_wp2
  go_loopw [1, 5] (fun c i wr => ∃ j : Nat, j ≤ n ∧ i = .int .i64 j ∧ c = .int .i64 (q + 18 * j) ∧ Below w.heap.size w wr) (fun _ i _ => n - (intOf i).toNat)
  case atStart => exact ⟨0, Nat.zero_le _, rfl, by simp, Below.refl _ _⟩
  case round =>
    obtain ⟨j, hj, rfl, rfl, hbr⟩ := hrel
    by_cases hlt : j < n
    · rcases h3 with h3 | ⟨b, off, rfl, h4⟩
      · have := congrArg List.length h3; rw [mkg_len] at this; simp at this; omega
      have hc := h4 j (by rw [mkg_len]; exact hlt)
      rw [mkg_at] at hc
      have hcb : b < w.heap.size := block_lt_of_cell (hc 0 _ rfl)
      have HC : Hid (∀ W, Below w.heap.size w W → W.cell? ⟨b, off + j * 18, none⟩ = some (.int .i64 (q + 18 * (j : Int))) ∧ W.cell? ⟨b, off + j * 18 + 1, none⟩ = some (.int .i64 (q + 18 * (j : Int) + 1)) ∧ ∀ t, t < 16 → W.cell? ⟨b, off + j * 18 + 2 + t, none⟩ = some (.int .u8 ((q + 18 * (j : Int) + 1 + 1 + (t : Int)) % 256))) := fun W hW => by
        obtain ⟨r0, r1, r2⟩ := rg_mid (rangeAt_below hc hW hcb)
        refine ⟨r0, r1, fun t ht => ?_⟩
        have := r2 t _ (frF_at _ t ht)
        exact this
      obtain ⟨c0, c1, -⟩ := HC.out wr hbr
      have e0 : (q + 18 * (j : Int) != q + 18 * (j : Int)) = false := by simp
      have e1 : (q + 18 * (j : Int) + 1 != q + 18 * (j : Int) + 1) = false := by simp
      have hi : (0 : Int) ≤ (j : Int) := by omega
      have hi2 : (j : Int) < (n : Int) := by omega
      clear h4 hc
      go_wp2
      go_loopw [1, 6] (fun c i wr => ∃ t : Nat, t ≤ 16 ∧ i = .int .i64 t ∧ c = .int .i64 (q + 18 * (j : Int) + 1 + 1 + (t : Int)) ∧ Below w.heap.size w wr) (fun _ i _ => 16 - (intOf i).toNat)
      case atStart => exact ⟨0, by omega, rfl, by simp, hbr⟩
      case round =>
        clear hbr c0 c1 e0 e1
        obtain ⟨t, ht, rfl, rfl, hbr⟩ := hrel
        by_cases hlt2 : t < 16
        · have c0 := (HC.out wr hbr).2.2 t hlt2
          have e0 : ((q + 18 * (j : Int) + 1 + 1 + (t : Int)) % 256 != (q + 18 * (j : Int) + 1 + 1 + (t : Int)) % 256) = false := by simp
          go_wp2
          go_roundw
          case rel => exact ⟨t + 1, by omega, by go_num, by go_num, hbr⟩
          case measure => simp [intOf]; omega
        · obtain rfl : t = 16 := by omega
          go_wp2
          go_roundw
          case rel => exact ⟨j + 1, by omega, by go_num, by go_num, hbr⟩
          case measure => simp [intOf]; omega
    · obtain rfl : j = n := by omega
      clear h3
      go_wp2
      go_ret
      exact ⟨rfl, hbr⟩

end Go.Proofs.YtkjfcebdjnclaaaDoor

/- The model's l10End; no condition. -/
import Derived.Test.YtejoopdpelcpeaaLok
namespace Go.Proofs.Ytejoopdpelcpeaa
open Go.RowKit Go.ChangeShapes Go.WideShapes Go.ChangeAt
set_option linter.unusedVariables false
set_option linter.unusedSimpArgs false
set_option maxRecDepth 8000
set_option maxHeartbeats 6400000 in
theorem end_c (vo vi vo' vi' : Value) (s a t s' a' t' : Int) (zo zi zo' zi' : Txs) (w : World) (ho : Rx w vo zo) (hi : Rx w vi zi) (go : Rx w vo' zo') (gi : Rx w vi' zi') (mo : ∀ r ∈ zo, r.size ≤ 1048576) :
    Calls Try.prog 38 #[.agg (E5 vo vi s a t), .agg (E5 vo' vi' s' a' t')] w (Bo (EndP zo zi s a t zo' s' t') w) := by
  obtain ⟨W0, hW0⟩ : ∃ W0, (w.alloc (Obj.cells (E5 vo vi s a t) 26)).alloc (Obj.cells (E5 vo' vi' s' a' t') 26) = W0 := ⟨_, rfl⟩
  have hb0 : Below w.heap.size w W0 := by rw [← hW0]; exact ((Below.refl _ _).alloc (Nat.le_refl _) _).alloc (by simp) _
  have HB : Hid (Below w.heap.size w W0) := hb0
  have K0 : Hid (Blk W0 w.heap.size (E5 vo vi s a t) 26) := by rw [← hW0]; exact (Blk.new _ _ _).alloc _
  have K1 : Hid (Blk W0 (w.heap.size + 1) (E5 vo' vi' s' a' t') 26) := by rw [← hW0]; exact Blk.newAt _ (w.heap.size + 1) _ 26 (by simp)
  have HO : Hid (Rx W0 vo zo) := ho.below hb0
  have MO : Hid (∀ r ∈ zo, r.size ≤ 1048576) := mo
  obtain ⟨a0, p0, hv0, c0, q0, -⟩ := ho.below hb0
  obtain ⟨a1, p1, hv1, c1, q1, D1⟩ := hi.below hb0
  obtain ⟨a2, p2, hv2, c2, q2, D2⟩ := go.below hb0
  obtain ⟨a3, p3, hv3, c3, q3, -⟩ := gi.below hb0
  subst hv0 hv1 hv2 hv3
  unfold maxLen at q0 q1 q2 q3
  have E1 : Hid (zi = [] ∨ ∃ b off, a1 = some ⟨b, off, none⟩ ∧ ∀ i (h : i < zi.length), W0.cell? ⟨b, off + i, none⟩ = some (.string zi[i])) := D1
  have E2 : Hid (zo' = [] ∨ ∃ b off, a2 = some ⟨b, off, none⟩ ∧ ∀ i (h : i < zo'.length), W0.cell? ⟨b, off + i, none⟩ = some (.string zo'[i])) := D2
  have x0 := K0.out.cell 0
  have x1 := K0.out.cell 1
  have x2 := K0.out.cell 2
  have x3 := K0.out.cell 3
  have x4 := K0.out.cell 4
  have y0 := K1.out.cell 0
  have y1 := K1.out.cell 1
  have y3 := K1.out.cell 3
  simp at x0 x1 x2 x3 x4 y0 y1 y3
  clear ho hi go gi hb0 D1 D2 mo
  go_enter Try.func38, Try.ntmps38
  go_wp2_with (fail)
  clear hW0
  refine (texts_c _ zo W0 HO.out MO.out).mono ?_
  rintro e wq ⟨⟨q, rfl, hq⟩, hwq⟩
  rw [hwq]
  clear hwq wq
  by_cases hT : zo.length ≤ 100 ∧ ∀ r ∈ zo, r.size ≤ 60
  case neg =>
    obtain rfl : q = false := by cases q with | false => rfl | true => exact absurd (hq.1 rfl) hT
    clear hq
    go_wp2
    go_ret
    exact Bo.no (fun x => hT ⟨x.1.1, x.1.2.1⟩) HB.out
  obtain rfl : q = true := hq.2 hT
  have HT : Hid (zo.length ≤ 100 ∧ ∀ r ∈ zo, r.size ≤ 60) := hT
  have h100 := hT.1
  clear hq hT
  go_wp2_with (fail)
  refine (in_c s 0 (zo.length : Int) W0).mono ?_
  rintro e wq ⟨rfl, hwq⟩
  rw [hwq]
  clear hwq wq
  by_cases hs : 0 ≤ s ∧ s ≤ (zo.length : Int)
  case neg =>
    rw [decide_eq_false hs]
    go_wp2
    go_ret
    exact Bo.no (fun x => hs x.1.2.2.1) HB.out
  rw [decide_eq_true hs]
  obtain ⟨hs0, hs1⟩ := hs
  go_wp2_with (fail)
  refine (in_c a 0 s W0).mono ?_
  rintro e wq ⟨rfl, hwq⟩
  rw [hwq]
  clear hwq wq
  by_cases ha : 0 ≤ a ∧ a ≤ s
  case neg =>
    rw [decide_eq_false ha]
    go_wp2
    go_ret
    exact Bo.no (fun x => ha x.1.2.2.2.1) HB.out
  rw [decide_eq_true ha]
  obtain ⟨ha0, ha1⟩ := ha
  by_cases h8 : a + 8 < s
  · go_wp2
    go_ret
    exact Bo.no (fun x => by have := x.1.2.2.2.2; omega) HB.out
  have h8' : (a + 8 < s) = False := eq_false h8
  by_cases ht : t = (zi.length : Int)
  case neg =>
    have ht' : (t != (zi.length : Int)) = true := by simpa using ht
    go_wp2
    go_ret
    exact Bo.no (fun x => ht x.2.1) HB.out
  have ht' : (t != (zi.length : Int)) = false := by simpa using ht
  by_cases h5 : s' < t
  · go_wp2
    go_ret
    exact Bo.no (fun x => by have := x.2.2.1; omega) HB.out
  have h5' : (s' < t) = False := eq_false h5
  by_cases h6 : t' < a
  · go_wp2
    go_ret
    exact Bo.no (fun x => by have := x.2.2.2.1; omega) HB.out
  have h6' : (t' < a) = False := eq_false h6
  go_wp2
  go_loopw [5] (fun i wr => ∃ j : Nat, j ≤ zi.length ∧ i = .int .i64 j ∧ Hid (Below W0.heap.size W0 wr) ∧ Hid (j ≤ zo'.length ∧ ∀ k (h : k < zi.length) (h' : k < zo'.length), k < j → zi[k].toList = zo'[k].toList)) (fun i _ => zi.length - (intOf i).toNat)
  case atStart => exact ⟨0, Nat.zero_le _, rfl, Below.refl _ _, Nat.zero_le _, fun k h h' hk => absurd hk (by omega)⟩
  case round =>
    obtain ⟨j, hj, rfl, hbr, hA⟩ := hrel
    have KA := K0.out.below hbr.out K0.out.lt
    have KB := K1.out.below hbr.out K1.out.lt
    have HBr : Hid (Below w.heap.size w wr) := belowCall HB.out hbr.out HB.out.size
    have w4 := KA.cell 4
    have w0 := KB.cell 0
    simp at w4 w0
    clear KA KB x0 x1 x2 x3 x4 y0 y1 y3
    by_cases hlt : j < zi.length
    case neg =>
      obtain rfl : j = zi.length := by omega
      clear hlt
      go_wp2
      go_ret
      exact Bo.yes ⟨⟨HT.out.1, HT.out.2, ⟨hs0, hs1⟩, ⟨ha0, ha1⟩, by omega⟩, ht, by omega, by omega, hA.out.1, fun k h h' => hA.out.2 k h h' h⟩ HBr.out
    have hji : (j : Int) < (zi.length : Int) := by omega
    by_cases hlo : j < zo'.length
    case neg =>
      have hge : ((zo'.length : Int) ≤ (j : Int)) = True := eq_true (by omega)
      go_wp2
      go_quiet (fail)
      go_wp2
      go_ret
      exact Bo.no (fun x => by have := x.2.2.2.2.1; omega) (below_drewN HBr.out _)
    have hge : ((zo'.length : Int) ≤ (j : Int)) = False := eq_false (by omega)
    have hjo : (j : Int) < (zo'.length : Int) := by omega
    have hj0 : (0 : Int) ≤ (j : Int) := by omega
    rcases E1.out with h3 | ⟨b, off, rfl, h4⟩
    · subst h3; simp at hlt
    rcases E2.out with h3 | ⟨b', off', rfl, h4'⟩
    · subst h3; simp at hlo
    obtain ⟨r, hr⟩ : ∃ r, zi[j] = r := ⟨_, rfl⟩
    obtain ⟨r', hr'⟩ : ∃ r, zo'[j] = r := ⟨_, rfl⟩
    have HR : Hid (zi[j] = r ∧ zo'[j] = r') := ⟨hr, hr'⟩
    have e1 := h4 j hlt
    have e2 := h4' j hlo
    rw [hr] at e1
    rw [hr'] at e2
    have f1 := (hbr.out.cell (p := ⟨b, off + j, none⟩) (block_lt_of_cell e1)).trans e1
    have f2 := (hbr.out.cell (p := ⟨b', off' + j, none⟩) (block_lt_of_cell e2)).trans e2
    clear h4 h4' e1 e2 hr hr'
    have HBd : Hid (Below W0.heap.size W0 wr) := hbr.out
    go_wp2
    go_quiet (fail)
    go_wp2
    · have hn : (r.toList != r'.toList) = true := by assumption
      have hg : ¬ r.toList = r'.toList := by simpa using hn
      go_ret
      exact Bo.no (fun x => hg (by have := x.2.2.2.2.2 j hlt hlo; rw [HR.out.1, HR.out.2] at this; exact this)) (below_drewN HBr.out _)
    · have he : (r.toList != r'.toList) = false := by assumption
      have hg : r.toList = r'.toList := by simpa using he
      have HA : Hid (j + 1 ≤ zo'.length ∧ ∀ k (h : k < zi.length) (h' : k < zo'.length), k < j + 1 → zi[k].toList = zo'[k].toList) := ⟨by omega, fun k h h' hk => by
        by_cases hkj : k < j
        · exact hA.out.2 k h h' hkj
        · obtain rfl : k = j := by omega
          rw [HR.out.1, HR.out.2]; exact hg⟩
      go_roundw
      case rel => exact ⟨j + 1, by omega, by go_num, below_drewN HBd.out _, HA.out⟩
      case measure => simp [intOf]; omega
end Go.Proofs.Ytejoopdpelcpeaa

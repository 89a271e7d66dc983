/- The program's outOk, messageOf, and slices.Equal of texts; no condition. -/
import Derived.Test.YtejoopdpelcpeaaLok
import Derived.Test.YtejoopdpelcpeaaMkU
namespace Go.Proofs.Ytejoopdpelcpeaa
open Go.RowKit Go.ChangeShapes Go.WideShapes Go.ChangeAt
set_option linter.unusedVariables false
set_option linter.unusedSimpArgs false
set_option maxRecDepth 8000
set_option maxHeartbeats 3200000 in
theorem out_c (vo vi : Value) (s a t : Int) (zo zi : Txs) (w : World) (ho : Rx w vo zo) (hi : Rx w vi zi) (mo : ∀ r ∈ zo, r.size ≤ 1048576) :
    Calls Try.prog 41 #[.agg (E5 vo vi s a t)] w (Bo (OutP zo s a) w) := by
  obtain ⟨W0, hW0⟩ : ∃ W0, w.alloc (Obj.cells (E5 vo vi s a t) 26) = W0 := ⟨_, rfl⟩
  have hb0 : Below w.heap.size w W0 := by rw [← hW0]; exact (Below.refl _ _).alloc (Nat.le_refl _) _
  have HB : Hid (Below w.heap.size w W0) := hb0
  have K0 : Hid (Blk W0 w.heap.size (E5 vo vi s a t) 26) := by rw [← hW0]; exact Blk.new _ _ _
  have MO : Hid (∀ r ∈ zo, r.size ≤ 1048576) := mo
  obtain ⟨a0, p0, hv0, c0, q0, D0⟩ := ho.below hb0
  obtain ⟨a1, p1, hv1, c1, q1, -⟩ := hi.below hb0
  subst hv0 hv1
  unfold maxLen at q0 q1
  have E0 : Hid (zo = [] ∨ ∃ b off, a0 = some ⟨b, off, none⟩ ∧ ∀ i (h : i < zo.length), W0.cell? ⟨b, off + i, none⟩ = some (.string zo[i])) := D0
  have x0 := K0.out.cell 0
  have x1 := K0.out.cell 1
  have x2 := K0.out.cell 2
  simp at x0 x1 x2
  clear ho hi hb0 D0 mo
  by_cases h100 : 100 < zo.length
  · have h' : (100 : Int) < (zo.length : Int) := by omega
    go_enter Try.func41, Try.ntmps41
    go_wp2
    go_ret
    exact Bo.no (fun x => by have := x.1; omega) HB.out
  have h100' : ((100 : Int) < (zo.length : Int)) = False := eq_false (by omega)
  go_enter Try.func41, Try.ntmps41
  go_wp2_with (fail)
  clear hW0
  refine (within_c s 0 (zo.length : Int) W0).mono ?_
  rintro e wq ⟨rfl, hwq⟩
  rw [hwq]
  clear hwq wq
  by_cases hs : 0 ≤ s ∧ s ≤ (zo.length : Int)
  case neg =>
    rw [decide_eq_false hs]
    go_wp2
    go_ret
    exact Bo.no (fun x => hs x.2.2.1) HB.out
  rw [decide_eq_true hs]
  obtain ⟨hs0, hs1⟩ := hs
  go_wp2_with (fail)
  refine (within_c a 0 s W0).mono ?_
  rintro e wq ⟨rfl, hwq⟩
  rw [hwq]
  clear hwq wq
  by_cases ha : 0 ≤ a ∧ a ≤ s
  case neg =>
    rw [decide_eq_false ha]
    go_wp2
    go_ret
    exact Bo.no (fun x => ha x.2.2.2.1) HB.out
  rw [decide_eq_true ha]
  obtain ⟨ha0, ha1⟩ := ha
  go_wp2
  go_loopw [29] (fun i wr => ∃ j : Nat, j ≤ zo.length ∧ i = .int .i64 j ∧ wr = W0 ∧ Hid (∀ k (h : k < zo.length), k < j → zo[k].size ≤ 60)) (fun i _ => zo.length - (intOf i).toNat)
  case atStart => exact ⟨0, Nat.zero_le _, rfl, rfl, fun k h hk => absurd hk (by omega)⟩
  case round =>
    obtain ⟨j, hj, rfl, hwr, hA⟩ := hrel
    have hwr' := hwr.symm
    clear hwr
    subst hwr'
    by_cases hlt : j < zo.length
    case neg =>
      obtain rfl : j = zo.length := by omega
      have HF : Hid (∀ r ∈ zo, r.size ≤ 60) := fun r hr => by
        obtain ⟨i, hi, rfl⟩ := List.getElem_of_mem hr
        exact hA.out i hi hi
      by_cases h8 : s - a ≤ 8
      · go_wp2
        go_ret
        exact Bo.yes ⟨by omega, HF.out, ⟨hs0, hs1⟩, ⟨ha0, ha1⟩, by omega⟩ HB.out
      · go_wp2
        go_ret
        exact Bo.no (fun x => by have := x.2.2.2.2; omega) HB.out
    rcases E0.out with h3 | ⟨b, off, rfl, h4⟩
    · subst h3; simp at hlt
    have hc := h4 j hlt
    obtain ⟨r, hr⟩ : ∃ r, zo[j] = r := ⟨_, rfl⟩
    have HR : Hid (zo[j] = r) := hr
    have hm := MO.out _ (List.getElem_mem hlt)
    rw [hr] at hc hm
    clear h4 hr
    by_cases hz : 60 < (r.size : Int)
    · go_wp2
      go_ret
      exact Bo.no (fun x => by have := x.2.1 _ (List.getElem_mem hlt); rw [HR.out] at this; omega) HB.out
    · have hz' : ((60 : Int) < (r.size : Int)) = False := eq_false hz
      go_wp2
      go_roundw
      case rel => exact ⟨j + 1, by omega, by go_num, trivial, fun k h hk => by
          by_cases hkj : k < j
          · exact hA.out k h hkj
          · obtain rfl : k = j := by omega
            rw [HR.out]; omega⟩
      case measure => simp [intOf]; omega
set_option maxHeartbeats 1600000 in
theorem equal_c (v v' : Value) (xs ys : Txs) (w : World) (h : Rx w v xs) (h' : Rx w v' ys) :
    Calls Try.prog 74 #[v, v'] w (Bo (xs.length = ys.length ∧ ∀ i (hx : i < xs.length) (hy : i < ys.length), xs[i].toList = ys[i].toList) w) := by
  obtain ⟨a, cap, rfl, h1, h2, h3⟩ := h
  obtain ⟨a', cap', rfl, h1', h2', h3'⟩ := h'
  unfold maxLen at h2 h2'
  by_cases hne : xs.length = ys.length
  case neg =>
    have hneb : ((xs.length : Int) != (ys.length : Int)) = true := by rw [bne_iff_ne]; omega
    go_enter Try.func74, Try.ntmps74
    go_wp2
    go_ret
    exact Bo.no (fun x => hne x.1) (Below.refl _ _)
  have hneb : ((xs.length : Int) != (ys.length : Int)) = false := by simp [hne]
  go_enter Try.func74, Try.ntmps74
  go_wp2
  go_loopw [13] (fun i wr => ∃ j : Nat, j ≤ xs.length ∧ i = .int .i64 j ∧ Hid (∀ t (hx : t < xs.length) (hy : t < ys.length), t < j → xs[t].toList = ys[t].toList) ∧ Below w.heap.size w wr) (fun i _ => xs.length - (intOf i).toNat)
  case atStart => exact ⟨0, Nat.zero_le _, rfl, fun t _ _ ht => absurd ht (by omega), Below.refl _ _⟩
  case round =>
    obtain ⟨j, hj, rfl, hall, hbr⟩ := hrel
    by_cases hlt : j < xs.length
    case neg =>
      obtain rfl : j = xs.length := by omega
      have HN : Hid (xs.length = ys.length) := hne
      have hnI : ((xs.length : Int) < (ys.length : Int)) = False := eq_false (by omega)
      clear h3 h3' hne
      go_wp2
      go_ret
      exact Bo.yes ⟨HN.out, fun i hx hy => hall.out i hx hy hx⟩ hbr
    rcases h3 with h3 | ⟨b, off, rfl, h4⟩
    · subst h3; simp at hlt
    rcases h3' with h3' | ⟨b', off', rfl, h4'⟩
    · subst h3'; simp at hne; subst hne; simp at hlt
    have hjy : j < ys.length := by omega
    obtain ⟨r, hr⟩ : ∃ r, xs[j] = r := ⟨_, rfl⟩
    obtain ⟨r', hr'⟩ : ∃ r, ys[j] = r := ⟨_, rfl⟩
    have HR : Hid (xs[j] = r ∧ ys[j] = r') := ⟨hr, hr'⟩
    have e1 := h4 j hlt
    have e2 := h4' j hjy
    rw [hr] at e1
    rw [hr'] at e2
    have f1 := (hbr.cell (p := ⟨b, off + j, none⟩) (block_lt_of_cell e1)).trans e1
    have f2 := (hbr.cell (p := ⟨b', off' + j, none⟩) (block_lt_of_cell e2)).trans e2
    have hi : (0 : Int) ≤ (j : Int) := by omega
    have hi2 : (j : Int) < (xs.length : Int) := by omega
    have hi3 : (j : Int) < (ys.length : Int) := by omega
    have HN : Hid (xs.length = ys.length) := hne
    clear h4 h4' hne e1 e2 hr hr'
    go_wp2
    go_quiet (fail)
    go_wp2
    · have hn : (r.toList != r'.toList) = true := by assumption
      have hg : ¬ r.toList = r'.toList := by simpa using hn
      go_ret
      exact Bo.no (fun x => hg (by have := x.2 j hlt hjy; rw [HR.out.1, HR.out.2] at this; exact this)) (below_drewN hbr _)
    · have he : (r.toList != r'.toList) = false := by assumption
      have hg : r.toList = r'.toList := by simpa using he
      go_roundw
      case rel =>
        refine ⟨j + 1, by omega, by go_num, fun t hx hy ht => ?_, below_drewN hbr _⟩
        by_cases hjk : t < j
        · exact hall.out t hx hy hjk
        · obtain rfl : t = j := by omega
          rw [HR.out.1, HR.out.2]; exact hg
      case measure => simp [intOf]; omega
set_option maxHeartbeats 1600000 in
theorem msg_c (vo vi : Value) (s a t : Int) (zo zi : Txs) (q : Int) (w : World) (ho : Rx w vo zo) (hi : Rx w vi zi) (h0 : 0 ≤ q) (h1 : q ≤ (zo.length : Int)) :
    Calls Try.prog 75 #[.agg (E5 vo vi s a t), .int .i64 q] w fun e w' => e = .returned (.string (msg zo q)) ∧ Below w.heap.size w w' := by
  obtain ⟨W0, hW0⟩ : ∃ W0, w.alloc (Obj.cells (E5 vo vi s a t) 26) = W0 := ⟨_, rfl⟩
  have hb0 : Below w.heap.size w W0 := by rw [← hW0]; exact (Below.refl _ _).alloc (Nat.le_refl _) _
  have HB : Hid (Below w.heap.size w W0) := hb0
  have K0 : Hid (Blk W0 w.heap.size (E5 vo vi s a t) 26) := by rw [← hW0]; exact Blk.new _ _ _
  obtain ⟨a0, p0, hv0, c0, q0, D0⟩ := ho.below hb0
  obtain ⟨a1, p1, hv1, c1, q1, -⟩ := hi.below hb0
  subst hv0 hv1
  unfold maxLen at q0 q1
  have x0 := K0.out.cell 0
  simp at x0
  clear ho hi hb0
  by_cases hz : q = 0
  · have hz' : (q == 0) = true := by simpa using hz
    have HM : Hid (msg zo q = t0) := by show msg zo q = t0; rw [msg, if_pos hz]
    clear hz
    go_enter Try.func75, Try.ntmps75
    go_wp2
    go_ret
    exact ⟨by rw [HM.out]; rfl, HB.out⟩
  have hz' : (q == 0) = false := by simpa using hz
  obtain ⟨n, hn⟩ : ∃ n : Nat, q - 1 = n := ⟨(q - 1).toNat, by omega⟩
  have hnl : n < zo.length := by omega
  have HM : Hid (msg zo q = zo[n]) := by
    show msg zo q = zo[n]
    rw [show q = (n : Int) + 1 by omega]; exact msg_at hnl
  rcases D0 with h3 | ⟨b, off, rfl, h4⟩
  · subst h3; simp at hnl
  have e0 := h4 n hnl
  obtain ⟨m, hm⟩ : ∃ m, zo[n] = m := ⟨_, rfl⟩
  rw [hm] at e0 HM
  have hn0 : (0 : Int) ≤ (n : Int) := by omega
  have hn1 : (n : Int) < (zo.length : Int) := by omega
  clear h4 hm hz
  go_enter Try.func75, Try.ntmps75
  go_wp2
  go_ret
  exact ⟨by rw [HM.out]; rfl, HB.out⟩
end Go.Proofs.Ytejoopdpelcpeaa

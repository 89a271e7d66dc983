/- The model on how unsteady packets are; no condition. -/
import Derived.Test.YtlgogikogmndmaaStd
namespace Go.Proofs.Ytlgogikogmndmaa
open Go.RowKit Go.ChangeShapes Go.WideShapes Go.ChangeAt
set_option linter.unusedVariables false
set_option linter.unusedSimpArgs false
set_option maxRecDepth 8000

set_option maxHeartbeats 6400000 in
theorem stM_c (v : Value) (ls : List Pk) (w : World) (h : Rg 18 pkC w v ls) : Calls Try.prog 20 #[v] w (SdR ls w) := by
  have HR0 : Hid (Rg 18 pkC w v ls) := h
  obtain ⟨a, cap, rfl, h1, h2, h3⟩ := h
  unfold maxLen at h2
  go_enter Try.func20, Try.ntmps20
  go_wp2_with (fail)
  refine (pksM_c _ ls w HR0.out).mono ?_
  rintro e w1 ⟨r, rfl, hr, b1⟩
  have HR : Hid (r = true ↔ PksP ls) := hr
  have HB1 : Hid (Below w.heap.size w w1) := b1
  clear hr b1
  cases r with
  | false =>
    have HF : Hid (¬ PksP ls) := fun h => by have := HR.out.2 h; cases this
    clear h3
    go_wp2
    go_ret2
    exact ⟨_, _, rfl, .inr ⟨HF.out, rfl, rfl⟩, HB1.out⟩
  | true =>
  have HP : Hid (PksP ls) := HR.out.1 rfl
  obtain ⟨b, off, rfl, h4⟩ : ∃ b off, a = some ⟨b, off, none⟩ ∧ ∀ i (h : i < ls.length), w.rangeAt b (off + i * 18) (pkC ls[i]) := by
    rcases h3 with h3 | h3
    · subst h3; have := HP.out.1.1; simp at this
    · exact h3
  have HC : Hid (∀ W, Below w.heap.size w W → ∀ i (h : i < ls.length), W.cell? ⟨b, off + i * 18, none⟩ = some (.int .i64 ls[i].t) ∧ W.cell? ⟨b, off + i * 18 + 1, none⟩ = some (.int .i64 ls[i].s)) := fun W hW i hi => by
    have h5 := h4 i hi
    have := rg_mid (rangeAt_below h5 hW (block_lt_of_cell (h5 0 _ rfl)))
    exact ⟨this.1, this.2.1⟩
  have hlen := HP.out.1.2
  clear h4 h3 HR
  go_wp2
  go_loopw [4, 5, 6, 7] (fun lo hi tw i wr => ∃ j : Nat, j ≤ ls.length ∧ i = .int .i64 j ∧ lo = .int .i64 (loN ls j) ∧ hi = .int .i64 (hiN ls j) ∧ tw = .int .i64 (twN ls j) ∧ Hid (Below w.heap.size w wr)) (fun _ _ _ i _ => ls.length - (intOf i).toNat)
  case atStart => exact ⟨0, Nat.zero_le _, rfl, rfl, rfl, rfl, HB1.out⟩
  case round =>
    obtain ⟨j, hj, rfl, rfl, rfl, rfl, hbr⟩ := hrel
    by_cases hlt : j < ls.length
    case neg =>
      obtain rfl : j = ls.length := by omega
      have lb := loN_bd HP.out.2 ls.length (Nat.le_refl _)
      have hb := hiN_bd HP.out.2 ls.length (Nat.le_refl _)
      have HE : Hid (∀ x y, x = hiN ls ls.length - loN ls ls.length → y = twN ls ls.length → ((PksP ls ∧ x = hiN ls ls.length - loN ls ls.length ∧ y = twN ls ls.length) ∨ (¬ PksP ls ∧ x = -1 ∧ y = -1))) := fun x y hx hy => .inl ⟨HP.out, hx, hy⟩
      obtain ⟨A, hA⟩ : ∃ A, hiN ls ls.length = A := ⟨_, rfl⟩
      obtain ⟨B, hB⟩ : ∃ B, loN ls ls.length = B := ⟨_, rfl⟩
      rw [hA] at hb HE ⊢
      rw [hB] at lb HE ⊢
      have HAB : Hid (hiN ls ls.length = A ∧ loN ls ls.length = B) := ⟨hA, hB⟩
      clear hA hB
      go_wp2
      go_ret2
      exact ⟨_, _, rfl, by rw [HAB.out.1, HAB.out.2]; exact HE.out _ _ rfl rfl, hbr.out⟩
    case pos =>
    obtain ⟨c0, c1⟩ := HC.out wr hbr.out j hlt
    have hpk := (pkB_iff _).1 (HP.out.2 _ (List.getElem_mem hlt))
    have HLG : Hid (lag (kAt ls j) = ls[j].t - 30 * ls[j].s ∧ (kAt ls j).s = ls[j].s) := by show _ ∧ _; rw [kAt_eq hlt]; exact ⟨rfl, rfl⟩
    obtain ⟨x, hx⟩ : ∃ x, ls[j].t = x := ⟨_, rfl⟩
    obtain ⟨y, hy⟩ : ∃ y, ls[j].s = y := ⟨_, rfl⟩
    have HY : Hid (ls[j].s = y) := hy
    rw [hx] at c0 hpk HLG
    rw [hy] at c1 hpk HLG
    obtain ⟨⟨p0, p1⟩, p2, p3⟩ := hpk
    have lb := loN_bd HP.out.2 j hj
    have hb := hiN_bd HP.out.2 j hj
    have tb := twN_bd ls j
    have HLO : Hid (loN ls (j + 1) = if j = 0 ∨ lag (kAt ls j) < loN ls j then lag (kAt ls j) else loN ls j) := rfl
    have HHI : Hid (hiN ls (j + 1) = if j = 0 ∨ hiN ls j < lag (kAt ls j) then lag (kAt ls j) else hiN ls j) := rfl
    have HTW : Hid (twN ls (j + 1) = if haB ls (kAt ls j).s j then twN ls j + 1 else twN ls j) := rfl
    rw [HLG.out.1] at HLO HHI
    rw [HLG.out.2] at HTW
    obtain ⟨L, hL⟩ : ∃ L, loN ls j = L := ⟨_, rfl⟩
    obtain ⟨G, hG⟩ : ∃ G, hiN ls j = G := ⟨_, rfl⟩
    obtain ⟨T, hT⟩ : ∃ T, twN ls j = T := ⟨_, rfl⟩
    rw [hL] at lb HLO ⊢
    rw [hG] at hb HHI ⊢
    rw [hT] at tb HTW ⊢
    have hi1 : (0 : Int) ≤ (j : Int) := by omega
    have hi2 : (j : Int) < (ls.length : Int) := by omega
    clear hx hy HLG hL hG hT
    have HB0 : Hid (Below w.heap.size w wr) := hbr.out
    clear hbr
    obtain ⟨L', hL', HL'⟩ : ∃ L', (if j = 0 ∨ x - 30 * y < L then x - 30 * y else L) = L' ∧ Hid (loN ls (j + 1) = L') := ⟨_, rfl, HLO.out⟩
    obtain ⟨G', hG', HG'⟩ : ∃ G', (if j = 0 ∨ G < x - 30 * y then x - 30 * y else G) = G' ∧ Hid (hiN ls (j + 1) = G') := ⟨_, rfl, HHI.out⟩
    clear HLO HHI
    by_cases j0 : j = 0
    · have dj : ((j : Int) == 0) = true := by rw [beq_iff_eq]; omega
      rw [if_pos (Or.inl j0)] at hL' hG'
      have HJ0 : Hid (j = 0) := j0
      clear j0
      subst hL' hG'
      go_wp2
      go_quiet (fail)
      go_wp2
      go_loopw [9, 10] (fun ag k wr => ∃ q : Nat, q ≤ j ∧ k = .int .i64 q ∧ ag = .bool (haB ls y q) ∧ Hid (Below w.heap.size w wr)) (fun _ k _ => j - (intOf k).toNat)
      case atStart => exact ⟨0, Nat.zero_le _, rfl, rfl, below_drewN HB0.out _⟩
      case round =>
        clear c0 c1 HB0
        obtain ⟨q, hq, rfl, rfl, hbr⟩ := hrel
        by_cases hql : q < j
        case neg =>
          obtain rfl : q = j := by omega
          cases hh : haB ls y q with
          | true =>
            rw [if_pos hh] at HTW
            clear hh
            go_wp2
            go_roundw
            case rel => exact ⟨q + 1, by omega, by go_num, by rw [HL'.out], by rw [HG'.out], by rw [HTW.out], hbr.out⟩
            case measure => simp [intOf]; omega
          | false =>
            rw [if_neg (by rw [hh]; simp)] at HTW
            clear hh
            go_wp2
            go_roundw
            case rel => exact ⟨q + 1, by omega, by go_num, by rw [HL'.out], by rw [HG'.out], by rw [HTW.out], hbr.out⟩
            case measure => simp [intOf]; omega
        case pos =>
        obtain ⟨-, e1⟩ := HC.out wr hbr.out q (by omega)
        obtain ⟨-, e2⟩ := HC.out wr hbr.out j hlt
        rw [HY.out] at e2
        have HHB : Hid (haB ls y (q + 1) = (haB ls y q || ls[q].s == y)) := by show _ = _; rw [haB, kAt_eq (by omega)]
        obtain ⟨z, hz⟩ : ∃ z, ls[q].s = z := ⟨_, rfl⟩
        rw [hz] at e1 HHB
        have hq1 : (0 : Int) ≤ (q : Int) := by omega
        have hq2 : (q : Int) < (ls.length : Int) := by omega
        clear hz
        cases hh : haB ls y q with
        | true =>
          rw [hh] at HHB
          go_wp2
          go_quiet (fail)
          go_wp2
          go_roundw
          case rel => exact ⟨q + 1, by omega, by go_num, by rw [HHB.out]; rfl, below_drewN hbr.out _⟩
          case measure => simp [intOf]; omega
        | false =>
          rw [hh] at HHB
          go_wp2
          go_quiet (fail)
          go_wp2
          go_roundw
          case rel => exact ⟨q + 1, by omega, by go_num, by rw [HHB.out]; rfl, below_drewN hbr.out _⟩
          case measure => simp [intOf]; omega
    · have dj : ((j : Int) == 0) = false := by rw [beq_eq_false_iff_ne]; omega
      by_cases cl : x - 30 * y < L
      · rw [if_pos (Or.inr cl)] at hL'
        have dl : decide (x - 30 * y < L) = true := by simp only [decide_eq_true_eq]; exact cl
        have ng : ¬ (j = 0 ∨ G < x - 30 * y) ∨ (G < x - 30 * y) := by omega
        by_cases cg : G < x - 30 * y
        · rw [if_pos (Or.inr cg)] at hG'
          have dg : decide (G < x - 30 * y) = true := by simp only [decide_eq_true_eq]; exact cg
          clear cl cg j0 ng
          subst hL' hG'
          go_wp2
          go_quiet (fail)
          go_wp2
          go_loopw [9, 10] (fun ag k wr => ∃ q : Nat, q ≤ j ∧ k = .int .i64 q ∧ ag = .bool (haB ls y q) ∧ Hid (Below w.heap.size w wr)) (fun _ k _ => j - (intOf k).toNat)
          case atStart => exact ⟨0, Nat.zero_le _, rfl, rfl, below_drewN HB0.out _⟩
          case round =>
            clear c0 c1 HB0
            obtain ⟨q, hq, rfl, rfl, hbr⟩ := hrel
            by_cases hql : q < j
            case neg =>
              obtain rfl : q = j := by omega
              cases hh : haB ls y q with
              | true =>
                rw [if_pos hh] at HTW
                clear hh
                go_wp2
                go_roundw
                case rel => exact ⟨q + 1, by omega, by go_num, by rw [HL'.out], by rw [HG'.out], by rw [HTW.out], hbr.out⟩
                case measure => simp [intOf]; omega
              | false =>
                rw [if_neg (by rw [hh]; simp)] at HTW
                clear hh
                go_wp2
                go_roundw
                case rel => exact ⟨q + 1, by omega, by go_num, by rw [HL'.out], by rw [HG'.out], by rw [HTW.out], hbr.out⟩
                case measure => simp [intOf]; omega
            case pos =>
            obtain ⟨-, e1⟩ := HC.out wr hbr.out q (by omega)
            obtain ⟨-, e2⟩ := HC.out wr hbr.out j hlt
            rw [HY.out] at e2
            have HHB : Hid (haB ls y (q + 1) = (haB ls y q || ls[q].s == y)) := by show _ = _; rw [haB, kAt_eq (by omega)]
            obtain ⟨z, hz⟩ : ∃ z, ls[q].s = z := ⟨_, rfl⟩
            rw [hz] at e1 HHB
            have hq1 : (0 : Int) ≤ (q : Int) := by omega
            have hq2 : (q : Int) < (ls.length : Int) := by omega
            clear hz
            cases hh : haB ls y q with
            | true =>
              rw [hh] at HHB
              go_wp2
              go_quiet (fail)
              go_wp2
              go_roundw
              case rel => exact ⟨q + 1, by omega, by go_num, by rw [HHB.out]; rfl, below_drewN hbr.out _⟩
              case measure => simp [intOf]; omega
            | false =>
              rw [hh] at HHB
              go_wp2
              go_quiet (fail)
              go_wp2
              go_roundw
              case rel => exact ⟨q + 1, by omega, by go_num, by rw [HHB.out]; rfl, below_drewN hbr.out _⟩
              case measure => simp [intOf]; omega
        · rw [if_neg (by omega)] at hG'
          have dg : decide (G < x - 30 * y) = false := by simp only [decide_eq_false_iff_not]; exact cg
          clear cl cg j0 ng
          subst hL' hG'
          go_wp2
          go_quiet (fail)
          go_wp2
          go_loopw [9, 10] (fun ag k wr => ∃ q : Nat, q ≤ j ∧ k = .int .i64 q ∧ ag = .bool (haB ls y q) ∧ Hid (Below w.heap.size w wr)) (fun _ k _ => j - (intOf k).toNat)
          case atStart => exact ⟨0, Nat.zero_le _, rfl, rfl, below_drewN HB0.out _⟩
          case round =>
            clear c0 c1 HB0
            obtain ⟨q, hq, rfl, rfl, hbr⟩ := hrel
            by_cases hql : q < j
            case neg =>
              obtain rfl : q = j := by omega
              cases hh : haB ls y q with
              | true =>
                rw [if_pos hh] at HTW
                clear hh
                go_wp2
                go_roundw
                case rel => exact ⟨q + 1, by omega, by go_num, by rw [HL'.out], by rw [HG'.out], by rw [HTW.out], hbr.out⟩
                case measure => simp [intOf]; omega
              | false =>
                rw [if_neg (by rw [hh]; simp)] at HTW
                clear hh
                go_wp2
                go_roundw
                case rel => exact ⟨q + 1, by omega, by go_num, by rw [HL'.out], by rw [HG'.out], by rw [HTW.out], hbr.out⟩
                case measure => simp [intOf]; omega
            case pos =>
            obtain ⟨-, e1⟩ := HC.out wr hbr.out q (by omega)
            obtain ⟨-, e2⟩ := HC.out wr hbr.out j hlt
            rw [HY.out] at e2
            have HHB : Hid (haB ls y (q + 1) = (haB ls y q || ls[q].s == y)) := by show _ = _; rw [haB, kAt_eq (by omega)]
            obtain ⟨z, hz⟩ : ∃ z, ls[q].s = z := ⟨_, rfl⟩
            rw [hz] at e1 HHB
            have hq1 : (0 : Int) ≤ (q : Int) := by omega
            have hq2 : (q : Int) < (ls.length : Int) := by omega
            clear hz
            cases hh : haB ls y q with
            | true =>
              rw [hh] at HHB
              go_wp2
              go_quiet (fail)
              go_wp2
              go_roundw
              case rel => exact ⟨q + 1, by omega, by go_num, by rw [HHB.out]; rfl, below_drewN hbr.out _⟩
              case measure => simp [intOf]; omega
            | false =>
              rw [hh] at HHB
              go_wp2
              go_quiet (fail)
              go_wp2
              go_roundw
              case rel => exact ⟨q + 1, by omega, by go_num, by rw [HHB.out]; rfl, below_drewN hbr.out _⟩
              case measure => simp [intOf]; omega
      · rw [if_neg (by omega)] at hL'
        have dl : decide (x - 30 * y < L) = false := by simp only [decide_eq_false_iff_not]; exact cl
        by_cases cg : G < x - 30 * y
        · rw [if_pos (Or.inr cg)] at hG'
          have dg : decide (G < x - 30 * y) = true := by simp only [decide_eq_true_eq]; exact cg
          clear cl cg j0
          subst hL' hG'
          go_wp2
          go_quiet (fail)
          go_wp2
          go_loopw [9, 10] (fun ag k wr => ∃ q : Nat, q ≤ j ∧ k = .int .i64 q ∧ ag = .bool (haB ls y q) ∧ Hid (Below w.heap.size w wr)) (fun _ k _ => j - (intOf k).toNat)
          case atStart => exact ⟨0, Nat.zero_le _, rfl, rfl, below_drewN HB0.out _⟩
          case round =>
            clear c0 c1 HB0
            obtain ⟨q, hq, rfl, rfl, hbr⟩ := hrel
            by_cases hql : q < j
            case neg =>
              obtain rfl : q = j := by omega
              cases hh : haB ls y q with
              | true =>
                rw [if_pos hh] at HTW
                clear hh
                go_wp2
                go_roundw
                case rel => exact ⟨q + 1, by omega, by go_num, by rw [HL'.out], by rw [HG'.out], by rw [HTW.out], hbr.out⟩
                case measure => simp [intOf]; omega
              | false =>
                rw [if_neg (by rw [hh]; simp)] at HTW
                clear hh
                go_wp2
                go_roundw
                case rel => exact ⟨q + 1, by omega, by go_num, by rw [HL'.out], by rw [HG'.out], by rw [HTW.out], hbr.out⟩
                case measure => simp [intOf]; omega
            case pos =>
            obtain ⟨-, e1⟩ := HC.out wr hbr.out q (by omega)
            obtain ⟨-, e2⟩ := HC.out wr hbr.out j hlt
            rw [HY.out] at e2
            have HHB : Hid (haB ls y (q + 1) = (haB ls y q || ls[q].s == y)) := by show _ = _; rw [haB, kAt_eq (by omega)]
            obtain ⟨z, hz⟩ : ∃ z, ls[q].s = z := ⟨_, rfl⟩
            rw [hz] at e1 HHB
            have hq1 : (0 : Int) ≤ (q : Int) := by omega
            have hq2 : (q : Int) < (ls.length : Int) := by omega
            clear hz
            cases hh : haB ls y q with
            | true =>
              rw [hh] at HHB
              go_wp2
              go_quiet (fail)
              go_wp2
              go_roundw
              case rel => exact ⟨q + 1, by omega, by go_num, by rw [HHB.out]; rfl, below_drewN hbr.out _⟩
              case measure => simp [intOf]; omega
            | false =>
              rw [hh] at HHB
              go_wp2
              go_quiet (fail)
              go_wp2
              go_roundw
              case rel => exact ⟨q + 1, by omega, by go_num, by rw [HHB.out]; rfl, below_drewN hbr.out _⟩
              case measure => simp [intOf]; omega
        · rw [if_neg (by omega)] at hG'
          have dg : decide (G < x - 30 * y) = false := by simp only [decide_eq_false_iff_not]; exact cg
          clear cl cg j0
          subst hL' hG'
          go_wp2
          go_quiet (fail)
          go_wp2
          go_loopw [9, 10] (fun ag k wr => ∃ q : Nat, q ≤ j ∧ k = .int .i64 q ∧ ag = .bool (haB ls y q) ∧ Hid (Below w.heap.size w wr)) (fun _ k _ => j - (intOf k).toNat)
          case atStart => exact ⟨0, Nat.zero_le _, rfl, rfl, below_drewN HB0.out _⟩
          case round =>
            clear c0 c1 HB0
            obtain ⟨q, hq, rfl, rfl, hbr⟩ := hrel
            by_cases hql : q < j
            case neg =>
              obtain rfl : q = j := by omega
              cases hh : haB ls y q with
              | true =>
                rw [if_pos hh] at HTW
                clear hh
                go_wp2
                go_roundw
                case rel => exact ⟨q + 1, by omega, by go_num, by rw [HL'.out], by rw [HG'.out], by rw [HTW.out], hbr.out⟩
                case measure => simp [intOf]; omega
              | false =>
                rw [if_neg (by rw [hh]; simp)] at HTW
                clear hh
                go_wp2
                go_roundw
                case rel => exact ⟨q + 1, by omega, by go_num, by rw [HL'.out], by rw [HG'.out], by rw [HTW.out], hbr.out⟩
                case measure => simp [intOf]; omega
            case pos =>
            obtain ⟨-, e1⟩ := HC.out wr hbr.out q (by omega)
            obtain ⟨-, e2⟩ := HC.out wr hbr.out j hlt
            rw [HY.out] at e2
            have HHB : Hid (haB ls y (q + 1) = (haB ls y q || ls[q].s == y)) := by show _ = _; rw [haB, kAt_eq (by omega)]
            obtain ⟨z, hz⟩ : ∃ z, ls[q].s = z := ⟨_, rfl⟩
            rw [hz] at e1 HHB
            have hq1 : (0 : Int) ≤ (q : Int) := by omega
            have hq2 : (q : Int) < (ls.length : Int) := by omega
            clear hz
            cases hh : haB ls y q with
            | true =>
              rw [hh] at HHB
              go_wp2
              go_quiet (fail)
              go_wp2
              go_roundw
              case rel => exact ⟨q + 1, by omega, by go_num, by rw [HHB.out]; rfl, below_drewN hbr.out _⟩
              case measure => simp [intOf]; omega
            | false =>
              rw [hh] at HHB
              go_wp2
              go_quiet (fail)
              go_wp2
              go_roundw
              case rel => exact ⟨q + 1, by omega, by go_num, by rw [HHB.out]; rfl, below_drewN hbr.out _⟩
              case measure => simp [intOf]; omega

end Go.Proofs.Ytlgogikogmndmaa

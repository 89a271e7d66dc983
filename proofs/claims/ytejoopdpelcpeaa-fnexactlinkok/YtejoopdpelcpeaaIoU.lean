/- The program's unitsOk; no condition. -/
import Derived.Test.YtejoopdpelcpeaaIoA
namespace Go.Proofs.Ytejoopdpelcpeaa
open Go.RowKit Go.ChangeShapes Go.WideShapes Go.ChangeAt
set_option linter.unusedVariables false
set_option linter.unusedSimpArgs false
set_option maxRecDepth 8000
set_option maxHeartbeats 6400000 in
theorem units_c (v vo vi : Value) (l : Uns) (s a t : Int) (zo zi : Txs) (w : World) (hl : Ru w v l) (ho : Rx w vo zo) (hi : Rx w vi zi) (hs : s ≤ (zo.length : Int)) :
    Calls Try.prog 43 #[v, .agg (E5 vo vi s a t)] w (Bo (UsP zo s t l) w) := by
  obtain ⟨W0, hW0⟩ : ∃ W0, w.alloc (Obj.cells (E5 vo vi s a t) 26) = W0 := ⟨_, rfl⟩
  have hb0 : Below w.heap.size w W0 := by rw [← hW0]; exact (Below.refl _ _).alloc (Nat.le_refl _) _
  have HB : Hid (Below w.heap.size w W0) := hb0
  have K0 : Hid (Blk W0 w.heap.size (E5 vo vi s a t) 26) := by rw [← hW0]; exact Blk.new _ _ _
  have HO : Hid (Rx W0 vo zo) := ho.below hb0
  have HI : Hid (Rx W0 vi zi) := hi.below hb0
  obtain ⟨a0, p0, hv0, c0, q0, -⟩ := ho.below hb0
  obtain ⟨a1, p1, hv1, c1, q1, -⟩ := hi.below hb0
  obtain ⟨a2, p2, hv2, c2, q2, D2⟩ := hl.below hb0
  subst hv0 hv1 hv2
  unfold maxLen at q0 q1 q2
  have E2 : Hid (l = [] ∨ ∃ b off, a2 = some ⟨b, off, none⟩ ∧ ∀ i (h : i < l.length), W0.cell? ⟨b, off + i * 3, none⟩ = some (.int .i64 l[i].ack) ∧ W0.cell? ⟨b, off + i * 3 + 1, none⟩ = some (.int .i64 l[i].seq) ∧ W0.cell? ⟨b, off + i * 3 + 2, none⟩ = some (.string l[i].dat)) := D2
  clear ho hi hl hb0 D2
  by_cases h100 : 100 < l.length
  · have h' : (100 : Int) < (l.length : Int) := by omega
    go_enter Try.func43, Try.ntmps43
    go_wp2
    go_ret
    exact Bo.no (fun x => by have := x.1; omega) HB.out
  have h100' : ((100 : Int) < (l.length : Int)) = False := eq_false (by omega)
  go_enter Try.func43, Try.ntmps43
  go_wp2
  clear hW0
  go_loopw [12] (fun i wr => ∃ j : Nat, j ≤ l.length ∧ i = .int .i64 j ∧ Hid (Below W0.heap.size W0 wr) ∧ Hid (∀ k (h : k < l.length), k < j → UnP zo s t l[k])) (fun i _ => l.length - (intOf i).toNat)
  case atStart => exact ⟨0, Nat.zero_le _, rfl, Below.refl _ _, fun k h hk => absurd hk (by omega)⟩
  case round =>
    obtain ⟨j, hj, rfl, hbr, hA⟩ := hrel
    have HW : Hid (Below w.heap.size w wr) := belowCall HB.out hbr.out HB.out.size
    by_cases hlt : j < l.length
    case neg =>
      obtain rfl : j = l.length := by omega
      clear hlt
      go_wp2
      go_ret
      exact Bo.yes ⟨by omega, fun r hr => by
        obtain ⟨i, hi, rfl⟩ := List.getElem_of_mem hr
        exact hA.out i hi hi⟩ HW.out
    have hji : (j : Int) < (l.length : Int) := by omega
    have hj0 : (0 : Int) ≤ (j : Int) := by omega
    rcases E2.out with h3 | ⟨b, off, rfl, h4⟩
    · subst h3; simp at hlt
    obtain ⟨⟨k, q, d⟩, hr⟩ : ∃ r, l[j] = r := ⟨_, rfl⟩
    have HRr : Hid (l[j] = ⟨k, q, d⟩) := hr
    have hc := h4 j hlt
    rw [hr] at hc
    have hcb : b < W0.heap.size := block_lt_of_cell hc.1
    have e0 := (hbr.out.cell (p := ⟨b, off + j * 3, none⟩) hcb).trans hc.1
    have e1 := (hbr.out.cell (p := ⟨b, off + j * 3 + 1, none⟩) hcb).trans hc.2.1
    have e2 := (hbr.out.cell (p := ⟨b, off + j * 3 + 2, none⟩) hcb).trans hc.2.2
    dsimp only at e0 e1 e2
    obtain ⟨W1, hW1⟩ : ∃ W, wr.alloc (Obj.cells (U3 ⟨k, q, d⟩) 78) = W := ⟨_, rfl⟩
    have b1 : Below wr.heap.size wr W1 := by rw [← hW1]; exact (Below.refl _ _).alloc (Nat.le_refl _) _
    have B1 : Hid (Below W0.heap.size W0 W1) := belowCall hbr.out b1 hbr.out.size
    have HW1 : Hid (Below w.heap.size w W1) := belowCall HW.out b1 HW.out.size
    have KU : Hid (Blk W1 wr.heap.size (U3 ⟨k, q, d⟩) 78) := by rw [← hW1]; exact Blk.new _ _ _
    have KE := K0.out.below B1.out K0.out.lt
    have u0 : ∀ W : Ov W1, W.wd.cell? ⟨wr.heap.size, 0, none⟩ = some (.int .i64 k) := ov_cell (KU.out.cell 0)
    have u1 : ∀ W : Ov W1, W.wd.cell? ⟨wr.heap.size, 1, none⟩ = some (.int .i64 q) := ov_cell (KU.out.cell 1)
    have u2 : ∀ W : Ov W1, W.wd.cell? ⟨wr.heap.size, 2, none⟩ = some (.string d) := ov_cell (KU.out.cell 2)
    have g0 : ∀ W : Ov W1, W.wd.cell? ⟨w.heap.size, 0, none⟩ = some (.slice a0 zo.length p0) := ov_cell (KE.cell 0)
    have g1 : ∀ W : Ov W1, W.wd.cell? ⟨w.heap.size, 1, none⟩ = some (.int .i64 s) := ov_cell (KE.cell 1)
    have g2 : ∀ W : Ov W1, W.wd.cell? ⟨w.heap.size, 2, none⟩ = some (.int .i64 a) := ov_cell (KE.cell 2)
    have g3 : ∀ W : Ov W1, W.wd.cell? ⟨w.heap.size, 3, none⟩ = some (.int .i64 t) := ov_cell (KE.cell 3)
    have g4 : ∀ W : Ov W1, W.wd.cell? ⟨w.heap.size, 4, none⟩ = some (.slice a1 zi.length p1) := ov_cell (KE.cell 4)
    have ne : Nonempty (Ov W1) := ⟨⟨_, Below.refl _ _⟩⟩
    clear h4 hc hr KE b1
    have HNo : Hid (∀ W : World, ¬ UnP zo s t ⟨k, q, d⟩ → Below W1.heap.size W1 W → Bo (UsP zo s t l) w (.returned (.bool false)) W) := fun W hn hb => Bo.no (fun x => hn (by have := x.2 _ (List.getElem_mem hlt); rw [HRr.out] at this; exact this)) (belowCall HW1.out hb HW1.out.size)
    by_cases hk : 0 ≤ k ∧ k ≤ t
    case neg =>
      have HC : Hid (∀ W : Ov W1, Calls Try.prog 40 #[.int .i64 k, .int .i64 0, .int .i64 t] W.wd fun e w'' => e = .returned (.bool false) ∧ ∃ W' : Ov W1, w'' = W'.wd) := fun W => (within_c k 0 t W.wd).mono fun e w' ⟨he, hw⟩ => ⟨by rw [he, decide_eq_false hk], W, hw⟩
      have HN2 : Hid (¬ UnP zo s t ⟨k, q, d⟩) := fun x => hk x.1
      clear hk
      go_wp2
      refine region_over (by kernel_rfl) (by kernel_rfl) ?_
      repeat (go_big_quiet_step (first | (go_at_call 40; exact HC.out _)))
      refine wpQuiet_nil ?_
      rintro _ ⟨V, rfl⟩
      clear HC
      go_wp2
      go_ret
      exact HNo.out _ HN2.out V.ok
    have HC : Hid (∀ W : Ov W1, Calls Try.prog 40 #[.int .i64 k, .int .i64 0, .int .i64 t] W.wd fun e w'' => e = .returned (.bool true) ∧ ∃ W' : Ov W1, w'' = W'.wd) := fun W => (within_c k 0 t W.wd).mono fun e w' ⟨he, hw⟩ => ⟨by rw [he, decide_eq_true hk], W, hw⟩
    by_cases hq : 0 ≤ q ∧ q ≤ s
    case neg =>
      have HC2 : Hid (∀ W : Ov W1, Calls Try.prog 40 #[.int .i64 q, .int .i64 0, .int .i64 s] W.wd fun e w'' => e = .returned (.bool false) ∧ ∃ W' : Ov W1, w'' = W'.wd) := fun W => (within_c q 0 s W.wd).mono fun e w' ⟨he, hw⟩ => ⟨by rw [he, decide_eq_false hq], W, hw⟩
      have HN2 : Hid (¬ UnP zo s t ⟨k, q, d⟩) := fun x => hq x.2.1
      clear hk hq
      go_wp2
      refine region_over (by kernel_rfl) (by kernel_rfl) ?_
      repeat (go_big_quiet_step (first | (go_at_call 40; first | with_reducible exact HC.out _ | with_reducible exact HC2.out _)))
      refine wpQuiet_nil ?_
      rintro _ ⟨V, rfl⟩
      clear HC HC2
      go_wp2
      go_ret
      exact HNo.out _ HN2.out V.ok
    have HC2 : Hid (∀ W : Ov W1, Calls Try.prog 40 #[.int .i64 q, .int .i64 0, .int .i64 s] W.wd fun e w'' => e = .returned (.bool true) ∧ ∃ W' : Ov W1, w'' = W'.wd) := fun W => (within_c q 0 s W.wd).mono fun e w' ⟨he, hw⟩ => ⟨by rw [he, decide_eq_true hq], W, hw⟩
    obtain ⟨m, hm⟩ : ∃ m, msg zo q = m := ⟨_, rfl⟩
    have HMq : Hid (msg zo q = m) := hm
    have HC3 : Hid (∀ W : Ov W1, Calls Try.prog 75 #[.agg (E5 (.slice a0 zo.length p0) (.slice a1 zi.length p1) s a t), .int .i64 q] W.wd fun e w'' => e = .returned (.string m) ∧ ∃ W' : Ov W1, w'' = W'.wd) := fun W => ov_call ((msg_c _ _ s a t zo zi q W.wd ((HO.out.below B1.out).below W.ok) ((HI.out.below B1.out).below W.ok) hq.1 (by omega)).mono fun e w' ⟨he, hb⟩ => ⟨by rw [he, hm], hb⟩)
    have HKQ : Hid ((0 ≤ k ∧ k ≤ t) ∧ (0 ≤ q ∧ q ≤ s)) := ⟨hk, hq⟩
    clear hk hq hm
    go_wp2
    refine region_over (by kernel_rfl) (by kernel_rfl) ?_
    repeat (go_big_quiet_step (first | (go_at_call 40; first | with_reducible exact HC.out _ | with_reducible exact HC2.out _) | (go_at_call 75; exact HC3.out _)))
    refine wpQuiet_nil ?_
    rintro _ ⟨V, rfl⟩
    have HBV : Hid (Below W0.heap.size W0 V.wd) := belowCall B1.out V.ok B1.out.size
    clear HC HC2 HC3
    go_wp2
    · have hn : (d.toList != m.toList) = true := by assumption
      have hg : ¬ d.toList = m.toList := by simpa using hn
      go_ret
      exact HNo.out _ (fun x => hg (by have := x.2.2; rw [HMq.out] at this; exact this)) V.ok
    · have he : (d.toList != m.toList) = false := by assumption
      have hg : d.toList = m.toList := by simpa using he
      go_roundw
      case rel => exact ⟨j + 1, by omega, by go_num, HBV.out, fun i h hi => by
        by_cases hij : i < j
        · exact hA.out i h hij
        · obtain rfl : i = j := by omega
          rw [HRr.out]
          exact ⟨HKQ.out.1, HKQ.out.2, by rw [HMq.out]; exact hg⟩⟩
      case measure => simp [intOf]; omega
end Go.Proofs.Ytejoopdpelcpeaa

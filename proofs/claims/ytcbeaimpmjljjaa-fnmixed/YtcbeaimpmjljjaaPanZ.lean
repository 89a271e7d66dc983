/- Contracts of the laws' helpers that copy and measure panels; no condition. -/
import Derived.Test.YtcbeaimpmjljjaaPanT
namespace Go.Proofs.Ytcbeaimpmjljjaa
open Go.RowKit Go.ChangeShapes Go.WideShapes Go.ChangeAt
set_option linter.unusedVariables false
set_option linter.unusedSimpArgs false
theorem size30 : (Try.prog.info? 26).map (·.size) = some 2 := by kernel_rfl
set_option maxHeartbeats 800000 in
theorem toPanel_c (n : Int) (v : Value) (cs : List (Bool × List (Int × Bool))) (w : World) (h : RdC w v cs) (hn : cs.length ≤ 1048576) (hm : ∀ c ∈ cs, c.2.length ≤ 1048576) :
   Calls Try.prog 32 #[.agg #[.int .i64 n, v]] w fun e w' => ∃ v', e = .returned (.agg #[.int .i64 n, v']) ∧ OwC w.heap.size w' v' cs ∧ Below w.heap.size w w' := by
  have hb : Below w.heap.size w (((w.alloc (Obj.cells #[.int .i64 n, v] 55)).alloc (Obj.cells #[.int .i64 0, .slice none 0 0] 26)).alloc (Obj.cells #[.int .i64 n, .slice none 0 0] 26)) := (((Below.refl _ _).alloc (Nat.le_refl _) _).alloc (by simp) _).alloc (by simp; omega) _
  have HB : Hid _ := hb
  have HH : Hid (RdC (((w.alloc (Obj.cells #[.int .i64 n, v] 55)).alloc (Obj.cells #[.int .i64 0, .slice none 0 0] 26)).alloc (Obj.cells #[.int .i64 n, .slice none 0 0] 26)) v cs) := h.below hb
  have k1 : Blk (((w.alloc (Obj.cells #[.int .i64 n, v] 55)).alloc (Obj.cells #[.int .i64 0, .slice none 0 0] 26)).alloc (Obj.cells #[.int .i64 n, .slice none 0 0] 26)) (w.heap.size + 1) #[.int .i64 0, .slice none 0 0] 26 := (Blk.newAt _ (w.heap.size + 1) _ 26 (by simp)).alloc _
  have k2 : Blk (((w.alloc (Obj.cells #[.int .i64 n, v] 55)).alloc (Obj.cells #[.int .i64 0, .slice none 0 0] 26)).alloc (Obj.cells #[.int .i64 n, .slice none 0 0] 26)) (w.heap.size + 1 + 1) #[.int .i64 n, .slice none 0 0] 26 := Blk.newAt _ (w.heap.size + 1 + 1) _ 26 (by simp)
  have K : Hid (Blk _ _ _ _ ∧ Blk _ _ _ _) := ⟨k1, k2⟩
  obtain ⟨lv0, -, ⟨a, cap, rfl, -⟩, -⟩ := h
  generalize lv0.length = m at *
  clear hb k1 k2
  go_enter Try.func32, Try.ntmps32
  go_wp2_with (fail)
  refine (toCallS_c _ _ _ HH.out hn hm).mono ?_
  rintro e w2 ⟨v', rfl, ho, b2⟩
  have q1 := K.out.1.below b2 (by simp)
  have q2 := K.out.2.below b2 (by simp)
  have hbb := belowCall HB.out b2 HB.out.size
  obtain ⟨lv, hl, hO, hL⟩ := ho
  obtain ⟨a', cap', rfl, -⟩ := hO.rd
  rw [hl] at hO hL ⊢
  have hoff : ∀ k, k < w.heap.size + 3 → (Value.slice a' cs.length cap').ownBlock ≠ some k := fun k hk e => by
    have := (World.ownsRow.lt hO k e).1
    simp at this; omega
  have hoffL : ∀ k, k < w.heap.size + 3 → ∀ i (h : i < lv.length) (h' : i < cs.length), lv[i].2.ownBlock ≠ some k := fun k hk i h h' e => by
    have := (World.ownsRow.lt (hL i h h').2.1 k e).1
    simp at this; omega
  have keep : ∀ (W W' : World) (k : Nat), k < w.heap.size + 3 → W.grownBy W' (some k) → (Op Prod.fst Prod.snd 45 w.heap.size W (.slice a' cs.length cap') lv ∧ OwL w.heap.size W (Value.slice a' cs.length cap').ownBlock lv cs) → (Op Prod.fst Prod.snd 45 w.heap.size W' (.slice a' cs.length cap') lv ∧ OwL w.heap.size W' (Value.slice a' cs.length cap').ownBlock lv cs) := by
    intro W W' k hk hg hh
    refine ⟨World.ownsRow.kept hh.1 hg (.inr (hoff k hk)), fun i h1 h2 => ?_⟩
    obtain ⟨q1, q2, q3, q4⟩ := hh.2 i h1 h2
    exact ⟨q1, World.ownsRow.kept q2 hg (.inr (hoffL k hk i h1 h2)), q3, q4⟩
  have start : Op Prod.fst Prod.snd 45 w.heap.size w2 (.slice a' cs.length cap') lv ∧ OwL w.heap.size w2 (Value.slice a' cs.length cap').ownBlock lv cs :=
    ⟨hO.mono (by simp; omega), fun i h1 h2 => by obtain ⟨q1, q2, q3, q4⟩ := hL i h1 h2; exact ⟨q1, q2.mono (by simp; omega), q3, q4⟩⟩
  have c0 := q2.cell 0
  have c1 := q2.cell 1
  have f0 := q2.frozen 0
  have f1 := q2.frozen 1
  have d0 := q1.cell 0
  have d1 := q1.cell 1
  have e0 := q1.frozen 0
  have e1 := q1.frozen 1
  simp at c0 c1 d0 d1
  have Q1 := ((q1.other ⟨w.heap.size + 1 + 1, 1, none⟩ (.slice a' cs.length cap') (by simp)).set 0 (.int .i64 n)).set 1 (.slice a' cs.length cap')
  have H1 : Hid _ := Q1
  have g1 := keep _ _ _ (by omega) (grown_set w2 (w.heap.size + 1 + 1) 1 (.slice a' cs.length cap')) start
  have g2 := keep _ _ _ (by omega) (grown_set _ (w.heap.size + 1) 0 (.int .i64 n)) g1
  have g3 := keep _ _ _ (by omega) (grown_set _ (w.heap.size + 1) 1 (.slice a' cs.length cap')) g2
  have G3 : Hid _ := g3
  have HL : Hid (lv.length = cs.length) := hl
  have b3 : Below w.heap.size w (((w2.setCell ⟨w.heap.size + 1 + 1, 1, none⟩ (.slice a' cs.length cap')).setCell ⟨w.heap.size + 1, 0, none⟩ (.int .i64 n)).setCell ⟨w.heap.size + 1, 1, none⟩ (.slice a' cs.length cap')) := ((hbb.setCell (by dsimp only; omega) _).setCell (by dsimp only; omega) _).setCell (by dsimp only; omega) _
  have B3 : Hid _ := b3
  clear K HB HH q1 q2 Q1 g1 g2 g3 b3 hoff hoffL keep start hO hL hl hbb b2
  go_wp2
  exact bodyPost_ret (v := .agg #[.int .i64 n, .slice a' cs.length cap']) (results_cell_row rfl _ _ _ 26 _ (0, 0) _ rfl H1.out Try.underlying26 rfl size30) rfl ⟨_, rfl, ⟨lv, HL.out, G3.out.1, G3.out.2⟩, B3.out⟩
/-- what is left of a number of cells, behind n of them -/
def lft (left : Int) (n : Nat) : Int := if left - n < 0 then -1 else left - n
theorem szLegS_c (v : Value) (ls : List (Int × Bool)) (left : Int) (w : World) (h : Rp lf lg w v ls) (h0 : 0 ≤ left) (h1 : left ≤ 1048576) :
   Calls Try.prog 110 #[v, .int .i64 left] w fun e w' => e = .returned (.int .i64 (lft left ls.length)) ∧ w' = w := by
  obtain ⟨a, cap, rfl, h2, h3, -⟩ := h
  unfold maxLen at h3
  go_enter Try.func110, Try.ntmps110
  by_cases hl : left - ls.length < 0
  · go_wp2
    go_ret
    exact ⟨by simp [lft, hl], rfl⟩
  · have hq : lft left ls.length = left - ls.length := by simp only [lft]; rw [if_neg hl]
    go_wp2
    go_ret
    exact ⟨by first | rfl | (rw [hq]; rfl), rfl⟩
set_option maxHeartbeats 800000 in
theorem szCall_c (p : Bool) (v : Value) (ls : List (Int × Bool)) (left : Int) (w : World) (h : Rp lf lg w v ls) (h0 : 0 ≤ left) (h1 : left ≤ 1048576) :
   Calls Try.prog 90 #[.agg #[.bool p, v], .int .i64 left] w fun e w' => e = .returned (.int .i64 (lft left ls.length)) ∧ Below w.heap.size w w' := by
  have hb : Below w.heap.size w (w.alloc (Obj.cells #[.bool p, v] 135)) := (Below.refl _ _).alloc (Nat.le_refl _) _
  have HB : Hid _ := hb
  have HH : Hid (Rp lf lg (w.alloc (Obj.cells #[.bool p, v] 135)) v ls) := h.below hb
  obtain ⟨a, cap, rfl, -⟩ := h
  clear hb
  go_enter Try.func90, Try.ntmps90
  by_cases hl : left - ls.length < 0
  · have hq : lft left ls.length = -1 := by simp [lft, hl]
    go_wp2_with (go_at_call 110; refine (szLegS_c _ _ _ _ HH.out h0 h1).mono ?_; rintro e w2 ⟨rfl, rfl⟩; rw [hq])
    go_ret
    exact ⟨by rw [hq]; rfl, HB.out⟩
  · have hq : lft left ls.length = left - ls.length := by simp only [lft]; rw [if_neg hl]
    go_wp2_with (go_at_call 110; refine (szLegS_c _ _ _ _ HH.out h0 h1).mono ?_; rintro e w2 ⟨rfl, rfl⟩; rw [hq])
    go_ret
    exact ⟨by rw [hq]; rfl, HB.out⟩
/-- how many legs the first j calls have -/
def legsTo (cs : List (Bool × List (Int × Bool))) : Nat → Nat
  | 0 => 0
  | j + 1 => legsTo cs j + (cs.getD j (false, [])).2.length
theorem legsTo_mono (cs : List (Bool × List (Int × Bool))) (j k : Nat) (h : j ≤ k) : legsTo cs j ≤ legsTo cs k := by
  induction k with
  | zero => obtain rfl : j = 0 := by omega
            exact Nat.le_refl _
  | succ k ih => by_cases hk : j = k + 1
                 · subst hk; exact Nat.le_refl _
                 · have := ih (by omega); simp only [legsTo]; omega
set_option maxHeartbeats 800000 in
theorem szCallS_c (v : Value) (cs : List (Bool × List (Int × Bool))) (left : Int) (w : World) (h : RdC w v cs) (h0 : 0 ≤ left) (hL : left ≤ 1048576) :
   Calls Try.prog 72 #[v, .int .i64 left] w fun e w' => e = .returned (.int .i64 (lft left (cs.length + legsTo cs cs.length))) ∧ Below w.heap.size w w' := by
  obtain ⟨rv, hrl, ⟨a, cap, rfl, h1, h2, h3⟩, hrc⟩ := h
  unfold maxLen at h2
  rw [hrl] at h1 ⊢
  have HRC : Hid (∀ i (h : i < cs.length) (h' : i < rv.length), rv[i].1 = .bool cs[i].1 ∧ Rp lf lg w rv[i].2 cs[i].2) := hrc
  have HRL : Hid (rv.length = cs.length) := hrl
  clear hrc hrl
  go_enter Try.func72, Try.ntmps72
  by_cases hl : left - cs.length < 0
  · have hq : lft left (cs.length + legsTo cs cs.length) = -1 := by simp only [lft]; rw [if_pos (by omega)]
    clear h3
    go_wp2
    go_ret
    exact ⟨by rw [hq]; rfl, Below.refl _ _⟩
  · go_wp2
    go_loopw [1, 5] (fun l i wr => ∃ j : Nat, j ≤ cs.length ∧ i = .int .i64 j ∧ l = .int .i64 (left - cs.length - legsTo cs j) ∧ (legsTo cs j : Int) ≤ left - cs.length ∧ Below w.heap.size w wr) (fun _ i _ => cs.length - (intOf i).toNat)
    case atStart => exact ⟨0, Nat.zero_le _, rfl, by simp [legsTo], by simp [legsTo]; omega, Below.refl _ _⟩
    case round =>
      obtain ⟨j, hj, rfl, rfl, hle, hbr⟩ := hrel
      by_cases hlt : j < cs.length
      · have hrj : j < rv.length := by have h := HRL.out; omega
        rcases h3 with h3 | ⟨b, off, rfl, h4⟩
        · subst h3; simp at hrj
        have hc := h4 j hrj
        have hE := HRC.out j hlt hrj
        have hcb : b < w.heap.size := block_lt_of_cell hc.1
        have hc0 : wr.cell? ⟨b, off + j * 2, none⟩ = some (.bool cs[j].1) := by rw [hbr.cell hcb, ← hE.1]; exact hc.1
        have hc1 : wr.cell? ⟨b, off + j * 2 + 1, none⟩ = some rv[j].2 := by rw [hbr.cell hcb]; exact hc.2
        have hE2 := hE.2
        obtain ⟨a2, cap2, e2, -⟩ := hE.2
        have hR := hE2.below hbr
        rw [e2] at hc1 hR
        have HR : Hid (Rp lf lg wr (Value.slice a2 cs[j].2.length cap2) cs[j].2) := hR
        have hstep : legsTo cs (j + 1) = legsTo cs j + cs[j].2.length := by simp [legsTo, List.getElem?_eq_getElem hlt]
        have hmo := legsTo_mono cs (j + 1) cs.length (by omega)
        have HM : Hid (legsTo cs (j + 1) ≤ legsTo cs cs.length) := hmo
        have HS : Hid (legsTo cs (j + 1) = legsTo cs j + cs[j].2.length) := hstep
        clear h4 hc hE hE2 hR HRC HRL e2 hstep hmo
        go_wp2_with (fail)
        refine (szCall_c _ _ _ _ _ HR.out (by omega) (by omega)).mono ?_
        rintro e w2 ⟨rfl, b2⟩
        have c2 := belowCall hbr b2 hbr.size
        clear hbr b2 HR
        by_cases hneg : left - cs.length - legsTo cs j - cs[j].2.length < 0
        · have hq : lft (left - cs.length - legsTo cs j) cs[j].2.length = -1 := by simp only [lft]; rw [if_pos hneg]
          have hq2 : lft left (cs.length + legsTo cs cs.length) = -1 := by
            have u1 := HM.out
            have u2 := HS.out
            simp only [lft]; rw [if_pos (by omega)]
          rw [hq]
          go_wp2
          go_ret
          exact ⟨by rw [hq2]; rfl, c2⟩
        · have hq : lft (left - cs.length - legsTo cs j) cs[j].2.length = left - cs.length - legsTo cs j - cs[j].2.length := by simp only [lft]; rw [if_neg hneg]
          rw [hq]
          clear hq
          go_wp2
          go_roundw
          case rel =>
            have u2 := HS.out
            exact ⟨j + 1, by omega, by go_num, by rw [u2]; exact val_int (by omega), by omega, c2⟩
          case measure => simp [intOf]; omega
      · obtain rfl : j = cs.length := by omega
        have hq : lft left (cs.length + legsTo cs cs.length) = left - cs.length - legsTo cs cs.length := by simp only [lft]; rw [if_neg (by omega)]; omega
        clear h3 HRC HRL
        go_wp2
        go_ret
        exact ⟨by rw [hq]; rfl, hbr⟩
theorem szPanel_c (n : Int) (v : Value) (cs : List (Bool × List (Int × Bool))) (left : Int) (w : World) (h : RdC w v cs) (h0 : 0 ≤ left) (h1 : left ≤ 1048576) :
   Calls Try.prog 31 #[.agg #[.int .i64 n, v], .int .i64 left] w fun e w' => e = .returned (.int .i64 (lft left (cs.length + legsTo cs cs.length))) ∧ Below w.heap.size w w' := by
  have hb : Below w.heap.size w (w.alloc (Obj.cells #[.int .i64 n, v] 55)) := (Below.refl _ _).alloc (Nat.le_refl _) _
  have HB : Hid _ := hb
  have HH : Hid (RdC (w.alloc (Obj.cells #[.int .i64 n, v] 55)) v cs) := h.below hb
  obtain ⟨lv0, -, ⟨a, cap, rfl, -⟩, -⟩ := h
  generalize lv0.length = m at *
  clear hb
  go_enter Try.func31, Try.ntmps31
  by_cases hl : left - (cs.length + legsTo cs cs.length : Nat) < 0
  · have hq : lft left (cs.length + legsTo cs cs.length) = -1 := by simp only [lft]; rw [if_pos hl]
    go_wp2_with (go_at_call 72; refine (szCallS_c _ _ _ _ HH.out h0 h1).mono ?_; rintro e w2 ⟨rfl, b2⟩; rw [hq])
    go_ret
    exact ⟨by rw [hq]; rfl, belowCall HB.out b2 HB.out.size⟩
  · have hq : lft left (cs.length + legsTo cs cs.length) = left - (cs.length + legsTo cs cs.length : Nat) := by simp only [lft]; rw [if_neg hl]
    go_wp2_with (go_at_call 72; refine (szCallS_c _ _ _ _ HH.out h0 h1).mono ?_; rintro e w2 ⟨rfl, b2⟩; rw [hq])
    go_ret
    exact ⟨by rw [hq]; rfl, belowCall HB.out b2 HB.out.size⟩
end Go.Proofs.Ytcbeaimpmjljjaa

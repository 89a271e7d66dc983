/- How large subs are; no condition. -/
import Derived.Test.YtfaflnhembceoaaSbA
namespace Go.Proofs.Ytfaflnhembceoaa
open Go.RowKit Go.ChangeShapes Go.WideShapes Go.ChangeAt
set_option linter.unusedVariables false
set_option linter.unusedSimpArgs false
set_option maxRecDepth 8000
def lft (left : Int) (n : Nat) : Int := if left - n < 0 then -1 else left - n
theorem szFts_c (v : Value) (ls : Fts) (left : Int) (w : World) (h : Rp mf mg w v ls) (h0 : 0 ≤ left) (h1 : left ≤ 1048576) :
   Calls Try.prog 81 #[v, .int .i64 left] w fun e w' => e = .returned (.int .i64 (lft left ls.length)) ∧ w' = w := by
  refine (szFeatureS_c v ls left w h h0 h1).mono ?_
  rintro e w' ⟨rfl, rfl⟩
  refine ⟨?_, rfl⟩
  rw [lft]
  by_cases g : left < (ls.length : Int)
  · rw [if_pos g, if_pos (by omega)]
  · rw [if_neg g, if_neg (by omega)]

set_option maxHeartbeats 800000 in
theorem szSub_c (p q : Bool) (v : Value) (ls : Fts) (left : Int) (w : World) (h : Rp mf mg w v ls) (h0 : 0 ≤ left) (h1 : left ≤ 1048576) :
   Calls Try.prog 56 #[.agg (S3 p q v), .int .i64 left] w fun e w' => e = .returned (.int .i64 (lft left ls.length)) ∧ Below w.heap.size w w' := by
  have hb : Below w.heap.size w (w.alloc (Obj.cells (S3 p q v) 88)) := (Below.refl _ _).alloc (Nat.le_refl _) _
  have HB : Hid _ := hb
  have HH : Hid (Rp mf mg (w.alloc (Obj.cells (S3 p q v) 88)) v ls) := h.below hb
  obtain ⟨a, cap, rfl, -⟩ := h
  clear hb
  go_enter Try.func56, Try.ntmps56
  by_cases hl : left - ls.length < 0
  · have hq : lft left ls.length = -1 := by simp [lft, hl]
    go_wp2_with (go_at_call 81; refine (szFts_c _ _ _ _ HH.out h0 h1).mono ?_; rintro e w2 ⟨rfl, b2⟩; rw [hq])
    go_ret
    exact ⟨by rw [hq]; rfl, (by subst b2; exact HB.out)⟩
  · have hq : lft left ls.length = left - ls.length := by simp only [lft]; rw [if_neg hl]
    go_wp2_with (go_at_call 81; refine (szFts_c _ _ _ _ HH.out h0 h1).mono ?_; rintro e w2 ⟨rfl, b2⟩; rw [hq])
    go_ret
    exact ⟨by rw [hq]; rfl, (by subst b2; exact HB.out)⟩
/-- how many features the first j subs have -/
def ftsTo (cs : Sbs) : Nat → Nat
  | 0 => 0
  | j + 1 => ftsTo cs j + (cs.getD j (false, false, [])).2.2.length
theorem ftsTo_mono (cs : Sbs) (j k : Nat) (h : j ≤ k) : ftsTo cs j ≤ ftsTo cs k := by
  induction k with
  | zero => obtain rfl : j = 0 := by omega
            exact Nat.le_refl _
  | succ k ih => by_cases hk : j = k + 1
                 · subst hk; exact Nat.le_refl _
                 · have := ih (by omega); simp only [ftsTo]; omega
set_option maxHeartbeats 800000 in
theorem szSubS_c (v : Value) (cs : Sbs) (left : Int) (w : World) (h : RdS w v cs) (h0 : 0 ≤ left) (hL : left ≤ 1048576) :
   Calls Try.prog 22 #[v, .int .i64 left] w fun e w' => e = .returned (.int .i64 (lft left (cs.length + ftsTo cs cs.length))) ∧ Below w.heap.size w w' := by
  obtain ⟨rv, hrl, ⟨a, cap, rfl, h1, h2, h3⟩, hrc⟩ := h
  unfold maxLen at h2
  rw [hrl] at h1 ⊢
  have HRC : Hid (∀ i (h : i < cs.length) (h' : i < rv.length), rv[i].1 = .bool cs[i].1 ∧ rv[i].2.1 = .bool cs[i].2.1 ∧ Rp mf mg w rv[i].2.2 cs[i].2.2) := hrc
  have HRL : Hid (rv.length = cs.length) := hrl
  clear hrc hrl
  go_enter Try.func22, Try.ntmps22
  by_cases hl : left - cs.length < 0
  · have hq : lft left (cs.length + ftsTo cs cs.length) = -1 := by simp only [lft]; rw [if_pos (by omega)]
    clear h3
    go_wp2
    go_ret
    exact ⟨by rw [hq]; rfl, Below.refl _ _⟩
  · go_wp2
    go_loopw [1, 5] (fun l i wr => ∃ j : Nat, j ≤ cs.length ∧ i = .int .i64 j ∧ l = .int .i64 (left - cs.length - ftsTo cs j) ∧ (ftsTo cs j : Int) ≤ left - cs.length ∧ Below w.heap.size w wr) (fun _ i _ => cs.length - (intOf i).toNat)
    case atStart => exact ⟨0, Nat.zero_le _, rfl, by simp [ftsTo], by simp [ftsTo]; omega, Below.refl _ _⟩
    case round =>
      obtain ⟨j, hj, rfl, rfl, hle, hbr⟩ := hrel
      by_cases hlt : j < cs.length
      · have hrj : j < rv.length := by have h := HRL.out; omega
        rcases h3 with h3 | ⟨b, off, rfl, h4⟩
        · subst h3; simp at hrj
        have hc := h4 j hrj
        have hE := HRC.out j hlt hrj
        have hcb : b < w.heap.size := block_lt_of_cell hc.1
        have hc0 : wr.cell? ⟨b, off + j * 3, none⟩ = some (.bool cs[j].1) := by rw [hbr.cell hcb, ← hE.1]; exact hc.1
        have hc1 : wr.cell? ⟨b, off + j * 3 + 1, none⟩ = some (.bool cs[j].2.1) := by rw [hbr.cell hcb, ← hE.2.1]; exact hc.2.1
        have hc2 : wr.cell? ⟨b, off + j * 3 + 2, none⟩ = some rv[j].2.2 := by rw [hbr.cell hcb]; exact hc.2.2
        have hE2 := hE.2.2
        obtain ⟨a2, cap2, e2, -⟩ := hE.2.2
        have hR := hE2.below hbr
        rw [e2] at hc2 hR
        have HR : Hid (Rp mf mg wr (Value.slice a2 cs[j].2.2.length cap2) cs[j].2.2) := hR
        have hstep : ftsTo cs (j + 1) = ftsTo cs j + cs[j].2.2.length := by simp [ftsTo, List.getElem?_eq_getElem hlt]
        have hmo := ftsTo_mono cs (j + 1) cs.length (by omega)
        have HM : Hid (ftsTo cs (j + 1) ≤ ftsTo cs cs.length) := hmo
        have HS : Hid (ftsTo cs (j + 1) = ftsTo cs j + cs[j].2.2.length) := hstep
        clear h4 hc hE hE2 hR HRC HRL e2 hstep hmo
        go_wp2_with (fail)
        refine (szSub_c _ _ _ _ _ _ HR.out (by omega) (by omega)).mono ?_
        rintro e w2 ⟨rfl, b2⟩
        have c2 := belowCall hbr b2 hbr.size
        clear hbr b2 HR
        by_cases hneg : left - cs.length - ftsTo cs j - cs[j].2.2.length < 0
        · have hq : lft (left - cs.length - ftsTo cs j) cs[j].2.2.length = -1 := by simp only [lft]; rw [if_pos hneg]
          have hq2 : lft left (cs.length + ftsTo cs cs.length) = -1 := by
            have u1 := HM.out
            have u2 := HS.out
            simp only [lft]; rw [if_pos (by omega)]
          rw [hq]
          go_wp2
          go_ret
          exact ⟨by rw [hq2]; rfl, c2⟩
        · have hq : lft (left - cs.length - ftsTo cs j) cs[j].2.2.length = left - cs.length - ftsTo cs j - cs[j].2.2.length := by simp only [lft]; rw [if_neg hneg]
          rw [hq]
          clear hq
          go_wp2
          go_roundw
          case rel =>
            have u2 := HS.out
            exact ⟨j + 1, by omega, by go_num, by rw [u2]; exact val_int (by omega), by omega, c2⟩
          case measure => simp [intOf]; omega
      · obtain rfl : j = cs.length := by omega
        have hq : lft left (cs.length + ftsTo cs cs.length) = left - cs.length - ftsTo cs cs.length := by simp only [lft]; rw [if_neg (by omega)]; omega
        clear h3 HRC HRL
        go_wp2
        go_ret
        exact ⟨by rw [hq]; rfl, hbr⟩
end Go.Proofs.Ytfaflnhembceoaa

/- Rules copied, measured, compared; no condition. -/
import Derived.Test.YtpnglbnebkggkaaRsI
namespace Go.Proofs.Ytpnglbnebkggkaa
open Go.RowKit Go.ChangeShapes Go.WideShapes Go.ChangeAt
set_option linter.unusedVariables false
set_option linter.unusedSimpArgs false
set_option maxRecDepth 8000
set_option maxHeartbeats 3200000 in
theorem toRuleS_c (v : Value) (ls : Rls) (w : World) (h : Rr w v ls) (hn : ls.length ≤ 1048576) :
   Calls Try.prog 18 #[v] w fun e w' => ∃ v', e = .returned v' ∧ Orr 31 w.heap.size w' v' ls ∧ Below w.heap.size w w' := by
  obtain ⟨a, cap, rfl, h1, h2, h3⟩ := h
  unfold maxLen at h2
  obtain ⟨i0, hi, hz0, hz1, hz2⟩ := info_parts infoRule
  go_enter Try.func18, Try.ntmps18
  go_wp2_with (at_make; refine wpList_make_full _ rfl _ _ 24 rfl w.heap.size 31 i0 (.agg (R6 r0)) 6 Try.underlying24 hi hz0 hz1 .i64 .i64 _ _ ls.length rfl rfl rfl rfl (by rw [hz2]; omega) (by unfold maxLen; omega) (Nat.le_refl _) ?_)
  intro w1 ho hg
  have hx : w1.ownsRow w.heap.size 31 6 (.slice (some ⟨w.heap.size, 0, none⟩) ls.length ls.length) ls.length (rr (fil r0 ls 0)) := by
    have e : rr (fil r0 ls 0) = (madeCells (R6 r0) (ls.length * 6)).toList := by rw [rr_replicate r0 ls.length]; simp [fil]
    rw [e]; exact ho
  have hb : Below w.heap.size w w1 := grown_below hg (Nat.le_refl _) (by simp)
  clear hg ho
  go_wp2
  go_loopw [4] (fun i wr => ∃ j : Nat, j ≤ ls.length ∧ i = .int .i64 j ∧ wr.ownsRow w.heap.size 31 6 (.slice (some ⟨w.heap.size, 0, none⟩) ls.length ls.length) ls.length (rr (fil r0 ls j)) ∧ Below w.heap.size w wr) (fun i _ => ls.length - (intOf i).toNat)
  case atStart => exact ⟨0, Nat.zero_le _, rfl, hx, hb⟩
  case round =>
    obtain ⟨j, hj, rfl, hw, hbr⟩ := hrel
    clear hx hb
    by_cases hlt : j < ls.length
    · rcases h3 with h3 | ⟨b, off, rfl, h4⟩
      · subst h3; simp at hlt
      have hc := h4 j hlt
      have hcb : b < w.heap.size := block_lt_of_cell hc.1
      obtain ⟨r, hr⟩ : ∃ r, ls[j] = r := ⟨_, rfl⟩
      have HR : Hid (ls[j] = r) := hr
      rw [hr] at hc
      have e0 := (hbr.cell (p := ⟨b, off + j * 6, none⟩) hcb).trans hc.1
      have e1 := (hbr.cell (p := ⟨b, off + j * 6 + 1, none⟩) hcb).trans hc.2.1
      have e2 := (hbr.cell (p := ⟨b, off + j * 6 + 2, none⟩) hcb).trans hc.2.2.1
      have e3 := (hbr.cell (p := ⟨b, off + j * 6 + 3, none⟩) hcb).trans hc.2.2.2.1
      have e4 := (hbr.cell (p := ⟨b, off + j * 6 + 4, none⟩) hcb).trans hc.2.2.2.2.1
      have e5 := (hbr.cell (p := ⟨b, off + j * 6 + 5, none⟩) hcb).trans hc.2.2.2.2.2
      clear h4 hc hr
      go_wp2_with (fail)
      refine (toRule_c r _).mono ?_
      rintro e w2 ⟨rfl, b2⟩
      have hw2 : w2.ownsRow w.heap.size 31 6 (.slice (some ⟨w.heap.size, 0, none⟩) ls.length ls.length) ls.length (rr (fil r0 ls j)) := World.ownsRow.kept (row := none) hw ⟨b2.os, b2.tape, b2.output, b2.size, fun k hk _ => b2.block k hk⟩ (by simp [Value.ownBlock])
      have c2 := belowCall hbr b2 hbr.size
      have hfl := fil_len r0 ls j hj
      have hO : Orr 31 w.heap.size w2 (.slice (some ⟨w.heap.size, 0, none⟩) (fil r0 ls j).length ls.length) (fil r0 ls j) := by rw [Orr, hfl]; exact hw2
      have hp := rr_at (fil r0 ls j) j (by omega)
      obtain ⟨y0, hd0⟩ : ∃ u, w2.cell? ⟨w.heap.size, j * 6, none⟩ = some u := ⟨_, (hw2.cellAt (j * 6) (by omega)).trans hp.1⟩
      obtain ⟨y1, hd1⟩ : ∃ u, w2.cell? ⟨w.heap.size, j * 6 + 1, none⟩ = some u := ⟨_, (hw2.cellAt (j * 6 + 1) (by omega)).trans hp.2.1⟩
      obtain ⟨y2, hd2⟩ : ∃ u, w2.cell? ⟨w.heap.size, j * 6 + 2, none⟩ = some u := ⟨_, (hw2.cellAt (j * 6 + 2) (by omega)).trans hp.2.2.1⟩
      obtain ⟨y3, hd3⟩ : ∃ u, w2.cell? ⟨w.heap.size, j * 6 + 3, none⟩ = some u := ⟨_, (hw2.cellAt (j * 6 + 3) (by omega)).trans hp.2.2.2.1⟩
      obtain ⟨y4, hd4⟩ : ∃ u, w2.cell? ⟨w.heap.size, j * 6 + 4, none⟩ = some u := ⟨_, (hw2.cellAt (j * 6 + 4) (by omega)).trans hp.2.2.2.2.1⟩
      obtain ⟨y5, hd5⟩ : ∃ u, w2.cell? ⟨w.heap.size, j * 6 + 5, none⟩ = some u := ⟨_, (hw2.cellAt (j * 6 + 5) (by omega)).trans hp.2.2.2.2.2⟩
      have hf0 := hw2.frozenAt (j * 6)
      have hf1 := hw2.frozenAt (j * 6 + 1)
      have hf2 := hw2.frozenAt (j * 6 + 2)
      have hf3 := hw2.frozenAt (j * 6 + 3)
      have hf4 := hw2.frozenAt (j * 6 + 4)
      have hf5 := hw2.frozenAt (j * 6 + 5)
      have hS := own_set6 hO j (by omega) ls[j]
      rw [fil_set, Orr, hfl, fil_len _ _ _ (by omega), HR.out] at hS
      have c3 : Below w.heap.size w ((((((w2.setCell ⟨w.heap.size, j * 6, none⟩ (.string r.pre)).setCell ⟨w.heap.size, j * 6 + 1, none⟩ (.int .i64 r.le)).setCell ⟨w.heap.size, j * 6 + 2, none⟩ (.int .i64 r.mo)).setCell ⟨w.heap.size, j * 6 + 3, none⟩ (.int .i64 r.ro)).setCell ⟨w.heap.size, j * 6 + 4, none⟩ (.int .i64 r.st)).setCell ⟨w.heap.size, j * 6 + 5, none⟩ (.string r.ad)) := ((((((c2.setCell (by simp) _).setCell (by simp) _).setCell (by simp) _).setCell (by simp) _).setCell (by simp) _).setCell (by simp) _)
      have HS : Hid _ := hS
      have HC : Hid _ := c3
      clear hw hbr hw2 c2 b2 hO hS c3 hp hfl
      go_wp2
      go_roundw
      case rel => exact ⟨j + 1, by omega, by go_num, HS.out, HC.out⟩
      case measure => simp [intOf]; omega
    · obtain rfl : j = ls.length := by omega
      rw [fil_full] at hw
      clear h3
      go_wp2
      go_ret
      exact ⟨_, rfl, hw, hbr⟩
/-- a rule's size is taken off what is left -/
def SzR (r : Rl) (left : Int) (w : World) (e : Ending) (w' : World) : Prop := ∃ z : Int, e = .returned (.int .i64 z) ∧ -1 ≤ z ∧ z ≤ left ∧ (0 ≤ z → (r.pre.size : Int) ≤ left ∧ (r.ad.size : Int) ≤ left) ∧ Below w.heap.size w w'
set_option maxHeartbeats 1600000 in
theorem szRule_c (r : Rl) (left : Int) (w : World) (h0 : 0 ≤ left) (hl : left ≤ 1048576) (hs : r.pre.size ≤ maxLen) (hs2 : r.ad.size ≤ maxLen) : Calls Try.prog 44 #[.agg (R6 r), .int .i64 left] w (SzR r left w) := by
  unfold maxLen at hs hs2
  have HB : Hid (Below w.heap.size w (w.alloc (Obj.cells (R6 r) 76))) := (Below.refl _ _).alloc (Nat.le_refl _) _
  obtain ⟨p, l, m, ro, st, ad⟩ := r
  dsimp only at hs hs2 HB ⊢
  by_cases h1 : left - (p.size : Int) < 0
  · go_enter Try.func44, Try.ntmps44
    go_wp2
    go_ret
    exact ⟨_, rfl, by omega, by omega, fun h => by omega, HB.out⟩
  by_cases h2 : left - (p.size : Int) - (ad.size : Int) < 0
  · go_enter Try.func44, Try.ntmps44
    go_wp2
    go_ret
    exact ⟨_, rfl, by omega, by omega, fun h => by omega, HB.out⟩
  · go_enter Try.func44, Try.ntmps44
    go_wp2
    go_ret
    exact ⟨_, rfl, by omega, by omega, fun h => ⟨by dsimp only; omega, by dsimp only; omega⟩, HB.out⟩
def SzSR (ls : Rls) (w : World) (e : Ending) (w' : World) : Prop := ∃ z : Int, e = .returned (.int .i64 z) ∧ (0 ≤ z → ls.length ≤ 1048576 ∧ Szs ls) ∧ Below w.heap.size w w'
set_option maxHeartbeats 3200000 in
theorem szRuleS_c (v : Value) (ls : Rls) (w : World) (h : Rr w v ls) (hb : ∀ r ∈ ls, r.pre.size ≤ maxLen ∧ r.ad.size ≤ maxLen) : Calls Try.prog 16 #[v, .int .i64 1048576] w (SzSR ls w) := by
  obtain ⟨a, cap, rfl, h1, h2, h3⟩ := h
  unfold maxLen at h2
  have HM : Hid (∀ r ∈ ls, r.pre.size ≤ maxLen ∧ r.ad.size ≤ maxLen) := hb
  clear hb
  by_cases hL : 1048576 < ls.length
  · have g : 1048576 - (ls.length : Int) < 0 := by omega
    go_enter Try.func16, Try.ntmps16
    go_wp2
    go_ret
    exact ⟨_, rfl, fun h => by omega, Below.refl _ _⟩
  have g : ¬ (1048576 - (ls.length : Int) < 0) := by omega
  go_enter Try.func16, Try.ntmps16
  go_wp2
  go_loopw [1, 5] (fun z i wr => ∃ j : Nat, ∃ x : Int, j ≤ ls.length ∧ i = .int .i64 j ∧ z = .int .i64 x ∧ 0 ≤ x ∧ x ≤ 1048576 ∧ Hid (∀ t (ht : t < ls.length), t < j → ls[t].pre.size ≤ 1048576 ∧ ls[t].ad.size ≤ 1048576) ∧ Hid (Below w.heap.size w wr)) (fun _ i _ => ls.length - (intOf i).toNat)
  case atStart => exact ⟨0, 1048576 - (ls.length : Int), Nat.zero_le _, rfl, rfl, by omega, by omega, fun t _ h => by omega, Below.refl _ _⟩
  case round =>
    obtain ⟨j, x, hj, rfl, rfl, hx0, hx1, hA, hbr⟩ := hrel
    by_cases hlt : j < ls.length
    case neg =>
      obtain rfl : j = ls.length := by omega
      have HF : Hid (Szs ls) := fun r hr => by
        obtain ⟨i, hi, rfl⟩ := List.getElem_of_mem hr
        exact hA.out i hi hi
      clear h3
      go_wp2
      go_ret
      exact ⟨_, rfl, fun _ => ⟨by omega, HF.out⟩, hbr.out⟩
    case pos =>
    rcases h3 with h3 | ⟨b, off, rfl, h4⟩
    · subst h3; simp at hlt
    have hc := h4 j hlt
    have hcb : b < w.heap.size := block_lt_of_cell hc.1
    obtain ⟨r, hr⟩ : ∃ r, ls[j] = r := ⟨_, rfl⟩
    have HR : Hid (ls[j] = r) := hr
    have hm := HM.out _ (List.getElem_mem hlt)
    rw [hr] at hc hm
    have e0 := (hbr.out.cell (p := ⟨b, off + j * 6, none⟩) hcb).trans hc.1
    have e1 := (hbr.out.cell (p := ⟨b, off + j * 6 + 1, none⟩) hcb).trans hc.2.1
    have e2 := (hbr.out.cell (p := ⟨b, off + j * 6 + 2, none⟩) hcb).trans hc.2.2.1
    have e3 := (hbr.out.cell (p := ⟨b, off + j * 6 + 3, none⟩) hcb).trans hc.2.2.2.1
    have e4 := (hbr.out.cell (p := ⟨b, off + j * 6 + 4, none⟩) hcb).trans hc.2.2.2.2.1
    have e5 := (hbr.out.cell (p := ⟨b, off + j * 6 + 5, none⟩) hcb).trans hc.2.2.2.2.2
    clear h4 hc hr
    go_wp2_with (fail)
    refine (szRule_c r x wr hx0 hx1 hm.1 hm.2).mono ?_
    rintro e w2 ⟨z, rfl, z0, z1, z2, b2⟩
    have HB2 : Hid (Below w.heap.size w w2) := belowCall hbr.out b2 hbr.out.size
    clear b2
    by_cases hz : z < 0
    · clear z2 hm
      go_wp2
      go_ret
      exact ⟨_, rfl, fun h => by omega, HB2.out⟩
    · have HF : Hid (∀ t (ht : t < ls.length), t < j + 1 → ls[t].pre.size ≤ 1048576 ∧ ls[t].ad.size ≤ 1048576) := fun t ht h => by
        by_cases htj : t < j
        · exact hA.out t ht htj
        · obtain rfl : t = j := by omega
          have := z2 (by omega)
          rw [HR.out]; omega
      clear z2 hm
      go_wp2
      go_roundw
      case rel => exact ⟨j + 1, z, by omega, by go_num, rfl, by omega, by omega, HF.out, HB2.out⟩
      case measure => simp [intOf]; omega
set_option maxHeartbeats 1600000 in
theorem eqRule_t (r : Rl) (w : World) : Calls Try.prog 49 #[.agg (R6 r), .agg (R6 r)] w fun e w' => e = .returned (.bool true) ∧ Below w.heap.size w w' := by
  have HB : Hid (Below w.heap.size w ((w.alloc (Obj.cells (R6 r) 31)).alloc (Obj.cells (R6 r) 31))) := ((Below.refl _ _).alloc (Nat.le_refl _) _).alloc (by simp) _
  obtain ⟨p, l, m, ro, st, ad⟩ := r
  have g1 : (p.toList != p.toList) = false := by simp
  have g2 : (ad.toList != ad.toList) = false := by simp
  have g3 : (l != l) = false := by simp
  have g4 : (m != m) = false := by simp
  have g5 : (ro != ro) = false := by simp
  have g6 : (st != st) = false := by simp
  go_enter Try.func49, Try.ntmps49
  go_wp2
  go_ret
  exact ⟨rfl, HB.out⟩
set_option maxHeartbeats 3200000 in
theorem eqRuleS_t (v v' : Value) (ls : Rls) (w : World) (h : Rr w v ls) (h' : Rr w v' ls) : Calls Try.prog 20 #[v, v'] w fun e w' => e = .returned (.bool true) ∧ Below w.heap.size w w' := by
  obtain ⟨a, cap, rfl, h1, h2, h3⟩ := h
  obtain ⟨a', cap', rfl, h1', h2', h3'⟩ := h'
  unfold maxLen at h2 h2'
  have hne : ((ls.length : Int) != (ls.length : Int)) = false := by simp
  go_enter Try.func20, Try.ntmps20
  go_wp2
  go_loopw [5] (fun i wr => ∃ j : Nat, j ≤ ls.length ∧ i = .int .i64 j ∧ Hid (Below w.heap.size w wr)) (fun i _ => ls.length - (intOf i).toNat)
  case atStart => exact ⟨0, Nat.zero_le _, rfl, Below.refl _ _⟩
  case round =>
    obtain ⟨j, hj, rfl, hbr⟩ := hrel
    by_cases hlt : j < ls.length
    case neg =>
      obtain rfl : j = ls.length := by omega
      clear h3 h3'
      go_wp2
      go_ret
      exact ⟨rfl, hbr.out⟩
    case pos =>
    rcases h3 with h3 | ⟨b, off, rfl, h4⟩
    · subst h3; simp at hlt
    rcases h3' with h3' | ⟨b', off', rfl, h4'⟩
    · subst h3'; simp at hlt
    have hc := h4 j hlt
    have hc' := h4' j hlt
    obtain ⟨r, hr⟩ : ∃ r, ls[j] = r := ⟨_, rfl⟩
    rw [hr] at hc hc'
    have hcb : b < w.heap.size := block_lt_of_cell hc.1
    have hcb' : b' < w.heap.size := block_lt_of_cell hc'.1
    have y0 : ∀ W : Ov wr, W.wd.cell? ⟨b, off + j * 6, none⟩ = some (.string r.pre) := ov_cell ((hbr.out.cell (p := ⟨b, off + j * 6, none⟩) hcb).trans hc.1)
    have x0 : ∀ W : Ov wr, W.wd.cell? ⟨b', off' + j * 6, none⟩ = some (.string r.pre) := ov_cell ((hbr.out.cell (p := ⟨b', off' + j * 6, none⟩) hcb').trans hc'.1)
    have y1 : ∀ W : Ov wr, W.wd.cell? ⟨b, off + j * 6 + 1, none⟩ = some (.int .i64 r.le) := ov_cell ((hbr.out.cell (p := ⟨b, off + j * 6 + 1, none⟩) hcb).trans hc.2.1)
    have x1 : ∀ W : Ov wr, W.wd.cell? ⟨b', off' + j * 6 + 1, none⟩ = some (.int .i64 r.le) := ov_cell ((hbr.out.cell (p := ⟨b', off' + j * 6 + 1, none⟩) hcb').trans hc'.2.1)
    have y2 : ∀ W : Ov wr, W.wd.cell? ⟨b, off + j * 6 + 2, none⟩ = some (.int .i64 r.mo) := ov_cell ((hbr.out.cell (p := ⟨b, off + j * 6 + 2, none⟩) hcb).trans hc.2.2.1)
    have x2 : ∀ W : Ov wr, W.wd.cell? ⟨b', off' + j * 6 + 2, none⟩ = some (.int .i64 r.mo) := ov_cell ((hbr.out.cell (p := ⟨b', off' + j * 6 + 2, none⟩) hcb').trans hc'.2.2.1)
    have y3 : ∀ W : Ov wr, W.wd.cell? ⟨b, off + j * 6 + 3, none⟩ = some (.int .i64 r.ro) := ov_cell ((hbr.out.cell (p := ⟨b, off + j * 6 + 3, none⟩) hcb).trans hc.2.2.2.1)
    have x3 : ∀ W : Ov wr, W.wd.cell? ⟨b', off' + j * 6 + 3, none⟩ = some (.int .i64 r.ro) := ov_cell ((hbr.out.cell (p := ⟨b', off' + j * 6 + 3, none⟩) hcb').trans hc'.2.2.2.1)
    have y4 : ∀ W : Ov wr, W.wd.cell? ⟨b, off + j * 6 + 4, none⟩ = some (.int .i64 r.st) := ov_cell ((hbr.out.cell (p := ⟨b, off + j * 6 + 4, none⟩) hcb).trans hc.2.2.2.2.1)
    have x4 : ∀ W : Ov wr, W.wd.cell? ⟨b', off' + j * 6 + 4, none⟩ = some (.int .i64 r.st) := ov_cell ((hbr.out.cell (p := ⟨b', off' + j * 6 + 4, none⟩) hcb').trans hc'.2.2.2.2.1)
    have y5 : ∀ W : Ov wr, W.wd.cell? ⟨b, off + j * 6 + 5, none⟩ = some (.string r.ad) := ov_cell ((hbr.out.cell (p := ⟨b, off + j * 6 + 5, none⟩) hcb).trans hc.2.2.2.2.2)
    have x5 : ∀ W : Ov wr, W.wd.cell? ⟨b', off' + j * 6 + 5, none⟩ = some (.string r.ad) := ov_cell ((hbr.out.cell (p := ⟨b', off' + j * 6 + 5, none⟩) hcb').trans hc'.2.2.2.2.2)
    have ne : Nonempty (Ov wr) := ⟨⟨_, Below.refl _ _⟩⟩
    have HC : Hid (∀ W : Ov wr, Calls Try.prog 49 #[.agg (R6 r), .agg (R6 r)] W.wd fun e w'' => e = .returned (.bool true) ∧ ∃ W' : Ov wr, w'' = W'.wd) := fun W => ov_call (eqRule_t r W.wd)
    have hjI : (j : Int) < (ls.length : Int) := by omega
    clear h4 h4' hc hc' hr
    go_wp2
    refine region_over (by kernel_rfl) (by kernel_rfl) ?_
    repeat (go_big_quiet_step (first | (go_at_call 49; exact HC.out _)))
    refine wpQuiet_nil ?_
    rintro _ ⟨W, rfl⟩
    have HBW : Hid (Below w.heap.size w W.wd) := belowCall hbr.out W.ok hbr.out.size
    clear HC
    go_wp2
    go_roundw
    case rel => exact ⟨j + 1, by omega, by go_num, HBW.out⟩
    case measure => simp [intOf]; omega
end Go.Proofs.Ytpnglbnebkggkaa

/- Presses: the helpers of the laws; no condition. -/
import Derived.Test.YtpnglbnebkggkaaPrs
namespace Go.Proofs.Ytpnglbnebkggkaa
open Go.RowKit Go.ChangeShapes Go.WideShapes Go.ChangeAt
set_option linter.unusedVariables false
set_option linter.unusedSimpArgs false
set_option maxRecDepth 8000
set_option maxHeartbeats 3200000 in
theorem toPressS_c (v : Value) (ls : Prs) (w : World) (h : Rpq w v ls) (hn : ls.length ≤ 1048576) :
   Calls Try.prog 23 #[v] w fun e w' => ∃ v', e = .returned v' ∧ Opq 39 w.heap.size w' v' ls ∧ Below w.heap.size w w' := by
  obtain ⟨a, cap, rfl, h1, h2, h3⟩ := h
  unfold maxLen at h2
  obtain ⟨i0, hi, hz0, hz1, hz2⟩ := info_parts infoPress
  go_enter Try.func23, Try.ntmps23
  go_wp2_with (at_make; refine wpList_make_full _ rfl _ _ 33 rfl w.heap.size 39 i0 (.agg (P2 p0)) 2 Try.underlying33 hi hz0 hz1 .i64 .i64 _ _ ls.length rfl rfl rfl rfl (by rw [hz2]; omega) (by unfold maxLen; omega) (Nat.le_refl _) ?_)
  intro w1 ho hg
  have hx : w1.ownsRow w.heap.size 39 2 (.slice (some ⟨w.heap.size, 0, none⟩) ls.length ls.length) ls.length (pq (fil p0 ls 0)) := by
    have e : pq (fil p0 ls 0) = (madeCells (P2 p0) (ls.length * 2)).toList := by rw [pq_replicate p0 ls.length]; simp [fil]
    rw [e]; exact ho
  have hb : Below w.heap.size w w1 := grown_below hg (Nat.le_refl _) (by simp)
  clear hg ho
  go_wp2
  go_loopw [4] (fun i wr => ∃ j : Nat, j ≤ ls.length ∧ i = .int .i64 j ∧ wr.ownsRow w.heap.size 39 2 (.slice (some ⟨w.heap.size, 0, none⟩) ls.length ls.length) ls.length (pq (fil p0 ls j)) ∧ Below w.heap.size w wr) (fun i _ => ls.length - (intOf i).toNat)
  case atStart => exact ⟨0, Nat.zero_le _, rfl, hx, hb⟩
  case round =>
    obtain ⟨j, hj, rfl, hw, hbr⟩ := hrel
    clear hx hb
    by_cases hlt : j < ls.length
    · rcases h3 with h3 | ⟨b, off, rfl, h4⟩
      · subst h3; simp at hlt
      have hc := h4 j hlt
      have hcb : b < w.heap.size := block_lt_of_cell hc.1
      obtain ⟨r, hr⟩ : ∃ r, ls[j] = r := ⟨_, rfl⟩
      have HR : Hid (ls[j] = r) := hr
      rw [hr] at hc
      have e0 := (hbr.cell (p := ⟨b, off + j * 2, none⟩) hcb).trans hc.1
      have e1 := (hbr.cell (p := ⟨b, off + j * 2 + 1, none⟩) hcb).trans hc.2
      clear h4 hc hr
      go_wp2_with (fail)
      refine (toPress_c r _).mono ?_
      rintro e w2 ⟨rfl, b2⟩
      have hw2 : w2.ownsRow w.heap.size 39 2 (.slice (some ⟨w.heap.size, 0, none⟩) ls.length ls.length) ls.length (pq (fil p0 ls j)) := World.ownsRow.kept (row := none) hw ⟨b2.os, b2.tape, b2.output, b2.size, fun k hk _ => b2.block k hk⟩ (by simp [Value.ownBlock])
      have c2 := belowCall hbr b2 hbr.size
      have hfl := fil_len p0 ls j hj
      have hO : Opq 39 w.heap.size w2 (.slice (some ⟨w.heap.size, 0, none⟩) (fil p0 ls j).length ls.length) (fil p0 ls j) := by rw [Opq, hfl]; exact hw2
      have hp := pq_at (fil p0 ls j) j (by omega)
      obtain ⟨y0, hd0⟩ : ∃ u, w2.cell? ⟨w.heap.size, j * 2, none⟩ = some u := ⟨_, (hw2.cellAt (j * 2) (by omega)).trans hp.1⟩
      obtain ⟨y1, hd1⟩ : ∃ u, w2.cell? ⟨w.heap.size, j * 2 + 1, none⟩ = some u := ⟨_, (hw2.cellAt (j * 2 + 1) (by omega)).trans hp.2⟩
      have hf0 := hw2.frozenAt (j * 2)
      have hf1 := hw2.frozenAt (j * 2 + 1)
      have hS := own_setP hO j (by omega) ls[j]
      rw [fil_set, Opq, hfl, fil_len _ _ _ (by omega), HR.out] at hS
      have c3 : Below w.heap.size w ((w2.setCell ⟨w.heap.size, j * 2, none⟩ (.int .i64 r.ti)).setCell ⟨w.heap.size, j * 2 + 1, none⟩ (.string r.di)) := ((c2.setCell (by simp) _).setCell (by simp) _)
      have HS : Hid _ := hS
      have HC : Hid _ := c3
      clear hw hbr hw2 c2 b2 hO hS c3 hp hfl
      go_wp2
      go_roundw
      case rel => exact ⟨j + 1, by omega, by go_num, HS.out, HC.out⟩
      case measure => simp [intOf]; omega
    · obtain rfl : j = ls.length := by omega
      rw [fil_full] at hw
      clear h3
      go_wp2
      go_ret
      exact ⟨_, rfl, hw, hbr⟩
/-- a press's size is taken off what is left -/
def SzP (r : Pr) (left : Int) (w : World) (e : Ending) (w' : World) : Prop := ∃ z : Int, e = .returned (.int .i64 z) ∧ -1 ≤ z ∧ z ≤ left ∧ (0 ≤ z → (r.di.size : Int) ≤ left) ∧ Below w.heap.size w w'
set_option maxHeartbeats 1600000 in
theorem szPress_c (r : Pr) (left : Int) (w : World) (h0 : 0 ≤ left) (hl : left ≤ 1048576) (hs : r.di.size ≤ maxLen) : Calls Try.prog 50 #[.agg (P2 r), .int .i64 left] w (SzP r left w) := by
  unfold maxLen at hs
  have HB : Hid (Below w.heap.size w (w.alloc (Obj.cells (P2 r) 82))) := (Below.refl _ _).alloc (Nat.le_refl _) _
  obtain ⟨ti, di⟩ := r
  dsimp only at hs HB ⊢
  by_cases h1 : left - (di.size : Int) < 0
  · go_enter Try.func50, Try.ntmps50
    go_wp2
    go_ret
    exact ⟨_, rfl, by omega, by omega, fun h => by omega, HB.out⟩
  · go_enter Try.func50, Try.ntmps50
    go_wp2
    go_ret
    exact ⟨_, rfl, by omega, by omega, fun h => by dsimp only; omega, HB.out⟩
def Szp (ls : Prs) : Prop := ∀ r ∈ ls, r.di.size ≤ 1048576
def SzSP (ls : Prs) (w : World) (e : Ending) (w' : World) : Prop := ∃ z : Int, e = .returned (.int .i64 z) ∧ (0 ≤ z → ls.length ≤ 1048576 ∧ Szp ls) ∧ Below w.heap.size w w'
set_option maxHeartbeats 3200000 in
theorem szPressS_c (v : Value) (ls : Prs) (L : Int) (w : World) (h0L : 0 ≤ L) (hL1 : L ≤ 1048576) (h : Rpq w v ls) (hb : ∀ r ∈ ls, r.di.size ≤ maxLen) : Calls Try.prog 22 #[v, .int .i64 L] w (SzSP ls w) := by
  obtain ⟨a, cap, rfl, h1, h2, h3⟩ := h
  unfold maxLen at h2
  have HM : Hid (∀ r ∈ ls, r.di.size ≤ maxLen) := hb
  clear hb
  by_cases hL : L < (ls.length : Int)
  · have g : L - (ls.length : Int) < 0 := by omega
    go_enter Try.func22, Try.ntmps22
    go_wp2
    go_ret
    exact ⟨_, rfl, fun h => by omega, Below.refl _ _⟩
  have g : ¬ (L - (ls.length : Int) < 0) := by omega
  go_enter Try.func22, Try.ntmps22
  go_wp2
  go_loopw [1, 5] (fun z i wr => ∃ j : Nat, ∃ x : Int, j ≤ ls.length ∧ i = .int .i64 j ∧ z = .int .i64 x ∧ 0 ≤ x ∧ x ≤ 1048576 ∧ Hid (∀ t (ht : t < ls.length), t < j → ls[t].di.size ≤ 1048576) ∧ Hid (Below w.heap.size w wr)) (fun _ i _ => ls.length - (intOf i).toNat)
  case atStart => exact ⟨0, L - (ls.length : Int), Nat.zero_le _, rfl, rfl, by omega, by omega, fun t _ h => by omega, Below.refl _ _⟩
  case round =>
    obtain ⟨j, x, hj, rfl, rfl, hx0, hx1, hA, hbr⟩ := hrel
    by_cases hlt : j < ls.length
    case neg =>
      obtain rfl : j = ls.length := by omega
      have HF : Hid (Szp ls) := fun r hr => by
        obtain ⟨i, hi, rfl⟩ := List.getElem_of_mem hr
        exact hA.out i hi hi
      clear h3
      go_wp2
      go_ret
      exact ⟨_, rfl, fun _ => ⟨by omega, HF.out⟩, hbr.out⟩
    case pos =>
    rcases h3 with h3 | ⟨b, off, rfl, h4⟩
    · subst h3; simp at hlt
    have hc := h4 j hlt
    have hcb : b < w.heap.size := block_lt_of_cell hc.1
    obtain ⟨r, hr⟩ : ∃ r, ls[j] = r := ⟨_, rfl⟩
    have HR : Hid (ls[j] = r) := hr
    have hm := HM.out _ (List.getElem_mem hlt)
    rw [hr] at hc hm
    have e0 := (hbr.out.cell (p := ⟨b, off + j * 2, none⟩) hcb).trans hc.1
    have e1 := (hbr.out.cell (p := ⟨b, off + j * 2 + 1, none⟩) hcb).trans hc.2
    clear h4 hc hr
    go_wp2_with (fail)
    refine (szPress_c r x wr hx0 hx1 hm).mono ?_
    rintro e w2 ⟨z, rfl, z0, z1, z2, b2⟩
    have HB2 : Hid (Below w.heap.size w w2) := belowCall hbr.out b2 hbr.out.size
    clear b2
    by_cases hz : z < 0
    · clear z2 hm
      go_wp2
      go_ret
      exact ⟨_, rfl, fun h => by omega, HB2.out⟩
    · have HF : Hid (∀ t (ht : t < ls.length), t < j + 1 → ls[t].di.size ≤ 1048576) := fun t ht h => by
        by_cases htj : t < j
        · exact hA.out t ht htj
        · obtain rfl : t = j := by omega
          have := z2 (by omega)
          rw [HR.out]; omega
      clear z2 hm
      go_wp2
      go_roundw
      case rel => exact ⟨j + 1, z, by omega, by go_num, rfl, by omega, by omega, HF.out, HB2.out⟩
      case measure => simp [intOf]; omega
set_option maxHeartbeats 1600000 in
theorem eqPress_t (r : Pr) (w : World) : Calls Try.prog 52 #[.agg (P2 r), .agg (P2 r)] w fun e w' => e = .returned (.bool true) ∧ Below w.heap.size w w' := by
  have HB : Hid (Below w.heap.size w ((w.alloc (Obj.cells (P2 r) 39)).alloc (Obj.cells (P2 r) 39))) := ((Below.refl _ _).alloc (Nat.le_refl _) _).alloc (by simp) _
  obtain ⟨ti, di⟩ := r
  have g1 : (di.toList != di.toList) = false := by simp
  have g2 : (ti != ti) = false := by simp
  go_enter Try.func52, Try.ntmps52
  go_wp2
  go_ret
  exact ⟨rfl, HB.out⟩
set_option maxHeartbeats 3200000 in
theorem eqPressS_t (v v' : Value) (ls : Prs) (w : World) (h : Rpq w v ls) (h' : Rpq w v' ls) : Calls Try.prog 24 #[v, v'] w fun e w' => e = .returned (.bool true) ∧ Below w.heap.size w w' := by
  obtain ⟨a, cap, rfl, h1, h2, h3⟩ := h
  obtain ⟨a', cap', rfl, h1', h2', h3'⟩ := h'
  unfold maxLen at h2 h2'
  have hne : ((ls.length : Int) != (ls.length : Int)) = false := by simp
  go_enter Try.func24, Try.ntmps24
  go_wp2
  go_loopw [5] (fun i wr => ∃ j : Nat, j ≤ ls.length ∧ i = .int .i64 j ∧ Hid (Below w.heap.size w wr)) (fun i _ => ls.length - (intOf i).toNat)
  case atStart => exact ⟨0, Nat.zero_le _, rfl, Below.refl _ _⟩
  case round =>
    obtain ⟨j, hj, rfl, hbr⟩ := hrel
    by_cases hlt : j < ls.length
    case neg =>
      obtain rfl : j = ls.length := by omega
      clear h3 h3'
      go_wp2
      go_ret
      exact ⟨rfl, hbr.out⟩
    case pos =>
    rcases h3 with h3 | ⟨b, off, rfl, h4⟩
    · subst h3; simp at hlt
    rcases h3' with h3' | ⟨b', off', rfl, h4'⟩
    · subst h3'; simp at hlt
    have hc := h4 j hlt
    have hc' := h4' j hlt
    obtain ⟨r, hr⟩ : ∃ r, ls[j] = r := ⟨_, rfl⟩
    rw [hr] at hc hc'
    have hcb : b < w.heap.size := block_lt_of_cell hc.1
    have hcb' : b' < w.heap.size := block_lt_of_cell hc'.1
    have y0 : ∀ W : Ov wr, W.wd.cell? ⟨b, off + j * 2, none⟩ = some (.int .i64 r.ti) := ov_cell ((hbr.out.cell (p := ⟨b, off + j * 2, none⟩) hcb).trans hc.1)
    have x0 : ∀ W : Ov wr, W.wd.cell? ⟨b', off' + j * 2, none⟩ = some (.int .i64 r.ti) := ov_cell ((hbr.out.cell (p := ⟨b', off' + j * 2, none⟩) hcb').trans hc'.1)
    have y1 : ∀ W : Ov wr, W.wd.cell? ⟨b, off + j * 2 + 1, none⟩ = some (.string r.di) := ov_cell ((hbr.out.cell (p := ⟨b, off + j * 2 + 1, none⟩) hcb).trans hc.2)
    have x1 : ∀ W : Ov wr, W.wd.cell? ⟨b', off' + j * 2 + 1, none⟩ = some (.string r.di) := ov_cell ((hbr.out.cell (p := ⟨b', off' + j * 2 + 1, none⟩) hcb').trans hc'.2)
    have ne : Nonempty (Ov wr) := ⟨⟨_, Below.refl _ _⟩⟩
    have HC : Hid (∀ W : Ov wr, Calls Try.prog 52 #[.agg (P2 r), .agg (P2 r)] W.wd fun e w'' => e = .returned (.bool true) ∧ ∃ W' : Ov wr, w'' = W'.wd) := fun W => ov_call (eqPress_t r W.wd)
    have hjI : (j : Int) < (ls.length : Int) := by omega
    clear h4 h4' hc hc' hr
    go_wp2
    refine region_over (by kernel_rfl) (by kernel_rfl) ?_
    repeat (go_big_quiet_step (first | (go_at_call 52; exact HC.out _)))
    refine wpQuiet_nil ?_
    rintro _ ⟨W, rfl⟩
    have HBW : Hid (Below w.heap.size w W.wd) := belowCall hbr.out W.ok hbr.out.size
    clear HC
    go_wp2
    go_roundw
    case rel => exact ⟨j + 1, by omega, by go_num, HBW.out⟩
    case measure => simp [intOf]; omega
end Go.Proofs.Ytpnglbnebkggkaa

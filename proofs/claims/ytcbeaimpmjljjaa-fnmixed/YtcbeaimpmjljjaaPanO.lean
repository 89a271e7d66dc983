/- The contract of the model's function that tells whether a panel is right; no condition. -/
import Derived.Test.YtcbeaimpmjljjaaPanF
namespace Go.Proofs.Ytcbeaimpmjljjaa
open Go.RowKit Go.ChangeShapes Go.WideShapes Go.ChangeAt
set_option linter.unusedVariables false
set_option linter.unusedSimpArgs false
theorem in_c (x lo hi : Int) (w : World) : Calls Try.prog 53 #[.int .i64 x, .int .i64 lo, .int .i64 hi] w fun e w' => e = .returned (.bool (decide (lo ≤ x ∧ x ≤ hi))) ∧ w' = w := by
  go_enter Try.func53, Try.ntmps53
  by_cases h1 : lo ≤ x <;> by_cases h2 : x ≤ hi
  all_goals
    go_wp2
    go_ret
    exact ⟨by simp [h1, h2], rfl⟩
/-- the lines of the legs of the first i calls -/
def linesTo (cs : Calls2) (i : Nat) : List Int := (cs.take i).flatMap fun c => c.2.map (·.1)
/-- which lines are used -/
def usedAt (n : Nat) (seen : List Int) : List Bool := (List.range n).map fun l : Nat => decide ((l : Int) ∈ seen)
def CallOk (c : Bool × List (Int × Bool)) : Prop := 1 ≤ c.2.length ∧ c.2.length ≤ 8 ∧ (c.2.length < 2 → c.1 = true)
def SeenOk (n : Int) (seen : List Int) : Prop := (∀ l ∈ seen, 0 ≤ l ∧ l < n) ∧ seen.Nodup
/-- a right panel -/
def POk (n : Int) (cs : Calls2) : Prop := 1 ≤ n ∧ n ≤ 40 ∧ (∀ a (h : a < cs.length), CallOk cs[a]) ∧ SeenOk n (linesTo cs cs.length)
theorem linesTo_succ (cs : Calls2) (i : Nat) (h : i < cs.length) : linesTo cs (i + 1) = linesTo cs i ++ cs[i].2.map (·.1) := by
  rw [linesTo, List.take_succ_eq_append_getElem h, List.flatMap_append]; simp [linesTo]
theorem seen_pre (cs : Calls2) (j k : Nat) (hj : j < cs.length) (hk : k < cs[j].2.length) : ∃ r, linesTo cs cs.length = (linesTo cs j ++ (cs[j].2.take k).map (·.1)) ++ [cs[j].2[k].1] ++ r := by
  have e1 : cs = cs.take j ++ cs[j] :: cs.drop (j + 1) := by simp
  have e2 : cs[j].2 = cs[j].2.take k ++ cs[j].2[k] :: cs[j].2.drop (k + 1) := by simp
  refine ⟨(cs[j].2.drop (k + 1)).map (·.1) ++ (cs.drop (j + 1)).flatMap fun c => c.2.map (·.1), ?_⟩
  have h1 : linesTo cs cs.length = cs.flatMap fun c => c.2.map (·.1) := by simp [linesTo]
  have h2 : cs[j].2.map (·.1) = (cs[j].2.take k).map (·.1) ++ [cs[j].2[k].1] ++ (cs[j].2.drop (k + 1)).map (·.1) := by
    have h := congrArg (List.map (·.1)) e2
    rw [List.map_append, List.map_cons] at h
    rw [List.append_assoc]; exact h
  rw [h1]
  conv => lhs; rw [e1]
  rw [List.flatMap_append, List.flatMap_cons, h2]
  simp [linesTo]
theorem infoBool : (Try.prog.info? 4).map (fun i => (i.zero, i.size, i.bytes)) = some (some (.bool false), 1, 1) := by kernel_rfl
theorem usedAt_nil (n : Nat) : usedAt n [] = List.replicate n false := by
  apply List.ext_getElem <;> simp [usedAt]
theorem usedAt_at (n : Nat) (seen : List Int) (l : Nat) (h : l < n) : (usedAt n seen)[l]? = some (decide ((l : Int) ∈ seen)) := by
  simp [usedAt, List.getElem?_map, List.getElem?_range h]
theorem usedAt_set (n : Nat) (seen : List Int) (l : Nat) : (usedAt n seen).set l true = usedAt n (seen ++ [(l : Int)]) := by
  apply List.ext_getElem?
  intro i
  by_cases hi : i < n
  · rw [usedAt_at n _ i hi, List.getElem?_set]
    by_cases hl : l = i
    · subst hl; simp [usedAt, hi]
    · rw [if_neg hl, usedAt_at n _ i hi]
      have : ¬ (i : Int) = l := by omega
      simp [this]
  · rw [List.getElem?_eq_none (by simp [usedAt]; omega), List.getElem?_eq_none (by simp [usedAt]; omega)]
set_option maxHeartbeats 3200000 in
theorem ok_c (n : Int) (v : Value) (cs : Calls2) (w : World) (h : RdC w v cs) :
   Calls Try.prog 15 #[.agg #[.int .i64 n, v]] w fun e w' => ∃ r, e = .returned (.bool r) ∧ (r = true ↔ POk n cs) ∧ Below w.heap.size w w' := by
  have hb : Below w.heap.size w (w.alloc (Obj.cells #[.int .i64 n, v] 26)) := (Below.refl _ _).alloc (Nat.le_refl _) _
  obtain ⟨rv, hrl, ⟨a, cap, rfl, h1, h2, h3⟩, hrc⟩ := h.below hb
  unfold maxLen at h2
  have HB : Hid _ := hb
  have HRC : Hid (∀ i (h : i < cs.length) (h' : i < rv.length), rv[i].1 = .bool cs[i].1 ∧ Rp lf lg (w.alloc (Obj.cells #[.int .i64 n, .slice a rv.length cap] 26)) rv[i].2 cs[i].2) := hrc
  have HRL : Hid (rv.length = cs.length) := hrl
  have K : Blk (w.alloc (Obj.cells #[.int .i64 n, .slice a rv.length cap] 26)) w.heap.size #[.int .i64 n, .slice a rv.length cap] 26 := Blk.new _ _ _
  have HK : Hid (Blk (w.alloc (Obj.cells #[.int .i64 n, .slice a rv.length cap] 26)) w.heap.size #[.int .i64 n, .slice a rv.length cap] 26) := K
  clear hrc hrl hb h K
  by_cases hn : 1 ≤ n ∧ n ≤ 40
  · obtain ⟨m, rfl⟩ := Int.eq_ofNat_of_zero_le (show 0 ≤ n by omega)
    obtain ⟨i0, hi, hz0, hz1, hz2⟩ := info_parts infoBool
    have hin : decide ((1 : Int) ≤ (m : Int) ∧ (m : Int) ≤ 40) = true := by simp; omega
    go_enter Try.func15, Try.ntmps15
    go_wp2_with (first | (go_at_call 53; refine (in_c _ _ _ _).mono ?_; rintro e w2 ⟨rfl, rfl⟩; rw [hin]) | (at_make; refine wpList_make_full _ rfl _ _ 82 rfl (w.heap.size + 1) 4 i0 (.bool false) 1 Try.underlying82 hi hz0 hz1 .i64 .i64 _ _ m rfl rfl rfl rfl (by rw [hz2]; omega) (by unfold maxLen; omega) (by simp) ?_))
    intro w1 ho hg
    have hx : w1.ownsRow (w.heap.size + 1) 4 1 (.slice (some ⟨w.heap.size + 1, 0, none⟩) m m) m ((usedAt m (linesTo cs 0)).map Value.bool) := by
      have e : (usedAt m (linesTo cs 0)).map Value.bool = (madeCells #[Value.bool false] m).toList := by
        rw [toList_madeCells_one]; simp [linesTo, usedAt_nil]
      rw [e]; exact ho
    have hb1 : Below (w.heap.size + 1) (w.alloc (Obj.cells #[.int .i64 m, .slice a rv.length cap] 26)) w1 := grown_below hg (by simp) (by simp)
    clear hg ho
    go_wp2
    go_loopw [4] (fun i wr => ∃ j : Nat, j ≤ rv.length ∧ i = .int .i64 j ∧ wr.ownsRow (w.heap.size + 1) 4 1 (.slice (some ⟨w.heap.size + 1, 0, none⟩) m m) m ((usedAt m (linesTo cs j)).map Value.bool) ∧ Hid ((∀ a (h : a < cs.length), a < j → CallOk cs[a]) ∧ SeenOk m (linesTo cs j)) ∧ Below (w.heap.size + 1) (w.alloc (Obj.cells #[.int .i64 m, .slice a rv.length cap] 26)) wr) (fun i _ => rv.length - (intOf i).toNat)
    case atStart => exact ⟨0, Nat.zero_le _, rfl, hx, ⟨fun a h h' => by omega, by simp [SeenOk, linesTo]⟩, hb1⟩
    case round =>
      obtain ⟨j, hj, rfl, hw, hI, hbr⟩ := hrel
      clear hx hb1
      have kb := HK.out.below hbr (by omega)
      have k0 := kb.cell 0
      have k1 := kb.cell 1
      simp at k0 k1
      have hblw : Below w.heap.size w wr := HB.out.trans (hbr.mono (by omega))
      have HBW : Hid _ := hblw
      clear hblw
      by_cases hlt : j < rv.length
      · have hjc : j < cs.length := by have h := HRL.out; omega
        rcases h3 with h3 | ⟨b, off, rfl, h4⟩
        · subst h3; simp at hlt
        have hc := h4 j hlt
        have hE := HRC.out j hjc hlt
        rw [hE.1] at hc
        obtain ⟨a2, cap2, e2, g1, g2, g3⟩ := hE.2
        unfold maxLen at g2
        rw [e2] at hc
        have hcb : b < w.heap.size + 1 := by have := block_lt_of_cell hc.1; simpa using this
        have hc0 := (hbr.cell (p := ⟨b, off + j * 2, none⟩) hcb).trans hc.1
        have hc1 := (hbr.cell (p := ⟨b, off + j * 2 + 1, none⟩) hcb).trans hc.2
        have HG : Hid (Rp lf lg (w.alloc (Obj.cells #[.int .i64 m, .slice (some ⟨b, off, none⟩) rv.length cap] 26)) rv[j].2 cs[j].2) := hE.2
        have HC1 : Hid ((w.alloc (Obj.cells #[.int .i64 m, .slice (some ⟨b, off, none⟩) rv.length cap] 26)).cell? ⟨b, off + j * 2 + 1, none⟩ = some (.slice a2 cs[j].2.length cap2)) := hc.2
        clear h4 HRC hc hE e2 HG
        by_cases hok : 1 ≤ cs[j].2.length ∧ cs[j].2.length ≤ 8
        · have hin2 : decide ((1 : Int) ≤ (cs[j].2.length : Int) ∧ (cs[j].2.length : Int) ≤ 8) = true := by simp; omega
          by_cases hpk : cs[j].2.length < 2 ∧ cs[j].1 = false
          · have hl2 : ((cs[j].2.length : Int) < 2) = True := by simp; omega
            have hp := hpk.2
            go_wp2_with (go_at_call 53; refine (in_c _ _ _ _).mono ?_; rintro e w2 ⟨rfl, rfl⟩; rw [hin2])
            go_ret
            exact ⟨_, rfl, ⟨fun h => (by cases h), fun h => absurd ((h.2.2.1 j hjc).2.2 hpk.1) (by rw [hpk.2]; simp)⟩, HBW.out⟩
          · have HO : Hid (CallOk cs[j]) := ⟨hok.1, hok.2, fun h => by cases hp : cs[j].1 with
              | true => rfl
              | false => exact absurd ⟨h, hp⟩ hpk⟩
            by_cases hl2 : cs[j].2.length < 2
            · have hl3 : ((cs[j].2.length : Int) < 2) = True := by simp; omega
              have hp : cs[j].1 = true := HO.out.2.2 hl2
              have HW0 : Hid (wr.ownsRow (w.heap.size + 1) 4 1 (.slice (some ⟨w.heap.size + 1, 0, none⟩) m m) m ((usedAt m (linesTo cs j ++ (cs[j].2.take 0).map (·.1))).map Value.bool)) := by rw [show linesTo cs j ++ (cs[j].2.take 0).map (·.1) = linesTo cs j by simp]; exact hw
              have HS0 : Hid (SeenOk m (linesTo cs j ++ (cs[j].2.take 0).map (·.1))) := by rw [show linesTo cs j ++ (cs[j].2.take 0).map (·.1) = linesTo cs j by simp]; exact hI.out.2
              have HB0 : Hid (Below (w.heap.size + 1) (w.alloc (Obj.cells #[.int .i64 m, .slice (some ⟨b, off, none⟩) rv.length cap] 26)) wr) := hbr
              clear hpk
              go_wp2_with (go_at_call 53; refine (in_c _ _ _ _).mono ?_; rintro e w2 ⟨rfl, rfl⟩; rw [hin2])
              clear hw HBW
              go_loopw [6] (fun i wr => ∃ k : Nat, k ≤ cs[j].2.length ∧ i = .int .i64 k ∧ wr.ownsRow (w.heap.size + 1) 4 1 (.slice (some ⟨w.heap.size + 1, 0, none⟩) m m) m ((usedAt m (linesTo cs j ++ (cs[j].2.take k).map (·.1))).map Value.bool) ∧ Hid (SeenOk m (linesTo cs j ++ (cs[j].2.take k).map (·.1))) ∧ Below (w.heap.size + 1) (w.alloc (Obj.cells #[.int .i64 m, .slice (some ⟨b, off, none⟩) rv.length cap] 26)) wr) (fun i _ => cs[j].2.length - (intOf i).toNat)
              case atStart => exact ⟨0, Nat.zero_le _, rfl, HW0.out, HS0.out, HB0.out⟩
              case round =>
                obtain ⟨k, hk, rfl, hw', hS, hbr'⟩ := hrel
                clear HW0 HS0 HB0 k0 k1 hc0 hc1
                have kb := HK.out.below hbr' (by omega)
                have k0 := kb.cell 0
                have k1 := kb.cell 1
                simp at k0 k1
                have hc1 := (hbr'.cell (p := ⟨b, off + j * 2 + 1, none⟩) hcb).trans HC1.out
                have HBW : Hid (Below w.heap.size w wr) := HB.out.trans (hbr'.mono (by omega))
                clear kb
                by_cases hkt : k < cs[j].2.length
                · rcases g3 with g3 | ⟨b2, off2, rfl, g4⟩
                  · rw [g3] at hkt; simp at hkt
                  have hd0 := (g4 k hkt).1
                  have hcb2 : b2 < w.heap.size + 1 := by have := block_lt_of_cell hd0; simpa using this
                  have hd := (hbr'.cell (p := ⟨b2, off2 + k * 2, none⟩) hcb2).trans hd0
                  obtain ⟨r, hr⟩ := seen_pre cs j k hjc hkt
                  obtain ⟨l, hl⟩ : ∃ l, cs[j].2[k].1 = l := ⟨_, rfl⟩
                  have hstep : (cs[j].2.take (k + 1)).map (·.1) = (cs[j].2.take k).map (·.1) ++ [l] := by rw [List.take_succ_eq_append_getElem hkt, List.map_append, ← hl]; rfl
                  have hd' : wr.cell? ⟨b2, off2 + k * 2, none⟩ = some (.int .i64 l) := by rw [hd]; show some (Value.int .i64 cs[j].2[k].1) = _; rw [hl]
                  rw [hl] at hr
                  have HR : Hid (linesTo cs cs.length = (linesTo cs j ++ (cs[j].2.take k).map (·.1)) ++ [l] ++ r) := hr
                  have HT : Hid ((cs[j].2.take (k + 1)).map (·.1) = (cs[j].2.take k).map (·.1) ++ [l]) := hstep
                  clear g4 hd0 hd hr hstep hl
                  by_cases hrg : 0 ≤ l ∧ l ≤ (m : Int) - 1
                  · have hin3 : decide ((0 : Int) ≤ l ∧ l ≤ (m : Int) - 1) = true := by simp only [decide_eq_true_eq]; exact hrg
                    obtain ⟨q, rfl⟩ := Int.eq_ofNat_of_zero_le hrg.1
                    have hqm : q < m := by omega
                    have hu : wr.cell? ⟨w.heap.size + 1, q, none⟩ = some (.bool (decide ((q : Int) ∈ linesTo cs j ++ (cs[j].2.take k).map (·.1)))) := by
                      rw [hw'.cellAt q (by omega), List.getElem?_map, usedAt_at m _ q hqm]; rfl
                    by_cases hm : (q : Int) ∈ linesTo cs j ++ (cs[j].2.take k).map (·.1)
                    · rw [decide_eq_true hm] at hu
                      have HM : Hid ((q : Int) ∈ linesTo cs j ++ (cs[j].2.take k).map (·.1)) := hm
                      clear hm hw'
                      go_wp2_with (go_at_call 53; refine (in_c _ _ _ _).mono ?_; rintro e w2 ⟨rfl, rfl⟩; rw [hin3])
                      go_ret
                      refine ⟨_, rfl, ⟨fun h => (by cases h), fun h => ?_⟩, HBW.out⟩
                      have hnd := h.2.2.2.2
                      rw [HR.out, List.append_assoc, List.nodup_append] at hnd
                      exact absurd rfl (hnd.2.2 _ HM.out q (by simp))
                    · rw [decide_eq_false hm] at hu
                      have HM : Hid (¬ (q : Int) ∈ linesTo cs j ++ (cs[j].2.take k).map (·.1)) := hm
                      have hf := hw'.frozenAt q
                      have hs := (hw'.stored q (.bool true)).1
                      have e3 : ((usedAt m (linesTo cs j ++ (cs[j].2.take k).map (·.1))).map Value.bool).set q (.bool true) = (usedAt m (linesTo cs j ++ (cs[j].2.take (k + 1)).map (·.1))).map Value.bool := by
                        rw [← List.map_set, usedAt_set, HT.out, List.append_assoc]
                      rw [e3] at hs
                      have HS' : Hid _ := hs
                      have hb3 := hbr'.setCell (p := ⟨w.heap.size + 1, q, none⟩) (by exact Nat.le_refl _) (.bool true)
                      have HB3 : Hid _ := hb3
                      clear hm hw' hs e3 hb3
                      go_wp2_with (go_at_call 53; refine (in_c _ _ _ _).mono ?_; rintro e w2 ⟨rfl, rfl⟩; rw [hin3])
                      go_roundw
                      case rel =>
                        refine ⟨k + 1, by omega, by go_num, HS'.out, ?_, HB3.out⟩
                        rw [HT.out, ← List.append_assoc]
                        refine ⟨fun l hl => ?_, ?_⟩
                        · rcases List.mem_append.1 hl with hl | hl
                          · exact hS.out.1 l hl
                          · simp at hl; subst hl; omega
                        · rw [List.nodup_append]
                          refine ⟨hS.out.2, by simp, fun x hx y hy => ?_⟩
                          simp at hy; subst hy
                          exact fun e => HM.out (e ▸ hx)
                      case measure => simp [intOf]; omega
                  · have hin3 : decide ((0 : Int) ≤ l ∧ l ≤ (m : Int) - 1) = false := by simp only [decide_eq_false_iff_not]; exact hrg
                    have HG : Hid (¬ (0 ≤ l ∧ l ≤ (m : Int) - 1)) := hrg
                    clear hrg hw'
                    go_wp2_with (go_at_call 53; refine (in_c _ _ _ _).mono ?_; rintro e w2 ⟨rfl, rfl⟩; rw [hin3])
                    go_ret
                    refine ⟨_, rfl, ⟨fun h => (by cases h), fun h => ?_⟩, HBW.out⟩
                    have h5 := h.2.2.2.1 l (by rw [HR.out]; simp)
                    exact absurd ⟨h5.1, by omega⟩ HG.out
                · have hke : k = cs[j].2.length := by omega
                  have e4 : linesTo cs j ++ (cs[j].2.take k).map (·.1) = linesTo cs (j + 1) := by rw [linesTo_succ cs j hjc, hke, List.take_length]
                  rw [e4] at hw' hS
                  have HW' : Hid _ := hw'
                  have HA : Hid ((∀ a (h : a < cs.length), a < j + 1 → CallOk cs[a]) ∧ SeenOk m (linesTo cs (j + 1))) := by
                    refine ⟨fun a h h' => ?_, hS.out⟩
                    by_cases hlt' : a < j
                    · exact hI.out.1 a h hlt'
                    · obtain rfl : a = j := by omega
                      exact HO.out
                  clear g3 e4 hw'
                  subst hke
                  go_wp2
                  go_roundw
                  case rel => exact ⟨j + 1, by omega, by go_num, HW'.out, HA.out, hbr'⟩
                  case measure => simp [intOf]; omega
            · have hl3 : ((cs[j].2.length : Int) < 2) = False := by simp; omega
              have HW0 : Hid (wr.ownsRow (w.heap.size + 1) 4 1 (.slice (some ⟨w.heap.size + 1, 0, none⟩) m m) m ((usedAt m (linesTo cs j ++ (cs[j].2.take 0).map (·.1))).map Value.bool)) := by rw [show linesTo cs j ++ (cs[j].2.take 0).map (·.1) = linesTo cs j by simp]; exact hw
              have HS0 : Hid (SeenOk m (linesTo cs j ++ (cs[j].2.take 0).map (·.1))) := by rw [show linesTo cs j ++ (cs[j].2.take 0).map (·.1) = linesTo cs j by simp]; exact hI.out.2
              have HB0 : Hid (Below (w.heap.size + 1) (w.alloc (Obj.cells #[.int .i64 m, .slice (some ⟨b, off, none⟩) rv.length cap] 26)) wr) := hbr
              clear hpk
              go_wp2_with (go_at_call 53; refine (in_c _ _ _ _).mono ?_; rintro e w2 ⟨rfl, rfl⟩; rw [hin2])
              clear hw HBW
              go_loopw [6] (fun i wr => ∃ k : Nat, k ≤ cs[j].2.length ∧ i = .int .i64 k ∧ wr.ownsRow (w.heap.size + 1) 4 1 (.slice (some ⟨w.heap.size + 1, 0, none⟩) m m) m ((usedAt m (linesTo cs j ++ (cs[j].2.take k).map (·.1))).map Value.bool) ∧ Hid (SeenOk m (linesTo cs j ++ (cs[j].2.take k).map (·.1))) ∧ Below (w.heap.size + 1) (w.alloc (Obj.cells #[.int .i64 m, .slice (some ⟨b, off, none⟩) rv.length cap] 26)) wr) (fun i _ => cs[j].2.length - (intOf i).toNat)
              case atStart => exact ⟨0, Nat.zero_le _, rfl, HW0.out, HS0.out, HB0.out⟩
              case round =>
                obtain ⟨k, hk, rfl, hw', hS, hbr'⟩ := hrel
                clear HW0 HS0 HB0 k0 k1 hc0 hc1
                have kb := HK.out.below hbr' (by omega)
                have k0 := kb.cell 0
                have k1 := kb.cell 1
                simp at k0 k1
                have hc1 := (hbr'.cell (p := ⟨b, off + j * 2 + 1, none⟩) hcb).trans HC1.out
                have HBW : Hid (Below w.heap.size w wr) := HB.out.trans (hbr'.mono (by omega))
                clear kb
                by_cases hkt : k < cs[j].2.length
                · rcases g3 with g3 | ⟨b2, off2, rfl, g4⟩
                  · rw [g3] at hkt; simp at hkt
                  have hd0 := (g4 k hkt).1
                  have hcb2 : b2 < w.heap.size + 1 := by have := block_lt_of_cell hd0; simpa using this
                  have hd := (hbr'.cell (p := ⟨b2, off2 + k * 2, none⟩) hcb2).trans hd0
                  obtain ⟨r, hr⟩ := seen_pre cs j k hjc hkt
                  obtain ⟨l, hl⟩ : ∃ l, cs[j].2[k].1 = l := ⟨_, rfl⟩
                  have hstep : (cs[j].2.take (k + 1)).map (·.1) = (cs[j].2.take k).map (·.1) ++ [l] := by rw [List.take_succ_eq_append_getElem hkt, List.map_append, ← hl]; rfl
                  have hd' : wr.cell? ⟨b2, off2 + k * 2, none⟩ = some (.int .i64 l) := by rw [hd]; show some (Value.int .i64 cs[j].2[k].1) = _; rw [hl]
                  rw [hl] at hr
                  have HR : Hid (linesTo cs cs.length = (linesTo cs j ++ (cs[j].2.take k).map (·.1)) ++ [l] ++ r) := hr
                  have HT : Hid ((cs[j].2.take (k + 1)).map (·.1) = (cs[j].2.take k).map (·.1) ++ [l]) := hstep
                  clear g4 hd0 hd hr hstep hl
                  by_cases hrg : 0 ≤ l ∧ l ≤ (m : Int) - 1
                  · have hin3 : decide ((0 : Int) ≤ l ∧ l ≤ (m : Int) - 1) = true := by simp only [decide_eq_true_eq]; exact hrg
                    obtain ⟨q, rfl⟩ := Int.eq_ofNat_of_zero_le hrg.1
                    have hqm : q < m := by omega
                    have hu : wr.cell? ⟨w.heap.size + 1, q, none⟩ = some (.bool (decide ((q : Int) ∈ linesTo cs j ++ (cs[j].2.take k).map (·.1)))) := by
                      rw [hw'.cellAt q (by omega), List.getElem?_map, usedAt_at m _ q hqm]; rfl
                    by_cases hm : (q : Int) ∈ linesTo cs j ++ (cs[j].2.take k).map (·.1)
                    · rw [decide_eq_true hm] at hu
                      have HM : Hid ((q : Int) ∈ linesTo cs j ++ (cs[j].2.take k).map (·.1)) := hm
                      clear hm hw'
                      go_wp2_with (go_at_call 53; refine (in_c _ _ _ _).mono ?_; rintro e w2 ⟨rfl, rfl⟩; rw [hin3])
                      go_ret
                      refine ⟨_, rfl, ⟨fun h => (by cases h), fun h => ?_⟩, HBW.out⟩
                      have hnd := h.2.2.2.2
                      rw [HR.out, List.append_assoc, List.nodup_append] at hnd
                      exact absurd rfl (hnd.2.2 _ HM.out q (by simp))
                    · rw [decide_eq_false hm] at hu
                      have HM : Hid (¬ (q : Int) ∈ linesTo cs j ++ (cs[j].2.take k).map (·.1)) := hm
                      have hf := hw'.frozenAt q
                      have hs := (hw'.stored q (.bool true)).1
                      have e3 : ((usedAt m (linesTo cs j ++ (cs[j].2.take k).map (·.1))).map Value.bool).set q (.bool true) = (usedAt m (linesTo cs j ++ (cs[j].2.take (k + 1)).map (·.1))).map Value.bool := by
                        rw [← List.map_set, usedAt_set, HT.out, List.append_assoc]
                      rw [e3] at hs
                      have HS' : Hid _ := hs
                      have hb3 := hbr'.setCell (p := ⟨w.heap.size + 1, q, none⟩) (by exact Nat.le_refl _) (.bool true)
                      have HB3 : Hid _ := hb3
                      clear hm hw' hs e3 hb3
                      go_wp2_with (go_at_call 53; refine (in_c _ _ _ _).mono ?_; rintro e w2 ⟨rfl, rfl⟩; rw [hin3])
                      go_roundw
                      case rel =>
                        refine ⟨k + 1, by omega, by go_num, HS'.out, ?_, HB3.out⟩
                        rw [HT.out, ← List.append_assoc]
                        refine ⟨fun l hl => ?_, ?_⟩
                        · rcases List.mem_append.1 hl with hl | hl
                          · exact hS.out.1 l hl
                          · simp at hl; subst hl; omega
                        · rw [List.nodup_append]
                          refine ⟨hS.out.2, by simp, fun x hx y hy => ?_⟩
                          simp at hy; subst hy
                          exact fun e => HM.out (e ▸ hx)
                      case measure => simp [intOf]; omega
                  · have hin3 : decide ((0 : Int) ≤ l ∧ l ≤ (m : Int) - 1) = false := by simp only [decide_eq_false_iff_not]; exact hrg
                    have HG : Hid (¬ (0 ≤ l ∧ l ≤ (m : Int) - 1)) := hrg
                    clear hrg hw'
                    go_wp2_with (go_at_call 53; refine (in_c _ _ _ _).mono ?_; rintro e w2 ⟨rfl, rfl⟩; rw [hin3])
                    go_ret
                    refine ⟨_, rfl, ⟨fun h => (by cases h), fun h => ?_⟩, HBW.out⟩
                    have h5 := h.2.2.2.1 l (by rw [HR.out]; simp)
                    exact absurd ⟨h5.1, by omega⟩ HG.out
                · have hke : k = cs[j].2.length := by omega
                  have e4 : linesTo cs j ++ (cs[j].2.take k).map (·.1) = linesTo cs (j + 1) := by rw [linesTo_succ cs j hjc, hke, List.take_length]
                  rw [e4] at hw' hS
                  have HW' : Hid _ := hw'
                  have HA : Hid ((∀ a (h : a < cs.length), a < j + 1 → CallOk cs[a]) ∧ SeenOk m (linesTo cs (j + 1))) := by
                    refine ⟨fun a h h' => ?_, hS.out⟩
                    by_cases hlt' : a < j
                    · exact hI.out.1 a h hlt'
                    · obtain rfl : a = j := by omega
                      exact HO.out
                  clear g3 e4 hw'
                  subst hke
                  go_wp2
                  go_roundw
                  case rel => exact ⟨j + 1, by omega, by go_num, HW'.out, HA.out, hbr'⟩
                  case measure => simp [intOf]; omega
        · have hin2 : decide ((1 : Int) ≤ (cs[j].2.length : Int) ∧ (cs[j].2.length : Int) ≤ 8) = false := by simp; omega
          have HO : Hid (¬ (1 ≤ cs[j].2.length ∧ cs[j].2.length ≤ 8)) := hok
          clear hok
          go_wp2_with (go_at_call 53; refine (in_c _ _ _ _).mono ?_; rintro e w2 ⟨rfl, rfl⟩; rw [hin2])
          go_ret
          exact ⟨_, rfl, ⟨fun h => (by cases h), fun h => absurd ⟨(h.2.2.1 j hjc).1, (h.2.2.1 j hjc).2.1⟩ HO.out⟩, HBW.out⟩
      · have hjl : j = rv.length := by omega
        have HP : Hid (POk m cs) := ⟨hn.1, hn.2, fun a h => hI.out.1 a h (by have h := HRL.out; omega), by have h := hI.out.2; rw [hjl, HRL.out] at h; exact h⟩
        clear h3 HRC
        subst hjl
        go_wp2
        go_ret
        exact ⟨_, rfl, ⟨fun _ => HP.out, fun _ => rfl⟩, HBW.out⟩
  · have hin : decide ((1 : Int) ≤ n ∧ n ≤ 40) = false := by simp only [decide_eq_false_iff_not]; exact hn
    have HN : Hid (¬ (1 ≤ n ∧ n ≤ 40)) := hn
    clear hn h3
    go_enter Try.func15, Try.ntmps15
    go_wp2_with (go_at_call 53; refine (in_c _ _ _ _).mono ?_; rintro e w2 ⟨rfl, rfl⟩; rw [hin])
    go_ret
    exact ⟨_, rfl, ⟨fun h => (by cases h), fun h => absurd ⟨h.1, h.2.1⟩ HN.out⟩, HB.out⟩
end Go.Proofs.Ytcbeaimpmjljjaa

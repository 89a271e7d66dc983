/- The contract of the model's Cells: the cells that the program's hands back; no condition. -/
import Derived.Test.YtadhiddnjhjioaaCells

namespace Go.Proofs.Ytadhiddnjhjioaa
open Go.RowKit Go.ChangeShapes Go.WideShapes Go.ChangeAt
set_option linter.unusedVariables false
set_option linter.unusedSimpArgs false
/-- a cell whose first byte is not set yet, with its first t bytes -/
def fl (ps : List Int) (t : Nat) : List Int := 0 :: (ps.take t ++ List.replicate (15 - t) 0)
theorem fl_B {ps : List Int} (hp : bytesOk ps) (hl : ps.length ≤ 15) (t : Nat) (ht : t ≤ ps.length) : B16 (fl ps t) := by
  refine ⟨by simp [fl]; omega, fun z hz => ?_⟩
  simp only [fl, List.mem_cons, List.mem_append, List.mem_replicate] at hz
  rcases hz with rfl | hz | ⟨_, rfl⟩
  · omega
  · exact hp z (List.mem_of_mem_take hz)
  · omega
theorem A16_lset (zs : List Int) (k : Nat) (x : Int) : (A16 zs).setIfInBounds k (.int .u8 x) = A16 (zs.set k x) := by
  apply Array.ext'; simp [A16, List.map_set]
theorem fl_set {ps : List Int} (hl : ps.length ≤ 15) (t : Nat) (ht : t < ps.length) : (fl ps t).set (t + 1) (ps.getD t 0) = fl ps (t + 1) := by
  have e : List.replicate (15 - t) (0 : Int) = 0 :: List.replicate (15 - (t + 1)) 0 := by
    rw [show 15 - t = (15 - (t + 1)) + 1 by omega, List.replicate_succ]
  have tk : ps.take (t + 1) = ps.take t ++ [ps.getD t 0] := by
    rw [List.take_succ_eq_append_getElem ht]; simp [List.getElem?_eq_getElem ht]
  have hm : min t ps.length = t := by omega
  rw [fl, fl, e, tk]
  simp [List.set_append, hm]
theorem fl_full (ps : List Int) (x : Int) : (fl ps ps.length).set 0 x = x :: (ps ++ List.replicate (15 - ps.length) 0) := by simp [fl]
theorem Blk.some {w : World} {g : Nat} {cs : Array Value} {t : TypeId} (h : Blk w g cs t) (k : Nat) (hk : k < cs.size) : ∃ x, w.cell? ⟨g, k, none⟩ = Option.some x := by
  rw [h.cell k]; exact ⟨_, Array.getElem?_eq_getElem hk⟩
theorem OwA.set {base : Nat} {w : World} {v : Value} {n : Nat} {zs : List Int} (h : OwA base w v n zs) (g : Nat) (hne : v.ownBlock = none ∨ v.ownBlock ≠ some g) (k : Nat) (x : Value) : OwA base (w.setCell ⟨g, k, none⟩ x) v n zs :=
  ⟨World.ownsRow.kept h.1 ⟨rfl, rfl, rfl, by simp, fun i _ hi => heap_setCell_other w ⟨g, k, none⟩ i x (fun e => hi (by simp [e]))⟩ hne, h.2⟩
theorem OwA.row {base : Nat} {w : World} {v : Value} {n : Nat} {zs : List Int} (h : OwA base w v n zs) (g : Nat) (hne : v.ownBlock = none ∨ v.ownBlock ≠ some g) (cs : Array Value) : OwA base (w.setRow g cs) v n zs :=
  ⟨World.ownsRow.kept h.1 ⟨rfl, rfl, rfl, by simp, fun i _ hi => setRow_other w g i cs (fun e => hi (by simp [e]))⟩ hne, h.2⟩
theorem OwA.apart {base : Nat} {w : World} {v : Value} {n : Nat} {zs : List Int} (h : OwA base w v n zs) (g : Nat) (hg : w.heap.size ≤ g) : v.ownBlock = none ∨ v.ownBlock ≠ some g := by
  cases hv : v.ownBlock with
  | none => exact .inl rfl
  | some j => refine .inr fun e => ?_; have := (World.ownsRow.lt h.1 j hv).2; simp at e; omega
set_option maxHeartbeats 1600000 in
theorem cells_spec (v : Value) (zs : List Int) (w : World) (h : Rd .u8 w v zs) (hz : bytesOk zs) :
   Calls Try.prog 16 #[v] w fun e w' => ∃ v', e = .returned v' ∧ OwA w.heap.size w' v' (cellsN zs) (cellsL zs) ∧ Below w.heap.size w w' := by
  obtain ⟨a, cap, rfl, h1, h2, h3⟩ := h
  have hb0 : Below w.heap.size w (w.alloc (.cells #[] 29)) := (Below.refl _ _).alloc (Nat.le_refl _) _
  have he0 := OwA.empty w.heap.size w (Nat.le_refl _)
  unfold maxLen at h2
  by_cases hbig : 900 < zs.length
  · have hN : cellsN zs = 0 := by simp [cellsN]; omega
    have hL : cellsL zs = [] := by simp [cellsL, hN, cellsTo]
    have hd : decide ((900 : Int) < (zs.length : Int)) = true := by simp; omega
    clear h3
    go_enter Try.func16, Try.ntmps16
    go_wp2
    go_ret
    exact ⟨_, rfl, by rw [hN, hL]; exact he0, hb0⟩
  have hd : decide ((900 : Int) < (zs.length : Int)) = false := by simp; omega
  have hN : cellsN zs = (zs.length + 14) / 15 := by simp [cellsN]; omega
  have HN : Hid (cellsN zs = (zs.length + 14) / 15) := hN
  clear hN
  go_enter Try.func16, Try.ntmps16
  go_wp2
  go_loopw [3, 4] (fun u i wr => ∃ j : Nat, j ≤ (zs.length + 14) / 15 ∧ i = .int .i64 (15 * j : Nat) ∧ OwA w.heap.size wr u j (cellsTo zs j) ∧ Below w.heap.size w wr) (fun _ i _ => zs.length + 15 - (intOf i).toNat)
  case atStart => exact ⟨0, Nat.zero_le _, rfl, he0, hb0⟩
  case round =>
    rename World => wo
    obtain ⟨j, hj, rfl, hw, hbr⟩ := hrel
    clear he0 hb0
    have hs0 := hbr.size
    by_cases hlt : 15 * j < zs.length
    · rcases h3 with h3 | ⟨b, off, rfl, h4⟩
      · subst h3; simp at hlt
      have hpl := part_len zs j
      have hpo := part_ok hz j
      have HP : Hid (∀ t W, t < (part zs j).length → Below w.heap.size w W → W.cell? ⟨b, off + (15 * j + t), none⟩ = some (.int .u8 ((part zs j).getD t 0))) := by
        intro t W ht hW
        have := h4 (15 * j + t) (by omega)
        rw [hW.cell (block_lt_of_cell this), this, part_at _ _ _ (by omega)]
      have hB := cellAt_B hz j
      have hs16 := A16_size hB
      have HCA : Hid (cellAt zs j = cellOf (part zs j) j (decide (zs.length ≤ 15 * j + 15))) := rfl
      generalize part zs j = ps at hpl hpo HP HCA
      have a1 : ps.length ≤ 15 := by omega
      have a2 : 15 * j + ps.length ≤ zs.length := by omega
      have a3 : Hid (ps.length = 15 ∨ 15 * j + ps.length = zs.length) := by show _ ∨ _; omega
      clear hpl
      clear h4
      have hap := hw.apart wo.heap.size (Nat.le_refl _)
      have HAP : Hid _ := hap
      clear hap
      obtain ⟨u', hv⟩ : ∃ a' c', u3 = .slice a' j c' := by
        rcases hw.1.2 with ⟨h, h'⟩ | ⟨g, cap, cur, h, _⟩
        · exact ⟨none, 0, by rw [h, h']⟩
        · exact ⟨_, _, h⟩
      obtain ⟨c', hv⟩ := hv
      subst hv
      have hlt' : decide (15 * (j : Int) < (zs.length : Int)) = true := by simp; omega
      have hbk : Blk ((wo.alloc (.cells (A16 (List.replicate 16 0)) 29)).setRow wo.heap.size (A16 (List.replicate 16 0))) wo.heap.size (A16 (fl ps 0)) 29 := (Blk.newAt _ _ _ _ rfl).row _
      have hw0 := (hw.alloc (.cells (A16 (List.replicate 16 0)) 29)).row wo.heap.size HAP.out (A16 (List.replicate 16 0))
      have hbr0 : Below w.heap.size w ((wo.alloc (.cells (A16 (List.replicate 16 0)) 29)).setRow wo.heap.size (A16 (List.replicate 16 0))) := belowRow (hbr.alloc hs0 _) _ hs0 _
      go_wp2_with (refine st29 rfl (.tmp 5) (.tmp 18) rfl wo.heap.size rfl (List.replicate 16 0) Z16_B' rfl 29 (A16 (List.replicate 16 0)) (Blk.newAt _ _ _ _ rfl) (A16_size Z16_B') ?_)
      go_loopw [6] (fun i wq => ∃ t : Nat, t ≤ ps.length ∧ i = .int .i64 t ∧ Blk wq wo.heap.size (A16 (fl ps t)) 29 ∧ OwA w.heap.size wq (.slice u' j c') j (cellsTo zs j) ∧ Below w.heap.size w wq) (fun i _ => 15 - (intOf i).toNat)
      case atStart => exact ⟨0, by omega, rfl, hbk, hw0, hbr0⟩
      case round =>
        obtain ⟨t, ht, rfl, k1, hq, hbq⟩ := hrel
        clear hbk hw0 hbr0 hw hbr
        have hsz := k1.lt
        by_cases htl : t < ps.length
        · have hc := HP.out t wr htl hbq
          obtain ⟨x, hd1⟩ := k1.some (t + 1) (by rw [A16_size (fl_B hpo a1 t ht)]; omega)
          have hf := k1.frozen (t + 1)
          have hs := k1.set (t + 1) (.int .u8 (ps.getD t 0))
          rw [A16_lset, fl_set a1 t htl] at hs
          have t1 : decide ((t : Int) < 15) = true := by simp; omega
          have t2 : decide (15 * (j : Int) + (t : Int) < (zs.length : Int)) = true := by simp; omega
          have t3 : 15 * (j : Int) + (t : Int) < (zs.length : Int) := by omega
          have t4 : (15 * (j : Int) + (t : Int)).toNat = 15 * j + t := by omega
          have t5 : ((t : Int) + 1).toNat = t + 1 := by omega
          have t6 : (t : Int) + 1 < 16 := by omega
          go_wp2
          go_roundw
          case rel =>
            refine ⟨t + 1, by omega, by go_num, ?_, hq.set _ HAP.out _ _, hbq.setCell (by dsimp only; omega) _⟩
            simpa [List.getElem?_eq_getElem htl] using hs
          case measure => simp [intOf]; omega
        · obtain rfl : t = ps.length := by omega
          obtain ⟨x, hd1⟩ := k1.some 0 (by rw [A16_size (fl_B hpo a1 _ (Nat.le_refl _))]; omega)
          have hf := k1.frozen 0
          by_cases hlast : zs.length ≤ 15 * j + 15
          · have hca : cellAt zs j = ((ps.length : Int) + 16 * ((j : Int) % 8) + 128) :: (ps ++ List.replicate (15 - ps.length) 0) := by
              rw [HCA.out, show decide (zs.length ≤ 15 * j + 15) = true by simpa using hlast]; simp [cellOf, headOf]
            have k2 : Blk ((wr.setCell ⟨wo.heap.size, 0, none⟩ (.int .u8 ((ps.length : Int) + 16 * ((j : Int) % 8)))).setCell ⟨wo.heap.size, 0, none⟩ (.int .u8 ((ps.length : Int) + 16 * ((j : Int) % 8) + 128))) wo.heap.size (A16 (cellAt zs j)) 29 := by
              have := (k1.set 0 (.int .u8 ((ps.length : Int) + 16 * ((j : Int) % 8)))).set 0 (.int .u8 ((ps.length : Int) + 16 * ((j : Int) % 8) + 128))
              rw [A16_lset, A16_lset, fl_full, List.set_cons_zero, ← hca] at this
              exact this
            have q2 := (hq.set _ HAP.out 0 (.int .u8 ((ps.length : Int) + 16 * ((j : Int) % 8)))).set _ HAP.out 0 (.int .u8 ((ps.length : Int) + 16 * ((j : Int) % 8) + 128))
            have b2 : Below w.heap.size w ((wr.setCell ⟨wo.heap.size, 0, none⟩ (.int .u8 ((ps.length : Int) + 16 * ((j : Int) % 8)))).setCell ⟨wo.heap.size, 0, none⟩ (.int .u8 ((ps.length : Int) + 16 * ((j : Int) % 8) + 128))) := (hbq.setCell (by dsimp only; omega) _).setCell (by dsimp only; omega) _
            clear hca
            have t9 : decide ((zs.length : Int) ≤ 15 * (j : Int) + 15) = true := by simp; omega
            by_cases h15 : ps.length < 15
            · have e3 : 15 * j + ps.length = zs.length := by have := a3.out; omega
              have t1 : decide ((ps.length : Int) < 15) = true := by simp; omega
              have t2 : decide (15 * (j : Int) + (ps.length : Int) < (zs.length : Int)) = false := by simp; omega
              have E3 : Hid (15 * j + ps.length = zs.length) := e3
              clear e3
              go_wp2_with (first | refine ld29 rfl (.tmp 5) rfl wo.heap.size rfl 29 (A16 (cellAt zs j)) (0, 0) k2 hs16 ?_ | refine bs29 rfl (.tmp 58) rfl (cellAt zs j) hB rfl ?_ | (at_builtin; refine appA rfl (.tmp 57) (.tmp 59) rfl w.heap.size _ j (cellsTo zs j) rfl (q2.alloc _) _ (cellAt zs j) hB rfl (Blk.newAt _ _ _ _ rfl) (by omega) (by simp; omega) ?_))
              intro v2 w2 ho2 hb2
              have hbr2 : Below w.heap.size w w2 := (b2.alloc (by simp; omega) _).trans hb2
              clear hb2 b2 q2 k2 k1 hq hbq
              go_wp2
              go_roundw
              case rel => exact ⟨j + 1, by omega, by go_num, ho2, hbr2⟩
              case measure => simp [intOf]; omega
            · have t1 : decide ((ps.length : Int) < 15) = false := by simp; omega
              go_wp2_with (first | refine ld29 rfl (.tmp 5) rfl wo.heap.size rfl 29 (A16 (cellAt zs j)) (0, 0) k2 hs16 ?_ | refine bs29 rfl (.tmp 58) rfl (cellAt zs j) hB rfl ?_ | (at_builtin; refine appA rfl (.tmp 57) (.tmp 59) rfl w.heap.size _ j (cellsTo zs j) rfl (q2.alloc _) _ (cellAt zs j) hB rfl (Blk.newAt _ _ _ _ rfl) (by omega) (by simp; omega) ?_))
              intro v2 w2 ho2 hb2
              have hbr2 : Below w.heap.size w w2 := (b2.alloc (by simp; omega) _).trans hb2
              clear hb2 b2 q2 k2 k1 hq hbq
              go_wp2
              go_roundw
              case rel => exact ⟨j + 1, by omega, by go_num, ho2, hbr2⟩
              case measure => simp [intOf]; omega
          · have hca : cellAt zs j = ((ps.length : Int) + 16 * ((j : Int) % 8)) :: (ps ++ List.replicate (15 - ps.length) 0) := by
              rw [HCA.out, show decide (zs.length ≤ 15 * j + 15) = false by simpa using hlast]; simp [cellOf, headOf]
            have k2 : Blk (wr.setCell ⟨wo.heap.size, 0, none⟩ (.int .u8 ((ps.length : Int) + 16 * ((j : Int) % 8)))) wo.heap.size (A16 (cellAt zs j)) 29 := by
              have := k1.set 0 (.int .u8 ((ps.length : Int) + 16 * ((j : Int) % 8)))
              rw [A16_lset, fl_full, ← hca] at this
              exact this
            have q2 := hq.set _ HAP.out 0 (.int .u8 ((ps.length : Int) + 16 * ((j : Int) % 8)))
            have b2 : Below w.heap.size w (wr.setCell ⟨wo.heap.size, 0, none⟩ (.int .u8 ((ps.length : Int) + 16 * ((j : Int) % 8)))) := hbq.setCell (by dsimp only; omega) _
            clear hca
            have t9 : decide ((zs.length : Int) ≤ 15 * (j : Int) + 15) = false := by simp; omega
            have t1 : decide ((ps.length : Int) < 15) = false := by have := a3.out; simp; omega
            go_wp2_with (first | refine ld29 rfl (.tmp 5) rfl wo.heap.size rfl 29 (A16 (cellAt zs j)) (0, 0) k2 hs16 ?_ | refine bs29 rfl (.tmp 58) rfl (cellAt zs j) hB rfl ?_ | (at_builtin; refine appA rfl (.tmp 57) (.tmp 59) rfl w.heap.size _ j (cellsTo zs j) rfl (q2.alloc _) _ (cellAt zs j) hB rfl (Blk.newAt _ _ _ _ rfl) (by omega) (by simp; omega) ?_))
            intro v2 w2 ho2 hb2
            have hbr2 : Below w.heap.size w w2 := (b2.alloc (by simp; omega) _).trans hb2
            clear hb2 b2 q2 k2 k1 hq hbq
            go_wp2
            go_roundw
            case rel => exact ⟨j + 1, by omega, by go_num, ho2, hbr2⟩
            case measure => simp [intOf]; omega
    · have hje : j = (zs.length + 14) / 15 := by omega
      have hlt' : decide (15 * (j : Int) < (zs.length : Int)) = false := by simp; omega
      have HJ : Hid (j = (zs.length + 14) / 15) := hje
      clear h3 hje
      go_wp2
      go_ret
      exact ⟨_, rfl, by rw [cellsL, HN.out, ← HJ.out]; exact hw, hbr⟩
end Go.Proofs.Ytadhiddnjhjioaa

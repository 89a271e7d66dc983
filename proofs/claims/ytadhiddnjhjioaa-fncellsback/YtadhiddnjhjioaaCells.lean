/- The plain function that Cells computes, and the contract of the program's; no condition. -/
import Derived.Test.YtadhiddnjhjioaaFill

namespace Go.Proofs.Ytadhiddnjhjioaa
open Go.RowKit Go.ChangeShapes Go.WideShapes Go.ChangeAt
set_option linter.unusedVariables false
set_option linter.unusedSimpArgs false
theorem info29 : (Try.prog.info? 29).map (fun i => (i.zero, i.size, i.bytes)) = some (some (.agg (A16 (List.replicate 16 0))), 16, 16) := by kernel_rfl
theorem OwA.alloc {base : Nat} {w : World} {v : Value} {n : Nat} {zs : List Int} (h : OwA base w v n zs) (o : Obj) : OwA base (w.alloc o) v n zs := ⟨World.ownsRow.alloc h.1 o, h.2⟩
theorem OwA.nil (base : Nat) (w : World) : OwA base w (.slice none 0 0) 0 [] := ⟨World.ownsRow_nil w base 29 16, by simp [bytesOk]⟩
theorem OwA.empty (base : Nat) (w : World) (hb : base ≤ w.heap.size) : OwA base (w.alloc (.cells #[] 29)) (.slice (some ⟨w.heap.size, 0, none⟩) 0 0) 0 [] :=
  ⟨World.ownsRow_lit w #[] 0 hb (by simp) (by simp), by simp [bytesOk]⟩
theorem bytesOk_append {a b : List Int} (ha : bytesOk a) (hb : bytesOk b) : bytesOk (a ++ b) := fun z hz => by
  rcases List.mem_append.1 hz with h | h
  · exact ha z h
  · exact hb z h
theorem bs29raw (c0 c1 c2 c3 c4 c5 c6 c7 c8 c9 c10 c11 c12 c13 c14 c15 : Int) (w : World) : (Instr.buildSlice 25 1 #[(0, .agg (A16 [c0, c1, c2, c3, c4, c5, c6, c7, c8, c9, c10, c11, c12, c13, c14, c15]))]).run Try.prog w = .ok (.slice (some ⟨w.heap.size, 0, none⟩) 1 1) (w.alloc (.cells (A16 [c0, c1, c2, c3, c4, c5, c6, c7, c8, c9, c10, c11, c12, c13, c14, c15]) 29)) := by kernel_rfl
theorem bs29run (cell : List Int) (hB : B16 cell) (w : World) : (Instr.buildSlice 25 1 #[(0, .agg (A16 cell))]).run Try.prog w = .ok (.slice (some ⟨w.heap.size, 0, none⟩) 1 1) (w.alloc (.cells (A16 cell) 29)) := by
  match cell, hB.1 with
  | [c0, c1, c2, c3, c4, c5, c6, c7, c8, c9, c10, c11, c12, c13, c14, c15], _ => exact bs29raw c0 c1 c2 c3 c4 c5 c6 c7 c8 c9 c10 c11 c12 c13 c14 c15 w
/-- a slice of one array -/
theorem bs29 {ops : Array Oper} {rest : List Oper} {o : Oper} {a : Act} {w : World} {Q : Exit → Act → World → Prop} (hgd : o.guard = none) (x : Operand) (ho : o.op = .buildSlice 25 1 #[(0, x)]) (cell : List Int) (hB : B16 cell) (hx : a.eval x = .agg (A16 cell))
    (h : wpList Try.prog ops Q rest (a.put o.dst (.slice (some ⟨w.heap.size, 0, none⟩) 1 1)) (w.alloc (.cells (A16 cell) 29))) : wpList Try.prog ops Q (o :: rest) a w := by
  refine wpList_plain hgd fun K hK => ?_
  refine wp_val (.slice (some ⟨w.heap.size, 0, none⟩) 1 1) (w' := w.alloc (.cells (A16 cell) 29)) ?_ (hK _ _ h)
  have hp : (#[((0 : Nat), x)].map fun p => (p.1, a.eval p.2)) = #[(0, .agg (A16 cell))] := by simp [hx]
  simp only [execOp, ho]
  rw [hp]
  simp only [Sem.run_bind, bs29run cell hB w, Result.andThen_ok, Sem.run_pure]
theorem appA {ops : Array Oper} {rest : List Oper} {o : Oper} {a : Act} {w : World} {Q : Exit → Act → World → Prop} (hgd : o.guard = none) (s x : Operand)
    (ho : o.op = .call { callee := .builtin .append, args := #[s, x], argTypes := #[25, 25] }) (base : Nat) (v : Value) (n : Nat) (zs : List Int) (hs : a.eval s = v) (hown : OwA base w v n zs)
    (g : Nat) (cell : List Int) (hB : B16 cell) (hx : a.eval x = .slice (some ⟨g, 0, none⟩) 1 1) (hc : Blk w g (A16 cell) 29) (hl : n ≤ 1099511627776) (hbase : base ≤ w.heap.size)
    (h : ∀ v' w', OwA base w' v' (n + 1) (zs ++ cell) → Below base w w' → wpList Try.prog ops Q rest (a.put o.dst v') w') : wpList Try.prog ops Q (o :: rest) a w := by
  obtain ⟨i0, hi, hz0, hz1, hz2⟩ := info_parts info29
  refine wpList_append_own w hgd s x 25 ho base 29 i0 (.agg (A16 (List.replicate 16 0))) 16 16 Try.underlying25 hi hz0 hz1 hz2 rfl (by decide) v n (zs.map (Value.int .u8)) hs hown.1 ⟨g, 0, none⟩ 1 1 (cell.map (Value.int .u8)) hx (by simp [hB.1]) ?_ ?_ ?_ ?_ hbase ?_
  · intro j u hj
    have hadd : (⟨g, 0, none⟩ : Addr).add j = ⟨g, j, none⟩ := by unfold Addr.add; split <;> simp_all
    rw [hadd, hc.cell j, ← hj]
    simp [A16]
  · intro u hu; simp at hu; obtain ⟨z, _, rfl⟩ := hu; rfl
  · unfold maxLen; omega
  · omega
  · intro v' w' h1 h2 h3
    refine h v' w' ⟨by simpa using h1, bytesOk_append hown.2 hB.2⟩ (grown_below h2 hbase fun j hj => (World.ownsRow.lt hown.1 j hj).1)
/-- the bytes of the j-th cell -/
def part (zs : List Int) (j : Nat) : List Int := (zs.drop (15 * j)).take 15
def cellAt (zs : List Int) (j : Nat) : List Int := cellOf (part zs j) j (decide (zs.length ≤ 15 * j + 15))
def cellsTo (zs : List Int) : Nat → List Int
  | 0 => []
  | j + 1 => cellsTo zs j ++ cellAt zs j
def cellsN (zs : List Int) : Nat := if zs.length ≤ 900 then (zs.length + 14) / 15 else 0
def cellsL (zs : List Int) : List Int := cellsTo zs (cellsN zs)
theorem part_len (zs : List Int) (j : Nat) : (part zs j).length = min 15 (zs.length - 15 * j) := by simp [part]
theorem part_ok {zs : List Int} (h : bytesOk zs) (j : Nat) : bytesOk (part zs j) := fun z hz => h z (List.mem_of_mem_drop (List.mem_of_mem_take hz))
theorem part_at (zs : List Int) (j i : Nat) (hi : i < 15) : (part zs j).getD i 0 = zs.getD (15 * j + i) 0 := by
  simp [part, List.getElem?_take, hi, List.getElem?_drop]
theorem cellAt_B {zs : List Int} (h : bytesOk zs) (j : Nat) : B16 (cellAt zs j) := cellOf_B (part_ok h j) (by rw [part_len]; omega) _ _
set_option maxHeartbeats 1600000 in
theorem cells_impl (v : Value) (zs : List Int) (w : World) (h : Rd .u8 w v zs) (hz : bytesOk zs) :
   Calls Try.prog 15 #[v] w fun e w' => ∃ v', e = .returned v' ∧ OwA w.heap.size w' v' (cellsN zs) (cellsL zs) ∧ Below w.heap.size w w' := by
  obtain ⟨a, cap, rfl, h1, h2, h3⟩ := h
  have hcm := h2
  unfold maxLen at h2
  by_cases hbig : 900 < zs.length
  · have hN : cellsN zs = 0 := by simp [cellsN]; omega
    have hL : cellsL zs = [] := by simp [cellsL, hN, cellsTo]
    have hd : decide ((900 : Int) < (zs.length : Int)) = true := by simp; omega
    clear h3
    go_enter Try.func15, Try.ntmps15
    go_wp2
    go_ret
    exact ⟨_, rfl, by rw [hN, hL]; exact OwA.nil _ _, Below.refl _ _⟩
  have hd : decide ((900 : Int) < (zs.length : Int)) = false := by simp; omega
  have hN : cellsN zs = (zs.length + 14) / 15 := by simp [cellsN]; omega
  have HN : Hid (cellsN zs = (zs.length + 14) / 15) := hN
  clear hN
  go_enter Try.func15, Try.ntmps15
  go_wp2
  go_loopw [3, 4] (fun u i wr => ∃ j : Nat, j ≤ (zs.length + 14) / 15 ∧ i = .int .i64 (15 * j : Nat) ∧ OwA w.heap.size wr u j (cellsTo zs j) ∧ Below w.heap.size w wr) (fun _ i _ => zs.length + 15 - (intOf i).toNat)
  case atStart => exact ⟨0, Nat.zero_le _, rfl, OwA.nil _ _, Below.refl _ _⟩
  case round =>
    obtain ⟨j, hj, rfl, hw, hbr⟩ := hrel
    have hs0 := hbr.size
    by_cases hlt : 15 * j < zs.length
    · rcases h3 with h3 | ⟨b, off, rfl, h4⟩
      · subst h3; simp at hlt
      have hpl := part_len zs j
      have hfill := fun W (hW : Below w.heap.size w W) => fill_impl b (off + 15 * j) (cap - 15 * j) (part zs j) j (decide (zs.length ≤ 15 * j + 15)) W (part_ok hz j) (by omega) (by omega) (by omega) (by omega) (fun i hi => by
        have := h4 (15 * j + i) (by omega)
        rw [show off + 15 * j + i = off + (15 * j + i) by omega, hW.cell (block_lt_of_cell this), this, part_at _ _ _ (by omega)]) (by omega)
      have hfill' : ∀ W, Below w.heap.size w W → Calls Try.prog 53 #[.slice (some ⟨b, off + 15 * j, none⟩) (part zs j).length (cap - 15 * j), .int .i64 j, .bool (decide (zs.length ≤ 15 * j + 15))] W fun e w' => e = .returned (.agg (A16 (cellAt zs j))) ∧ Below W.heap.size W w' := hfill
      have hB := cellAt_B hz j
      have hs16 := A16_size hB
      clear hfill h4
      obtain ⟨u', hv⟩ : ∃ a' c', u3 = .slice a' j c' := by
        rcases hw.1.2 with ⟨h, h'⟩ | ⟨g, cap, cur, h, _⟩
        · exact ⟨none, 0, by rw [h, h']⟩
        · exact ⟨_, _, h⟩
      obtain ⟨c', hv⟩ := hv
      subst hv
      have hlt' : decide (15 * (j : Int) < (zs.length : Int)) = true := by simp; omega
      by_cases hfull : 15 * j + 15 ≤ zs.length
      · have hpl15 : (part zs j).length = 15 := by omega
        have hbool : decide (zs.length ≤ 15 * j + 15) = (15 * (j : Int) + 15 == (zs.length : Int)) := by
          rw [Bool.eq_iff_iff]; simp; omega
        rw [hpl15, hbool] at hfill'
        have HF : Hid _ := hfill'
        clear hfill' hbool hpl15 hpl
        go_wp2_with fail
        refine (HF.out _ hbr).mono ?_
        rintro e w1 ⟨rfl, b1⟩
        have hb1 := belowCall hbr b1 hs0
        have hw1 := hw.below b1
        have hs1 := hb1.size
        clear HF hw b1
        go_wp2_with (first | refine bs29 rfl (.tmp 31) rfl (cellAt zs j) hB rfl ?_ | (at_builtin; refine appA rfl (.tmp 20) (.tmp 32) rfl w.heap.size _ j (cellsTo zs j) rfl (hw1.alloc _) w1.heap.size (cellAt zs j) hB rfl (Blk.newAt _ _ _ _ rfl) (by omega) (by simp; omega) ?_))
        intro v2 w2 ho2 hb2
        have hbr2 : Below w.heap.size w w2 := (hb1.alloc hs1 _).trans hb2
        clear hb2 hb1 hw1
        go_wp2
        go_roundw
        case rel => exact ⟨j + 1, by omega, by go_num, ho2, hbr2⟩
        case measure => simp [intOf]; omega
      · have hpl15 : (part zs j).length = zs.length - 15 * j := by omega
        have hbool : decide (zs.length ≤ 15 * j + 15) = true := by simp; omega
        rw [hpl15, hbool] at hfill'
        have HF : Hid _ := hfill'
        clear hfill' hbool hpl15 hpl
        go_wp2_with fail
        refine (HF.out _ hbr).mono ?_
        rintro e w1 ⟨rfl, b1⟩
        have hb1 := belowCall hbr b1 hs0
        have hw1 := hw.below b1
        have hs1 := hb1.size
        clear HF hw b1
        go_wp2_with (first | refine bs29 rfl (.tmp 31) rfl (cellAt zs j) hB rfl ?_ | (at_builtin; refine appA rfl (.tmp 20) (.tmp 32) rfl w.heap.size _ j (cellsTo zs j) rfl (hw1.alloc _) w1.heap.size (cellAt zs j) hB rfl (Blk.newAt _ _ _ _ rfl) (by omega) (by simp; omega) ?_))
        intro v2 w2 ho2 hb2
        have hbr2 : Below w.heap.size w w2 := (hb1.alloc hs1 _).trans hb2
        clear hb2 hb1 hw1
        go_wp2
        go_roundw
        case rel => exact ⟨j + 1, by omega, by go_num, ho2, hbr2⟩
        case measure => simp [intOf]; omega
    · have hje : j = (zs.length + 14) / 15 := by omega
      have hlt' : decide (15 * (j : Int) < (zs.length : Int)) = false := by simp; omega
      have HJ : Hid (j = (zs.length + 14) / 15) := hje
      clear h3 hje
      go_wp2
      go_ret
      exact ⟨_, rfl, by rw [cellsL, HN.out, ← HJ.out]; exact hw, hbr⟩
end Go.Proofs.Ytadhiddnjhjioaa

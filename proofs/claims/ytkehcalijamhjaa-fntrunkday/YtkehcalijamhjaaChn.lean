/- Channels of notes; the program's send; no condition. -/
import Derived.Test.YtkehcalijamhjaaSnd
import Derived.Test.YtkehcalijamhjaaPut
import Derived.Conc.LoneSelect
import Derived.Conc.SmallLaws
namespace Go.Proofs.Ytkehcalijamhjaa
open Go.RowKit Go.ChangeShapes Go.WideShapes Go.ChangeAt
set_option linter.unusedVariables false
set_option linter.unusedSimpArgs false
set_option maxRecDepth 8000
open Go.Conc
section
variable {P : Program} {Q : Exit → Act → World → Prop} {ops : Array Oper}
theorem step_commB {b : Frame} {a : Act} {k : List Item} {cs : List Frame} {w w' : World} {ops : Array Oper} {i : Nat} {rest : List Nat} {o : Oper} {cases : Array CommCase} {bl : Bool} {shape : CommShape} {v : Value}
    (ho : ops[i]? = some o) (hg : o.guard = none) (hrun : (execOp a.eval o).run P w = .ok (.comm cases bl shape) w)
    (hstep : ∀ (fr : Frame) es, stepG P true (G fr cs) w = .comm (G fr cs) cases bl shape w es → step P (solo (G fr cs) w) = .next (solo (G (fr.finish v) cs) w')) :
    step P (lone (b.at a (.inRegion ops (i :: rest) :: k)) cs w) = .next (lone (b.at (a.put o.dst v) (.inRegion ops rest :: k)) cs w') := by
  have hw : Region.wanted o (yielded ops a.tmps) = true := by simp [Region.wanted, hg]
  have hst := stepG_op (P := P) (b := b) (k := k) (cs := cs) (w := w) (rest := rest) ho hw
  have hfin : (b.at a (.inRegion ops (i :: rest) :: k)).finish v = b.at (a.put o.dst v) (.inRegion ops rest :: k) := by
    rw [Frame.finish_at, ho]; rfl
  rw [← hfin, lone_eq_solo, lone_eq_solo]
  obtain ⟨es, hes⟩ : ∃ es, stepG P true (G (b.at a (.inRegion ops (i :: rest) :: k)) cs) w = .comm (G (b.at a (.inRegion ops (i :: rest) :: k)) cs) cases bl shape w es := by
    unfold G
    rw [hst]
    simp only [stepG.apply, Sem.runT_eq, hrun]
    exact ⟨_, rfl⟩
  exact hstep _ es hes
end
theorem zero68 (w : World) : (zeroValue 68).run Try.prog w = .ok (.agg (H2 0 0)) w := by kernel_rfl
theorem run_sel1 {a : Act} {w : World} {o : Oper} (ch x : Operand) (hop : o.op = .select #[{ chan := ch, send := some x, elem := 68 }] false) (c : Nat) (hch : a.eval ch = .chan (some c)) :
    (execOp a.eval o).run Try.prog w = .ok (.comm #[scase c (a.eval x) (.agg (H2 0 0))] false .select) w := by
  simp [execOp, hop, hch, scase, zero68, Sem.run_bind]
/-- a channel of notes that is open: those in it -/
def Chn (w : World) (g : Nat) (ns : Mvs) : Prop := ∃ s r, w.heap[g]? = some (.chan 60 (ns.map fun x => Value.agg (H2 x.1 x.2)).toArray false s r false)
theorem setChan_other (w : World) (c cap : Nat) (buf : Array Value) (cl : Bool) (s r : Nat) (tm : Bool) (k : Nat) (h : k ≠ c) : (w.setChan c cap buf cl s r tm).heap[k]? = w.heap[k]? := by
  simp only [World.setChan]; rw [Array.getElem?_setIfInBounds_ne (fun e => h e.symm)]
theorem fr_chan (w : World) (c cap : Nat) (buf : Array Value) (cl : Bool) (s r : Nat) (tm : Bool) : Fr (fun j => j = c) w (w.setChan c cap buf cl s r tm) :=
  ⟨rfl, rfl, rfl, by simp [World.setChan], fun k _ hne => setChan_other w c cap buf cl s r tm k hne⟩
theorem Chn.lt {w : World} {g : Nat} {ns : Mvs} (h : Chn w g ns) : g < w.heap.size := by obtain ⟨s, r, h⟩ := h; exact (Array.getElem?_eq_some_iff.1 h).1
theorem Chn.below {w w' : World} {g : Nat} {ns : Mvs} (h : Chn w g ns) (hb : Below w.heap.size w w') : Chn w' g ns := by
  have hl := h.lt
  obtain ⟨s, r, h⟩ := h; exact ⟨s, r, (hb.block g hl).trans h⟩
theorem Chn.fr {X : Nat → Prop} {w w' : World} {g : Nat} {ns : Mvs} (h : Chn w g ns) (hf : Fr X w w') (hx : ¬ X g) : Chn w' g ns := by
  have hl := h.lt
  obtain ⟨s, r, h⟩ := h; exact ⟨s, r, (hf.block g hl hx).trans h⟩
/-- a trunk at work: its cells -/
abbrev L6 (c0 c1 : Value) (l0 l1 : Int) (k0 k1 : Nat) : Array Value := #[c0, c1, .int .i64 l0, .int .i64 l1, .chan (some k0), .chan (some k1)]
def SdR (g : Nat) (ns : Mvs) (x : Int × Int) (w : World) (e : Ending) (w' : World) : Prop :=
  (ns.length < 60 → e = .returned (.bool true) ∧ Chn w' g (ns ++ [x]) ∧ Fr (fun j => j = g) w w') ∧ (ns.length = 60 → e = .returned (.bool false) ∧ Below w.heap.size w w')

set_option maxHeartbeats 3200000 in
theorem send0_c (g : Nat) (c0 c1 : Value) (l0 l1 : Int) (k0 k1 : Nat) (ns : Mvs) (kd ci : Int) (w : World) (hk : Blk w g (L6 c0 c1 l0 l1 k0 k1) 65) (hc : Chn w k0 ns) (hl : ns.length ≤ 60) :
    Calls Try.prog 41 #[.pointer (some ⟨g, 0, none⟩), .int .i64 0, .agg (H2 kd ci)] w (SdR k0 ns (kd, ci) w) := by
  obtain ⟨HR, hHR⟩ : ∃ H : Nat → Array Oper → Code, ∀ id ops, H id ops = Code.region id ops false := ⟨fun id ops => .region id ops false, fun _ _ => rfl⟩
  have HH : Hid (∀ id ops, HR id ops = Code.region id ops false) := hHR
  clear hHR
  obtain ⟨W0, hW0⟩ : ∃ W0, w.alloc (Obj.cells (H2 kd ci) 68) = W0 := ⟨_, rfl⟩
  have hb0 : Below w.heap.size w W0 := by rw [← hW0]; exact (Below.refl _ _).alloc (Nat.le_refl _) _
  have HB : Hid (Below w.heap.size w W0) := hb0
  have KN : Hid (Blk W0 w.heap.size (H2 kd ci) 68) := by rw [← hW0]; exact Blk.new _ _ _
  have KL : Hid (Blk W0 g (L6 c0 c1 l0 l1 k0 k1) 65) := hk.below hb0 hk.lt
  have HC : Hid (Chn W0 k0 ns) := hc.below hb0
  have HL : Hid (ns.length ≤ 60) := hl
  have x4 := KL.out.cell 4
  have y0 := KN.out.cell 0
  have y1 := KN.out.cell 1
  simp at x4 y0 y1
  clear hk hc hb0 hl
  go_enter Try.func41, Try.ntmps41
  rw [← HH.out 3]
  go_wp2
  rw [HH.out 3]
  clear hW0 x4 y0 y1
  obtain ⟨s, r, hch⟩ := HC.out
  by_cases hroom : ns.length < 60
  · have HF : Hid (Chn (W0.setChan k0 60 ((ns.map fun x => Value.agg (H2 x.1 x.2)).toArray.push (.agg (H2 kd ci))) false (s + 1) r false) k0 (ns ++ [(kd, ci)]) ∧ Fr (fun j => j = k0) w (W0.setChan k0 60 ((ns.map fun x => Value.agg (H2 x.1 x.2)).toArray.push (.agg (H2 kd ci))) false (s + 1) r false)) := by
      refine ⟨⟨s + 1, r, ?_⟩, (Fr.ofBelow HB.out).trans (fr_chan ..)⟩
      rw [heap_setChan _ _ _ _ _ _ _ _ HC.out.lt]
      simp
    have HRM : Hid (ns.length < 60) := hroom
    refine region_comm 0 _ rfl rfl ?_
    simp only [List.take]
    refine wpList_nil ?_
    refine ⟨rfl, .tuple #[goInt 0, .bool false], _, fun b k cs rest => step_commB rfl rfl (run_sel1 _ _ rfl k0 rfl) (fun fr es h => step_lone_select_send_room h hch (by simpa using HRM.out)), ?_⟩
    simp only [List.drop]
    obtain ⟨W1, hW1⟩ : ∃ W, W0.setChan k0 60 ((ns.map fun x => Value.agg (H2 x.1 x.2)).toArray.push (.agg (H2 kd ci))) false (s + 1) r false = W := ⟨_, rfl⟩
    rw [hW1] at HF
    have HW1 : Hid (W0.setChan k0 60 ((ns.map fun x => Value.agg (H2 x.1 x.2)).toArray.push (.agg (H2 kd ci))) false (s + 1) r false = W1) := hW1
    clear hW1 hch
    show wpList Try.prog _ _ _ _ (W0.setChan k0 60 ((ns.map fun x => Value.agg (H2 x.1 x.2)).toArray.push (.agg (H2 kd ci))) false (s + 1) r false)
    rw [HW1.out]
    have hgi : goInt 0 = Value.int .i64 0 := rfl
    rw [hgi]
    clear hgi
    go_wp2
    go_ret
    exact ⟨fun _ => ⟨rfl, HF.out⟩, fun h => absurd h (by have := HRM.out; omega)⟩
  · have HRM : Hid (¬ ns.length < 60) := hroom
    refine region_comm 0 _ rfl rfl ?_
    simp only [List.take]
    refine wpList_nil ?_
    refine ⟨rfl, .tuple #[goInt (-1), .bool false], _, fun b k cs rest => step_commB rfl rfl (run_sel1 _ _ rfl k0 rfl) (fun fr es h => step_lone_select_send_full h hch (by have := HRM.out; simp; omega)), ?_⟩
    simp only [List.drop]
    have hgi : goInt (-1) = Value.int .i64 (-1) := rfl
    rw [hgi]
    clear hgi hch
    go_wp2
    go_ret
    exact ⟨fun h => absurd h HRM.out, fun _ => ⟨rfl, HB.out⟩⟩

set_option maxHeartbeats 3200000 in
theorem send1_c (g : Nat) (c0 c1 : Value) (l0 l1 : Int) (k0 k1 : Nat) (ns : Mvs) (kd ci : Int) (w : World) (hk : Blk w g (L6 c0 c1 l0 l1 k0 k1) 65) (hc : Chn w k1 ns) (hl : ns.length ≤ 60) :
    Calls Try.prog 41 #[.pointer (some ⟨g, 0, none⟩), .int .i64 1, .agg (H2 kd ci)] w (SdR k1 ns (kd, ci) w) := by
  obtain ⟨HR, hHR⟩ : ∃ H : Nat → Array Oper → Code, ∀ id ops, H id ops = Code.region id ops false := ⟨fun id ops => .region id ops false, fun _ _ => rfl⟩
  have HH : Hid (∀ id ops, HR id ops = Code.region id ops false) := hHR
  clear hHR
  obtain ⟨W0, hW0⟩ : ∃ W0, w.alloc (Obj.cells (H2 kd ci) 68) = W0 := ⟨_, rfl⟩
  have hb0 : Below w.heap.size w W0 := by rw [← hW0]; exact (Below.refl _ _).alloc (Nat.le_refl _) _
  have HB : Hid (Below w.heap.size w W0) := hb0
  have KN : Hid (Blk W0 w.heap.size (H2 kd ci) 68) := by rw [← hW0]; exact Blk.new _ _ _
  have KL : Hid (Blk W0 g (L6 c0 c1 l0 l1 k0 k1) 65) := hk.below hb0 hk.lt
  have HC : Hid (Chn W0 k1 ns) := hc.below hb0
  have HL : Hid (ns.length ≤ 60) := hl
  have x4 := KL.out.cell 5
  have y0 := KN.out.cell 0
  have y1 := KN.out.cell 1
  simp at x4 y0 y1
  clear hk hc hb0 hl
  go_enter Try.func41, Try.ntmps41
  rw [← HH.out 3]
  go_wp2
  rw [HH.out 3]
  clear hW0 x4 y0 y1
  obtain ⟨s, r, hch⟩ := HC.out
  by_cases hroom : ns.length < 60
  · have HF : Hid (Chn (W0.setChan k1 60 ((ns.map fun x => Value.agg (H2 x.1 x.2)).toArray.push (.agg (H2 kd ci))) false (s + 1) r false) k1 (ns ++ [(kd, ci)]) ∧ Fr (fun j => j = k1) w (W0.setChan k1 60 ((ns.map fun x => Value.agg (H2 x.1 x.2)).toArray.push (.agg (H2 kd ci))) false (s + 1) r false)) := by
      refine ⟨⟨s + 1, r, ?_⟩, (Fr.ofBelow HB.out).trans (fr_chan ..)⟩
      rw [heap_setChan _ _ _ _ _ _ _ _ HC.out.lt]
      simp
    have HRM : Hid (ns.length < 60) := hroom
    refine region_comm 0 _ rfl rfl ?_
    simp only [List.take]
    refine wpList_nil ?_
    refine ⟨rfl, .tuple #[goInt 0, .bool false], _, fun b k cs rest => step_commB rfl rfl (run_sel1 _ _ rfl k1 rfl) (fun fr es h => step_lone_select_send_room h hch (by simpa using HRM.out)), ?_⟩
    simp only [List.drop]
    obtain ⟨W1, hW1⟩ : ∃ W, W0.setChan k1 60 ((ns.map fun x => Value.agg (H2 x.1 x.2)).toArray.push (.agg (H2 kd ci))) false (s + 1) r false = W := ⟨_, rfl⟩
    rw [hW1] at HF
    have HW1 : Hid (W0.setChan k1 60 ((ns.map fun x => Value.agg (H2 x.1 x.2)).toArray.push (.agg (H2 kd ci))) false (s + 1) r false = W1) := hW1
    clear hW1 hch
    show wpList Try.prog _ _ _ _ (W0.setChan k1 60 ((ns.map fun x => Value.agg (H2 x.1 x.2)).toArray.push (.agg (H2 kd ci))) false (s + 1) r false)
    rw [HW1.out]
    have hgi : goInt 0 = Value.int .i64 0 := rfl
    rw [hgi]
    clear hgi
    go_wp2
    go_ret
    exact ⟨fun _ => ⟨rfl, HF.out⟩, fun h => absurd h (by have := HRM.out; omega)⟩
  · have HRM : Hid (¬ ns.length < 60) := hroom
    refine region_comm 0 _ rfl rfl ?_
    simp only [List.take]
    refine wpList_nil ?_
    refine ⟨rfl, .tuple #[goInt (-1), .bool false], _, fun b k cs rest => step_commB rfl rfl (run_sel1 _ _ rfl k1 rfl) (fun fr es h => step_lone_select_send_full h hch (by have := HRM.out; simp; omega)), ?_⟩
    simp only [List.drop]
    have hgi : goInt (-1) = Value.int .i64 (-1) := rfl
    rw [hgi]
    clear hgi hch
    go_wp2
    go_ret
    exact ⟨fun h => absurd h HRM.out, fun _ => ⟨rfl, HB.out⟩⟩
end Go.Proofs.Ytkehcalijamhjaa

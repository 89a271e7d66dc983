/- The program's tellHalf; no condition. -/
import Derived.Test.YtljejjfhlpjlfaaTuB
import Derived.Test.YtljejjfhlpjlfaaPSe
namespace Go.Proofs.Ytljejjfhlpjlfaa
open Go.RowKit Go.ChangeShapes Go.WideShapes Go.ChangeAt
set_option linter.unusedVariables false
set_option linter.unusedSimpArgs false
set_option maxRecDepth 8000

open Go.Conc
theorem mk99 (w : World) : (Instr.makeChan 99 (.int .i64 1)).run Try.prog w = .ok (.chan (some w.heap.size)) (w.alloc (.chan 1 #[] false 0 0 false)) := by
  obtain ⟨i0, hi, hz0, hz1, hz2⟩ := info_parts infoSig
  exact run_makeChan (P := Try.prog) Try.underlying99 hi .i64 1 (by decide) (by rw [hz2]; decide)
theorem step_recv_none {b : Frame} {a : Act} {k : List Item} {cs : List Frame} {w : World} {ops : Array Oper} {i : Nat} {rest : List Nat} {o : Oper} {ch : Operand} {c cap s r : Nat} {tm : Bool}
    (ho : ops[i]? = some o) (hg : o.guard = none) (hop : o.op = .recv 99 ch true) (hch : a.eval ch = .chan (some c)) (hc : w.heap[c]? = some (.chan cap #[] true s r tm)) :
    step Try.prog (lone (b.at a (.inRegion ops (i :: rest) :: k)) cs w) = .next (lone (b.at (a.put o.dst (.tuple #[.agg (P3 0 0 0), .bool false])) (.inRegion ops rest :: k)) cs w) :=
  step_comm (cases := #[rcase c (.agg (P3 0 0 0))]) (shape := .recv true) ho hg (by simp [execOp, hop, hch, rcase, run_underlying Try.underlying99, zeroSig]) fun fr es h => step_lone_recv_shut true h hc
theorem step_recv_some {b : Frame} {a : Act} {k : List Item} {cs : List Frame} {w : World} {ops : Array Oper} {i : Nat} {rest : List Nat} {o : Oper} {ch : Operand} {c s r : Nat} {tm : Bool} {u : Value}
    (ho : ops[i]? = some o) (hg : o.guard = none) (hop : o.op = .recv 99 ch true) (hch : a.eval ch = .chan (some c)) (hc : w.heap[c]? = some (.chan 1 #[u] true s r tm)) :
    step Try.prog (lone (b.at a (.inRegion ops (i :: rest) :: k)) cs w) = .next (lone (b.at (a.put o.dst (.tuple #[u, .bool true])) (.inRegion ops rest :: k)) cs (w.setChan c 1 (#[u].extract 1 1) true s (r + 1) tm)) :=
  step_comm (cases := #[rcase c (.agg (P3 0 0 0))]) (shape := .recv true) ho hg (by simp [execOp, hop, hch, rcase, run_underlying Try.underlying99, zeroSig]) fun fr es h => step_lone_recv_buf true h hc (by simp)
theorem Bx.other {w0 W W' : World} {base g r k : Nat} {v0 v : Value} {s c s' c' : Int} {ls : Tri} (h : Bx w0 base v0 W g r s c s' c' v ls) (hg : W.grownBy W' (some k)) (hk : w0.heap.size ≤ k) (h1 : k ≠ g) (h2 : k ≠ r) (h3 : v.ownBlock ≠ some k) : Bx w0 base v0 W' g r s c s' c' v ls :=
  ⟨h.box.grown hg (fun e => h1 (by cases e; rfl)), h.res.grown hg (fun e => h2 (by cases e; rfl)), h.own.keepB hg h3, grown_new h.gr hg hk, h.nx, h.hg, h.hr, h.ne, h.ng, h.nr, h.old⟩
/-- a cue is told: the duo, the half's answer, what lies in the channel -/
structure Tw (w : World) (base : Nat) (v : Value) (W : World) (gh : Nat) (s c s' c' : Int) (ls : Tri) (hf ev x y z st ca : Int) (buf : Array Value) : Prop where
  bx : Bx w base v W w.heap.size (w.heap.size + 1 + 1) s c s' c' v ls
  cu : Blk W (w.heap.size + 1) (C5 hf ev x y z) 87
  hh : Blk W gh (H2 st ca) 27
  ch : ∃ sN, W.heap[w.heap.size + 1 + 1 + 1]? = some (.chan 1 buf true sN 0 false)
  gl : w.heap.size + 1 + 1 + 1 < gh
theorem tw_old {w : World} {base : Nat} {v : Value} {W : World} {g r : Nat} {s c s' c' : Int} {ls : Tri} (h : Bx w base v W g r s c s' c' v ls) {k : Nat} (hk : w.heap.size ≤ k) : v.ownBlock ≠ some k := fun e => by have := h.old k e; omega
theorem Tw.a {w : World} {base : Nat} {v : Value} {u0 u1 : World} {s c s' c' : Int} {ls : Tri} {hf ev x y z st ca : Int} {buf : Array Value} {sN : Nat} (h : Bx w base v u0 w.heap.size (w.heap.size + 1 + 1) s c s' c' v ls) (cu : Blk u0 (w.heap.size + 1) (C5 hf ev x y z) 87) (hg : u0.grownBy u1 (some (w.heap.size + 1 + 1 + 1))) (hc : u1.heap[w.heap.size + 1 + 1 + 1]? = some (.chan 1 buf true sN 0 false)) (hz : w.heap.size + 1 + 1 + 1 < u0.heap.size) : Tw w base v (u1.alloc (Obj.cells (H2 st ca) 27)) u1.heap.size s c s' c' ls hf ev x y z st ca buf :=
  ⟨(h.other hg (by omega) (by omega) (by omega) (tw_old h (by omega))).alloc _, (cu.grown hg (by intro e; have := Option.some.inj e; omega)).alloc _, Blk.new _ _ _, ⟨sN, by rw [Below.heap_alloc _ _ _ (by have := hg.size; omega)]; exact hc⟩, by have := hg.size; omega⟩
theorem Tw.b {w : World} {base : Nat} {v : Value} {u0 u1 : World} {s c s' c' : Int} {ls : Tri} {hf ev x y z st ca : Int} {buf : Array Value} {sN : Nat} (h : Bx w base v u0 w.heap.size (w.heap.size + 1 + 1) s c s' c' v ls) (cu : Blk u0 (w.heap.size + 1) (C5 hf ev x y z) 87) (hg : (u0.alloc (Obj.cells (H2 0 0) 27)).grownBy u1 (some (w.heap.size + 1 + 1 + 1))) (hc : u1.heap[w.heap.size + 1 + 1 + 1]? = some (.chan 1 buf true sN 0 false)) (hz : w.heap.size + 1 + 1 + 1 < u0.heap.size) : Blk u1 u0.heap.size (H2 0 0) 27 ∧ Tw w base v ((u1.setCell ⟨u0.heap.size, 0, none⟩ (.int .i64 st)).setCell ⟨u0.heap.size, 1, none⟩ (.int .i64 ca)) u0.heap.size s c s' c' ls hf ev x y z st ca buf := by
  have hgh : Blk u1 u0.heap.size (H2 0 0) 27 := (Blk.new u0 (H2 0 0) 27).grown hg (by intro e; have := Option.some.inj e; omega)
  have hs := hg.size
  simp at hs
  have b1 : Bx w base v u1 w.heap.size (w.heap.size + 1 + 1) s c s' c' v ls := (h.alloc _).other hg (by omega) (by omega) (by omega) (tw_old h (by omega))
  have hl := h.gr.size
  refine ⟨hgh, (b1.other (grown_set _ _ _ _) (by omega) (by omega) (by omega) (tw_old h (by omega))).other (grown_set _ _ _ _) (by omega) (by omega) (by omega) (tw_old h (by omega)), (((cu.alloc _).grown hg (by intro e; have := Option.some.inj e; omega)).other _ _ (by simp; omega)).other _ _ (by simp; omega), (hgh.set 0 (.int .i64 st)).set 1 (.int .i64 ca), ⟨sN, ?_⟩, by omega⟩
  rw [heap_setCell_other _ _ _ _ (by simp; omega), heap_setCell_other _ _ _ _ (by simp; omega)]; exact hc
/-- what a half that is told a cue makes of the duo -/
def tellP (d : Dt) (hf ev : Int) (x : Int × Int × Int) : Dt × Bool :=
  let t := if hf = 0 then turnH d.1 d.2.1 hf ev x else turnH d.2.2.1 d.2.2.2.1 hf ev x
  let a : Dt := if hf = 0 then (t.1, t.2.1, d.2.2) else (d.1, d.2.1, t.1, t.2.1, d.2.2.2.2)
  match t.2.2.2 with
  | none => if t.2.2.1 then (a, true) else (d, false)
  | some y => if d.2.2.2.2.length = 40 then (d, false) else ((a.1, a.2.1, a.2.2.1, a.2.2.2.1, a.2.2.2.2 ++ [y]), true)


set_option maxHeartbeats 12800000 in
theorem tell0_c (base : Nat) (s c s' c' : Int) (v : Value) (ls : Tri) (ev x y z : Int) (w : World) (h : Ot 66 base w v ls) (hbs : base ≤ w.heap.size) (hl : ls.length ≤ 40) (hca : 0 ≤ c) (hca2 : c ≤ 1000) (hm : (y = 0 ∧ z = 0 ∧ 1 ≤ ev ∧ ev ≤ 4) ∨ (ev = 5 ∧ 1 ≤ y ∧ y ≤ 4)) :
    Calls Try.prog 60 #[.agg (D5 s c s' c' v), .agg (C5 0 ev x y z)] w (DuR base w v (tellP (s, c, s', c', ls) 0 ev (x, y, z)).1 (tellP (s, c, s', c', ls) 0 ev (x, y, z)).2) := by
  obtain ⟨W0, hW0⟩ : ∃ W0, ((w.alloc (Obj.cells (D5 s c s' c' v) 31)).alloc (Obj.cells (C5 0 ev x y z) 87)).alloc (Obj.cells (D5 0 0 0 0 (.slice none 0 0)) 31) = W0 := ⟨_, rfl⟩
  have hb0 : Bx w base v W0 w.heap.size (w.heap.size + 1 + 1) s c s' c' v ls := Bx.start h (by rw [← hW0]; exact (((Below.refl _ _).alloc (Nat.le_refl _) _).alloc (by simp) _).alloc (by simp; omega) _) (by rw [← hW0]; exact ((Blk.new _ _ _).alloc _).alloc _) (by rw [← hW0]; exact Blk.newAt _ (w.heap.size + 1 + 1) _ 31 (by simp)) (Nat.le_refl _) (by omega) (by omega)
  have hx0 : Blk W0 (w.heap.size + 1) (C5 0 ev x y z) 87 := by rw [← hW0]; exact (Blk.newAt _ (w.heap.size + 1) _ 87 (by simp)).alloc _
  have hz0 : W0.heap.size = w.heap.size + 1 + 1 + 1 := by rw [← hW0]; simp
  obtain ⟨a, cap, hv, -⟩ := own_form h
  subst hv
  have HL : Hid (ls.length ≤ 40) := hl
  have HBS : Hid (base ≤ w.heap.size) := hbs
  obtain ⟨n, hn⟩ : ∃ n, ls.length = n := ⟨_, rfl⟩
  rw [hn] at hb0 hW0 ⊢
  have HN : Hid (ls.length = n) := hn
  obtain ⟨HR, hHR⟩ : ∃ H : Nat → Array Oper → Code, ∀ id ops, H id ops = Code.region id ops false := ⟨fun id ops => .region id ops false, fun _ _ => rfl⟩
  have HH : Hid (∀ id ops, HR id ops = Code.region id ops false) := hHR
  have hmc := mk99
  obtain ⟨W1, hW1⟩ : ∃ W, W0.alloc (.chan 1 #[] false 0 0 false) = W := ⟨_, rfl⟩
  have z1 : W1.heap.size = w.heap.size + 1 + 1 + 1 + 1 := by rw [← hW1]; simp [hz0]
  have HZ1 : Hid (W1.drew.heap.size = w.heap.size + 1 + 1 + 1 + 1) := z1
  have hb1 : Bx w base (.slice a n cap) W1 w.heap.size (w.heap.size + 1 + 1) s c s' c' (.slice a n cap) ls := by rw [← hW1]; exact hb0.alloc _
  have hx1 : Blk W1 (w.heap.size + 1) (C5 0 ev x y z) 87 := by rw [← hW1]; exact hx0.alloc _
  have HCH : Hid (W1.drew.heap[w.heap.size + 1 + 1 + 1]? = some (.chan 1 #[] false 0 0 false)) := by show W1.heap[_]? = _; rw [← hW1, ← hz0]; exact heap_alloc_new _ _
  have HB1 : Hid (Bx w base (.slice a n cap) W1.drew w.heap.size (w.heap.size + 1 + 1) s c s' c' (.slice a n cap) ls) := hb1.below (Below.refl _ _).drew
  have HX1 : Hid (Blk W1.drew (w.heap.size + 1) (C5 0 ev x y z) 87) := hx1.drew
  obtain ⟨S, hS⟩ : ∃ S : World → Prop, ∀ W, S W ↔ (Blk W w.heap.size (D5 s c s' c' (.slice a n cap)) 31 ∧ Blk W (w.heap.size + 1) (C5 0 ev x y z) 87) := ⟨_, fun _ => Iff.rfl⟩
  have HSI : Hid (∀ W, S W ↔ (Blk W w.heap.size (D5 s c s' c' (.slice a n cap)) 31 ∧ Blk W (w.heap.size + 1) (C5 0 ev x y z) 87)) := hS
  have HSD : Hid (S W1.drew) := (hS _).2 ⟨HB1.out.box, HX1.out⟩
  have ne1 : Nonempty (At S) := ⟨⟨_, HSD.out⟩⟩
  have y0 : ∀ W : At S, W.wd.cell? ⟨w.heap.size, 0, none⟩ = some (.int .i64 s) := fun W => by rw [((hS _).1 W.ok).1.cell 0]; rfl
  have y1 : ∀ W : At S, W.wd.cell? ⟨w.heap.size, 1, none⟩ = some (.int .i64 c) := fun W => by rw [((hS _).1 W.ok).1.cell 1]; rfl
  have y2 : ∀ W : At S, W.wd.cell? ⟨w.heap.size, 2, none⟩ = some (.int .i64 s') := fun W => by rw [((hS _).1 W.ok).1.cell 2]; rfl
  have y3 : ∀ W : At S, W.wd.cell? ⟨w.heap.size, 3, none⟩ = some (.int .i64 c') := fun W => by rw [((hS _).1 W.ok).1.cell 3]; rfl
  have x0 : ∀ W : At S, W.wd.cell? ⟨w.heap.size + 1, 0, none⟩ = some (.int .i64 0) := fun W => by rw [((hS _).1 W.ok).2.cell 0]; rfl
  have x1 : ∀ W : At S, W.wd.cell? ⟨w.heap.size + 1, 1, none⟩ = some (.int .i64 ev) := fun W => by rw [((hS _).1 W.ok).2.cell 1]; rfl
  have x2 : ∀ W : At S, W.wd.cell? ⟨w.heap.size + 1, 2, none⟩ = some (.int .i64 x) := fun W => by rw [((hS _).1 W.ok).2.cell 2]; rfl
  have x3 : ∀ W : At S, W.wd.cell? ⟨w.heap.size + 1, 3, none⟩ = some (.int .i64 y) := fun W => by rw [((hS _).1 W.ok).2.cell 3]; rfl
  have x4 : ∀ W : At S, W.wd.cell? ⟨w.heap.size + 1, 4, none⟩ = some (.int .i64 z) := fun W => by rw [((hS _).1 W.ok).2.cell 4]; rfl
  have HT : Hid (∀ W, W.heap[w.heap.size + 1 + 1 + 1]? = some (.chan 1 #[] false 0 0 false) → Calls Try.prog 70 #[.agg (H2 s c), .agg (C5 0 ev x y z), .chan (some (w.heap.size + 1 + 1 + 1))] W (TuR s c 0 ev (x, y, z) (w.heap.size + 1 + 1 + 1) W)) := fun W hW => turn_c s c 0 ev x y z _ W hW (by decide) (by decide) hca hca2 hm
  clear hS hb0 hb1 hx0 hx1 h hHR hl hbs hca hca2 hm hn
  go_enter Try.func60, Try.ntmps60
  rw [← HH.out 5]
  go_wp2
  try rw [hz0]
  refine region_anyS S (by kernel_rfl) ?_
  refine anyS_quiet [true, true, true, true, true, true, true, false, false, false, false, false, false, false] 7 rfl (by kernel_rfl) (fun _ _ _ _ _ h => h) HSD.out ?_
  simp only [selT]
  repeat (go_big_quiet_step (fail))
  refine wpQuiet_nil ?_
  clear y0 y1 y2 y3 x0 x1 x2 x3 x4 ne1 hW1 hW0 hmc hz0 z1
  obtain ⟨u0, hu0⟩ : ∃ W, W1.drew = W := ⟨_, rfl⟩
  rw [hu0] at HZ1 HCH HB1 HX1 HSD ⊢
  clear hu0
  refine anyS_two 7 11 (by kernel_rfl) rfl rfl ?_ ?_
  · go_wp2_with (fail)
    refine (HT.out u0 HCH.out).mono ?_
    rintro e u1 ⟨st1, ca1, ok, yo, sN, ht, rfl, hgr, hch⟩
    have HTT : Hid _ := ht
    have HTW : Hid (Tw w base (.slice a n cap) (u1.alloc (Obj.cells (H2 st1 ca1) 27)) u1.heap.size s c s' c' ls 0 ev x y z st1 ca1 (bufO yo)) := Tw.a HB1.out HX1.out hgr hch (by have := HZ1.out; omega)
    have HS1 : Hid (S u1 ∧ ∀ o, S (u1.alloc o)) := ⟨(HSI.out _).2 ⟨HB1.out.box.grown hgr (by intro e; have := Option.some.inj e; omega), HX1.out.grown hgr (by intro e; have := Option.some.inj e; omega)⟩, fun o => (HSI.out _).2 ⟨(HB1.out.box.grown hgr (by intro e; have := Option.some.inj e; omega)).alloc _, (HX1.out.grown hgr (by intro e; have := Option.some.inj e; omega)).alloc _⟩⟩
    clear ht hgr hch HT HCH HB1 HX1 HSI HSD
    go_wp2
    refine ⟨HS1.out.1, ?_⟩
    refine anyS_quiet [false, false, false, false, false, false, false, false, true, true, true, false, false, false] 3 rfl (by kernel_rfl) (fun _ _ _ _ _ h => h) HS1.out.1 ?_
    simp only [selT]
    have ne2 : Nonempty (At S) := ⟨⟨_, HS1.out.1⟩⟩
    repeat (go_big_quiet_step (fail))
    refine wpQuiet_nil ?_
    clear ne2
    refine anyS_one 11 (by kernel_rfl) rfl ?_
    go_wp2
    refine ⟨HS1.out.2 _, ?_⟩
    refine anyS_one 12 (by kernel_rfl) rfl ?_
    go_wp2
    refine ⟨HS1.out.2 _, ?_⟩
    refine anyS_one 13 (by kernel_rfl) rfl ?_
    go_wp2
    refine ⟨HS1.out.2 _, ?_⟩
    refine anyS_end (by kernel_rfl) ?_
    obtain ⟨gh, hgh⟩ : ∃ g, u1.heap.size = g := ⟨_, rfl⟩
    obtain ⟨Wa, hWa⟩ : ∃ W, u1.alloc (Obj.cells (H2 st1 ca1) 27) = W := ⟨_, rfl⟩
    rw [hgh, hWa] at HTW
    rw [hWa, hgh]
    clear hgh hWa HS1 HZ1
    have t0 := HTW.out.bx.box.cell 0
    have t1 := HTW.out.bx.box.cell 1
    have t2 := HTW.out.bx.box.cell 2
    have t3 := HTW.out.bx.box.cell 3
    have t4 := HTW.out.bx.box.cell 4
    have q0 := HTW.out.cu.cell 0
    have g0 := HTW.out.hh.cell 0
    have g1 := HTW.out.hh.cell 1
    simp at t0 t1 t2 t3 t4 q0 g0 g1
    have tl := HTW.out.bx.box.lt
    have ql := HTW.out.cu.lt
    have gl := HTW.out.hh.lt
    go_wp2
    obtain ⟨ga, hga⟩ : ∃ g, Wa.heap.size = g := ⟨_, rfl⟩
    obtain ⟨Wb, hWb⟩ : ∃ W, Wa.alloc (Obj.cells (D5 st1 ca1 s' c' (.slice a n cap)) 31) = W := ⟨_, rfl⟩
    have B1 : Hid (Bx w base (.slice a n cap) Wb w.heap.size (w.heap.size + 1 + 1) s c s' c' (.slice a n cap) ls) := hWb ▸ HTW.out.bx.alloc _
    have B2 : Hid (Bx w base (.slice a n cap) Wb ga (w.heap.size + 1 + 1) st1 ca1 s' c' (.slice a n cap) ls) := ⟨by rw [← hWb, ← hga]; exact Blk.new _ _ _, B1.out.res, B1.out.own, B1.out.gr, B1.out.nx, by have := HTW.out.bx.gr.size; omega, by omega, by have := HTW.out.bx.res.lt; omega, tw_old HTW.out.bx (by have := HTW.out.bx.gr.size; omega), B1.out.nr, B1.out.old⟩
    have HC : Hid (∃ sN, Wb.heap[w.heap.size + 1 + 1 + 1]? = some (.chan 1 (bufO yo) true sN 0 false)) := by
      obtain ⟨sM, hM⟩ := HTW.out.ch
      exact ⟨sM, by rw [← hWb, Below.heap_alloc _ _ _ (by have := HTW.out.gl; omega)]; exact hM⟩
    have HGA : Hid (w.heap.size + 1 + 1 + 1 < ga) := by have := HTW.out.gl; show _ < ga; omega
    rw [hga, hWb]
    clear hga hWb HTW t0 t1 t2 t3 t4 q0 g0 g1 tl ql gl
    rw [HH.out 5]
    refine region_comm 1 _ rfl rfl ?_
    simp only [List.take]
    go_wp2
    obtain ⟨sM, hM⟩ := HC.out
    cases yo with
    | none =>
      refine ⟨rfl, _, _, fun b k cs rest => step_recv_none rfl rfl rfl rfl hM, ?_⟩
      simp only [List.drop, Act.put, List.setIfInBounds_toArray, List.set_cons_succ, List.set_cons_zero]
      clear HC hM
      cases ok with
      | false =>
        have HP : Hid (tellP (s, c, s', c', ls) 0 ev (x, y, z) = ((s, c, s', c', ls), false)) := by show tellP _ _ _ _ = _; simp [tellP, HTT.out]
        have c0 := B1.out.box.cell 0
        have cf0 := B1.out.box.frozen 0
        have c1 := B1.out.box.cell 1
        have cf1 := B1.out.box.frozen 1
        have c2 := B1.out.box.cell 2
        have cf2 := B1.out.box.frozen 2
        have c3 := B1.out.box.cell 3
        have cf3 := B1.out.box.frozen 3
        have c4 := B1.out.box.cell 4
        have cf4 := B1.out.box.frozen 4
        have r0 := B1.out.res.cell 0
        have rf0 := B1.out.res.frozen 0
        have r1 := B1.out.res.cell 1
        have rf1 := B1.out.res.frozen 1
        have r2 := B1.out.res.cell 2
        have rf2 := B1.out.res.frozen 2
        have r3 := B1.out.res.cell 3
        have rf3 := B1.out.res.frozen 3
        have r4 := B1.out.res.cell 4
        have rf4 := B1.out.res.frozen 4
        simp at c0 c1 c2 c3 c4 r0 r1 r2 r3 r4
        have cl := B1.out.box.lt
        have rl := B1.out.res.lt
        have cn := B1.out.ne
        skip
        have HF : Hid _ := B1.out.retA (Obj.cells (P3 0 0 0) 66)
        clear B1 B2
        go_wp2
        rw [HP.out]
        exact bodyPost_ret (v := .tuple #[.agg (D5 s c s' c' (.slice a n cap)), .bool false]) (results_D rfl _ _ _ _ _ _ _ _ _ rfl rfl (HF.out _ rfl).1) rfl ((HF.out _ rfl).2.1 false)
      | true =>
        have HP : Hid (tellP (s, c, s', c', ls) 0 ev (x, y, z) = ((st1, ca1, s', c', ls), true)) := by show tellP _ _ _ _ = _; simp [tellP, HTT.out]
        have c0 := B2.out.box.cell 0
        have cf0 := B2.out.box.frozen 0
        have c1 := B2.out.box.cell 1
        have cf1 := B2.out.box.frozen 1
        have c2 := B2.out.box.cell 2
        have cf2 := B2.out.box.frozen 2
        have c3 := B2.out.box.cell 3
        have cf3 := B2.out.box.frozen 3
        have c4 := B2.out.box.cell 4
        have cf4 := B2.out.box.frozen 4
        have r0 := B2.out.res.cell 0
        have rf0 := B2.out.res.frozen 0
        have r1 := B2.out.res.cell 1
        have rf1 := B2.out.res.frozen 1
        have r2 := B2.out.res.cell 2
        have rf2 := B2.out.res.frozen 2
        have r3 := B2.out.res.cell 3
        have rf3 := B2.out.res.frozen 3
        have r4 := B2.out.res.cell 4
        have rf4 := B2.out.res.frozen 4
        simp at c0 c1 c2 c3 c4 r0 r1 r2 r3 r4
        have cl := B2.out.box.lt
        have rl := B2.out.res.lt
        have cn := B2.out.ne
        skip
        have HF : Hid _ := B2.out.retA (Obj.cells (P3 0 0 0) 66)
        clear B1 B2
        go_wp2
        rw [HP.out]
        exact bodyPost_ret (v := .tuple #[.agg (D5 st1 ca1 s' c' (.slice a n cap)), .bool true]) (results_D rfl _ _ _ _ _ _ _ _ _ rfl rfl (HF.out _ rfl).1) rfl ((HF.out _ rfl).2.1 true)
    | some sg =>
      obtain ⟨p, q, r⟩ := sg
      refine ⟨rfl, _, _, fun b k cs rest => step_recv_some (u := .agg (P3 p q r)) rfl rfl rfl rfl hM, ?_⟩
      simp only [List.drop, Act.put, List.setIfInBounds_toArray, List.set_cons_succ, List.set_cons_zero]
      have hgc := grown_chan Wb (w.heap.size + 1 + 1 + 1) 1 (#[Value.agg (P3 p q r)].extract 1 1) true sM (0 + 1) false
      have B1' : Hid (Bx w base (.slice a n cap) (Wb.setChan (w.heap.size + 1 + 1 + 1) 1 (#[Value.agg (P3 p q r)].extract 1 1) true sM (0 + 1) false) w.heap.size (w.heap.size + 1 + 1) s c s' c' (.slice a n cap) ls) := B1.out.other hgc (by omega) (by omega) (by omega) (tw_old B1.out (by omega))
      have B2' : Hid (Bx w base (.slice a n cap) (Wb.setChan (w.heap.size + 1 + 1 + 1) 1 (#[Value.agg (P3 p q r)].extract 1 1) true sM (0 + 1) false) ga (w.heap.size + 1 + 1) st1 ca1 s' c' (.slice a n cap) ls) := B2.out.other hgc (by omega) (by have := HGA.out; omega) (by omega) (tw_old B1.out (by omega))
      obtain ⟨Wr, hWr⟩ : ∃ W, Wb.setChan (w.heap.size + 1 + 1 + 1) 1 (#[Value.agg (P3 p q r)].extract 1 1) true sM (0 + 1) false = W := ⟨_, rfl⟩
      rw [hWr] at B1' B2' ⊢
      clear hgc hWr B1 B2 HC hM
      have B3 : Hid (Bx w base (.slice a n cap) (Wr.alloc (Obj.cells (P3 p q r) 66)) w.heap.size (w.heap.size + 1 + 1) s c s' c' (.slice a n cap) ls) := B1'.out.alloc _
      have B4 : Hid (Bx w base (.slice a n cap) (Wr.alloc (Obj.cells (P3 p q r) 66)) ga (w.heap.size + 1 + 1) st1 ca1 s' c' (.slice a n cap) ls) := B2'.out.alloc _
      have HG : Hid (Blk (Wr.alloc (Obj.cells (P3 p q r) 66)) Wr.heap.size (P3 p q r) 66) := Blk.new _ _ _
      obtain ⟨Wc, hWc⟩ : ∃ W, Wr.alloc (Obj.cells (P3 p q r) 66) = W := ⟨_, rfl⟩
      rw [hWc] at B3 B4 HG
      clear B1' B2'
      have c0 := B4.out.box.cell 0
      have cf0 := B4.out.box.frozen 0
      have c1 := B4.out.box.cell 1
      have cf1 := B4.out.box.frozen 1
      have c2 := B4.out.box.cell 2
      have cf2 := B4.out.box.frozen 2
      have c3 := B4.out.box.cell 3
      have cf3 := B4.out.box.frozen 3
      have c4 := B4.out.box.cell 4
      have cf4 := B4.out.box.frozen 4
      have r0 := B4.out.res.cell 0
      have rf0 := B4.out.res.frozen 0
      have r1 := B4.out.res.cell 1
      have rf1 := B4.out.res.frozen 1
      have r2 := B4.out.res.cell 2
      have rf2 := B4.out.res.frozen 2
      have r3 := B4.out.res.cell 3
      have rf3 := B4.out.res.frozen 3
      have r4 := B4.out.res.cell 4
      have rf4 := B4.out.res.frozen 4
      simp at c0 c1 c2 c3 c4 r0 r1 r2 r3 r4
      have cl := B4.out.box.lt
      have rl := B4.out.res.lt
      have cn := B4.out.ne
      skip
      have s0 := HG.out.cell 0
      have s1 := HG.out.cell 1
      have s2 := HG.out.cell 2
      simp at s0 s1 s2
      by_cases h40 : n = 40
      · have HP : Hid (tellP (s, c, s', c', ls) 0 ev (x, y, z) = ((s, c, s', c', ls), false)) := by show tellP _ _ _ _ = _; simp [tellP, HTT.out, HN.out, h40]
        have H40 : Hid (n = 40) := h40
        clear h40
        go_wp2_with (fail)
        refine (sendFull_c st1 ca1 s' c' a n cap p q r Wc H40.out).mono ?_
        rintro e Wd ⟨rfl, bd⟩
        have B5 : Hid (Bx w base (.slice a n cap) Wd w.heap.size (w.heap.size + 1 + 1) s c s' c' (.slice a n cap) ls) := B3.out.below bd
        have B6 : Hid (Bx w base (.slice a n cap) Wd ga (w.heap.size + 1 + 1) st1 ca1 s' c' (.slice a n cap) ls) := B4.out.below bd
        clear H40 hWc HG s0 s1 s2 c0 c1 c2 c3 c4 cf0 cf1 cf2 cf3 cf4 r0 r1 r2 r3 r4 rf0 rf1 rf2 rf3 rf4 cl rl cn
        have B7 : Hid (Bx w base (.slice a n cap) (st5 Wd ga st1 ca1 s' c' (.slice a n cap)) w.heap.size (w.heap.size + 1 + 1) s c s' c' (.slice a n cap) ls) := B5.out.other (grown_put5 ..) (by have := HGA.out; omega) (by have := HGA.out; omega) (by have := HGA.out; omega) (tw_old B5.out (by have := HGA.out; omega))
        clear B3 B4 B5 bd
        have e0 := B6.out.box.cell 0
        have ef0 := B6.out.box.frozen 0
        have e1 := B6.out.box.cell 1
        have ef1 := B6.out.box.frozen 1
        have e2 := B6.out.box.cell 2
        have ef2 := B6.out.box.frozen 2
        have e3 := B6.out.box.cell 3
        have ef3 := B6.out.box.frozen 3
        have e4 := B6.out.box.cell 4
        have ef4 := B6.out.box.frozen 4
        have f0 := B6.out.res.cell 0
        have ff0 := B6.out.res.frozen 0
        have f1 := B6.out.res.cell 1
        have ff1 := B6.out.res.frozen 1
        have f2 := B6.out.res.cell 2
        have ff2 := B6.out.res.frozen 2
        have f3 := B6.out.res.cell 3
        have ff3 := B6.out.res.frozen 3
        have f4 := B6.out.res.cell 4
        have ff4 := B6.out.res.frozen 4
        simp at e0 e1 e2 e3 e4 f0 f1 f2 f3 f4
        have el := B6.out.box.lt
        have fl := B6.out.res.lt
        have en := B6.out.ne
        skip
        obtain ⟨We, hWe⟩ : ∃ W, st5 Wd ga st1 ca1 s' c' (.slice a n cap) = W := ⟨_, rfl⟩
        rw [hWe] at B7
        unfold st5 at hWe
        clear B6
        have c0 := B7.out.box.cell 0
        have cf0 := B7.out.box.frozen 0
        have c1 := B7.out.box.cell 1
        have cf1 := B7.out.box.frozen 1
        have c2 := B7.out.box.cell 2
        have cf2 := B7.out.box.frozen 2
        have c3 := B7.out.box.cell 3
        have cf3 := B7.out.box.frozen 3
        have c4 := B7.out.box.cell 4
        have cf4 := B7.out.box.frozen 4
        have r0 := B7.out.res.cell 0
        have rf0 := B7.out.res.frozen 0
        have r1 := B7.out.res.cell 1
        have rf1 := B7.out.res.frozen 1
        have r2 := B7.out.res.cell 2
        have rf2 := B7.out.res.frozen 2
        have r3 := B7.out.res.cell 3
        have rf3 := B7.out.res.frozen 3
        have r4 := B7.out.res.cell 4
        have rf4 := B7.out.res.frozen 4
        simp at c0 c1 c2 c3 c4 r0 r1 r2 r3 r4
        have cl := B7.out.box.lt
        have rl := B7.out.res.lt
        have cn := B7.out.ne
        skip
        have HF : Hid _ := B7.out.ret
        clear B7
        go_wp2
        rw [HP.out]
        exact bodyPost_ret (v := .tuple #[.agg (D5 s c s' c' (.slice a n cap)), .bool false]) (results_D rfl _ _ _ _ _ _ _ _ _ rfl rfl (HF.out _ rfl).1) rfl ((HF.out _ rfl).2.1 false)
      · have HP : Hid (tellP (s, c, s', c', ls) 0 ev (x, y, z) = ((st1, ca1, s', c', ls ++ [(p, q, r)]), true)) := by show tellP _ _ _ _ = _; simp [tellP, HTT.out, HN.out, h40]
        have HSP : Hid (sendP (st1, ca1, s', c', ls) (p, q, r) = ((st1, ca1, s', c', ls ++ [(p, q, r)]), true)) := by show sendP _ _ = _; simp [sendP, HN.out, h40]
        clear h40
        go_wp2_with (fail)
        have hsc := sendSig_c base st1 ca1 s' c' (.slice a n cap) ls p q r Wc B4.out.own (by have := B4.out.gr.size; have := HBS.out; omega) HL.out
        rw [HSP.out] at hsc
        refine hsc.mono ?_
        rintro e Wd ⟨v', rfl, ho, hg, hx⟩
        have B6 : Hid (Bx w base (.slice a n cap) (st5 Wd ga st1 ca1 s' c' v') ga (w.heap.size + 1 + 1) st1 ca1 s' c' v' (ls ++ [(p, q, r)])) := B4.out.put ho hg hx _ _ _ _
        obtain ⟨k1, -⟩ := B4.out.after ho hg hx
        obtain ⟨a', cap', hv', -⟩ := own_form ho
        rw [show (ls ++ [(p, q, r)]).length = n + 1 by simp [HN.out]] at hv'
        subst hv'
        clear hWc HG s0 s1 s2 hsc c0 c1 c2 c3 c4 cf0 cf1 cf2 cf3 cf4 r0 r1 r2 r3 r4 rf0 rf1 rf2 rf3 rf4 cl rl cn
        clear B3 B4 ho hg hx
        have e0 := k1.cell 0
        have e1 := k1.cell 1
        have e2 := k1.cell 2
        have e3 := k1.cell 3
        have e4 := k1.cell 4
        have z0 := k1.frozen 0
        have z1 := k1.frozen 1
        have z2 := k1.frozen 2
        have z3 := k1.frozen 3
        have z4 := k1.frozen 4
        simp at e0 e1 e2 e3 e4
        obtain ⟨We, hWe⟩ : ∃ W, st5 Wd ga st1 ca1 s' c' (.slice a' (n + 1) cap') = W := ⟨_, rfl⟩
        rw [hWe] at B6
        unfold st5 at hWe
        clear k1
        have c0 := B6.out.box.cell 0
        have cf0 := B6.out.box.frozen 0
        have c1 := B6.out.box.cell 1
        have cf1 := B6.out.box.frozen 1
        have c2 := B6.out.box.cell 2
        have cf2 := B6.out.box.frozen 2
        have c3 := B6.out.box.cell 3
        have cf3 := B6.out.box.frozen 3
        have c4 := B6.out.box.cell 4
        have cf4 := B6.out.box.frozen 4
        have r0 := B6.out.res.cell 0
        have rf0 := B6.out.res.frozen 0
        have r1 := B6.out.res.cell 1
        have rf1 := B6.out.res.frozen 1
        have r2 := B6.out.res.cell 2
        have rf2 := B6.out.res.frozen 2
        have r3 := B6.out.res.cell 3
        have rf3 := B6.out.res.frozen 3
        have r4 := B6.out.res.cell 4
        have rf4 := B6.out.res.frozen 4
        simp at c0 c1 c2 c3 c4 r0 r1 r2 r3 r4
        have cl := B6.out.box.lt
        have rl := B6.out.res.lt
        have cn := B6.out.ne
        skip
        have HF : Hid _ := B6.out.ret
        clear B6
        go_wp2
        rw [HP.out]
        exact bodyPost_ret (v := .tuple #[.agg (D5 st1 ca1 s' c' (.slice a' (n + 1) cap')), .bool true]) (results_D rfl _ _ _ _ _ _ _ _ _ rfl rfl (HF.out _ rfl).1) rfl ((HF.out _ rfl).2.1 true)
  · go_wp2
    refine ⟨(HSI.out _).2 ⟨HB1.out.box.alloc _, HX1.out.alloc _⟩, ?_⟩
    refine anyS_one 7 (by kernel_rfl) rfl ?_
    go_wp2_with (fail)
    refine (HT.out _ (by rw [Below.heap_alloc _ _ _ (by have := HZ1.out; omega)]; exact HCH.out)).mono ?_
    rintro e u1 ⟨st1, ca1, ok, yo, sN, ht, rfl, hgr, hch⟩
    have HTT : Hid _ := ht
    obtain ⟨hgB, hTW⟩ := Tw.b (st := st1) (ca := ca1) HB1.out HX1.out hgr hch (by have := HZ1.out; omega)
    have HTW : Hid (Tw w base (.slice a n cap) ((u1.setCell ⟨u0.heap.size, 0, none⟩ (.int .i64 st1)).setCell ⟨u0.heap.size, 1, none⟩ (.int .i64 ca1)) u0.heap.size s c s' c' ls 0 ev x y z st1 ca1 (bufO yo)) := hTW
    have HS1 : Hid (S u1 ∧ S ((u1.setCell ⟨u0.heap.size, 0, none⟩ (.int .i64 st1)).setCell ⟨u0.heap.size, 1, none⟩ (.int .i64 ca1))) := ⟨(HSI.out _).2 ⟨(HB1.out.box.alloc _).grown hgr (by intro e; have := Option.some.inj e; omega), (HX1.out.alloc _).grown hgr (by intro e; have := Option.some.inj e; omega)⟩, (HSI.out _).2 ⟨hTW.bx.box, hTW.cu⟩⟩
    have b0 := hgB.cell 0
    have b1 := hgB.cell 1
    have bf0 := hgB.frozen 0
    have bf1 := hgB.frozen 1
    simp at b0 b1
    clear ht hgr hch HT HCH HB1 HX1 HSI HSD hgB hTW
    go_wp2
    refine ⟨HS1.out.1, ?_⟩
    refine anyS_quiet [false, false, false, false, false, false, false, false, true, true, true, false, false, false] 2 rfl (by kernel_rfl) (fun _ _ _ _ _ h => h) HS1.out.1 ?_
    simp only [selT]
    have ne2 : Nonempty (At S) := ⟨⟨_, HS1.out.1⟩⟩
    repeat (go_big_quiet_step (fail))
    refine wpQuiet_nil ?_
    clear ne2
    refine anyS_one 12 (by kernel_rfl) rfl ?_
    go_wp2
    refine ⟨HS1.out.2, ?_⟩
    refine anyS_one 13 (by kernel_rfl) rfl ?_
    go_wp2
    refine ⟨HS1.out.2, ?_⟩
    refine anyS_end (by kernel_rfl) ?_
    obtain ⟨gh, hgh⟩ : ∃ g, u0.heap.size = g := ⟨_, rfl⟩
    rw [hgh] at HTW ⊢
    obtain ⟨Wa, hWa⟩ : ∃ W, (u1.setCell ⟨gh, 0, none⟩ (.int .i64 st1)).setCell ⟨gh, 1, none⟩ (.int .i64 ca1) = W := ⟨_, rfl⟩
    rw [hWa] at HTW ⊢
    clear hgh hWa HS1 HZ1 b0 b1 bf0 bf1
    have t0 := HTW.out.bx.box.cell 0
    have t1 := HTW.out.bx.box.cell 1
    have t2 := HTW.out.bx.box.cell 2
    have t3 := HTW.out.bx.box.cell 3
    have t4 := HTW.out.bx.box.cell 4
    have q0 := HTW.out.cu.cell 0
    have g0 := HTW.out.hh.cell 0
    have g1 := HTW.out.hh.cell 1
    simp at t0 t1 t2 t3 t4 q0 g0 g1
    have tl := HTW.out.bx.box.lt
    have ql := HTW.out.cu.lt
    have gl := HTW.out.hh.lt
    go_wp2
    obtain ⟨ga, hga⟩ : ∃ g, Wa.heap.size = g := ⟨_, rfl⟩
    obtain ⟨Wb, hWb⟩ : ∃ W, Wa.alloc (Obj.cells (D5 st1 ca1 s' c' (.slice a n cap)) 31) = W := ⟨_, rfl⟩
    have B1 : Hid (Bx w base (.slice a n cap) Wb w.heap.size (w.heap.size + 1 + 1) s c s' c' (.slice a n cap) ls) := hWb ▸ HTW.out.bx.alloc _
    have B2 : Hid (Bx w base (.slice a n cap) Wb ga (w.heap.size + 1 + 1) st1 ca1 s' c' (.slice a n cap) ls) := ⟨by rw [← hWb, ← hga]; exact Blk.new _ _ _, B1.out.res, B1.out.own, B1.out.gr, B1.out.nx, by have := HTW.out.bx.gr.size; omega, by omega, by have := HTW.out.bx.res.lt; omega, tw_old HTW.out.bx (by have := HTW.out.bx.gr.size; omega), B1.out.nr, B1.out.old⟩
    have HC : Hid (∃ sN, Wb.heap[w.heap.size + 1 + 1 + 1]? = some (.chan 1 (bufO yo) true sN 0 false)) := by
      obtain ⟨sM, hM⟩ := HTW.out.ch
      exact ⟨sM, by rw [← hWb, Below.heap_alloc _ _ _ (by have := HTW.out.gl; omega)]; exact hM⟩
    have HGA : Hid (w.heap.size + 1 + 1 + 1 < ga) := by have := HTW.out.gl; show _ < ga; omega
    rw [hga, hWb]
    clear hga hWb HTW t0 t1 t2 t3 t4 q0 g0 g1 tl ql gl
    rw [HH.out 5]
    refine region_comm 1 _ rfl rfl ?_
    simp only [List.take]
    go_wp2
    obtain ⟨sM, hM⟩ := HC.out
    cases yo with
    | none =>
      refine ⟨rfl, _, _, fun b k cs rest => step_recv_none rfl rfl rfl rfl hM, ?_⟩
      simp only [List.drop, Act.put, List.setIfInBounds_toArray, List.set_cons_succ, List.set_cons_zero]
      clear HC hM
      cases ok with
      | false =>
        have HP : Hid (tellP (s, c, s', c', ls) 0 ev (x, y, z) = ((s, c, s', c', ls), false)) := by show tellP _ _ _ _ = _; simp [tellP, HTT.out]
        have c0 := B1.out.box.cell 0
        have cf0 := B1.out.box.frozen 0
        have c1 := B1.out.box.cell 1
        have cf1 := B1.out.box.frozen 1
        have c2 := B1.out.box.cell 2
        have cf2 := B1.out.box.frozen 2
        have c3 := B1.out.box.cell 3
        have cf3 := B1.out.box.frozen 3
        have c4 := B1.out.box.cell 4
        have cf4 := B1.out.box.frozen 4
        have r0 := B1.out.res.cell 0
        have rf0 := B1.out.res.frozen 0
        have r1 := B1.out.res.cell 1
        have rf1 := B1.out.res.frozen 1
        have r2 := B1.out.res.cell 2
        have rf2 := B1.out.res.frozen 2
        have r3 := B1.out.res.cell 3
        have rf3 := B1.out.res.frozen 3
        have r4 := B1.out.res.cell 4
        have rf4 := B1.out.res.frozen 4
        simp at c0 c1 c2 c3 c4 r0 r1 r2 r3 r4
        have cl := B1.out.box.lt
        have rl := B1.out.res.lt
        have cn := B1.out.ne
        skip
        have HF : Hid _ := B1.out.retA (Obj.cells (P3 0 0 0) 66)
        clear B1 B2
        go_wp2
        rw [HP.out]
        exact bodyPost_ret (v := .tuple #[.agg (D5 s c s' c' (.slice a n cap)), .bool false]) (results_D rfl _ _ _ _ _ _ _ _ _ rfl rfl (HF.out _ rfl).1) rfl ((HF.out _ rfl).2.1 false)
      | true =>
        have HP : Hid (tellP (s, c, s', c', ls) 0 ev (x, y, z) = ((st1, ca1, s', c', ls), true)) := by show tellP _ _ _ _ = _; simp [tellP, HTT.out]
        have c0 := B2.out.box.cell 0
        have cf0 := B2.out.box.frozen 0
        have c1 := B2.out.box.cell 1
        have cf1 := B2.out.box.frozen 1
        have c2 := B2.out.box.cell 2
        have cf2 := B2.out.box.frozen 2
        have c3 := B2.out.box.cell 3
        have cf3 := B2.out.box.frozen 3
        have c4 := B2.out.box.cell 4
        have cf4 := B2.out.box.frozen 4
        have r0 := B2.out.res.cell 0
        have rf0 := B2.out.res.frozen 0
        have r1 := B2.out.res.cell 1
        have rf1 := B2.out.res.frozen 1
        have r2 := B2.out.res.cell 2
        have rf2 := B2.out.res.frozen 2
        have r3 := B2.out.res.cell 3
        have rf3 := B2.out.res.frozen 3
        have r4 := B2.out.res.cell 4
        have rf4 := B2.out.res.frozen 4
        simp at c0 c1 c2 c3 c4 r0 r1 r2 r3 r4
        have cl := B2.out.box.lt
        have rl := B2.out.res.lt
        have cn := B2.out.ne
        skip
        have HF : Hid _ := B2.out.retA (Obj.cells (P3 0 0 0) 66)
        clear B1 B2
        go_wp2
        rw [HP.out]
        exact bodyPost_ret (v := .tuple #[.agg (D5 st1 ca1 s' c' (.slice a n cap)), .bool true]) (results_D rfl _ _ _ _ _ _ _ _ _ rfl rfl (HF.out _ rfl).1) rfl ((HF.out _ rfl).2.1 true)
    | some sg =>
      obtain ⟨p, q, r⟩ := sg
      refine ⟨rfl, _, _, fun b k cs rest => step_recv_some (u := .agg (P3 p q r)) rfl rfl rfl rfl hM, ?_⟩
      simp only [List.drop, Act.put, List.setIfInBounds_toArray, List.set_cons_succ, List.set_cons_zero]
      have hgc := grown_chan Wb (w.heap.size + 1 + 1 + 1) 1 (#[Value.agg (P3 p q r)].extract 1 1) true sM (0 + 1) false
      have B1' : Hid (Bx w base (.slice a n cap) (Wb.setChan (w.heap.size + 1 + 1 + 1) 1 (#[Value.agg (P3 p q r)].extract 1 1) true sM (0 + 1) false) w.heap.size (w.heap.size + 1 + 1) s c s' c' (.slice a n cap) ls) := B1.out.other hgc (by omega) (by omega) (by omega) (tw_old B1.out (by omega))
      have B2' : Hid (Bx w base (.slice a n cap) (Wb.setChan (w.heap.size + 1 + 1 + 1) 1 (#[Value.agg (P3 p q r)].extract 1 1) true sM (0 + 1) false) ga (w.heap.size + 1 + 1) st1 ca1 s' c' (.slice a n cap) ls) := B2.out.other hgc (by omega) (by have := HGA.out; omega) (by omega) (tw_old B1.out (by omega))
      obtain ⟨Wr, hWr⟩ : ∃ W, Wb.setChan (w.heap.size + 1 + 1 + 1) 1 (#[Value.agg (P3 p q r)].extract 1 1) true sM (0 + 1) false = W := ⟨_, rfl⟩
      rw [hWr] at B1' B2' ⊢
      clear hgc hWr B1 B2 HC hM
      have B3 : Hid (Bx w base (.slice a n cap) (Wr.alloc (Obj.cells (P3 p q r) 66)) w.heap.size (w.heap.size + 1 + 1) s c s' c' (.slice a n cap) ls) := B1'.out.alloc _
      have B4 : Hid (Bx w base (.slice a n cap) (Wr.alloc (Obj.cells (P3 p q r) 66)) ga (w.heap.size + 1 + 1) st1 ca1 s' c' (.slice a n cap) ls) := B2'.out.alloc _
      have HG : Hid (Blk (Wr.alloc (Obj.cells (P3 p q r) 66)) Wr.heap.size (P3 p q r) 66) := Blk.new _ _ _
      obtain ⟨Wc, hWc⟩ : ∃ W, Wr.alloc (Obj.cells (P3 p q r) 66) = W := ⟨_, rfl⟩
      rw [hWc] at B3 B4 HG
      clear B1' B2'
      have c0 := B4.out.box.cell 0
      have cf0 := B4.out.box.frozen 0
      have c1 := B4.out.box.cell 1
      have cf1 := B4.out.box.frozen 1
      have c2 := B4.out.box.cell 2
      have cf2 := B4.out.box.frozen 2
      have c3 := B4.out.box.cell 3
      have cf3 := B4.out.box.frozen 3
      have c4 := B4.out.box.cell 4
      have cf4 := B4.out.box.frozen 4
      have r0 := B4.out.res.cell 0
      have rf0 := B4.out.res.frozen 0
      have r1 := B4.out.res.cell 1
      have rf1 := B4.out.res.frozen 1
      have r2 := B4.out.res.cell 2
      have rf2 := B4.out.res.frozen 2
      have r3 := B4.out.res.cell 3
      have rf3 := B4.out.res.frozen 3
      have r4 := B4.out.res.cell 4
      have rf4 := B4.out.res.frozen 4
      simp at c0 c1 c2 c3 c4 r0 r1 r2 r3 r4
      have cl := B4.out.box.lt
      have rl := B4.out.res.lt
      have cn := B4.out.ne
      skip
      have s0 := HG.out.cell 0
      have s1 := HG.out.cell 1
      have s2 := HG.out.cell 2
      simp at s0 s1 s2
      by_cases h40 : n = 40
      · have HP : Hid (tellP (s, c, s', c', ls) 0 ev (x, y, z) = ((s, c, s', c', ls), false)) := by show tellP _ _ _ _ = _; simp [tellP, HTT.out, HN.out, h40]
        have H40 : Hid (n = 40) := h40
        clear h40
        go_wp2_with (fail)
        refine (sendFull_c st1 ca1 s' c' a n cap p q r Wc H40.out).mono ?_
        rintro e Wd ⟨rfl, bd⟩
        have B5 : Hid (Bx w base (.slice a n cap) Wd w.heap.size (w.heap.size + 1 + 1) s c s' c' (.slice a n cap) ls) := B3.out.below bd
        have B6 : Hid (Bx w base (.slice a n cap) Wd ga (w.heap.size + 1 + 1) st1 ca1 s' c' (.slice a n cap) ls) := B4.out.below bd
        clear H40 hWc HG s0 s1 s2 c0 c1 c2 c3 c4 cf0 cf1 cf2 cf3 cf4 r0 r1 r2 r3 r4 rf0 rf1 rf2 rf3 rf4 cl rl cn
        have B7 : Hid (Bx w base (.slice a n cap) (st5 Wd ga st1 ca1 s' c' (.slice a n cap)) w.heap.size (w.heap.size + 1 + 1) s c s' c' (.slice a n cap) ls) := B5.out.other (grown_put5 ..) (by have := HGA.out; omega) (by have := HGA.out; omega) (by have := HGA.out; omega) (tw_old B5.out (by have := HGA.out; omega))
        clear B3 B4 B5 bd
        have e0 := B6.out.box.cell 0
        have ef0 := B6.out.box.frozen 0
        have e1 := B6.out.box.cell 1
        have ef1 := B6.out.box.frozen 1
        have e2 := B6.out.box.cell 2
        have ef2 := B6.out.box.frozen 2
        have e3 := B6.out.box.cell 3
        have ef3 := B6.out.box.frozen 3
        have e4 := B6.out.box.cell 4
        have ef4 := B6.out.box.frozen 4
        have f0 := B6.out.res.cell 0
        have ff0 := B6.out.res.frozen 0
        have f1 := B6.out.res.cell 1
        have ff1 := B6.out.res.frozen 1
        have f2 := B6.out.res.cell 2
        have ff2 := B6.out.res.frozen 2
        have f3 := B6.out.res.cell 3
        have ff3 := B6.out.res.frozen 3
        have f4 := B6.out.res.cell 4
        have ff4 := B6.out.res.frozen 4
        simp at e0 e1 e2 e3 e4 f0 f1 f2 f3 f4
        have el := B6.out.box.lt
        have fl := B6.out.res.lt
        have en := B6.out.ne
        skip
        obtain ⟨We, hWe⟩ : ∃ W, st5 Wd ga st1 ca1 s' c' (.slice a n cap) = W := ⟨_, rfl⟩
        rw [hWe] at B7
        unfold st5 at hWe
        clear B6
        have c0 := B7.out.box.cell 0
        have cf0 := B7.out.box.frozen 0
        have c1 := B7.out.box.cell 1
        have cf1 := B7.out.box.frozen 1
        have c2 := B7.out.box.cell 2
        have cf2 := B7.out.box.frozen 2
        have c3 := B7.out.box.cell 3
        have cf3 := B7.out.box.frozen 3
        have c4 := B7.out.box.cell 4
        have cf4 := B7.out.box.frozen 4
        have r0 := B7.out.res.cell 0
        have rf0 := B7.out.res.frozen 0
        have r1 := B7.out.res.cell 1
        have rf1 := B7.out.res.frozen 1
        have r2 := B7.out.res.cell 2
        have rf2 := B7.out.res.frozen 2
        have r3 := B7.out.res.cell 3
        have rf3 := B7.out.res.frozen 3
        have r4 := B7.out.res.cell 4
        have rf4 := B7.out.res.frozen 4
        simp at c0 c1 c2 c3 c4 r0 r1 r2 r3 r4
        have cl := B7.out.box.lt
        have rl := B7.out.res.lt
        have cn := B7.out.ne
        skip
        have HF : Hid _ := B7.out.ret
        clear B7
        go_wp2
        rw [HP.out]
        exact bodyPost_ret (v := .tuple #[.agg (D5 s c s' c' (.slice a n cap)), .bool false]) (results_D rfl _ _ _ _ _ _ _ _ _ rfl rfl (HF.out _ rfl).1) rfl ((HF.out _ rfl).2.1 false)
      · have HP : Hid (tellP (s, c, s', c', ls) 0 ev (x, y, z) = ((st1, ca1, s', c', ls ++ [(p, q, r)]), true)) := by show tellP _ _ _ _ = _; simp [tellP, HTT.out, HN.out, h40]
        have HSP : Hid (sendP (st1, ca1, s', c', ls) (p, q, r) = ((st1, ca1, s', c', ls ++ [(p, q, r)]), true)) := by show sendP _ _ = _; simp [sendP, HN.out, h40]
        clear h40
        go_wp2_with (fail)
        have hsc := sendSig_c base st1 ca1 s' c' (.slice a n cap) ls p q r Wc B4.out.own (by have := B4.out.gr.size; have := HBS.out; omega) HL.out
        rw [HSP.out] at hsc
        refine hsc.mono ?_
        rintro e Wd ⟨v', rfl, ho, hg, hx⟩
        have B6 : Hid (Bx w base (.slice a n cap) (st5 Wd ga st1 ca1 s' c' v') ga (w.heap.size + 1 + 1) st1 ca1 s' c' v' (ls ++ [(p, q, r)])) := B4.out.put ho hg hx _ _ _ _
        obtain ⟨k1, -⟩ := B4.out.after ho hg hx
        obtain ⟨a', cap', hv', -⟩ := own_form ho
        rw [show (ls ++ [(p, q, r)]).length = n + 1 by simp [HN.out]] at hv'
        subst hv'
        clear hWc HG s0 s1 s2 hsc c0 c1 c2 c3 c4 cf0 cf1 cf2 cf3 cf4 r0 r1 r2 r3 r4 rf0 rf1 rf2 rf3 rf4 cl rl cn
        clear B3 B4 ho hg hx
        have e0 := k1.cell 0
        have e1 := k1.cell 1
        have e2 := k1.cell 2
        have e3 := k1.cell 3
        have e4 := k1.cell 4
        have z0 := k1.frozen 0
        have z1 := k1.frozen 1
        have z2 := k1.frozen 2
        have z3 := k1.frozen 3
        have z4 := k1.frozen 4
        simp at e0 e1 e2 e3 e4
        obtain ⟨We, hWe⟩ : ∃ W, st5 Wd ga st1 ca1 s' c' (.slice a' (n + 1) cap') = W := ⟨_, rfl⟩
        rw [hWe] at B6
        unfold st5 at hWe
        clear k1
        have c0 := B6.out.box.cell 0
        have cf0 := B6.out.box.frozen 0
        have c1 := B6.out.box.cell 1
        have cf1 := B6.out.box.frozen 1
        have c2 := B6.out.box.cell 2
        have cf2 := B6.out.box.frozen 2
        have c3 := B6.out.box.cell 3
        have cf3 := B6.out.box.frozen 3
        have c4 := B6.out.box.cell 4
        have cf4 := B6.out.box.frozen 4
        have r0 := B6.out.res.cell 0
        have rf0 := B6.out.res.frozen 0
        have r1 := B6.out.res.cell 1
        have rf1 := B6.out.res.frozen 1
        have r2 := B6.out.res.cell 2
        have rf2 := B6.out.res.frozen 2
        have r3 := B6.out.res.cell 3
        have rf3 := B6.out.res.frozen 3
        have r4 := B6.out.res.cell 4
        have rf4 := B6.out.res.frozen 4
        simp at c0 c1 c2 c3 c4 r0 r1 r2 r3 r4
        have cl := B6.out.box.lt
        have rl := B6.out.res.lt
        have cn := B6.out.ne
        skip
        have HF : Hid _ := B6.out.ret
        clear B6
        go_wp2
        rw [HP.out]
        exact bodyPost_ret (v := .tuple #[.agg (D5 st1 ca1 s' c' (.slice a' (n + 1) cap')), .bool true]) (results_D rfl _ _ _ _ _ _ _ _ _ rfl rfl (HF.out _ rfl).1) rfl ((HF.out _ rfl).2.1 true)

set_option maxHeartbeats 12800000 in
theorem tell1_c (base : Nat) (s c s' c' : Int) (v : Value) (ls : Tri) (ev x y z : Int) (w : World) (h : Ot 66 base w v ls) (hbs : base ≤ w.heap.size) (hl : ls.length ≤ 40) (hca : 0 ≤ c') (hca2 : c' ≤ 1000) (hm : (y = 0 ∧ z = 0 ∧ 1 ≤ ev ∧ ev ≤ 4) ∨ (ev = 5 ∧ 1 ≤ y ∧ y ≤ 4)) :
    Calls Try.prog 60 #[.agg (D5 s c s' c' v), .agg (C5 1 ev x y z)] w (DuR base w v (tellP (s, c, s', c', ls) 1 ev (x, y, z)).1 (tellP (s, c, s', c', ls) 1 ev (x, y, z)).2) := by
  obtain ⟨W0, hW0⟩ : ∃ W0, ((w.alloc (Obj.cells (D5 s c s' c' v) 31)).alloc (Obj.cells (C5 1 ev x y z) 87)).alloc (Obj.cells (D5 0 0 0 0 (.slice none 0 0)) 31) = W0 := ⟨_, rfl⟩
  have hb0 : Bx w base v W0 w.heap.size (w.heap.size + 1 + 1) s c s' c' v ls := Bx.start h (by rw [← hW0]; exact (((Below.refl _ _).alloc (Nat.le_refl _) _).alloc (by simp) _).alloc (by simp; omega) _) (by rw [← hW0]; exact ((Blk.new _ _ _).alloc _).alloc _) (by rw [← hW0]; exact Blk.newAt _ (w.heap.size + 1 + 1) _ 31 (by simp)) (Nat.le_refl _) (by omega) (by omega)
  have hx0 : Blk W0 (w.heap.size + 1) (C5 1 ev x y z) 87 := by rw [← hW0]; exact (Blk.newAt _ (w.heap.size + 1) _ 87 (by simp)).alloc _
  have hz0 : W0.heap.size = w.heap.size + 1 + 1 + 1 := by rw [← hW0]; simp
  obtain ⟨a, cap, hv, -⟩ := own_form h
  subst hv
  have HL : Hid (ls.length ≤ 40) := hl
  have HBS : Hid (base ≤ w.heap.size) := hbs
  obtain ⟨n, hn⟩ : ∃ n, ls.length = n := ⟨_, rfl⟩
  rw [hn] at hb0 hW0 ⊢
  have HN : Hid (ls.length = n) := hn
  obtain ⟨HR, hHR⟩ : ∃ H : Nat → Array Oper → Code, ∀ id ops, H id ops = Code.region id ops false := ⟨fun id ops => .region id ops false, fun _ _ => rfl⟩
  have HH : Hid (∀ id ops, HR id ops = Code.region id ops false) := hHR
  have hmc := mk99
  obtain ⟨W1, hW1⟩ : ∃ W, W0.alloc (.chan 1 #[] false 0 0 false) = W := ⟨_, rfl⟩
  have z1 : W1.heap.size = w.heap.size + 1 + 1 + 1 + 1 := by rw [← hW1]; simp [hz0]
  have HZ1 : Hid (W1.drew.heap.size = w.heap.size + 1 + 1 + 1 + 1) := z1
  have hb1 : Bx w base (.slice a n cap) W1 w.heap.size (w.heap.size + 1 + 1) s c s' c' (.slice a n cap) ls := by rw [← hW1]; exact hb0.alloc _
  have hx1 : Blk W1 (w.heap.size + 1) (C5 1 ev x y z) 87 := by rw [← hW1]; exact hx0.alloc _
  have HCH : Hid (W1.drew.heap[w.heap.size + 1 + 1 + 1]? = some (.chan 1 #[] false 0 0 false)) := by show W1.heap[_]? = _; rw [← hW1, ← hz0]; exact heap_alloc_new _ _
  have HB1 : Hid (Bx w base (.slice a n cap) W1.drew w.heap.size (w.heap.size + 1 + 1) s c s' c' (.slice a n cap) ls) := hb1.below (Below.refl _ _).drew
  have HX1 : Hid (Blk W1.drew (w.heap.size + 1) (C5 1 ev x y z) 87) := hx1.drew
  obtain ⟨S, hS⟩ : ∃ S : World → Prop, ∀ W, S W ↔ (Blk W w.heap.size (D5 s c s' c' (.slice a n cap)) 31 ∧ Blk W (w.heap.size + 1) (C5 1 ev x y z) 87) := ⟨_, fun _ => Iff.rfl⟩
  have HSI : Hid (∀ W, S W ↔ (Blk W w.heap.size (D5 s c s' c' (.slice a n cap)) 31 ∧ Blk W (w.heap.size + 1) (C5 1 ev x y z) 87)) := hS
  have HSD : Hid (S W1.drew) := (hS _).2 ⟨HB1.out.box, HX1.out⟩
  have ne1 : Nonempty (At S) := ⟨⟨_, HSD.out⟩⟩
  have y0 : ∀ W : At S, W.wd.cell? ⟨w.heap.size, 0, none⟩ = some (.int .i64 s) := fun W => by rw [((hS _).1 W.ok).1.cell 0]; rfl
  have y1 : ∀ W : At S, W.wd.cell? ⟨w.heap.size, 1, none⟩ = some (.int .i64 c) := fun W => by rw [((hS _).1 W.ok).1.cell 1]; rfl
  have y2 : ∀ W : At S, W.wd.cell? ⟨w.heap.size, 2, none⟩ = some (.int .i64 s') := fun W => by rw [((hS _).1 W.ok).1.cell 2]; rfl
  have y3 : ∀ W : At S, W.wd.cell? ⟨w.heap.size, 3, none⟩ = some (.int .i64 c') := fun W => by rw [((hS _).1 W.ok).1.cell 3]; rfl
  have x0 : ∀ W : At S, W.wd.cell? ⟨w.heap.size + 1, 0, none⟩ = some (.int .i64 1) := fun W => by rw [((hS _).1 W.ok).2.cell 0]; rfl
  have x1 : ∀ W : At S, W.wd.cell? ⟨w.heap.size + 1, 1, none⟩ = some (.int .i64 ev) := fun W => by rw [((hS _).1 W.ok).2.cell 1]; rfl
  have x2 : ∀ W : At S, W.wd.cell? ⟨w.heap.size + 1, 2, none⟩ = some (.int .i64 x) := fun W => by rw [((hS _).1 W.ok).2.cell 2]; rfl
  have x3 : ∀ W : At S, W.wd.cell? ⟨w.heap.size + 1, 3, none⟩ = some (.int .i64 y) := fun W => by rw [((hS _).1 W.ok).2.cell 3]; rfl
  have x4 : ∀ W : At S, W.wd.cell? ⟨w.heap.size + 1, 4, none⟩ = some (.int .i64 z) := fun W => by rw [((hS _).1 W.ok).2.cell 4]; rfl
  have HT : Hid (∀ W, W.heap[w.heap.size + 1 + 1 + 1]? = some (.chan 1 #[] false 0 0 false) → Calls Try.prog 70 #[.agg (H2 s' c'), .agg (C5 1 ev x y z), .chan (some (w.heap.size + 1 + 1 + 1))] W (TuR s' c' 1 ev (x, y, z) (w.heap.size + 1 + 1 + 1) W)) := fun W hW => turn_c s' c' 1 ev x y z _ W hW (by decide) (by decide) hca hca2 hm
  clear hS hb0 hb1 hx0 hx1 h hHR hl hbs hca hca2 hm hn
  go_enter Try.func60, Try.ntmps60
  rw [← HH.out 5]
  go_wp2
  try rw [hz0]
  refine region_anyS S (by kernel_rfl) ?_
  refine anyS_quiet [true, true, true, true, true, true, true, false, false, false, false, false, false, false] 7 rfl (by kernel_rfl) (fun _ _ _ _ _ h => h) HSD.out ?_
  simp only [selT]
  repeat (go_big_quiet_step (fail))
  refine wpQuiet_nil ?_
  clear y0 y1 y2 y3 x0 x1 x2 x3 x4 ne1 hW1 hW0 hmc hz0 z1
  obtain ⟨u0, hu0⟩ : ∃ W, W1.drew = W := ⟨_, rfl⟩
  rw [hu0] at HZ1 HCH HB1 HX1 HSD ⊢
  clear hu0
  refine anyS_two 7 11 (by kernel_rfl) rfl rfl ?_ ?_
  · go_wp2_with (fail)
    refine (HT.out u0 HCH.out).mono ?_
    rintro e u1 ⟨st1, ca1, ok, yo, sN, ht, rfl, hgr, hch⟩
    have HTT : Hid _ := ht
    have HTW : Hid (Tw w base (.slice a n cap) (u1.alloc (Obj.cells (H2 st1 ca1) 27)) u1.heap.size s c s' c' ls 1 ev x y z st1 ca1 (bufO yo)) := Tw.a HB1.out HX1.out hgr hch (by have := HZ1.out; omega)
    have HS1 : Hid (S u1 ∧ ∀ o, S (u1.alloc o)) := ⟨(HSI.out _).2 ⟨HB1.out.box.grown hgr (by intro e; have := Option.some.inj e; omega), HX1.out.grown hgr (by intro e; have := Option.some.inj e; omega)⟩, fun o => (HSI.out _).2 ⟨(HB1.out.box.grown hgr (by intro e; have := Option.some.inj e; omega)).alloc _, (HX1.out.grown hgr (by intro e; have := Option.some.inj e; omega)).alloc _⟩⟩
    clear ht hgr hch HT HCH HB1 HX1 HSI HSD
    go_wp2
    refine ⟨HS1.out.1, ?_⟩
    refine anyS_quiet [false, false, false, false, false, false, false, false, true, true, true, false, false, false] 3 rfl (by kernel_rfl) (fun _ _ _ _ _ h => h) HS1.out.1 ?_
    simp only [selT]
    have ne2 : Nonempty (At S) := ⟨⟨_, HS1.out.1⟩⟩
    repeat (go_big_quiet_step (fail))
    refine wpQuiet_nil ?_
    clear ne2
    refine anyS_one 11 (by kernel_rfl) rfl ?_
    go_wp2
    refine ⟨HS1.out.2 _, ?_⟩
    refine anyS_one 12 (by kernel_rfl) rfl ?_
    go_wp2
    refine ⟨HS1.out.2 _, ?_⟩
    refine anyS_one 13 (by kernel_rfl) rfl ?_
    go_wp2
    refine ⟨HS1.out.2 _, ?_⟩
    refine anyS_end (by kernel_rfl) ?_
    obtain ⟨gh, hgh⟩ : ∃ g, u1.heap.size = g := ⟨_, rfl⟩
    obtain ⟨Wa, hWa⟩ : ∃ W, u1.alloc (Obj.cells (H2 st1 ca1) 27) = W := ⟨_, rfl⟩
    rw [hgh, hWa] at HTW
    rw [hWa, hgh]
    clear hgh hWa HS1 HZ1
    have t0 := HTW.out.bx.box.cell 0
    have t1 := HTW.out.bx.box.cell 1
    have t2 := HTW.out.bx.box.cell 2
    have t3 := HTW.out.bx.box.cell 3
    have t4 := HTW.out.bx.box.cell 4
    have q0 := HTW.out.cu.cell 0
    have g0 := HTW.out.hh.cell 0
    have g1 := HTW.out.hh.cell 1
    simp at t0 t1 t2 t3 t4 q0 g0 g1
    have tl := HTW.out.bx.box.lt
    have ql := HTW.out.cu.lt
    have gl := HTW.out.hh.lt
    go_wp2
    obtain ⟨ga, hga⟩ : ∃ g, Wa.heap.size = g := ⟨_, rfl⟩
    obtain ⟨Wb, hWb⟩ : ∃ W, Wa.alloc (Obj.cells (D5 s c st1 ca1 (.slice a n cap)) 31) = W := ⟨_, rfl⟩
    have B1 : Hid (Bx w base (.slice a n cap) Wb w.heap.size (w.heap.size + 1 + 1) s c s' c' (.slice a n cap) ls) := hWb ▸ HTW.out.bx.alloc _
    have B2 : Hid (Bx w base (.slice a n cap) Wb ga (w.heap.size + 1 + 1) s c st1 ca1 (.slice a n cap) ls) := ⟨by rw [← hWb, ← hga]; exact Blk.new _ _ _, B1.out.res, B1.out.own, B1.out.gr, B1.out.nx, by have := HTW.out.bx.gr.size; omega, by omega, by have := HTW.out.bx.res.lt; omega, tw_old HTW.out.bx (by have := HTW.out.bx.gr.size; omega), B1.out.nr, B1.out.old⟩
    have HC : Hid (∃ sN, Wb.heap[w.heap.size + 1 + 1 + 1]? = some (.chan 1 (bufO yo) true sN 0 false)) := by
      obtain ⟨sM, hM⟩ := HTW.out.ch
      exact ⟨sM, by rw [← hWb, Below.heap_alloc _ _ _ (by have := HTW.out.gl; omega)]; exact hM⟩
    have HGA : Hid (w.heap.size + 1 + 1 + 1 < ga) := by have := HTW.out.gl; show _ < ga; omega
    rw [hga, hWb]
    clear hga hWb HTW t0 t1 t2 t3 t4 q0 g0 g1 tl ql gl
    rw [HH.out 5]
    refine region_comm 1 _ rfl rfl ?_
    simp only [List.take]
    go_wp2
    obtain ⟨sM, hM⟩ := HC.out
    cases yo with
    | none =>
      refine ⟨rfl, _, _, fun b k cs rest => step_recv_none rfl rfl rfl rfl hM, ?_⟩
      simp only [List.drop, Act.put, List.setIfInBounds_toArray, List.set_cons_succ, List.set_cons_zero]
      clear HC hM
      cases ok with
      | false =>
        have HP : Hid (tellP (s, c, s', c', ls) 1 ev (x, y, z) = ((s, c, s', c', ls), false)) := by show tellP _ _ _ _ = _; simp [tellP, HTT.out]
        have c0 := B1.out.box.cell 0
        have cf0 := B1.out.box.frozen 0
        have c1 := B1.out.box.cell 1
        have cf1 := B1.out.box.frozen 1
        have c2 := B1.out.box.cell 2
        have cf2 := B1.out.box.frozen 2
        have c3 := B1.out.box.cell 3
        have cf3 := B1.out.box.frozen 3
        have c4 := B1.out.box.cell 4
        have cf4 := B1.out.box.frozen 4
        have r0 := B1.out.res.cell 0
        have rf0 := B1.out.res.frozen 0
        have r1 := B1.out.res.cell 1
        have rf1 := B1.out.res.frozen 1
        have r2 := B1.out.res.cell 2
        have rf2 := B1.out.res.frozen 2
        have r3 := B1.out.res.cell 3
        have rf3 := B1.out.res.frozen 3
        have r4 := B1.out.res.cell 4
        have rf4 := B1.out.res.frozen 4
        simp at c0 c1 c2 c3 c4 r0 r1 r2 r3 r4
        have cl := B1.out.box.lt
        have rl := B1.out.res.lt
        have cn := B1.out.ne
        skip
        have HF : Hid _ := B1.out.retA (Obj.cells (P3 0 0 0) 66)
        clear B1 B2
        go_wp2
        rw [HP.out]
        exact bodyPost_ret (v := .tuple #[.agg (D5 s c s' c' (.slice a n cap)), .bool false]) (results_D rfl _ _ _ _ _ _ _ _ _ rfl rfl (HF.out _ rfl).1) rfl ((HF.out _ rfl).2.1 false)
      | true =>
        have HP : Hid (tellP (s, c, s', c', ls) 1 ev (x, y, z) = ((s, c, st1, ca1, ls), true)) := by show tellP _ _ _ _ = _; simp [tellP, HTT.out]
        have c0 := B2.out.box.cell 0
        have cf0 := B2.out.box.frozen 0
        have c1 := B2.out.box.cell 1
        have cf1 := B2.out.box.frozen 1
        have c2 := B2.out.box.cell 2
        have cf2 := B2.out.box.frozen 2
        have c3 := B2.out.box.cell 3
        have cf3 := B2.out.box.frozen 3
        have c4 := B2.out.box.cell 4
        have cf4 := B2.out.box.frozen 4
        have r0 := B2.out.res.cell 0
        have rf0 := B2.out.res.frozen 0
        have r1 := B2.out.res.cell 1
        have rf1 := B2.out.res.frozen 1
        have r2 := B2.out.res.cell 2
        have rf2 := B2.out.res.frozen 2
        have r3 := B2.out.res.cell 3
        have rf3 := B2.out.res.frozen 3
        have r4 := B2.out.res.cell 4
        have rf4 := B2.out.res.frozen 4
        simp at c0 c1 c2 c3 c4 r0 r1 r2 r3 r4
        have cl := B2.out.box.lt
        have rl := B2.out.res.lt
        have cn := B2.out.ne
        skip
        have HF : Hid _ := B2.out.retA (Obj.cells (P3 0 0 0) 66)
        clear B1 B2
        go_wp2
        rw [HP.out]
        exact bodyPost_ret (v := .tuple #[.agg (D5 s c st1 ca1 (.slice a n cap)), .bool true]) (results_D rfl _ _ _ _ _ _ _ _ _ rfl rfl (HF.out _ rfl).1) rfl ((HF.out _ rfl).2.1 true)
    | some sg =>
      obtain ⟨p, q, r⟩ := sg
      refine ⟨rfl, _, _, fun b k cs rest => step_recv_some (u := .agg (P3 p q r)) rfl rfl rfl rfl hM, ?_⟩
      simp only [List.drop, Act.put, List.setIfInBounds_toArray, List.set_cons_succ, List.set_cons_zero]
      have hgc := grown_chan Wb (w.heap.size + 1 + 1 + 1) 1 (#[Value.agg (P3 p q r)].extract 1 1) true sM (0 + 1) false
      have B1' : Hid (Bx w base (.slice a n cap) (Wb.setChan (w.heap.size + 1 + 1 + 1) 1 (#[Value.agg (P3 p q r)].extract 1 1) true sM (0 + 1) false) w.heap.size (w.heap.size + 1 + 1) s c s' c' (.slice a n cap) ls) := B1.out.other hgc (by omega) (by omega) (by omega) (tw_old B1.out (by omega))
      have B2' : Hid (Bx w base (.slice a n cap) (Wb.setChan (w.heap.size + 1 + 1 + 1) 1 (#[Value.agg (P3 p q r)].extract 1 1) true sM (0 + 1) false) ga (w.heap.size + 1 + 1) s c st1 ca1 (.slice a n cap) ls) := B2.out.other hgc (by omega) (by have := HGA.out; omega) (by omega) (tw_old B1.out (by omega))
      obtain ⟨Wr, hWr⟩ : ∃ W, Wb.setChan (w.heap.size + 1 + 1 + 1) 1 (#[Value.agg (P3 p q r)].extract 1 1) true sM (0 + 1) false = W := ⟨_, rfl⟩
      rw [hWr] at B1' B2' ⊢
      clear hgc hWr B1 B2 HC hM
      have B3 : Hid (Bx w base (.slice a n cap) (Wr.alloc (Obj.cells (P3 p q r) 66)) w.heap.size (w.heap.size + 1 + 1) s c s' c' (.slice a n cap) ls) := B1'.out.alloc _
      have B4 : Hid (Bx w base (.slice a n cap) (Wr.alloc (Obj.cells (P3 p q r) 66)) ga (w.heap.size + 1 + 1) s c st1 ca1 (.slice a n cap) ls) := B2'.out.alloc _
      have HG : Hid (Blk (Wr.alloc (Obj.cells (P3 p q r) 66)) Wr.heap.size (P3 p q r) 66) := Blk.new _ _ _
      obtain ⟨Wc, hWc⟩ : ∃ W, Wr.alloc (Obj.cells (P3 p q r) 66) = W := ⟨_, rfl⟩
      rw [hWc] at B3 B4 HG
      clear B1' B2'
      have c0 := B4.out.box.cell 0
      have cf0 := B4.out.box.frozen 0
      have c1 := B4.out.box.cell 1
      have cf1 := B4.out.box.frozen 1
      have c2 := B4.out.box.cell 2
      have cf2 := B4.out.box.frozen 2
      have c3 := B4.out.box.cell 3
      have cf3 := B4.out.box.frozen 3
      have c4 := B4.out.box.cell 4
      have cf4 := B4.out.box.frozen 4
      have r0 := B4.out.res.cell 0
      have rf0 := B4.out.res.frozen 0
      have r1 := B4.out.res.cell 1
      have rf1 := B4.out.res.frozen 1
      have r2 := B4.out.res.cell 2
      have rf2 := B4.out.res.frozen 2
      have r3 := B4.out.res.cell 3
      have rf3 := B4.out.res.frozen 3
      have r4 := B4.out.res.cell 4
      have rf4 := B4.out.res.frozen 4
      simp at c0 c1 c2 c3 c4 r0 r1 r2 r3 r4
      have cl := B4.out.box.lt
      have rl := B4.out.res.lt
      have cn := B4.out.ne
      skip
      have s0 := HG.out.cell 0
      have s1 := HG.out.cell 1
      have s2 := HG.out.cell 2
      simp at s0 s1 s2
      by_cases h40 : n = 40
      · have HP : Hid (tellP (s, c, s', c', ls) 1 ev (x, y, z) = ((s, c, s', c', ls), false)) := by show tellP _ _ _ _ = _; simp [tellP, HTT.out, HN.out, h40]
        have H40 : Hid (n = 40) := h40
        clear h40
        go_wp2_with (fail)
        refine (sendFull_c s c st1 ca1 a n cap p q r Wc H40.out).mono ?_
        rintro e Wd ⟨rfl, bd⟩
        have B5 : Hid (Bx w base (.slice a n cap) Wd w.heap.size (w.heap.size + 1 + 1) s c s' c' (.slice a n cap) ls) := B3.out.below bd
        have B6 : Hid (Bx w base (.slice a n cap) Wd ga (w.heap.size + 1 + 1) s c st1 ca1 (.slice a n cap) ls) := B4.out.below bd
        clear H40 hWc HG s0 s1 s2 c0 c1 c2 c3 c4 cf0 cf1 cf2 cf3 cf4 r0 r1 r2 r3 r4 rf0 rf1 rf2 rf3 rf4 cl rl cn
        have B7 : Hid (Bx w base (.slice a n cap) (st5 Wd ga s c st1 ca1 (.slice a n cap)) w.heap.size (w.heap.size + 1 + 1) s c s' c' (.slice a n cap) ls) := B5.out.other (grown_put5 ..) (by have := HGA.out; omega) (by have := HGA.out; omega) (by have := HGA.out; omega) (tw_old B5.out (by have := HGA.out; omega))
        clear B3 B4 B5 bd
        have e0 := B6.out.box.cell 0
        have ef0 := B6.out.box.frozen 0
        have e1 := B6.out.box.cell 1
        have ef1 := B6.out.box.frozen 1
        have e2 := B6.out.box.cell 2
        have ef2 := B6.out.box.frozen 2
        have e3 := B6.out.box.cell 3
        have ef3 := B6.out.box.frozen 3
        have e4 := B6.out.box.cell 4
        have ef4 := B6.out.box.frozen 4
        have f0 := B6.out.res.cell 0
        have ff0 := B6.out.res.frozen 0
        have f1 := B6.out.res.cell 1
        have ff1 := B6.out.res.frozen 1
        have f2 := B6.out.res.cell 2
        have ff2 := B6.out.res.frozen 2
        have f3 := B6.out.res.cell 3
        have ff3 := B6.out.res.frozen 3
        have f4 := B6.out.res.cell 4
        have ff4 := B6.out.res.frozen 4
        simp at e0 e1 e2 e3 e4 f0 f1 f2 f3 f4
        have el := B6.out.box.lt
        have fl := B6.out.res.lt
        have en := B6.out.ne
        skip
        obtain ⟨We, hWe⟩ : ∃ W, st5 Wd ga s c st1 ca1 (.slice a n cap) = W := ⟨_, rfl⟩
        rw [hWe] at B7
        unfold st5 at hWe
        clear B6
        have c0 := B7.out.box.cell 0
        have cf0 := B7.out.box.frozen 0
        have c1 := B7.out.box.cell 1
        have cf1 := B7.out.box.frozen 1
        have c2 := B7.out.box.cell 2
        have cf2 := B7.out.box.frozen 2
        have c3 := B7.out.box.cell 3
        have cf3 := B7.out.box.frozen 3
        have c4 := B7.out.box.cell 4
        have cf4 := B7.out.box.frozen 4
        have r0 := B7.out.res.cell 0
        have rf0 := B7.out.res.frozen 0
        have r1 := B7.out.res.cell 1
        have rf1 := B7.out.res.frozen 1
        have r2 := B7.out.res.cell 2
        have rf2 := B7.out.res.frozen 2
        have r3 := B7.out.res.cell 3
        have rf3 := B7.out.res.frozen 3
        have r4 := B7.out.res.cell 4
        have rf4 := B7.out.res.frozen 4
        simp at c0 c1 c2 c3 c4 r0 r1 r2 r3 r4
        have cl := B7.out.box.lt
        have rl := B7.out.res.lt
        have cn := B7.out.ne
        skip
        have HF : Hid _ := B7.out.ret
        clear B7
        go_wp2
        rw [HP.out]
        exact bodyPost_ret (v := .tuple #[.agg (D5 s c s' c' (.slice a n cap)), .bool false]) (results_D rfl _ _ _ _ _ _ _ _ _ rfl rfl (HF.out _ rfl).1) rfl ((HF.out _ rfl).2.1 false)
      · have HP : Hid (tellP (s, c, s', c', ls) 1 ev (x, y, z) = ((s, c, st1, ca1, ls ++ [(p, q, r)]), true)) := by show tellP _ _ _ _ = _; simp [tellP, HTT.out, HN.out, h40]
        have HSP : Hid (sendP (s, c, st1, ca1, ls) (p, q, r) = ((s, c, st1, ca1, ls ++ [(p, q, r)]), true)) := by show sendP _ _ = _; simp [sendP, HN.out, h40]
        clear h40
        go_wp2_with (fail)
        have hsc := sendSig_c base s c st1 ca1 (.slice a n cap) ls p q r Wc B4.out.own (by have := B4.out.gr.size; have := HBS.out; omega) HL.out
        rw [HSP.out] at hsc
        refine hsc.mono ?_
        rintro e Wd ⟨v', rfl, ho, hg, hx⟩
        have B6 : Hid (Bx w base (.slice a n cap) (st5 Wd ga s c st1 ca1 v') ga (w.heap.size + 1 + 1) s c st1 ca1 v' (ls ++ [(p, q, r)])) := B4.out.put ho hg hx _ _ _ _
        obtain ⟨k1, -⟩ := B4.out.after ho hg hx
        obtain ⟨a', cap', hv', -⟩ := own_form ho
        rw [show (ls ++ [(p, q, r)]).length = n + 1 by simp [HN.out]] at hv'
        subst hv'
        clear hWc HG s0 s1 s2 hsc c0 c1 c2 c3 c4 cf0 cf1 cf2 cf3 cf4 r0 r1 r2 r3 r4 rf0 rf1 rf2 rf3 rf4 cl rl cn
        clear B3 B4 ho hg hx
        have e0 := k1.cell 0
        have e1 := k1.cell 1
        have e2 := k1.cell 2
        have e3 := k1.cell 3
        have e4 := k1.cell 4
        have z0 := k1.frozen 0
        have z1 := k1.frozen 1
        have z2 := k1.frozen 2
        have z3 := k1.frozen 3
        have z4 := k1.frozen 4
        simp at e0 e1 e2 e3 e4
        obtain ⟨We, hWe⟩ : ∃ W, st5 Wd ga s c st1 ca1 (.slice a' (n + 1) cap') = W := ⟨_, rfl⟩
        rw [hWe] at B6
        unfold st5 at hWe
        clear k1
        have c0 := B6.out.box.cell 0
        have cf0 := B6.out.box.frozen 0
        have c1 := B6.out.box.cell 1
        have cf1 := B6.out.box.frozen 1
        have c2 := B6.out.box.cell 2
        have cf2 := B6.out.box.frozen 2
        have c3 := B6.out.box.cell 3
        have cf3 := B6.out.box.frozen 3
        have c4 := B6.out.box.cell 4
        have cf4 := B6.out.box.frozen 4
        have r0 := B6.out.res.cell 0
        have rf0 := B6.out.res.frozen 0
        have r1 := B6.out.res.cell 1
        have rf1 := B6.out.res.frozen 1
        have r2 := B6.out.res.cell 2
        have rf2 := B6.out.res.frozen 2
        have r3 := B6.out.res.cell 3
        have rf3 := B6.out.res.frozen 3
        have r4 := B6.out.res.cell 4
        have rf4 := B6.out.res.frozen 4
        simp at c0 c1 c2 c3 c4 r0 r1 r2 r3 r4
        have cl := B6.out.box.lt
        have rl := B6.out.res.lt
        have cn := B6.out.ne
        skip
        have HF : Hid _ := B6.out.ret
        clear B6
        go_wp2
        rw [HP.out]
        exact bodyPost_ret (v := .tuple #[.agg (D5 s c st1 ca1 (.slice a' (n + 1) cap')), .bool true]) (results_D rfl _ _ _ _ _ _ _ _ _ rfl rfl (HF.out _ rfl).1) rfl ((HF.out _ rfl).2.1 true)
  · go_wp2
    refine ⟨(HSI.out _).2 ⟨HB1.out.box.alloc _, HX1.out.alloc _⟩, ?_⟩
    refine anyS_one 7 (by kernel_rfl) rfl ?_
    go_wp2_with (fail)
    refine (HT.out _ (by rw [Below.heap_alloc _ _ _ (by have := HZ1.out; omega)]; exact HCH.out)).mono ?_
    rintro e u1 ⟨st1, ca1, ok, yo, sN, ht, rfl, hgr, hch⟩
    have HTT : Hid _ := ht
    obtain ⟨hgB, hTW⟩ := Tw.b (st := st1) (ca := ca1) HB1.out HX1.out hgr hch (by have := HZ1.out; omega)
    have HTW : Hid (Tw w base (.slice a n cap) ((u1.setCell ⟨u0.heap.size, 0, none⟩ (.int .i64 st1)).setCell ⟨u0.heap.size, 1, none⟩ (.int .i64 ca1)) u0.heap.size s c s' c' ls 1 ev x y z st1 ca1 (bufO yo)) := hTW
    have HS1 : Hid (S u1 ∧ S ((u1.setCell ⟨u0.heap.size, 0, none⟩ (.int .i64 st1)).setCell ⟨u0.heap.size, 1, none⟩ (.int .i64 ca1))) := ⟨(HSI.out _).2 ⟨(HB1.out.box.alloc _).grown hgr (by intro e; have := Option.some.inj e; omega), (HX1.out.alloc _).grown hgr (by intro e; have := Option.some.inj e; omega)⟩, (HSI.out _).2 ⟨hTW.bx.box, hTW.cu⟩⟩
    have b0 := hgB.cell 0
    have b1 := hgB.cell 1
    have bf0 := hgB.frozen 0
    have bf1 := hgB.frozen 1
    simp at b0 b1
    clear ht hgr hch HT HCH HB1 HX1 HSI HSD hgB hTW
    go_wp2
    refine ⟨HS1.out.1, ?_⟩
    refine anyS_quiet [false, false, false, false, false, false, false, false, true, true, true, false, false, false] 2 rfl (by kernel_rfl) (fun _ _ _ _ _ h => h) HS1.out.1 ?_
    simp only [selT]
    have ne2 : Nonempty (At S) := ⟨⟨_, HS1.out.1⟩⟩
    repeat (go_big_quiet_step (fail))
    refine wpQuiet_nil ?_
    clear ne2
    refine anyS_one 12 (by kernel_rfl) rfl ?_
    go_wp2
    refine ⟨HS1.out.2, ?_⟩
    refine anyS_one 13 (by kernel_rfl) rfl ?_
    go_wp2
    refine ⟨HS1.out.2, ?_⟩
    refine anyS_end (by kernel_rfl) ?_
    obtain ⟨gh, hgh⟩ : ∃ g, u0.heap.size = g := ⟨_, rfl⟩
    rw [hgh] at HTW ⊢
    obtain ⟨Wa, hWa⟩ : ∃ W, (u1.setCell ⟨gh, 0, none⟩ (.int .i64 st1)).setCell ⟨gh, 1, none⟩ (.int .i64 ca1) = W := ⟨_, rfl⟩
    rw [hWa] at HTW ⊢
    clear hgh hWa HS1 HZ1 b0 b1 bf0 bf1
    have t0 := HTW.out.bx.box.cell 0
    have t1 := HTW.out.bx.box.cell 1
    have t2 := HTW.out.bx.box.cell 2
    have t3 := HTW.out.bx.box.cell 3
    have t4 := HTW.out.bx.box.cell 4
    have q0 := HTW.out.cu.cell 0
    have g0 := HTW.out.hh.cell 0
    have g1 := HTW.out.hh.cell 1
    simp at t0 t1 t2 t3 t4 q0 g0 g1
    have tl := HTW.out.bx.box.lt
    have ql := HTW.out.cu.lt
    have gl := HTW.out.hh.lt
    go_wp2
    obtain ⟨ga, hga⟩ : ∃ g, Wa.heap.size = g := ⟨_, rfl⟩
    obtain ⟨Wb, hWb⟩ : ∃ W, Wa.alloc (Obj.cells (D5 s c st1 ca1 (.slice a n cap)) 31) = W := ⟨_, rfl⟩
    have B1 : Hid (Bx w base (.slice a n cap) Wb w.heap.size (w.heap.size + 1 + 1) s c s' c' (.slice a n cap) ls) := hWb ▸ HTW.out.bx.alloc _
    have B2 : Hid (Bx w base (.slice a n cap) Wb ga (w.heap.size + 1 + 1) s c st1 ca1 (.slice a n cap) ls) := ⟨by rw [← hWb, ← hga]; exact Blk.new _ _ _, B1.out.res, B1.out.own, B1.out.gr, B1.out.nx, by have := HTW.out.bx.gr.size; omega, by omega, by have := HTW.out.bx.res.lt; omega, tw_old HTW.out.bx (by have := HTW.out.bx.gr.size; omega), B1.out.nr, B1.out.old⟩
    have HC : Hid (∃ sN, Wb.heap[w.heap.size + 1 + 1 + 1]? = some (.chan 1 (bufO yo) true sN 0 false)) := by
      obtain ⟨sM, hM⟩ := HTW.out.ch
      exact ⟨sM, by rw [← hWb, Below.heap_alloc _ _ _ (by have := HTW.out.gl; omega)]; exact hM⟩
    have HGA : Hid (w.heap.size + 1 + 1 + 1 < ga) := by have := HTW.out.gl; show _ < ga; omega
    rw [hga, hWb]
    clear hga hWb HTW t0 t1 t2 t3 t4 q0 g0 g1 tl ql gl
    rw [HH.out 5]
    refine region_comm 1 _ rfl rfl ?_
    simp only [List.take]
    go_wp2
    obtain ⟨sM, hM⟩ := HC.out
    cases yo with
    | none =>
      refine ⟨rfl, _, _, fun b k cs rest => step_recv_none rfl rfl rfl rfl hM, ?_⟩
      simp only [List.drop, Act.put, List.setIfInBounds_toArray, List.set_cons_succ, List.set_cons_zero]
      clear HC hM
      cases ok with
      | false =>
        have HP : Hid (tellP (s, c, s', c', ls) 1 ev (x, y, z) = ((s, c, s', c', ls), false)) := by show tellP _ _ _ _ = _; simp [tellP, HTT.out]
        have c0 := B1.out.box.cell 0
        have cf0 := B1.out.box.frozen 0
        have c1 := B1.out.box.cell 1
        have cf1 := B1.out.box.frozen 1
        have c2 := B1.out.box.cell 2
        have cf2 := B1.out.box.frozen 2
        have c3 := B1.out.box.cell 3
        have cf3 := B1.out.box.frozen 3
        have c4 := B1.out.box.cell 4
        have cf4 := B1.out.box.frozen 4
        have r0 := B1.out.res.cell 0
        have rf0 := B1.out.res.frozen 0
        have r1 := B1.out.res.cell 1
        have rf1 := B1.out.res.frozen 1
        have r2 := B1.out.res.cell 2
        have rf2 := B1.out.res.frozen 2
        have r3 := B1.out.res.cell 3
        have rf3 := B1.out.res.frozen 3
        have r4 := B1.out.res.cell 4
        have rf4 := B1.out.res.frozen 4
        simp at c0 c1 c2 c3 c4 r0 r1 r2 r3 r4
        have cl := B1.out.box.lt
        have rl := B1.out.res.lt
        have cn := B1.out.ne
        skip
        have HF : Hid _ := B1.out.retA (Obj.cells (P3 0 0 0) 66)
        clear B1 B2
        go_wp2
        rw [HP.out]
        exact bodyPost_ret (v := .tuple #[.agg (D5 s c s' c' (.slice a n cap)), .bool false]) (results_D rfl _ _ _ _ _ _ _ _ _ rfl rfl (HF.out _ rfl).1) rfl ((HF.out _ rfl).2.1 false)
      | true =>
        have HP : Hid (tellP (s, c, s', c', ls) 1 ev (x, y, z) = ((s, c, st1, ca1, ls), true)) := by show tellP _ _ _ _ = _; simp [tellP, HTT.out]
        have c0 := B2.out.box.cell 0
        have cf0 := B2.out.box.frozen 0
        have c1 := B2.out.box.cell 1
        have cf1 := B2.out.box.frozen 1
        have c2 := B2.out.box.cell 2
        have cf2 := B2.out.box.frozen 2
        have c3 := B2.out.box.cell 3
        have cf3 := B2.out.box.frozen 3
        have c4 := B2.out.box.cell 4
        have cf4 := B2.out.box.frozen 4
        have r0 := B2.out.res.cell 0
        have rf0 := B2.out.res.frozen 0
        have r1 := B2.out.res.cell 1
        have rf1 := B2.out.res.frozen 1
        have r2 := B2.out.res.cell 2
        have rf2 := B2.out.res.frozen 2
        have r3 := B2.out.res.cell 3
        have rf3 := B2.out.res.frozen 3
        have r4 := B2.out.res.cell 4
        have rf4 := B2.out.res.frozen 4
        simp at c0 c1 c2 c3 c4 r0 r1 r2 r3 r4
        have cl := B2.out.box.lt
        have rl := B2.out.res.lt
        have cn := B2.out.ne
        skip
        have HF : Hid _ := B2.out.retA (Obj.cells (P3 0 0 0) 66)
        clear B1 B2
        go_wp2
        rw [HP.out]
        exact bodyPost_ret (v := .tuple #[.agg (D5 s c st1 ca1 (.slice a n cap)), .bool true]) (results_D rfl _ _ _ _ _ _ _ _ _ rfl rfl (HF.out _ rfl).1) rfl ((HF.out _ rfl).2.1 true)
    | some sg =>
      obtain ⟨p, q, r⟩ := sg
      refine ⟨rfl, _, _, fun b k cs rest => step_recv_some (u := .agg (P3 p q r)) rfl rfl rfl rfl hM, ?_⟩
      simp only [List.drop, Act.put, List.setIfInBounds_toArray, List.set_cons_succ, List.set_cons_zero]
      have hgc := grown_chan Wb (w.heap.size + 1 + 1 + 1) 1 (#[Value.agg (P3 p q r)].extract 1 1) true sM (0 + 1) false
      have B1' : Hid (Bx w base (.slice a n cap) (Wb.setChan (w.heap.size + 1 + 1 + 1) 1 (#[Value.agg (P3 p q r)].extract 1 1) true sM (0 + 1) false) w.heap.size (w.heap.size + 1 + 1) s c s' c' (.slice a n cap) ls) := B1.out.other hgc (by omega) (by omega) (by omega) (tw_old B1.out (by omega))
      have B2' : Hid (Bx w base (.slice a n cap) (Wb.setChan (w.heap.size + 1 + 1 + 1) 1 (#[Value.agg (P3 p q r)].extract 1 1) true sM (0 + 1) false) ga (w.heap.size + 1 + 1) s c st1 ca1 (.slice a n cap) ls) := B2.out.other hgc (by omega) (by have := HGA.out; omega) (by omega) (tw_old B1.out (by omega))
      obtain ⟨Wr, hWr⟩ : ∃ W, Wb.setChan (w.heap.size + 1 + 1 + 1) 1 (#[Value.agg (P3 p q r)].extract 1 1) true sM (0 + 1) false = W := ⟨_, rfl⟩
      rw [hWr] at B1' B2' ⊢
      clear hgc hWr B1 B2 HC hM
      have B3 : Hid (Bx w base (.slice a n cap) (Wr.alloc (Obj.cells (P3 p q r) 66)) w.heap.size (w.heap.size + 1 + 1) s c s' c' (.slice a n cap) ls) := B1'.out.alloc _
      have B4 : Hid (Bx w base (.slice a n cap) (Wr.alloc (Obj.cells (P3 p q r) 66)) ga (w.heap.size + 1 + 1) s c st1 ca1 (.slice a n cap) ls) := B2'.out.alloc _
      have HG : Hid (Blk (Wr.alloc (Obj.cells (P3 p q r) 66)) Wr.heap.size (P3 p q r) 66) := Blk.new _ _ _
      obtain ⟨Wc, hWc⟩ : ∃ W, Wr.alloc (Obj.cells (P3 p q r) 66) = W := ⟨_, rfl⟩
      rw [hWc] at B3 B4 HG
      clear B1' B2'
      have c0 := B4.out.box.cell 0
      have cf0 := B4.out.box.frozen 0
      have c1 := B4.out.box.cell 1
      have cf1 := B4.out.box.frozen 1
      have c2 := B4.out.box.cell 2
      have cf2 := B4.out.box.frozen 2
      have c3 := B4.out.box.cell 3
      have cf3 := B4.out.box.frozen 3
      have c4 := B4.out.box.cell 4
      have cf4 := B4.out.box.frozen 4
      have r0 := B4.out.res.cell 0
      have rf0 := B4.out.res.frozen 0
      have r1 := B4.out.res.cell 1
      have rf1 := B4.out.res.frozen 1
      have r2 := B4.out.res.cell 2
      have rf2 := B4.out.res.frozen 2
      have r3 := B4.out.res.cell 3
      have rf3 := B4.out.res.frozen 3
      have r4 := B4.out.res.cell 4
      have rf4 := B4.out.res.frozen 4
      simp at c0 c1 c2 c3 c4 r0 r1 r2 r3 r4
      have cl := B4.out.box.lt
      have rl := B4.out.res.lt
      have cn := B4.out.ne
      skip
      have s0 := HG.out.cell 0
      have s1 := HG.out.cell 1
      have s2 := HG.out.cell 2
      simp at s0 s1 s2
      by_cases h40 : n = 40
      · have HP : Hid (tellP (s, c, s', c', ls) 1 ev (x, y, z) = ((s, c, s', c', ls), false)) := by show tellP _ _ _ _ = _; simp [tellP, HTT.out, HN.out, h40]
        have H40 : Hid (n = 40) := h40
        clear h40
        go_wp2_with (fail)
        refine (sendFull_c s c st1 ca1 a n cap p q r Wc H40.out).mono ?_
        rintro e Wd ⟨rfl, bd⟩
        have B5 : Hid (Bx w base (.slice a n cap) Wd w.heap.size (w.heap.size + 1 + 1) s c s' c' (.slice a n cap) ls) := B3.out.below bd
        have B6 : Hid (Bx w base (.slice a n cap) Wd ga (w.heap.size + 1 + 1) s c st1 ca1 (.slice a n cap) ls) := B4.out.below bd
        clear H40 hWc HG s0 s1 s2 c0 c1 c2 c3 c4 cf0 cf1 cf2 cf3 cf4 r0 r1 r2 r3 r4 rf0 rf1 rf2 rf3 rf4 cl rl cn
        have B7 : Hid (Bx w base (.slice a n cap) (st5 Wd ga s c st1 ca1 (.slice a n cap)) w.heap.size (w.heap.size + 1 + 1) s c s' c' (.slice a n cap) ls) := B5.out.other (grown_put5 ..) (by have := HGA.out; omega) (by have := HGA.out; omega) (by have := HGA.out; omega) (tw_old B5.out (by have := HGA.out; omega))
        clear B3 B4 B5 bd
        have e0 := B6.out.box.cell 0
        have ef0 := B6.out.box.frozen 0
        have e1 := B6.out.box.cell 1
        have ef1 := B6.out.box.frozen 1
        have e2 := B6.out.box.cell 2
        have ef2 := B6.out.box.frozen 2
        have e3 := B6.out.box.cell 3
        have ef3 := B6.out.box.frozen 3
        have e4 := B6.out.box.cell 4
        have ef4 := B6.out.box.frozen 4
        have f0 := B6.out.res.cell 0
        have ff0 := B6.out.res.frozen 0
        have f1 := B6.out.res.cell 1
        have ff1 := B6.out.res.frozen 1
        have f2 := B6.out.res.cell 2
        have ff2 := B6.out.res.frozen 2
        have f3 := B6.out.res.cell 3
        have ff3 := B6.out.res.frozen 3
        have f4 := B6.out.res.cell 4
        have ff4 := B6.out.res.frozen 4
        simp at e0 e1 e2 e3 e4 f0 f1 f2 f3 f4
        have el := B6.out.box.lt
        have fl := B6.out.res.lt
        have en := B6.out.ne
        skip
        obtain ⟨We, hWe⟩ : ∃ W, st5 Wd ga s c st1 ca1 (.slice a n cap) = W := ⟨_, rfl⟩
        rw [hWe] at B7
        unfold st5 at hWe
        clear B6
        have c0 := B7.out.box.cell 0
        have cf0 := B7.out.box.frozen 0
        have c1 := B7.out.box.cell 1
        have cf1 := B7.out.box.frozen 1
        have c2 := B7.out.box.cell 2
        have cf2 := B7.out.box.frozen 2
        have c3 := B7.out.box.cell 3
        have cf3 := B7.out.box.frozen 3
        have c4 := B7.out.box.cell 4
        have cf4 := B7.out.box.frozen 4
        have r0 := B7.out.res.cell 0
        have rf0 := B7.out.res.frozen 0
        have r1 := B7.out.res.cell 1
        have rf1 := B7.out.res.frozen 1
        have r2 := B7.out.res.cell 2
        have rf2 := B7.out.res.frozen 2
        have r3 := B7.out.res.cell 3
        have rf3 := B7.out.res.frozen 3
        have r4 := B7.out.res.cell 4
        have rf4 := B7.out.res.frozen 4
        simp at c0 c1 c2 c3 c4 r0 r1 r2 r3 r4
        have cl := B7.out.box.lt
        have rl := B7.out.res.lt
        have cn := B7.out.ne
        skip
        have HF : Hid _ := B7.out.ret
        clear B7
        go_wp2
        rw [HP.out]
        exact bodyPost_ret (v := .tuple #[.agg (D5 s c s' c' (.slice a n cap)), .bool false]) (results_D rfl _ _ _ _ _ _ _ _ _ rfl rfl (HF.out _ rfl).1) rfl ((HF.out _ rfl).2.1 false)
      · have HP : Hid (tellP (s, c, s', c', ls) 1 ev (x, y, z) = ((s, c, st1, ca1, ls ++ [(p, q, r)]), true)) := by show tellP _ _ _ _ = _; simp [tellP, HTT.out, HN.out, h40]
        have HSP : Hid (sendP (s, c, st1, ca1, ls) (p, q, r) = ((s, c, st1, ca1, ls ++ [(p, q, r)]), true)) := by show sendP _ _ = _; simp [sendP, HN.out, h40]
        clear h40
        go_wp2_with (fail)
        have hsc := sendSig_c base s c st1 ca1 (.slice a n cap) ls p q r Wc B4.out.own (by have := B4.out.gr.size; have := HBS.out; omega) HL.out
        rw [HSP.out] at hsc
        refine hsc.mono ?_
        rintro e Wd ⟨v', rfl, ho, hg, hx⟩
        have B6 : Hid (Bx w base (.slice a n cap) (st5 Wd ga s c st1 ca1 v') ga (w.heap.size + 1 + 1) s c st1 ca1 v' (ls ++ [(p, q, r)])) := B4.out.put ho hg hx _ _ _ _
        obtain ⟨k1, -⟩ := B4.out.after ho hg hx
        obtain ⟨a', cap', hv', -⟩ := own_form ho
        rw [show (ls ++ [(p, q, r)]).length = n + 1 by simp [HN.out]] at hv'
        subst hv'
        clear hWc HG s0 s1 s2 hsc c0 c1 c2 c3 c4 cf0 cf1 cf2 cf3 cf4 r0 r1 r2 r3 r4 rf0 rf1 rf2 rf3 rf4 cl rl cn
        clear B3 B4 ho hg hx
        have e0 := k1.cell 0
        have e1 := k1.cell 1
        have e2 := k1.cell 2
        have e3 := k1.cell 3
        have e4 := k1.cell 4
        have z0 := k1.frozen 0
        have z1 := k1.frozen 1
        have z2 := k1.frozen 2
        have z3 := k1.frozen 3
        have z4 := k1.frozen 4
        simp at e0 e1 e2 e3 e4
        obtain ⟨We, hWe⟩ : ∃ W, st5 Wd ga s c st1 ca1 (.slice a' (n + 1) cap') = W := ⟨_, rfl⟩
        rw [hWe] at B6
        unfold st5 at hWe
        clear k1
        have c0 := B6.out.box.cell 0
        have cf0 := B6.out.box.frozen 0
        have c1 := B6.out.box.cell 1
        have cf1 := B6.out.box.frozen 1
        have c2 := B6.out.box.cell 2
        have cf2 := B6.out.box.frozen 2
        have c3 := B6.out.box.cell 3
        have cf3 := B6.out.box.frozen 3
        have c4 := B6.out.box.cell 4
        have cf4 := B6.out.box.frozen 4
        have r0 := B6.out.res.cell 0
        have rf0 := B6.out.res.frozen 0
        have r1 := B6.out.res.cell 1
        have rf1 := B6.out.res.frozen 1
        have r2 := B6.out.res.cell 2
        have rf2 := B6.out.res.frozen 2
        have r3 := B6.out.res.cell 3
        have rf3 := B6.out.res.frozen 3
        have r4 := B6.out.res.cell 4
        have rf4 := B6.out.res.frozen 4
        simp at c0 c1 c2 c3 c4 r0 r1 r2 r3 r4
        have cl := B6.out.box.lt
        have rl := B6.out.res.lt
        have cn := B6.out.ne
        skip
        have HF : Hid _ := B6.out.ret
        clear B6
        go_wp2
        rw [HP.out]
        exact bodyPost_ret (v := .tuple #[.agg (D5 s c st1 ca1 (.slice a' (n + 1) cap')), .bool true]) (results_D rfl _ _ _ _ _ _ _ _ _ rfl rfl (HF.out _ rfl).1) rfl ((HF.out _ rfl).2.1 true)
end Go.Proofs.Ytljejjfhlpjlfaa

/- The program's asTrunk; no condition. -/
import Derived.Test.YtkehcalijamhjaaOpn
namespace Go.Proofs.Ytkehcalijamhjaa
open Go.RowKit Go.ChangeShapes Go.WideShapes Go.ChangeAt
set_option linter.unusedVariables false
set_option linter.unusedSimpArgs false
set_option maxRecDepth 8000
open Go.Conc
theorem Fr.new {X : Nat → Prop} {a b c : World} {row : Option Nat} (h : Fr X a b) (hg : b.grownBy c row) (hr : ∀ k, row = some k → a.heap.size ≤ k ∨ X k) : Fr X a c :=
  ⟨hg.os.trans h.os, hg.tape.trans h.tape, hg.output.trans h.output, Nat.le_trans h.size hg.size, fun k hk hx => by
    rw [hg.block k (Nat.lt_of_lt_of_le hk h.size) (fun e => by rcases hr k e.symm with h1 | h1; omega; exact hx h1)]
    exact h.block k hk hx⟩
/-- a channel of notes that is shut: those in it -/
def Sht (w : World) (g : Nat) (ns : Mvs) : Prop := ∃ s r tm, w.heap[g]? = some (.chan 60 (ns.map fun x => Value.agg (H2 x.1 x.2)).toArray true s r tm)
theorem Sht.lt {w : World} {g : Nat} {ns : Mvs} (h : Sht w g ns) : g < w.heap.size := by obtain ⟨s, r, tm, h⟩ := h; exact (Array.getElem?_eq_some_iff.1 h).1
theorem Sht.fr {X : Nat → Prop} {w w' : World} {g : Nat} {ns : Mvs} (h : Sht w g ns) (hf : Fr X w w') (hx : ¬ X g) : Sht w' g ns := by
  have hl := h.lt
  obtain ⟨s, r, tm, h⟩ := h; exact ⟨s, r, tm, (hf.block g hl hx).trans h⟩
/-- how many lie in a channel -/
def inCh (w : World) (g : Nat) : Nat := match w.heap[g]? with | some (.chan _ buf _ _ _ _) => buf.size | _ => 0
theorem Sht.len {w : World} {g : Nat} {ns : Mvs} (h : Sht w g ns) : inCh w g = ns.length := by
  obtain ⟨s, r, tm, h⟩ := h
  simp [inCh, h]
theorem idx63 (u v : Value) (w : World) : (Instr.index 63 (.agg #[u, v]) (.int .i64 0)).run Try.prog w = .ok u w ∧ (Instr.index 63 (.agg #[u, v]) (.int .i64 1)).run Try.prog w = .ok v w := by
  have h5 : (sizeOf 62).run Try.prog w = .ok 1 w := rfl
  have ha : (isAgg 62).run Try.prog w = .ok false w := by
    unfold isAgg; rw [Sem.run_bind, run_underlying Try.underlying62 w]; rfl
  constructor <;> simp [Instr.index, asIntOf, run_underlying Try.underlying63, part, ha, h5]
theorem Rp.one' {W : World} {X : Nat} {x y : Int} (h : Blk W X (H2 x y) 68) : Rp mf mg W (.slice (some ⟨X, 0, none⟩) 1 1) [(x, y)] := by
  refine ⟨_, _, rfl, Nat.le_refl _, by simp [maxLen], .inr ⟨X, 0, rfl, fun i hi => ?_⟩⟩
  have h0 : i = 0 := by simpa using hi
  subst h0
  exact ⟨h.cell 0, h.cell 1⟩
/-- one note behind a row of one's own, as it runs -/
theorem appRun {w : World} {base : Nat} {v : Value} {l0 : Mvs} (hown : Op mf mg 68 base w v l0) {X : Nat} {x y : Int} (hb : Blk w X (H2 x y) 68) (hl : l0.length ≤ 1048576) (hbase : base ≤ w.heap.size) :
    ∃ v' w', (Builtin.append_ #[30, 30] 30 #[v, .slice (some ⟨X, 0, none⟩) 1 1]).run Try.prog w = .ok v' w' ∧ Op mf mg 68 base w' v' (l0 ++ [(x, y)]) ∧ w.grownBy w' v.ownBlock := by
  obtain ⟨i0, hi, hz0, hz1, hz2⟩ := info_parts infoEv
  obtain ⟨v', w', h1, h2, h3, -, -⟩ := run_append_own_at (P := Try.prog) w base 30 30 68 i0 (.agg #[.int .i64 0, .int .i64 0]) 2 16 Try.underlying30 hi hz0 hz1 hz2 rfl (by decide) v l0.length (pr mf mg l0) hown ⟨X, 0, none⟩ 1 1 (pr mf mg [(x, y)]) (pr_len _ _ _) (pr_news (by
      rcases (Rp.one' hb) with ⟨a, c, e, -, -, h | ⟨b, off, e2, h4⟩⟩
      · cases h
      · cases e; cases e2; exact h4)) pr_one (by unfold maxLen; omega) (by omega) hbase
  refine ⟨v', w', h1, ?_, h3⟩
  rw [Op, pr_append, List.length_append]; exact h2
theorem step_recv_cons {b : Frame} {a : Act} {k : List Item} {cs : List Frame} {w : World} {ops : Array Oper} {i : Nat} {rest : List Nat} {o : Oper} {ch : Operand} {c s r : Nat} {tm : Bool} {x : Int × Int} {ns : Mvs}
    (ho : ops[i]? = some o) (hg : o.guard = none) (hop : o.op = .recv 62 ch true) (hch : a.eval ch = .chan (some c)) (hc : w.heap[c]? = some (.chan 60 ((x :: ns).map fun x => Value.agg (H2 x.1 x.2)).toArray true s r tm)) :
    step Try.prog (lone (b.at a (.inRegion ops (i :: rest) :: k)) cs w) = .next (lone (b.at (a.put o.dst (.tuple #[.agg (H2 x.1 x.2), .bool true])) (.inRegion ops rest :: k)) cs (w.setChan c 60 (ns.map fun x => Value.agg (H2 x.1 x.2)).toArray true s (r + 1) tm)) := by
  have h1 := step_comm (P := Try.prog) (b := b) (a := a) (k := k) (cs := cs) (rest := rest) (cases := #[rcase c (.agg (H2 0 0))]) (shape := .recv true) ho hg (by simp [execOp, hop, hch, rcase, run_underlying Try.underlying62, zero68]) fun fr es h => step_lone_recv_buf true h hc (by simp)
  have e : List.take ns.length (ns.map fun x => Value.agg (H2 x.1 x.2)) = ns.map fun x => Value.agg (H2 x.1 x.2) := by rw [List.take_of_length_le (by simp)]
  simpa [got, e] using h1
theorem step_recv_nil {b : Frame} {a : Act} {k : List Item} {cs : List Frame} {w : World} {ops : Array Oper} {i : Nat} {rest : List Nat} {o : Oper} {ch : Operand} {c s r : Nat} {tm : Bool}
    (ho : ops[i]? = some o) (hg : o.guard = none) (hop : o.op = .recv 62 ch true) (hch : a.eval ch = .chan (some c)) (hc : w.heap[c]? = some (.chan 60 #[] true s r tm)) :
    step Try.prog (lone (b.at a (.inRegion ops (i :: rest) :: k)) cs w) = .next (lone (b.at (a.put o.dst (.tuple #[.agg (H2 0 0), .bool false])) (.inRegion ops rest :: k)) cs w) :=
  step_comm (cases := #[rcase c (.agg (H2 0 0))]) (shape := .recv true) ho hg (by simp [execOp, hop, hch, rcase, run_underlying Try.underlying62, zero68]) fun fr es h => step_lone_recv_shut true h hc
def AsR (b : Nat) (l0 l1 : Int) (z0 z1 : List Int) (n0 n1 : Mvs) (w : World) (e : Ending) (w' : World) : Prop := ∃ c0 c1 w0 w1, e = .returned (.agg (T6 c0 c1 l0 l1 w0 w1)) ∧ Ok6 b w'.heap.size w' c0 c1 w0 w1 z0 z1 n0 n1 ∧ Below b w w'
set_option maxHeartbeats 12800000 in
theorem as_c (b g : Nat) (c0 c1 : Value) (l0 l1 : Int) (k0 k1 : Nat) (z0 z1 : List Int) (n0 n1 : Mvs) (w : World) (h : Lv b w g c0 c1 l0 l1 k0 k1 z0 z1 n0 n1) (hb : b ≤ w.heap.size) (hn0 : n0.length ≤ 60) (hn1 : n1.length ≤ 60) :
    Calls Try.prog 42 #[.pointer (some ⟨g, 0, none⟩)] w (AsR b l0 l1 z0 z1 n0 n1 w) := by
  obtain ⟨HR, hHR⟩ : ∃ H : Nat → Array Oper → Code, ∀ id ops, H id ops = Code.region id ops false := ⟨fun id ops => .region id ops false, fun _ _ => rfl⟩
  have HH : Hid (∀ id ops, HR id ops = Code.region id ops false) := hHR
  clear hHR
  obtain ⟨a0, p0, hv0, -⟩ := own_form h.o0
  obtain ⟨a1, p1, hv1, -⟩ := own_form h.o1
  subst hv0 hv1
  have HV : Hid (Lv b w g (.slice a0 z0.length p0) (.slice a1 z1.length p1) l0 l1 k0 k1 z0 z1 n0 n1) := h
  have HN : Hid (b ≤ w.heap.size ∧ n0.length ≤ 60 ∧ n1.length ≤ 60) := ⟨hb, hn0, hn1⟩
  have HLT : Hid (g < w.heap.size ∧ k0 < w.heap.size ∧ k1 < w.heap.size) := ⟨h.blk.lt, h.ch0.lt, h.ch1.lt⟩
  obtain ⟨wA, hwA⟩ : ∃ W, w.alloc (Obj.cells (T6 (.slice none 0 0) (.slice none 0 0) 0 0 (.slice none 0 0) (.slice none 0 0)) 33) = W := ⟨_, rfl⟩
  have bA : Below w.heap.size w wA := by rw [← hwA]; exact (Below.refl _ _).alloc (Nat.le_refl _) _
  have sA : wA.heap.size = w.heap.size + 1 := by rw [← hwA]; simp
  have kA : Blk wA w.heap.size (T6 (.slice none 0 0) (.slice none 0 0) 0 0 (.slice none 0 0) (.slice none 0 0)) 33 := by rw [← hwA]; exact Blk.new _ _ _
  have gA : Blk wA g (L6 (.slice a0 z0.length p0) (.slice a1 z1.length p1) l0 l1 k0 k1) 65 := h.blk.below bA h.blk.lt
  obtain ⟨w9, hw9⟩ : ∃ W, wA.drew.alloc (Obj.cells (T6 (.slice none 0 0) (.slice none 0 0) 0 0 (.slice none 0 0) (.slice none 0 0)) 33) = W := ⟨_, rfl⟩
  have b9 : Below wA.drew.heap.size wA.drew w9 := by rw [← hw9]; exact (Below.refl _ _).alloc (Nat.le_refl _) _
  have k9 : Blk w9 (w.heap.size + 1) (T6 (.slice none 0 0) (.slice none 0 0) 0 0 (.slice none 0 0) (.slice none 0 0)) 33 := by rw [← hw9]; exact Blk.newAt _ _ _ _ (by show _ = wA.heap.size; omega)
  obtain ⟨w10, hw10⟩ : ∃ W, (((((w9.setCell ⟨w.heap.size + 1, 0, none⟩ (.slice a0 z0.length p0)).setCell ⟨w.heap.size + 1, 1, none⟩ (.slice a1 z1.length p1)).setCell ⟨w.heap.size + 1, 2, none⟩ (.int .i64 l0)).setCell ⟨w.heap.size + 1, 3, none⟩ (.int .i64 l1)).setCell ⟨w.heap.size + 1, 4, none⟩ (.slice none 0 0)).setCell ⟨w.heap.size + 1, 5, none⟩ (.slice none 0 0) = W := ⟨_, rfl⟩
  have f10 : Fr (fun k => k = w.heap.size + 1) w9 w10 := by
    rw [← hw10]
    exact ((((((Fr.ofGrown (grown_set _ _ _ _) (fun k e => (Option.some.inj e).symm)).trans (Fr.ofGrown (grown_set _ _ _ _) (fun k e => (Option.some.inj e).symm))).trans (Fr.ofGrown (grown_set _ _ _ _) (fun k e => (Option.some.inj e).symm))).trans (Fr.ofGrown (grown_set _ _ _ _) (fun k e => (Option.some.inj e).symm))).trans (Fr.ofGrown (grown_set _ _ _ _) (fun k e => (Option.some.inj e).symm))).trans (Fr.ofGrown (grown_set _ _ _ _) (fun k e => (Option.some.inj e).symm)))
  have k10 : Blk w10 (w.heap.size + 1) (T6 (.slice a0 z0.length p0) (.slice a1 z1.length p1) l0 l1 (.slice none 0 0) (.slice none 0 0)) 33 := by
    rw [← hw10]; exact (((((k9.set 0 _).set 1 _).set 2 _).set 3 _).set 4 _).set 5 _
  have F10 : Hid (Fr (fun k => k = w.heap.size + 1) w w10) := (((Fr.ofBelow bA).trans (Fr.drew' wA)).trans (Fr.ofBelow b9)).trans f10
  have K10 : Hid (Blk w10 (w.heap.size + 1) (T6 (.slice a0 z0.length p0) (.slice a1 z1.length p1) l0 l1 (.slice none 0 0) (.slice none 0 0)) 33) := k10
  have R10 : Hid (Blk w10 w.heap.size (T6 (.slice none 0 0) (.slice none 0 0) 0 0 (.slice none 0 0) (.slice none 0 0)) 33) := ((show Blk wA.drew w.heap.size (T6 (.slice none 0 0) (.slice none 0 0) 0 0 (.slice none 0 0) (.slice none 0 0)) 33 from kA).below b9 kA.lt).fr f10 (by omega)
  have x0 := gA.cell 0
  have l9 := k9.lt
  have k9c : ∀ i, i < 6 → ∃ u, w9.cell? ⟨w.heap.size + 1, i, none⟩ = some u ∧ w9.frozen? ⟨w.heap.size + 1, i, none⟩ = false := fun i hi => ⟨_, by rw [k9.cell i, Array.getElem?_eq_getElem (by simpa using hi)], k9.frozen i⟩
  obtain ⟨y0, c0', d0'⟩ := k9c 0 (by decide)
  obtain ⟨y1, c1', d1'⟩ := k9c 1 (by decide)
  obtain ⟨y2, c2', d2'⟩ := k9c 2 (by decide)
  obtain ⟨y3, c3', d3'⟩ := k9c 3 (by decide)
  obtain ⟨y4, c4', d4'⟩ := k9c 4 (by decide)
  obtain ⟨y5, c5', d5'⟩ := k9c 5 (by decide)
  obtain ⟨Ws, hWs⟩ : ∃ Ws : Nat → World, Ws 0 = wA.drew ∧ Ws 1 = w9 ∧ Ws 2 = w10 := ⟨fun n => match n with | 0 => wA.drew | 1 => w9 | _ => w10, rfl, rfl, rfl⟩
  have HWs : Hid (Ws 0 = wA.drew ∧ Ws 1 = w9 ∧ Ws 2 = w10) := hWs
  have gN : Hid (∀ n, n < 3 → Blk (Ws n) g (L6 (.slice a0 z0.length p0) (.slice a1 z1.length p1) l0 l1 k0 k1) 65) := fun n hn => by
    have g9 := (show Blk wA.drew g (L6 (.slice a0 z0.length p0) (.slice a1 z1.length p1) l0 l1 k0 k1) 65 from gA).below b9 gA.lt
    match n, hn with
    | 0, _ => rw [hWs.1]; exact gA
    | 1, _ => rw [hWs.2.1]; exact g9
    | 2, _ => rw [hWs.2.2]; exact g9.fr f10 (by have := HLT.out.1; omega)
  clear h hb bA kA gA b9 k9 f10 k10 x0 k9c hWs
  have ix0 : ∀ W, (Instr.index 63 (.agg #[.chan (some k0), .chan (some k1)]) (.int .i64 0)).run Try.prog W = .ok (.chan (some k0)) W := fun W => (idx63 _ _ W).1
  have ix1 : ∀ W, (Instr.index 63 (.agg #[.chan (some k0), .chan (some k1)]) (.int .i64 1)).run Try.prog W = .ok (.chan (some k1)) W := fun W => (idx63 _ _ W).2
  go_enter Try.func42, Try.ntmps42
  rw [← HH.out 7]
  go_wp2
  clear hwA
  refine region_det [.pointer (some ⟨g, 0, none⟩), .pointer (some ⟨g, 0, none⟩), .pointer (some ⟨g, 0, none⟩), .agg #[.slice a0 z0.length p0, .slice a1 z1.length p1], .pointer (some ⟨g, 0, none⟩), .pointer (some ⟨g, 0, none⟩), .pointer (some ⟨g, 2, none⟩), .agg #[.int .i64 l0, .int .i64 l1], .agg (T6 (.slice a0 z0.length p0) (.slice a1 z1.length p1) l0 l1 (.slice none 0 0) (.slice none 0 0)), .pointer (some ⟨w.heap.size + 1, 0, none⟩), undef]
    (fun d W => W = Ws (if d 10 = true then 2 else if d 9 = true then 1 else 0) ∧ (d 10 = true → d 9 = true)) (by kernel_rfl) (by kernel_rfl)
    (by simp only [putAll, Act.put, List.setIfInBounds_toArray, List.set_cons_succ, List.set_cons_zero]; exact rfl) ⟨HWs.out.1.symm, fun h => by cases h⟩ ⟨?_, ?_, ?_, ?_, ?_, ?_, ?_, ?_, ?_, ?_, ?_, trivial⟩ ?_
  case refine_12 =>
    rintro d W ⟨hW, -⟩ hall
    have h10 := hall 10 (by decide)
    rw [h10] at hW
    simp only [if_true] at hW
    rw [HWs.out.2.2] at hW
    subst hW
    clear hall h10 gN hw9 hw10 HWs c0' d0' c1' d1' c2' d2' c3' d3' c4' d4' c5' d5' l9 sA
    have kg := HV.out.blk.fr F10.out (by have := HLT.out.1; omega)
    have y4' := kg.cell 4
    have y5' := kg.cell 5
    simp at y4' y5'
    have HC0 : Hid (Chn W k0 n0) := HV.out.ch0.fr F10.out (by have := HLT.out.2.1; omega)
    clear kg
    go_wp2
    clear y4' y5'
    refine wp_loop_rounds 3 ?_
    rw [rounds_succ]
    obtain ⟨s, r, hch⟩ := HC0.out
    obtain ⟨wc0, hwc0⟩ : ∃ W', W.setChan k0 60 (n0.map fun x => Value.agg (H2 x.1 x.2)).toArray true s r false = W' := ⟨_, rfl⟩
    have hcl : (Builtin.close_ #[62] 0 #[.chan (some k0)]).run Try.prog W = .ok (.tuple #[]) wc0 := by rw [← hwc0]; exact run_close_open (P := Try.prog) #[62] 0 hch
    have fc : Fr (fun k => k = k0) W wc0 := by rw [← hwc0]; exact fr_chan ..
    have hs : Sht wc0 k0 n0 := ⟨s, r, false, by rw [← hwc0, heap_setChan _ _ _ _ _ _ _ _ HC0.out.lt]⟩
    have hkB : k0 < w.heap.size := HLT.out.2.1
    have KTc0 : Hid (Blk wc0 (w.heap.size + 1) (T6 (.slice a0 z0.length p0) (.slice a1 z1.length p1) l0 l1 (.slice none 0 0) (.slice none 0 0)) 33) := K10.out.fr fc (by omega)
    have KRc0 : Hid (Blk wc0 w.heap.size (T6 (.slice none 0 0) (.slice none 0 0) 0 0 (.slice none 0 0) (.slice none 0 0)) 33) := R10.out.fr fc (by omega)
    have FWc0 : Hid (Fr (fun k => k = w.heap.size + 1 ∨ k = k0) w wc0) := (F10.out.mono (fun k _ h => .inl h)).trans (fc.mono (fun k _ h => .inr (h)))
    have SHc0 : Hid (Sht wc0 k0 n0) := hs
    have HW0 : Hid (w.heap.size ≤ wc0.heap.size) := FWc0.out.size
    have HB0c : Hid (w.heap.size + 1 < wc0.heap.size) := KTc0.out.lt
    have HBB : Hid (w.heap.size + 1 < wc0.heap.size) := KTc0.out.lt
    clear fc hs hch hwc0 K10 R10 F10 HC0
    go_wp2
    clear hcl
    go_loopw [] (fun wr => ∃ (t : Nat) (vj : Value), t ≤ n0.length ∧ Hid (Fr (fun k => k = k0 ∨ k = w.heap.size + 1) wc0 wr ∧ Blk wr (w.heap.size + 1) (T6 (.slice a0 z0.length p0) (.slice a1 z1.length p1) l0 l1 vj (.slice none 0 0)) 33 ∧ Op mf mg 68 wc0.heap.size wr vj (n0.take t) ∧ Sht wr k0 (n0.drop t))) (fun wr => inCh wr k0)
    case atStart => exact ⟨0, (.slice none 0 0), Nat.zero_le _, Fr.refl _ _, KTc0.out, World.ownsRow_nil _ _ _ _, by simpa using SHc0.out⟩
    case round =>
      obtain ⟨t0, vj, ht0, hI0⟩ := hrel
      obtain ⟨e0, q0, hv0, -⟩ := own_form hI0.out.2.2.1
      obtain ⟨c0, hc0⟩ : ∃ m, (n0.take t0).length = m := ⟨_, rfl⟩
      have HCL0 : Hid ((n0.take t0).length = c0) := hc0
      rw [hc0] at hv0
      subst hv0
      clear hc0
      go_wp2
      rw [HH.out 7]
      by_cases hlt0 : t0 < n0.length
      case pos =>
        obtain ⟨x, y, hxy⟩ : ∃ x y, n0[t0] = (x, y) := ⟨_, _, rfl⟩
        have hdr : n0.drop t0 = (x, y) :: n0.drop (t0 + 1) := by rw [← hxy]; exact List.drop_eq_getElem_cons hlt0
        have hlen : (n0.take t0).length = t0 := by simp; omega
        obtain ⟨fr, kt, op, sh⟩ := hI0.out
        have hin : inCh wr k0 = (n0.drop t0).length := sh.len
        obtain ⟨s, r, tm, hch⟩ := sh
        rw [hdr] at hch
        have hkl : k0 < wr.heap.size := (Array.getElem?_eq_some_iff.1 hch).1
        obtain ⟨w1, hw1⟩ : ∃ W', wr.setChan k0 60 ((n0.drop (t0 + 1)).map fun x => Value.agg (H2 x.1 x.2)).toArray true s (r + 1) tm = W' := ⟨_, rfl⟩
        have f1 : Fr (fun k => k = k0) wr w1 := by rw [← hw1]; exact fr_chan ..
        have sh1 : Sht w1 k0 (n0.drop (t0 + 1)) := ⟨s, r + 1, tm, by rw [← hw1, heap_setChan _ _ _ _ _ _ _ _ hkl]⟩
        have op1 : Op mf mg 68 wc0.heap.size w1 (.slice e0 c0 q0) (n0.take t0) := ownsRow_fr op f1 (fun k e h => by have := (World.ownsRow.lt op k e).1; have := SHc0.out.lt; omega)
        have kt1 := kt.fr f1 (by omega)
        obtain ⟨nb, hnb⟩ : ∃ k, w1.heap.size = k := ⟨_, rfl⟩
        obtain ⟨wn, hwn⟩ : ∃ W', w1.alloc (Obj.cells (H2 x y) 68) = W' := ⟨_, rfl⟩
        have bn : Below w1.heap.size w1 wn := by rw [← hwn]; exact (Below.refl _ _).alloc (Nat.le_refl _) _
        have kn : Blk wn nb (H2 x y) 68 := by rw [← hwn, ← hnb]; exact Blk.new _ _ _
        have sn : wn.drew.heap.size = nb + 1 := by rw [← hwn, ← hnb]; show (w1.alloc _).heap.size = _; simp
        have ktn : Blk wn.drew (w.heap.size + 1) (T6 (.slice a0 z0.length p0) (.slice a1 z1.length p1) l0 l1 (.slice e0 c0 q0) (.slice none 0 0)) 33 := (show Blk wn (w.heap.size + 1) _ 33 from kt1.below bn kt1.lt)
        have knd : Blk wn.drew nb (H2 x y) 68 := kn
        obtain ⟨w5, hw5⟩ : ∃ W', wn.drew.alloc (Obj.cells (H2 x y) 68) = W' := ⟨_, rfl⟩
        have b5 : Below wn.drew.heap.size wn.drew w5 := by rw [← hw5]; exact (Below.refl _ _).alloc (Nat.le_refl _) _
        have k5 : Blk w5 (nb + 1) (H2 x y) 68 := by rw [← hw5]; exact Blk.newAt _ _ _ _ sn.symm
        have opn : Op mf mg 68 wc0.heap.size wn.drew (.slice e0 c0 q0) (n0.take t0) := (show Op mf mg 68 wc0.heap.size wn _ _ from op1.below bn)
        have op5 : Op mf mg 68 wc0.heap.size w5 (.slice e0 c0 q0) (n0.take t0) := opn.below b5
        have zc : wc0.heap.size ≤ w5.heap.size := by have h1 := fr.size; have h2 := f1.size; have h3 := bn.size; have h4 := b5.size; have h5 : wn.drew.heap.size = wn.heap.size := rfl; omega
        obtain ⟨v', w6, happ, op6, g6⟩ := appRun op5 k5 (by rw [hlen]; have := HN.out.2.1; omega) zc
        obtain ⟨e', q', hv', -⟩ := own_form op6
        obtain ⟨m', hm'⟩ : ∃ m, (n0.take t0 ++ [(x, y)]).length = m := ⟨_, rfl⟩
        rw [hm'] at hv'
        subst hv'
        clear hm'
        have ow5 : ∀ k, (Value.slice e0 c0 q0).ownBlock = some k → wc0.heap.size ≤ k := fun k e => (World.ownsRow.lt op5 k e).1
        have kt5 := ktn.below b5 ktn.lt
        have hBc : w.heap.size + 1 < wc0.heap.size := KTc0.out.lt
        have kt6 : Blk w6 (w.heap.size + 1) _ 33 := kt5.grown g6 (fun e => by have := ow5 _ e; omega)
        have kn5 := knd.below b5 knd.lt
        obtain ⟨w7, hw7⟩ : ∃ W', w6.setCell ⟨w.heap.size + 1, 4, none⟩ (.slice e' m' q') = W' := ⟨_, rfl⟩
        have f7 : Fr (fun k => k = w.heap.size + 1) w6 w7 := by rw [← hw7]; exact Fr.ofGrown (grown_set _ _ _ _) (fun k e => (Option.some.inj e).symm)
        have kt7 : Blk w7 (w.heap.size + 1) (T6 (.slice a0 z0.length p0) (.slice a1 z1.length p1) l0 l1 (.slice e' m' q') (.slice none 0 0)) 33 := by rw [← hw7]; exact kt6.set 4 _
        have frA : Fr (fun k => k = k0 ∨ k = w.heap.size + 1) wc0 w5 := ((fr.trans (f1.mono (fun k _ h => .inl h))).trans ((Fr.ofBelow bn).trans (Fr.drew' wn))).trans (Fr.ofBelow b5)
        have frB : Fr (fun k => k = k0 ∨ k = w.heap.size + 1) wc0 w7 := (frA.new g6 (fun k e => .inl (ow5 k e))).trans (f7.mono (fun k _ h => .inr h))
        have sh7 : Sht w7 k0 (n0.drop (t0 + 1)) := by
          have h1 := ((sh1.fr (Fr.ofBelow (X := fun _ => False) bn) (by simp)).fr (Fr.drew' (X := fun _ => False) wn) (by simp)).fr (Fr.ofBelow (X := fun _ => False) b5) (by simp)
          have h2 : Sht w6 k0 (n0.drop (t0 + 1)) := h1.fr (Fr.ofGrown (X := fun k => wc0.heap.size ≤ k) g6 (fun k e => ow5 k e)) (by have := SHc0.out.lt; omega)
          exact h2.fr f7 (by omega)
        have HF : Hid (Fr (fun k => k = k0 ∨ k = w.heap.size + 1) wc0 w7 ∧ Blk w7 (w.heap.size + 1) (T6 (.slice a0 z0.length p0) (.slice a1 z1.length p1) l0 l1 (.slice e' m' q') (.slice none 0 0)) 33 ∧ Op mf mg 68 wc0.heap.size w7 (.slice e' m' q') (n0.take t0 ++ [(x, y)]) ∧ Sht w7 k0 (n0.drop (t0 + 1))) := ⟨frB, kt7, ownsRow_fr op6 f7 (fun k e h => by have := (World.ownsRow.lt op6 k e).1; omega), sh7⟩
        have HTK : Hid (n0.take (t0 + 1) = n0.take t0 ++ [(x, y)]) := by show _ = _; rw [← mvs_take hlt0, hxy]
        have HMS : Hid (inCh w7 k0 < inCh wr k0) := by show _ < _; rw [hin, sh7.len, hdr]; simp
        have HCH : Hid (wr.heap[k0]? = some (.chan 60 (((x, y) :: n0.drop (t0 + 1)).map fun x => Value.agg (H2 x.1 x.2)).toArray true s r tm)) := hch
        obtain ⟨Ws, hWs⟩ : ∃ Ws : Nat → World, Ws 0 = wn.drew ∧ Ws 1 = w5 ∧ Ws 2 = w6 ∧ Ws 3 = w7 := ⟨fun n => match n with | 0 => wn.drew | 1 => w5 | 2 => w6 | _ => w7, rfl, rfl, rfl, rfl⟩
        have HWs : Hid (Ws 0 = wn.drew ∧ Ws 1 = w5 ∧ Ws 2 = w6 ∧ Ws 3 = w7) := hWs
        have hnbc : wc0.heap.size ≤ nb ∧ nb < wn.drew.heap.size := by have h1 := fr.size; have h2 := f1.size; omega
        have hX6 : ∀ k, (Value.slice e0 c0 q0).ownBlock = some k → k < w1.heap.size := fun k e => (World.ownsRow.lt op1 k e).2
        have kn6 : Blk w6 nb (H2 x y) 68 := kn5.grown g6 (fun e => by have := hX6 _ e; omega)
        have kn7 : Blk w7 nb (H2 x y) 68 := kn6.fr f7 (by omega)
        have NN : Hid (∀ n, n < 4 → Blk (Ws n) nb (H2 x y) 68) := fun n hn => by
          match n, hn with
          | 0, _ => rw [hWs.1]; exact knd
          | 1, _ => rw [hWs.2.1]; exact kn5
          | 2, _ => rw [hWs.2.2.1]; exact kn6
          | 3, _ => rw [hWs.2.2.2]; exact kn7
        have TN : Hid (∀ n, n < 2 → Blk (Ws n) (w.heap.size + 1) (T6 (.slice a0 z0.length p0) (.slice a1 z1.length p1) l0 l1 (.slice e0 c0 q0) (.slice none 0 0)) 33) := fun n hn => by
          match n, hn with
          | 0, _ => rw [hWs.1]; exact ktn
          | 1, _ => rw [hWs.2.1]; exact kt5
        have T6c := kt6.cell 4
        have T6f := kt6.frozen 4
        have T6l := kt6.lt
        simp at T6c
        have HNB : Hid (wn.drew.heap.size = nb + 1) := sn
        clear hdr hlen fr kt op opn hch hkl f1 sh1 op1 kt1 bn kn ktn knd b5 k5 op5 zc op6 g6 ow5 kt5 hBc kt6 kn5 f7 kt7 frA frB sh7 hWs hnbc hX6 kn6 kn7 hxy hin sn
        refine region_comm 0 _ rfl rfl ?_
        simp only [List.take]
        refine wpList_nil ?_
        refine ⟨rfl, .tuple #[.agg (H2 x y), .bool true], _, fun b k cs rest => step_recv_cons rfl rfl rfl rfl HCH.out, ?_⟩
        simp only [List.drop]
        show wpList Try.prog _ _ _ _ (wr.setChan k0 60 ((n0.drop (t0 + 1)).map fun x => Value.agg (H2 x.1 x.2)).toArray true s (r + 1) tm)
        rw [hw1]
        clear hw1 HCH
        go_wp2
        clear hwn hnb
        refine region_det [.int .i64 0, .int .i64 0, .pointer (some ⟨w.heap.size + 1, 4, none⟩), .pointer (some ⟨w.heap.size + 1, 4, none⟩), .slice e0 c0 q0, .agg (H2 x y), .slice (some ⟨nb + 1, 0, none⟩) 1 1, .slice e' m' q', .pointer (some ⟨w.heap.size + 1, 4, none⟩), .pointer (some ⟨w.heap.size + 1, 4, none⟩), undef]
          (fun d W => W = Ws (if d 10 = true then 3 else if d 7 = true then 2 else if d 6 = true then 1 else 0) ∧ (d 7 = true → d 4 = true ∧ d 6 = true) ∧ (d 10 = true → d 7 = true)) (by kernel_rfl) (by kernel_rfl)
          (by simp only [putAll, Act.put, List.setIfInBounds_toArray, List.set_cons_succ, List.set_cons_zero]; exact rfl) ⟨HWs.out.1.symm, fun h => (by cases h), fun h => (by cases h)⟩ ⟨?_, ?_, ?_, ?_, ?_, ?_, ?_, ?_, ?_, ?_, ?_, trivial⟩ ?_
        case refine_12 =>
          rintro d W' ⟨hW, -⟩ hall
          have h10 := hall 10 (by decide)
          rw [h10] at hW
          simp only [if_true] at hW
          rw [HWs.out.2.2.2] at hW
          subst hW
          clear hall h10 NN TN HWs hw5 hw7 happ T6c T6f T6l
          go_wp2
          go_roundw
          case rel => exact ⟨t0 + 1, .slice e' m' q', by omega, by rw [HTK.out]; exact HF.out⟩
          case measure => exact HMS.out
        case refine_11 =>
          rintro d W' ⟨hW, hi, hi2⟩ hn hd
          have h7 : d 7 = true := hd { on := 7, ground := .data } (by simp) rfl
          have hii := hi h7
          rw [h7, hn] at hW
          simp only [Bool.false_eq_true, if_false, if_true] at hW
          rw [HWs.out.2.2.1] at hW
          subst hW
          clear NN TN hw5 happ hi hi2
          go_wp2
          exact ⟨rfl, rfl, by simp [doneSet, HWs.out.2.2.2], fun _ => by simp [doneSet, hii], fun _ => by simp [doneSet, h7]⟩
        case refine_8 =>
          rintro d W' ⟨hW, hi, hi2⟩ hn hd
          have h6 : d 6 = true := hd { on := 6, ground := .data } (by simp) rfl
          have h4 : d 4 = true := hd { on := 4, ground := .data } (by simp) rfl
          have h10 : d 10 = false := by cases h : d 10 with | false => rfl | true => rw [hi2 h] at hn; cases hn
          rw [h6, hn, h10] at hW
          simp only [Bool.false_eq_true, if_false, if_true] at hW
          rw [HWs.out.2.1] at hW
          subst hW
          clear NN TN hw5 hw7 hi hi2
          refine wpList_plain rfl fun K hK => ?_
          unfold Oper.wp execOp
          simp only [resolve, invoke, builtin, Sem.run_bind, Sem.run_pure, Result.andThen_ok, List.map_toArray, List.map_cons, List.map_nil]
          have hap : (Builtin.append_ #[30, 30] 30 #[.slice e0 c0 q0, .slice (some ⟨nb + 1, 0, none⟩) 1 1]).run Try.prog W' = .ok (.slice e' m' q') w6 := happ
          show Oper.upon Try.prog _ _ K _ (((Builtin.append_ #[30, 30] 30 #[.slice e0 c0 q0, .slice (some ⟨nb + 1, 0, none⟩) 1 1]).run Try.prog W').andThen _)
          rw [hap]
          exact hK _ _ ⟨rfl, rfl, by simp [doneSet, h10, HWs.out.2.2.1], fun _ => by simp [doneSet, h4, h6], fun h => by simp [doneSet, h10] at h⟩
        case refine_7 =>
          rintro d W' ⟨hW, hi, hi2⟩ hn hd
          have h7 : d 7 = false := by cases h : d 7 with | false => rfl | true => rw [(hi h).2] at hn; cases hn
          have h10 : d 10 = false := by cases h : d 10 with | false => rfl | true => rw [hi2 h] at h7; cases h7
          rw [h7, hn, h10] at hW
          simp only [Bool.false_eq_true, if_false, if_true] at hW
          rw [HWs.out.1] at hW
          subst hW
          have hsz := HNB.out
          clear NN TN hw7 happ hi hi2
          go_wp2
          exact ⟨rfl, rfl, by simp [doneSet, h7, h10, HWs.out.2.1], fun h => by simp [doneSet, h7] at h, fun h => by simp [doneSet, h10] at h⟩
        case refine_5 =>
          rintro d W' ⟨hW, hi, hi2⟩ hn hd
          have h7 : d 7 = false := by cases h : d 7 with | false => rfl | true => rw [(hi h).1] at hn; cases hn
          have h10 : d 10 = false := by cases h : d 10 with | false => rfl | true => rw [hi2 h] at h7; cases h7
          obtain ⟨n, hn3, hnn⟩ : ∃ n, n < 2 ∧ (if d 10 = true then 3 else if d 7 = true then 2 else if d 6 = true then 1 else 0) = n := ⟨_, by simp only [h7, h10, Bool.false_eq_true, if_false]; split <;> decide, rfl⟩
          rw [hnn] at hW
          have m0 := (TN.out n hn3).cell 4
          simp at m0
          subst hW
          have HNN : Hid ((if d 10 = true then 3 else if d 7 = true then 2 else if d 6 = true then 1 else 0) = n) := hnn
          have HI : Hid ((d 7 = true → d 4 = true ∧ d 6 = true) ∧ (d 10 = true → d 7 = true)) := ⟨hi, hi2⟩
          clear hi hi2 hnn NN TN hw5 hw7 happ
          go_wp2
          exact ⟨rfl, rfl, by simp only [doneSet]; simpa using (congrArg Ws HNN.out).symm, fun h => by simp [doneSet] at h ⊢; exact (HI.out.1 h).2, by simpa [doneSet] using HI.out.2⟩
        all_goals
          rintro d W' ⟨hW, hi, hi2⟩ hn hd
          obtain ⟨n, hn3, hnn⟩ : ∃ n, n < 4 ∧ (if d 10 = true then 3 else if d 7 = true then 2 else if d 6 = true then 1 else 0) = n := ⟨_, by split; decide; split; decide; split <;> decide, rfl⟩
          rw [hnn] at hW
          have kk := NN.out n hn3
          have m0 := kk.cell 0
          have m1 := kk.cell 1
          simp at m0 m1
          subst hW
          have HNN : Hid ((if d 10 = true then 3 else if d 7 = true then 2 else if d 6 = true then 1 else 0) = n) := hnn
          have HI : Hid ((d 7 = true → d 4 = true ∧ d 6 = true) ∧ (d 10 = true → d 7 = true)) := ⟨hi, hi2⟩
          clear hi hi2 hnn NN TN hw5 hw7 happ kk
          go_wp2
          exact ⟨rfl, rfl, by simp only [doneSet]; simpa using (congrArg Ws HNN.out).symm, by simpa [doneSet] using HI.out.1, by simpa [doneSet] using HI.out.2⟩
      obtain rfl : t0 = n0.length := by omega
      obtain ⟨fr, kt, op, sh⟩ := hI0.out
      rw [List.drop_length] at sh
      rw [List.take_length] at op
      have hcl' : n0.length = c0 := by have := HCL0.out; rw [List.take_length] at this; exact this
      subst hcl'
      obtain ⟨s, r, tm, hch⟩ := sh
      have HCH : Hid (wr.heap[k0]? = some (.chan 60 #[] true s r tm)) := hch
      have hBc : w.heap.size + 1 < wc0.heap.size := KTc0.out.lt
      have HFR : Hid (Fr (fun k => k = k0 ∨ k = w.heap.size + 1) wc0 wr) := fr
      have KTr0 : Hid (Blk wr (w.heap.size + 1) (T6 (.slice a0 z0.length p0) (.slice a1 z1.length p1) l0 l1 (.slice e0 n0.length q0) (.slice none 0 0)) 33) := kt
      have KRr0 : Hid (Blk wr w.heap.size (T6 (.slice none 0 0) (.slice none 0 0) 0 0 (.slice none 0 0) (.slice none 0 0)) 33) := KRc0.out.fr fr (by omega)
      have FWr0 : Hid (Fr (fun k => k = w.heap.size + 1 ∨ k = k0) w wr) := FWc0.out.trans (fr.mono (fun k _ h => h.elim (fun h => .inr (h)) .inl))
      have HP0 : Hid (Op mf mg 68 wc0.heap.size wr (.slice e0 n0.length q0) n0) := op
      have HSZ0 : Hid (wc0.heap.size ≤ wr.heap.size) := fr.size
      have HC1 : Hid (Chn wr k1 n1) := HV.out.ch1.fr FWr0.out (by have h1 := HLT.out.2.2; have h2 := HV.out.kk; omega)
      clear fr kt op hch hBc hI0 KTc0 KRc0 FWc0 SHc0 HFR hlt0 HCL0
      refine region_comm 0 _ rfl rfl ?_
      simp only [List.take]
      refine wpList_nil ?_
      refine ⟨rfl, .tuple #[.agg (H2 0 0), .bool false], _, fun b k cs rest => step_recv_nil rfl rfl rfl rfl HCH.out, ?_⟩
      simp only [List.drop]
      clear HCH
      try rw [← HH.out 7]
      go_wp2
      obtain ⟨wr0, hwr0⟩ : ∃ W', wr = W' := ⟨_, rfl⟩
      rw [hwr0] at KTr0 KRr0 FWr0 HP0 HC1 HSZ0 ⊢
      clear hwr0
      rw [rounds_succ]
      obtain ⟨s, r, hch⟩ := HC1.out
      obtain ⟨wc1, hwc1⟩ : ∃ W', wr0.setChan k1 60 (n1.map fun x => Value.agg (H2 x.1 x.2)).toArray true s r false = W' := ⟨_, rfl⟩
      have hcl : (Builtin.close_ #[62] 0 #[.chan (some k1)]).run Try.prog wr0 = .ok (.tuple #[]) wc1 := by rw [← hwc1]; exact run_close_open (P := Try.prog) #[62] 0 hch
      have fc : Fr (fun k => k = k1) wr0 wc1 := by rw [← hwc1]; exact fr_chan ..
      have hs : Sht wc1 k1 n1 := ⟨s, r, false, by rw [← hwc1, heap_setChan _ _ _ _ _ _ _ _ HC1.out.lt]⟩
      have hkB : k1 < w.heap.size := HLT.out.2.2
      have KTc1 : Hid (Blk wc1 (w.heap.size + 1) (T6 (.slice a0 z0.length p0) (.slice a1 z1.length p1) l0 l1 (.slice e0 n0.length q0) (.slice none 0 0)) 33) := KTr0.out.fr fc (by omega)
      have KRc1 : Hid (Blk wc1 w.heap.size (T6 (.slice none 0 0) (.slice none 0 0) 0 0 (.slice none 0 0) (.slice none 0 0)) 33) := KRr0.out.fr fc (by omega)
      have FWc1 : Hid (Fr (fun k => k = w.heap.size + 1 ∨ k = k0 ∨ k = k1) w wc1) := (FWr0.out.mono (fun k _ h => h.elim .inl (fun h => .inr (.inl h)))).trans (fc.mono (fun k _ h => .inr (.inr h)))
      have SHc1 : Hid (Sht wc1 k1 n1) := hs
      have HP0c : Hid (Op mf mg 68 wc0.heap.size wc1 (.slice e0 n0.length q0) n0) := ownsRow_fr HP0.out fc (fun k e h => by have := (World.ownsRow.lt HP0.out k e).1; have := HW0.out; omega)
      have HW1 : Hid (w.heap.size ≤ wc0.heap.size ∧ wr0.heap.size ≤ wc1.heap.size) := ⟨HW0.out, fc.size⟩
      have HPL : Hid (∀ k, (Value.slice e0 n0.length q0).ownBlock = some k → k < wc1.heap.size) := fun k e => by have h1 := (World.ownsRow.lt HP0.out k e).2; have h2 := fc.size; omega
      clear fc hs hch hwc1 KTr0 KRr0 FWr0 HC1 HP0
      go_wp2
      clear hcl
      go_loopw [] (fun wr => ∃ (t : Nat) (vj : Value), t ≤ n1.length ∧ Hid (Fr (fun k => k = k1 ∨ k = w.heap.size + 1) wc1 wr ∧ Blk wr (w.heap.size + 1) (T6 (.slice a0 z0.length p0) (.slice a1 z1.length p1) l0 l1 (.slice e0 n0.length q0) vj) 33 ∧ Op mf mg 68 wc1.heap.size wr vj (n1.take t) ∧ Sht wr k1 (n1.drop t))) (fun wr => inCh wr k1)
      case atStart => exact ⟨0, (.slice none 0 0), Nat.zero_le _, Fr.refl _ _, KTc1.out, World.ownsRow_nil _ _ _ _, by simpa using SHc1.out⟩
      case round =>
        obtain ⟨t1, vj, ht1, hI1⟩ := hrel
        obtain ⟨e1, q1, hv1, -⟩ := own_form hI1.out.2.2.1
        obtain ⟨c1, hc1⟩ : ∃ m, (n1.take t1).length = m := ⟨_, rfl⟩
        have HCL1 : Hid ((n1.take t1).length = c1) := hc1
        rw [hc1] at hv1
        subst hv1
        clear hc1
        go_wp2
        rw [HH.out 7]
        by_cases hlt1 : t1 < n1.length
        case pos =>
          obtain ⟨x, y, hxy⟩ : ∃ x y, n1[t1] = (x, y) := ⟨_, _, rfl⟩
          have hdr : n1.drop t1 = (x, y) :: n1.drop (t1 + 1) := by rw [← hxy]; exact List.drop_eq_getElem_cons hlt1
          have hlen : (n1.take t1).length = t1 := by simp; omega
          obtain ⟨fr, kt, op, sh⟩ := hI1.out
          have hin : inCh wr k1 = (n1.drop t1).length := sh.len
          obtain ⟨s, r, tm, hch⟩ := sh
          rw [hdr] at hch
          have hkl : k1 < wr.heap.size := (Array.getElem?_eq_some_iff.1 hch).1
          obtain ⟨w1, hw1⟩ : ∃ W', wr.setChan k1 60 ((n1.drop (t1 + 1)).map fun x => Value.agg (H2 x.1 x.2)).toArray true s (r + 1) tm = W' := ⟨_, rfl⟩
          have f1 : Fr (fun k => k = k1) wr w1 := by rw [← hw1]; exact fr_chan ..
          have sh1 : Sht w1 k1 (n1.drop (t1 + 1)) := ⟨s, r + 1, tm, by rw [← hw1, heap_setChan _ _ _ _ _ _ _ _ hkl]⟩
          have op1 : Op mf mg 68 wc1.heap.size w1 (.slice e1 c1 q1) (n1.take t1) := ownsRow_fr op f1 (fun k e h => by have := (World.ownsRow.lt op k e).1; have := SHc1.out.lt; omega)
          have kt1 := kt.fr f1 (by omega)
          obtain ⟨nb, hnb⟩ : ∃ k, w1.heap.size = k := ⟨_, rfl⟩
          obtain ⟨wn, hwn⟩ : ∃ W', w1.alloc (Obj.cells (H2 x y) 68) = W' := ⟨_, rfl⟩
          have bn : Below w1.heap.size w1 wn := by rw [← hwn]; exact (Below.refl _ _).alloc (Nat.le_refl _) _
          have kn : Blk wn nb (H2 x y) 68 := by rw [← hwn, ← hnb]; exact Blk.new _ _ _
          have sn : wn.drew.heap.size = nb + 1 := by rw [← hwn, ← hnb]; show (w1.alloc _).heap.size = _; simp
          have ktn : Blk wn.drew (w.heap.size + 1) (T6 (.slice a0 z0.length p0) (.slice a1 z1.length p1) l0 l1 (.slice e0 n0.length q0) (.slice e1 c1 q1)) 33 := (show Blk wn (w.heap.size + 1) _ 33 from kt1.below bn kt1.lt)
          have knd : Blk wn.drew nb (H2 x y) 68 := kn
          obtain ⟨w5, hw5⟩ : ∃ W', wn.drew.alloc (Obj.cells (H2 x y) 68) = W' := ⟨_, rfl⟩
          have b5 : Below wn.drew.heap.size wn.drew w5 := by rw [← hw5]; exact (Below.refl _ _).alloc (Nat.le_refl _) _
          have k5 : Blk w5 (nb + 1) (H2 x y) 68 := by rw [← hw5]; exact Blk.newAt _ _ _ _ sn.symm
          have opn : Op mf mg 68 wc1.heap.size wn.drew (.slice e1 c1 q1) (n1.take t1) := (show Op mf mg 68 wc1.heap.size wn _ _ from op1.below bn)
          have op5 : Op mf mg 68 wc1.heap.size w5 (.slice e1 c1 q1) (n1.take t1) := opn.below b5
          have zc : wc1.heap.size ≤ w5.heap.size := by have h1 := fr.size; have h2 := f1.size; have h3 := bn.size; have h4 := b5.size; have h5 : wn.drew.heap.size = wn.heap.size := rfl; omega
          obtain ⟨v', w6, happ, op6, g6⟩ := appRun op5 k5 (by rw [hlen]; have := HN.out.2.2; omega) zc
          obtain ⟨e', q', hv', -⟩ := own_form op6
          obtain ⟨m', hm'⟩ : ∃ m, (n1.take t1 ++ [(x, y)]).length = m := ⟨_, rfl⟩
          rw [hm'] at hv'
          subst hv'
          clear hm'
          have ow5 : ∀ k, (Value.slice e1 c1 q1).ownBlock = some k → wc1.heap.size ≤ k := fun k e => (World.ownsRow.lt op5 k e).1
          have kt5 := ktn.below b5 ktn.lt
          have hBc : w.heap.size + 1 < wc1.heap.size := KTc1.out.lt
          have kt6 : Blk w6 (w.heap.size + 1) _ 33 := kt5.grown g6 (fun e => by have := ow5 _ e; omega)
          have kn5 := knd.below b5 knd.lt
          obtain ⟨w7, hw7⟩ : ∃ W', w6.setCell ⟨w.heap.size + 1, 5, none⟩ (.slice e' m' q') = W' := ⟨_, rfl⟩
          have f7 : Fr (fun k => k = w.heap.size + 1) w6 w7 := by rw [← hw7]; exact Fr.ofGrown (grown_set _ _ _ _) (fun k e => (Option.some.inj e).symm)
          have kt7 : Blk w7 (w.heap.size + 1) (T6 (.slice a0 z0.length p0) (.slice a1 z1.length p1) l0 l1 (.slice e0 n0.length q0) (.slice e' m' q')) 33 := by rw [← hw7]; exact kt6.set 5 _
          have frA : Fr (fun k => k = k1 ∨ k = w.heap.size + 1) wc1 w5 := ((fr.trans (f1.mono (fun k _ h => .inl h))).trans ((Fr.ofBelow bn).trans (Fr.drew' wn))).trans (Fr.ofBelow b5)
          have frB : Fr (fun k => k = k1 ∨ k = w.heap.size + 1) wc1 w7 := (frA.new g6 (fun k e => .inl (ow5 k e))).trans (f7.mono (fun k _ h => .inr h))
          have sh7 : Sht w7 k1 (n1.drop (t1 + 1)) := by
            have h1 := ((sh1.fr (Fr.ofBelow (X := fun _ => False) bn) (by simp)).fr (Fr.drew' (X := fun _ => False) wn) (by simp)).fr (Fr.ofBelow (X := fun _ => False) b5) (by simp)
            have h2 : Sht w6 k1 (n1.drop (t1 + 1)) := h1.fr (Fr.ofGrown (X := fun k => wc1.heap.size ≤ k) g6 (fun k e => ow5 k e)) (by have := SHc1.out.lt; omega)
            exact h2.fr f7 (by omega)
          have HF : Hid (Fr (fun k => k = k1 ∨ k = w.heap.size + 1) wc1 w7 ∧ Blk w7 (w.heap.size + 1) (T6 (.slice a0 z0.length p0) (.slice a1 z1.length p1) l0 l1 (.slice e0 n0.length q0) (.slice e' m' q')) 33 ∧ Op mf mg 68 wc1.heap.size w7 (.slice e' m' q') (n1.take t1 ++ [(x, y)]) ∧ Sht w7 k1 (n1.drop (t1 + 1))) := ⟨frB, kt7, ownsRow_fr op6 f7 (fun k e h => by have := (World.ownsRow.lt op6 k e).1; omega), sh7⟩
          have HTK : Hid (n1.take (t1 + 1) = n1.take t1 ++ [(x, y)]) := by show _ = _; rw [← mvs_take hlt1, hxy]
          have HMS : Hid (inCh w7 k1 < inCh wr k1) := by show _ < _; rw [hin, sh7.len, hdr]; simp
          have HCH : Hid (wr.heap[k1]? = some (.chan 60 (((x, y) :: n1.drop (t1 + 1)).map fun x => Value.agg (H2 x.1 x.2)).toArray true s r tm)) := hch
          obtain ⟨Ws, hWs⟩ : ∃ Ws : Nat → World, Ws 0 = wn.drew ∧ Ws 1 = w5 ∧ Ws 2 = w6 ∧ Ws 3 = w7 := ⟨fun n => match n with | 0 => wn.drew | 1 => w5 | 2 => w6 | _ => w7, rfl, rfl, rfl, rfl⟩
          have HWs : Hid (Ws 0 = wn.drew ∧ Ws 1 = w5 ∧ Ws 2 = w6 ∧ Ws 3 = w7) := hWs
          have hnbc : wc1.heap.size ≤ nb ∧ nb < wn.drew.heap.size := by have h1 := fr.size; have h2 := f1.size; omega
          have hX6 : ∀ k, (Value.slice e1 c1 q1).ownBlock = some k → k < w1.heap.size := fun k e => (World.ownsRow.lt op1 k e).2
          have kn6 : Blk w6 nb (H2 x y) 68 := kn5.grown g6 (fun e => by have := hX6 _ e; omega)
          have kn7 : Blk w7 nb (H2 x y) 68 := kn6.fr f7 (by omega)
          have NN : Hid (∀ n, n < 4 → Blk (Ws n) nb (H2 x y) 68) := fun n hn => by
            match n, hn with
            | 0, _ => rw [hWs.1]; exact knd
            | 1, _ => rw [hWs.2.1]; exact kn5
            | 2, _ => rw [hWs.2.2.1]; exact kn6
            | 3, _ => rw [hWs.2.2.2]; exact kn7
          have TN : Hid (∀ n, n < 2 → Blk (Ws n) (w.heap.size + 1) (T6 (.slice a0 z0.length p0) (.slice a1 z1.length p1) l0 l1 (.slice e0 n0.length q0) (.slice e1 c1 q1)) 33) := fun n hn => by
            match n, hn with
            | 0, _ => rw [hWs.1]; exact ktn
            | 1, _ => rw [hWs.2.1]; exact kt5
          have T6c := kt6.cell 5
          have T6f := kt6.frozen 5
          have T6l := kt6.lt
          simp at T6c
          have HNB : Hid (wn.drew.heap.size = nb + 1) := sn
          clear hdr hlen fr kt op opn hch hkl f1 sh1 op1 kt1 bn kn ktn knd b5 k5 op5 zc op6 g6 ow5 kt5 hBc kt6 kn5 f7 kt7 frA frB sh7 hWs hnbc hX6 kn6 kn7 hxy hin sn
          refine region_comm 0 _ rfl rfl ?_
          simp only [List.take]
          refine wpList_nil ?_
          refine ⟨rfl, .tuple #[.agg (H2 x y), .bool true], _, fun b k cs rest => step_recv_cons rfl rfl rfl rfl HCH.out, ?_⟩
          simp only [List.drop]
          show wpList Try.prog _ _ _ _ (wr.setChan k1 60 ((n1.drop (t1 + 1)).map fun x => Value.agg (H2 x.1 x.2)).toArray true s (r + 1) tm)
          rw [hw1]
          clear hw1 HCH
          go_wp2
          clear hwn hnb
          refine region_det [.int .i64 1, .int .i64 1, .pointer (some ⟨w.heap.size + 1, 4, none⟩), .pointer (some ⟨w.heap.size + 1, 5, none⟩), .slice e1 c1 q1, .agg (H2 x y), .slice (some ⟨nb + 1, 0, none⟩) 1 1, .slice e' m' q', .pointer (some ⟨w.heap.size + 1, 4, none⟩), .pointer (some ⟨w.heap.size + 1, 5, none⟩), undef]
            (fun d W => W = Ws (if d 10 = true then 3 else if d 7 = true then 2 else if d 6 = true then 1 else 0) ∧ (d 7 = true → d 4 = true ∧ d 6 = true) ∧ (d 10 = true → d 7 = true)) (by kernel_rfl) (by kernel_rfl)
            (by simp only [putAll, Act.put, List.setIfInBounds_toArray, List.set_cons_succ, List.set_cons_zero]; exact rfl) ⟨HWs.out.1.symm, fun h => (by cases h), fun h => (by cases h)⟩ ⟨?_, ?_, ?_, ?_, ?_, ?_, ?_, ?_, ?_, ?_, ?_, trivial⟩ ?_
          case refine_12 =>
            rintro d W' ⟨hW, -⟩ hall
            have h10 := hall 10 (by decide)
            rw [h10] at hW
            simp only [if_true] at hW
            rw [HWs.out.2.2.2] at hW
            subst hW
            clear hall h10 NN TN HWs hw5 hw7 happ T6c T6f T6l
            go_wp2
            go_roundw
            case rel => exact ⟨t1 + 1, .slice e' m' q', by omega, by rw [HTK.out]; exact HF.out⟩
            case measure => exact HMS.out
          case refine_11 =>
            rintro d W' ⟨hW, hi, hi2⟩ hn hd
            have h7 : d 7 = true := hd { on := 7, ground := .data } (by simp) rfl
            have hii := hi h7
            rw [h7, hn] at hW
            simp only [Bool.false_eq_true, if_false, if_true] at hW
            rw [HWs.out.2.2.1] at hW
            subst hW
            clear NN TN hw5 happ hi hi2
            go_wp2
            exact ⟨rfl, rfl, by simp [doneSet, HWs.out.2.2.2], fun _ => by simp [doneSet, hii], fun _ => by simp [doneSet, h7]⟩
          case refine_8 =>
            rintro d W' ⟨hW, hi, hi2⟩ hn hd
            have h6 : d 6 = true := hd { on := 6, ground := .data } (by simp) rfl
            have h4 : d 4 = true := hd { on := 4, ground := .data } (by simp) rfl
            have h10 : d 10 = false := by cases h : d 10 with | false => rfl | true => rw [hi2 h] at hn; cases hn
            rw [h6, hn, h10] at hW
            simp only [Bool.false_eq_true, if_false, if_true] at hW
            rw [HWs.out.2.1] at hW
            subst hW
            clear NN TN hw5 hw7 hi hi2
            refine wpList_plain rfl fun K hK => ?_
            unfold Oper.wp execOp
            simp only [resolve, invoke, builtin, Sem.run_bind, Sem.run_pure, Result.andThen_ok, List.map_toArray, List.map_cons, List.map_nil]
            have hap : (Builtin.append_ #[30, 30] 30 #[.slice e1 c1 q1, .slice (some ⟨nb + 1, 0, none⟩) 1 1]).run Try.prog W' = .ok (.slice e' m' q') w6 := happ
            show Oper.upon Try.prog _ _ K _ (((Builtin.append_ #[30, 30] 30 #[.slice e1 c1 q1, .slice (some ⟨nb + 1, 0, none⟩) 1 1]).run Try.prog W').andThen _)
            rw [hap]
            exact hK _ _ ⟨rfl, rfl, by simp [doneSet, h10, HWs.out.2.2.1], fun _ => by simp [doneSet, h4, h6], fun h => by simp [doneSet, h10] at h⟩
          case refine_7 =>
            rintro d W' ⟨hW, hi, hi2⟩ hn hd
            have h7 : d 7 = false := by cases h : d 7 with | false => rfl | true => rw [(hi h).2] at hn; cases hn
            have h10 : d 10 = false := by cases h : d 10 with | false => rfl | true => rw [hi2 h] at h7; cases h7
            rw [h7, hn, h10] at hW
            simp only [Bool.false_eq_true, if_false, if_true] at hW
            rw [HWs.out.1] at hW
            subst hW
            have hsz := HNB.out
            clear NN TN hw7 happ hi hi2
            go_wp2
            exact ⟨rfl, rfl, by simp [doneSet, h7, h10, HWs.out.2.1], fun h => by simp [doneSet, h7] at h, fun h => by simp [doneSet, h10] at h⟩
          case refine_5 =>
            rintro d W' ⟨hW, hi, hi2⟩ hn hd
            have h7 : d 7 = false := by cases h : d 7 with | false => rfl | true => rw [(hi h).1] at hn; cases hn
            have h10 : d 10 = false := by cases h : d 10 with | false => rfl | true => rw [hi2 h] at h7; cases h7
            obtain ⟨n, hn3, hnn⟩ : ∃ n, n < 2 ∧ (if d 10 = true then 3 else if d 7 = true then 2 else if d 6 = true then 1 else 0) = n := ⟨_, by simp only [h7, h10, Bool.false_eq_true, if_false]; split <;> decide, rfl⟩
            rw [hnn] at hW
            have m0 := (TN.out n hn3).cell 5
            simp at m0
            subst hW
            have HNN : Hid ((if d 10 = true then 3 else if d 7 = true then 2 else if d 6 = true then 1 else 0) = n) := hnn
            have HI : Hid ((d 7 = true → d 4 = true ∧ d 6 = true) ∧ (d 10 = true → d 7 = true)) := ⟨hi, hi2⟩
            clear hi hi2 hnn NN TN hw5 hw7 happ
            go_wp2
            exact ⟨rfl, rfl, by simp only [doneSet]; simpa using (congrArg Ws HNN.out).symm, fun h => by simp [doneSet] at h ⊢; exact (HI.out.1 h).2, by simpa [doneSet] using HI.out.2⟩
          all_goals
            rintro d W' ⟨hW, hi, hi2⟩ hn hd
            obtain ⟨n, hn3, hnn⟩ : ∃ n, n < 4 ∧ (if d 10 = true then 3 else if d 7 = true then 2 else if d 6 = true then 1 else 0) = n := ⟨_, by split; decide; split; decide; split <;> decide, rfl⟩
            rw [hnn] at hW
            have kk := NN.out n hn3
            have m0 := kk.cell 0
            have m1 := kk.cell 1
            simp at m0 m1
            subst hW
            have HNN : Hid ((if d 10 = true then 3 else if d 7 = true then 2 else if d 6 = true then 1 else 0) = n) := hnn
            have HI : Hid ((d 7 = true → d 4 = true ∧ d 6 = true) ∧ (d 10 = true → d 7 = true)) := ⟨hi, hi2⟩
            clear hi hi2 hnn NN TN hw5 hw7 happ kk
            go_wp2
            exact ⟨rfl, rfl, by simp only [doneSet]; simpa using (congrArg Ws HNN.out).symm, by simpa [doneSet] using HI.out.1, by simpa [doneSet] using HI.out.2⟩
        obtain rfl : t1 = n1.length := by omega
        obtain ⟨fr, kt, op, sh⟩ := hI1.out
        rw [List.drop_length] at sh
        rw [List.take_length] at op
        have hcl' : n1.length = c1 := by have := HCL1.out; rw [List.take_length] at this; exact this
        subst hcl'
        obtain ⟨s, r, tm, hch⟩ := sh
        have HCH : Hid (wr.heap[k1]? = some (.chan 60 #[] true s r tm)) := hch
        have hBc : w.heap.size + 1 < wc1.heap.size := KTc1.out.lt
        have HFR : Hid (Fr (fun k => k = k1 ∨ k = w.heap.size + 1) wc1 wr) := fr
        have KTr1 : Hid (Blk wr (w.heap.size + 1) (T6 (.slice a0 z0.length p0) (.slice a1 z1.length p1) l0 l1 (.slice e0 n0.length q0) (.slice e1 n1.length q1)) 33) := kt
        have KRr1 : Hid (Blk wr w.heap.size (T6 (.slice none 0 0) (.slice none 0 0) 0 0 (.slice none 0 0) (.slice none 0 0)) 33) := KRc1.out.fr fr (by omega)
        have FWr1 : Hid (Fr (fun k => k = w.heap.size + 1 ∨ k = k0 ∨ k = k1) w wr) := FWc1.out.trans (fr.mono (fun k _ h => h.elim (fun h => .inr (.inr h)) .inl))
        have HP1 : Hid (Op mf mg 68 wc1.heap.size wr (.slice e1 n1.length q1) n1) := op
        have HSZ1 : Hid (wc1.heap.size ≤ wr.heap.size) := fr.size
        have HP0r : Hid (Op mf mg 68 wc0.heap.size wr (.slice e0 n0.length q0) n0) := ownsRow_fr HP0c.out fr (fun k e h => by have h1 := World.ownsRow.lt HP0c.out k e; have h2 := HW1.out; have h3 := HLT.out; have h4 := HB0c.out; omega)
        clear HP0c fr kt op hch hBc hI1 KTc1 KRc1 FWc1 SHc1 HFR hlt1 HCL1
        refine region_comm 0 _ rfl rfl ?_
        simp only [List.take]
        refine wpList_nil ?_
        refine ⟨rfl, .tuple #[.agg (H2 0 0), .bool false], _, fun b k cs rest => step_recv_nil rfl rfl rfl rfl HCH.out, ?_⟩
        simp only [List.drop]
        clear HCH
        go_wp2
        rw [rounds_succ]
        have kr := KRr1.out
        have kt := KTr1.out
        have t0' := kt.cell 0
        have r0' := kr.cell 0
        have rf0 := kr.frozen 0
        have t1' := kt.cell 1
        have r1' := kr.cell 1
        have rf1 := kr.frozen 1
        have t2' := kt.cell 2
        have r2' := kr.cell 2
        have rf2 := kr.frozen 2
        have t3' := kt.cell 3
        have r3' := kr.cell 3
        have rf3 := kr.frozen 3
        have t4' := kt.cell 4
        have r4' := kr.cell 4
        have rf4 := kr.frozen 4
        have t5' := kt.cell 5
        have r5' := kr.cell 5
        have rf5 := kr.frozen 5
        simp at t0' r0' t1' r1' t2' r2' t3' r3' t4' r4' t5' r5'
        have lkr := kr.lt
        have lkt := kt.lt
        have hsz1 : w.heap.size + 1 < wc1.heap.size := by have h1 := HW1.out; have h2 := HSZ0.out; have h3 := HBB.out; omega
        have HF : Hid (∀ W', (((((wr.setCell ⟨w.heap.size, 0, none⟩ (.slice a0 z0.length p0)).setCell ⟨w.heap.size, 1, none⟩ (.slice a1 z1.length p1)).setCell ⟨w.heap.size, 2, none⟩ (.int .i64 l0)).setCell ⟨w.heap.size, 3, none⟩ (.int .i64 l1)).setCell ⟨w.heap.size, 4, none⟩ (.slice e0 n0.length q0)).setCell ⟨w.heap.size, 5, none⟩ (.slice e1 n1.length q1) = W' →
            Blk W' w.heap.size (T6 (.slice a0 z0.length p0) (.slice a1 z1.length p1) l0 l1 (.slice e0 n0.length q0) (.slice e1 n1.length q1)) 33 ∧ Ok6 b W'.heap.size W' (.slice a0 z0.length p0) (.slice a1 z1.length p1) (.slice e0 n0.length q0) (.slice e1 n1.length q1) z0 z1 n0 n1 ∧ Below b w W') := by
          intro W' hW'
          have hz : W'.heap.size = wr.heap.size := by rw [← hW']; simp
          have fS : Fr (fun k => k = w.heap.size) wr W' := by
            rw [← hW']
            exact ((((((Fr.ofGrown (grown_set _ _ _ _) (fun k e => (Option.some.inj e).symm)).trans (Fr.ofGrown (grown_set _ _ _ _) (fun k e => (Option.some.inj e).symm))).trans (Fr.ofGrown (grown_set _ _ _ _) (fun k e => (Option.some.inj e).symm))).trans (Fr.ofGrown (grown_set _ _ _ _) (fun k e => (Option.some.inj e).symm))).trans (Fr.ofGrown (grown_set _ _ _ _) (fun k e => (Option.some.inj e).symm))).trans (Fr.ofGrown (grown_set _ _ _ _) (fun k e => (Option.some.inj e).symm)))
          have fW : Fr (fun k => k = w.heap.size ∨ (k = w.heap.size + 1 ∨ k = k0 ∨ k = k1)) w W' := (FWr1.out.mono (fun k _ h => .inr h)).trans (fS.mono (fun k _ h => .inl h))
          have hv := HV.out
          have hn := HN.out
          have hlt := HLT.out
          have i0 : ∀ k, (Value.slice a0 z0.length p0).ownBlock = some k → b ≤ k ∧ k < w.heap.size := fun k e => World.ownsRow.lt hv.o0 k e
          have i1 : ∀ k, (Value.slice a1 z1.length p1).ownBlock = some k → b ≤ k ∧ k < w.heap.size := fun k e => World.ownsRow.lt hv.o1 k e
          have j0 : ∀ k, (Value.slice e0 n0.length q0).ownBlock = some k → wc0.heap.size ≤ k ∧ k < wc1.heap.size := fun k e => ⟨(World.ownsRow.lt HP0r.out k e).1, HPL.out k e⟩
          have j1 : ∀ k, (Value.slice e1 n1.length q1).ownBlock = some k → wc1.heap.size ≤ k ∧ k < wr.heap.size := fun k e => World.ownsRow.lt HP1.out k e
          have h1 := HW1.out
          have h0b := HB0c.out
          have hsz := HSZ1.out
          refine ⟨?_, ⟨ownsRow_fr hv.o0 fW (fun k e h => ?_), ownsRow_fr hv.o1 fW (fun k e h => ?_), Op.mono (show Op mf mg 68 wc0.heap.size W' (.slice e0 n0.length q0) n0 from ownsRow_fr HP0r.out fS (fun k e h => by have := j0 k e; omega)) (by omega), Op.mono (show Op mf mg 68 wc1.heap.size W' (.slice e1 n1.length q1) n1 from ownsRow_fr HP1.out fS (fun k e h => by have := j1 k e; omega)) (by omega), ?_, hv.ap, fun k e e' => ?_, fun k e e' => ?_⟩, fW.below hn.1 (fun k e => ?_)⟩
          · rw [← hW']; exact (((((kr.set 0 _).set 1 _).set 2 _).set 3 _).set 4 _).set 5 _
          · have := i0 k e; have := hv.d0 k e; omega
          · have := i1 k e; have := hv.d1 k e; omega
          · rintro k ((e | e) | (e | e))
            · have := i0 k e; omega
            · have := i1 k e; omega
            · have := j0 k e; omega
            · have := j1 k e; omega
          · have := j0 k e; have := j1 k e'; omega
          · rcases e with e | e <;> rcases e' with e' | e'
            · have := i0 k e; have := j0 k e'; omega
            · have := i0 k e; have := j1 k e'; omega
            · have := i1 k e; have := j0 k e'; omega
            · have := i1 k e; have := j1 k e'; omega
          · have := hv.bk0; have := hv.bk1; omega
        clear kr kt
        go_wp2
        exact bodyPost_ret (v := .agg (T6 (.slice a0 z0.length p0) (.slice a1 z1.length p1) l0 l1 (.slice e0 n0.length q0) (.slice e1 n1.length q1))) (results_cell_row rfl _ _ _ 33 _ (0, 0) _ rfl (HF.out _ rfl).1 Try.underlying33 rfl size33) rfl ⟨_, _, _, _, rfl, (HF.out _ rfl).2⟩
  case refine_11 =>
    rintro d W ⟨hW, -⟩ hn hd
    have h9 : d 9 = true := hd { on := 9, ground := .data } (by simp) rfl
    rw [h9, hn] at hW
    simp only [Bool.false_eq_true, if_false, if_true] at hW
    rw [HWs.out.2.1] at hW
    subst hW
    clear gN
    go_wp2
    exact ⟨rfl, rfl, by simp [doneSet, HWs.out.2.2], fun _ => by simp [doneSet, h9]⟩
  case refine_10 =>
    rintro d W ⟨hW, hi⟩ hn hd
    have h10 : d 10 = false := by cases h : d 10 with | false => rfl | true => rw [hi h] at hn; cases hn
    rw [h10, hn] at hW
    simp only [Bool.false_eq_true, if_false] at hW
    rw [HWs.out.1] at hW
    subst hW
    clear gN hi
    go_wp2
    exact ⟨rfl, rfl, by simp [doneSet, h10, HWs.out.2.1], fun h => by simp [doneSet, h10] at h⟩
  all_goals
    rintro d W ⟨hW, hi⟩ hn hd
    obtain ⟨n, hn3, hnn⟩ : ∃ n, n < 3 ∧ (if d 10 = true then 2 else if d 9 = true then 1 else 0) = n := ⟨_, by split; decide; split <;> decide, rfl⟩
    rw [hnn] at hW
    have kg := gN.out n hn3
    have m0 := kg.cell 0
    have m1 := kg.cell 1
    have m2 := kg.cell 2
    have m3 := kg.cell 3
    have ml := kg.lt
    simp at m0 m1 m2 m3
    subst hW
    have HI : Hid (d 10 = true → d 9 = true) := hi
    have HNN : Hid ((if d 10 = true then 2 else if d 9 = true then 1 else 0) = n) := hnn
    clear kg hi hnn gN
    go_wp2
    exact ⟨rfl, rfl, by simp only [doneSet]; simpa using (congrArg Ws HNN.out).symm, by simpa [doneSet] using HI.out⟩
end Go.Proofs.Ytkehcalijamhjaa

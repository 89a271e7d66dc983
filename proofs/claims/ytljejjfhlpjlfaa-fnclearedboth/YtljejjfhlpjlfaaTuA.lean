/- A half at work: what it makes of a cue; no condition. -/
import Derived.Test.YtljejjfhlpjlfaaDuA
import Derived.Test.YtljejjfhlpjlfaaSnd
namespace Go.Proofs.Ytljejjfhlpjlfaa
open Go.RowKit Go.ChangeShapes Go.WideShapes Go.ChangeAt
set_option linter.unusedVariables false
set_option linter.unusedSimpArgs false
set_option maxRecDepth 8000

open Go.Conc
/-- what a half makes of a cue: its state, its call, whether that may be, and what it sends -/
def turnH (st ca hf ev : Int) (x : Int × Int × Int) : Int × Int × Bool × Option (Int × Int × Int) :=
  if (ev = 1 ∧ st = 0) ∧ ca < 1000 then (1, ca + 1, true, some (1 - hf, 1, ca + 1))
  else if ev = 2 ∧ st = 2 then (3, ca, true, if hf = 1 then some (1 - hf, 2, ca) else none)
  else if (ev = 3 ∧ ¬ st = 0) ∧ ¬ st = 4 then (4, ca, true, some (1 - hf, 3, ca))
  else if ev = 4 ∧ st = 1 then (1, ca, true, some (1 - hf, 1, ca))
  else if ev = 4 ∧ st = 4 then (4, ca, true, some (1 - hf, 3, ca))
  else if (x.2.1 = 1 ∧ hf = 1) ∧ ca < x.2.2 then (2, x.2.2, true, none)
  else if ((x.2.1 = 1 ∧ hf = 1) ∧ x.2.2 = ca) ∧ st = 3 then (3, ca, true, if hf = 1 then some (1 - hf, 2, ca) else none)
  else if ((x.2.1 = 1 ∧ hf = 1) ∧ x.2.2 = ca) ∧ st = 4 then (4, ca, true, some (1 - hf, 3, ca))
  else if (x.2.1 = 2 ∧ x.2.2 = ca) ∧ st = 1 then (3, ca, true, if hf = 1 then some (1 - hf, 2, ca) else none)
  else if x.2.1 = 3 then (if ca ≤ x.2.2 then (0, x.2.2, true, some (1 - hf, 4, x.2.2)) else (st, ca, decide (ev = 4 ∨ ev = 5), some (1 - hf, 4, x.2.2)))
  else if (x.2.1 = 4 ∧ x.2.2 = ca) ∧ st = 4 then (0, ca, true, none)
  else (st, ca, decide (ev = 4 ∨ ev = 5), none)
/-- what lies in a channel -/
def bufO : Option (Int × Int × Int) → Array Value
  | none => #[]
  | some y => #[.agg (P3 y.1 y.2.1 y.2.2)]
abbrev C5 (hf ev : Int) (x y z : Int) : Array Value := #[.int .i64 hf, .int .i64 ev, .int .i64 x, .int .i64 y, .int .i64 z]
def TuR (st ca hf ev : Int) (x : Int × Int × Int) (c : Nat) (w : World) (e : Ending) (w' : World) : Prop :=
  ∃ (st' ca' : Int) (ok : Bool) (y : Option (Int × Int × Int)) (s : Nat), turnH st ca hf ev x = (st', ca', ok, y) ∧ e = .returned (.tuple #[.agg (H2 st' ca'), .bool ok]) ∧ w.grownBy w' (some c) ∧ w'.heap[c]? = some (.chan 1 (bufO y) true s 0 false)
theorem step_send {P : Program} {b : Frame} {a : Act} {k : List Item} {cs : List Frame} {w : World} {ops : Array Oper} {i : Nat} {rest : List Nat} {o : Oper} {ch x : Operand} {c cap s r : Nat} {buf : Array Value} {tm : Bool}
    (ho : ops[i]? = some o) (hg : o.guard = none) (hop : o.op = .send ch x) (hch : a.eval ch = .chan (some c)) (hc : w.heap[c]? = some (.chan cap buf false s r tm)) (hroom : buf.size < cap) :
    step P (lone (b.at a (.inRegion ops (i :: rest) :: k)) cs w) = .next (lone (b.at (a.put o.dst undef) (.inRegion ops rest :: k)) cs (w.setChan c cap (buf.push (a.eval x)) false (s + 1) r tm)) :=
  step_comm (cases := #[scase c (a.eval x) (.tuple #[])]) (shape := .send) ho hg (by simp [execOp, hop, hch, scase]) fun fr es h => step_lone_send_room h hc hroom
theorem setChan_other (w : World) (c cap : Nat) (buf : Array Value) (cl : Bool) (s r : Nat) (tm : Bool) (k : Nat) (h : k ≠ c) : (w.setChan c cap buf cl s r tm).heap[k]? = w.heap[k]? := by
  simp only [World.setChan]; rw [Array.getElem?_setIfInBounds_ne (fun e => h e.symm)]
theorem Blk.chan {w : World} {g : Nat} {cs : Array Value} {t : TypeId} (h : Blk w g cs t) (c cap : Nat) (buf : Array Value) (cl : Bool) (s r : Nat) (tm : Bool) (hne : g ≠ c) : Blk (w.setChan c cap buf cl s r tm) g cs t := by
  rw [Blk, setChan_other w c cap buf cl s r tm g hne]; exact h
theorem grown_chan (w : World) (c cap : Nat) (buf : Array Value) (cl : Bool) (s r : Nat) (tm : Bool) : w.grownBy (w.setChan c cap buf cl s r tm) (some c) :=
  ⟨rfl, rfl, rfl, by simp [World.setChan], fun k _ hne => setChan_other w c cap buf cl s r tm k (fun e => hne (by simp [e]))⟩
/-- what a half at work is: the half, the cue, the answer, the signal -/
structure Wk (w : World) (c : Nat) (W : World) (a b hf ev x y z p q : Int) (buf : Array Value) (s : Nat) : Prop where
  gr : w.grownBy W (some c)
  k0 : Blk W w.heap.size (H2 a b) 27
  k1 : Blk W (w.heap.size + 1) (C5 hf ev x y z) 87
  k2 : Blk W (w.heap.size + 1 + 1) (H2 p q) 27
  k3 : Blk W (w.heap.size + 1 + 1 + 1) (P3 x y z) 66
  ch : W.heap[c]? = some (.chan 1 buf false s 0 false)
  lt : c < w.heap.size
theorem grown_at {w W : World} {c g k : Nat} {v : Value} (h : w.grownBy W (some c)) (hg : w.heap.size ≤ g) : w.grownBy (W.setCell ⟨g, k, none⟩ v) (some c) :=
  ⟨h.os, h.tape, h.output, by have := h.size; simp; omega, fun j hj hne => by rw [heap_setCell_other W ⟨g, k, none⟩ j v (by show j ≠ g; omega)]; exact h.block j hj hne⟩
theorem Wk.st {w W : World} {c : Nat} {a b hf ev x y z p q : Int} {buf : Array Value} {s : Nat} (h : Wk w c W a b hf ev x y z p q buf s) (v : Int) : Wk w c (W.setCell ⟨w.heap.size, 0, none⟩ (.int .i64 v)) v b hf ev x y z p q buf s :=
  ⟨grown_at h.gr (Nat.le_refl _), h.k0.set 0 (.int .i64 v), h.k1.other _ _ (by simp), h.k2.other _ _ (by simp; omega), h.k3.other _ _ (by simp; omega), by rw [heap_setCell_other _ _ _ _ (by have := h.lt; show c ≠ w.heap.size; omega)]; exact h.ch, h.lt⟩
theorem Wk.ca {w W : World} {c : Nat} {a b hf ev x y z p q : Int} {buf : Array Value} {s : Nat} (h : Wk w c W a b hf ev x y z p q buf s) (v : Int) : Wk w c (W.setCell ⟨w.heap.size, 1, none⟩ (.int .i64 v)) a v hf ev x y z p q buf s :=
  ⟨grown_at h.gr (Nat.le_refl _), h.k0.set 1 (.int .i64 v), h.k1.other _ _ (by simp), h.k2.other _ _ (by simp; omega), h.k3.other _ _ (by simp; omega), by rw [heap_setCell_other _ _ _ _ (by have := h.lt; show c ≠ w.heap.size; omega)]; exact h.ch, h.lt⟩
theorem Wk.an {w W : World} {c : Nat} {a b hf ev x y z p q : Int} {buf : Array Value} {s : Nat} (h : Wk w c W a b hf ev x y z p q buf s) (u v : Int) : Wk w c ((W.setCell ⟨w.heap.size + 1 + 1, 0, none⟩ (.int .i64 u)).setCell ⟨w.heap.size + 1 + 1, 1, none⟩ (.int .i64 v)) a b hf ev x y z u v buf s :=
  ⟨grown_at (grown_at h.gr (by omega)) (by omega), (h.k0.other _ _ (by simp; omega)).other _ _ (by simp; omega), (h.k1.other _ _ (by simp)).other _ _ (by simp), (h.k2.set 0 (.int .i64 u)).set 1 (.int .i64 v), (h.k3.other _ _ (by simp)).other _ _ (by simp), by rw [heap_setCell_other _ _ _ _ (by have := h.lt; show c ≠ w.heap.size + 1 + 1; omega), heap_setCell_other _ _ _ _ (by have := h.lt; show c ≠ w.heap.size + 1 + 1; omega)]; exact h.ch, h.lt⟩
theorem Wk.snd {w W : World} {c : Nat} {a b hf ev x y z p q : Int} {buf : Array Value} {s : Nat} (h : Wk w c W a b hf ev x y z p q buf s) (buf' : Array Value) (s' : Nat) : Wk w c (W.setChan c 1 buf' false s' 0 false) a b hf ev x y z p q buf' s' :=
  ⟨grown_trans h.gr (⟨rfl, rfl, rfl, by simp [World.setChan], fun k _ hne => setChan_other W c 1 buf' false s' 0 false k (fun e => hne (by simp [e]))⟩), h.k0.chan _ _ _ _ _ _ _ (by have := h.lt; omega), h.k1.chan _ _ _ _ _ _ _ (by have := h.lt; omega), h.k2.chan _ _ _ _ _ _ _ (by have := h.lt; omega), h.k3.chan _ _ _ _ _ _ _ (by have := h.lt; omega), heap_setChan _ _ _ _ _ _ _ _ (by have := h.lt; have := h.gr.size; omega), h.lt⟩
theorem Wk.drew {w W : World} {c : Nat} {a b hf ev x y z p q : Int} {buf : Array Value} {s : Nat} (h : Wk w c W a b hf ev x y z p q buf s) : Wk w c W.drew a b hf ev x y z p q buf s :=
  ⟨⟨h.gr.os, h.gr.tape, h.gr.output, h.gr.size, h.gr.block⟩, h.k0, h.k1, h.k2, h.k3, h.ch, h.lt⟩
theorem results_27 {fn : Func} {p u : Tmp} (h : fn.results = #[.cell p 27, .tmp u]) (tmps : Array Value) (w : World) (g : Nat) (a b : Int) (y : Value)
    (h0 : tmps.getD p undef = .pointer (some ⟨g, 0, none⟩)) (h1 : tmps.getD u undef = y) (hb : Blk w g (H2 a b) 27) : (results fn tmps).run Try.prog w = .ok (.tuple #[.agg (H2 a b), y]) w := by
  have hp' : tmps[p]?.getD undef = .pointer (some ⟨g, 0, none⟩) := by simpa using h0
  have hx' : tmps[u]?.getD undef = y := by simpa using h1
  have hr := run_loadVar_row (P := Try.prog) w g 27 27 (H2 a b) (0, 0) _ hb Try.underlying27 rfl size27
  simp [results, h, hp', hx', asAddr, hr]
/-- the end: the channel is closed, the answer read -/
theorem Wk.done {w W : World} {c : Nat} {a b hf ev x y z p q : Int} {buf : Array Value} {s : Nat} (h : Wk w c W a b hf ev x y z p q buf s) (st ca : Int) (yo : Option (Int × Int × Int)) (ok : Bool) (hb : buf = bufO yo) (ht : turnH st ca hf ev (x, y, z) = (p, q, ok, yo)) (tmps : Array Value) (cns : Array Bool) (ty : TypeId) (ats : Array TypeId)
    (h0 : tmps.getD 6 undef = .pointer (some ⟨w.heap.size + 1 + 1, 0, none⟩)) (h1 : tmps.getD 7 undef = .bool ok) :
    bodyPostC Try.prog Try.f70 (TuR st ca hf ev (x, y, z) c w) .ret ⟨tmps, [{ target := .builtin .close ats ty cns, args := #[.chan (some c)] }]⟩ W := by
  have hl := h.lt
  have hk2 : Blk (W.setChan c 1 buf true s 0 false) (w.heap.size + 1 + 1) (H2 p q) 27 := h.k2.chan _ _ _ _ _ _ _ (by omega)
  refine ⟨_, _, _, _, _, .tuple #[], _, W.setChan c 1 buf true s 0 false, rfl, ?_, results_27 rfl _ _ _ _ _ _ h0 h1 hk2, p, q, ok, yo, s, ht, rfl, ?_, ?_⟩
  · have := run_close_open (P := Try.prog) ats ty h.ch
    simp [invoke, builtin, this, World.setChan]
  · exact grown_trans h.gr ⟨rfl, rfl, rfl, by simp [World.setChan], fun k _ hne => setChan_other W c 1 buf true s 0 false k (fun e => hne (by simp [e]))⟩
  · rw [← hb]; exact heap_setChan _ _ _ _ _ _ _ _ (by have := h.gr.size; omega)

end Go.Proofs.Ytljejjfhlpjlfaa

/- A duo at work: its box, the box of the answer, the row of signals that it owns; no condition. -/
import Derived.Test.YtljejjfhlpjlfaaTLw
namespace Go.Proofs.Ytljejjfhlpjlfaa
open Go.RowKit Go.ChangeShapes Go.WideShapes Go.ChangeAt
set_option linter.unusedVariables false
set_option linter.unusedSimpArgs false
set_option maxRecDepth 8000

theorem oneSig {base : Nat} {W : World} {V : Value} {ls : Tri} (h : Ot 66 base W V ls) (f t m : Int) : Ot 66 base (W.alloc (Obj.cells (P3 f t m) 66)) V ls ∧ Rt (W.alloc (Obj.cells (P3 f t m) 66)) (.slice (some ⟨W.heap.size, 0, none⟩) 1 1) [(f, t, m)] := by
  refine ⟨h.below ((Below.refl _ _).alloc (Nat.le_refl _) _), some ⟨W.heap.size, 0, none⟩, 1, rfl, by simp, by unfold maxLen; omega, .inr ⟨W.heap.size, 0, rfl, fun i hi => ?_⟩⟩
  have hi0 : i = 0 := by simp at hi; omega
  subst hi0
  exact ⟨by simp, by simp, by simp⟩
/-- whose block a slice is, behind what was done -/
def Nxt (w : World) (v v' : Value) : Prop := ∀ k, v'.ownBlock = some k → v.ownBlock = some k ∨ w.heap.size ≤ k
theorem Nxt.refl (w : World) (v : Value) : Nxt w v v := fun k h => .inl h
theorem Nxt.trans {w W : World} {a b c : Value} (h : Nxt w a b) (h' : Nxt W b c) (hs : w.heap.size ≤ W.heap.size) : Nxt w a c := fun k e => by
  rcases h' k e with h1 | h1
  · exact h k h1
  · exact .inr (by omega)
/-- a row is kept where other blocks are written -/
theorem Ot.keepB {base r : Nat} {W W' : World} {V : Value} {ls : Tri} (h : Ot 66 base W V ls) (hg : W.grownBy W' (some r)) (hr : V.ownBlock ≠ some r) : Ot 66 base W' V ls :=
  World.ownsRow.kept h hg (.inr hr)
theorem results_D {fn : Func} {p u : Tmp} (h : fn.results = #[.cell p 31, .tmp u]) (tmps : Array Value) (w : World) (g : Nat) (s c s' c' : Int) (v x : Value)
    (hp : tmps.getD p undef = .pointer (some ⟨g, 0, none⟩)) (hx : tmps.getD u undef = x) (hg : Blk w g (D5 s c s' c' v) 31) :
    (results fn tmps).run Try.prog w = .ok (.tuple #[.agg (D5 s c s' c' v), x]) w := by
  have hp' : tmps[p]?.getD undef = .pointer (some ⟨g, 0, none⟩) := by simpa using hp
  have hx' : tmps[u]?.getD undef = x := by simpa using hx
  have hr := run_loadVar_row (P := Try.prog) w g 31 31 (D5 s c s' c' v) (0, 0) _ hg Try.underlying31 rfl size31
  simp [results, h, hp', hx', asAddr, hr]
/-- a duo is stored -/
abbrev st5 (W : World) (r : Nat) (s c s' c' : Int) (V : Value) : World := ((((W.setCell ⟨r, 0, none⟩ (.int .i64 s)).setCell ⟨r, 1, none⟩ (.int .i64 c)).setCell ⟨r, 2, none⟩ (.int .i64 s')).setCell ⟨r, 3, none⟩ (.int .i64 c')).setCell ⟨r, 4, none⟩ V
theorem put5 {W : World} {r : Nat} {a b d e : Int} {V0 : Value} (h : Blk W r (D5 a b d e V0) 31) (s c s' c' : Int) (V : Value) : Blk (st5 W r s c s' c' V) r (D5 s c s' c' V) 31 :=
  ((((h.set 0 (.int .i64 s)).set 1 (.int .i64 c)).set 2 (.int .i64 s')).set 3 (.int .i64 c')).set 4 V
theorem grown_put5 (W : World) (r : Nat) (s c s' c' : Int) (V : Value) : W.grownBy (st5 W r s c s' c' V) (some r) :=
  grown_trans (grown_trans (grown_trans (grown_trans (grown_set _ _ _ _) (grown_set _ _ _ _)) (grown_set _ _ _ _)) (grown_set _ _ _ _)) (grown_set _ _ _ _)
theorem Blk.grown {w w' : World} {g : Nat} {cs : Array Value} {t : TypeId} {row : Option Nat} (h : Blk w g cs t) (hg : w.grownBy w' row) (hne : row ≠ some g) : Blk w' g cs t := by
  rw [Blk, hg.block g h.lt (fun e => hne e.symm)]; exact h
/-- what a function that is handed a duo of its own hands back -/
abbrev Dt := Int × Int × Int × Int × Tri
def DuR (base : Nat) (w : World) (v : Value) (d : Dt) (ok : Bool) (e : Ending) (w' : World) : Prop :=
  ∃ v', e = .returned (.tuple #[.agg (D5 d.1 d.2.1 d.2.2.1 d.2.2.2.1 v'), .bool ok]) ∧ Ot 66 base w' v' d.2.2.2.2 ∧ w.grownBy w' v.ownBlock ∧ Nxt w v v'
def DuS (base : Nat) (w : World) (v : Value) (d : Dt) (e : Ending) (w' : World) : Prop :=
  ∃ v', e = .returned (.agg (D5 d.1 d.2.1 d.2.2.1 d.2.2.2.1 v')) ∧ Ot 66 base w' v' d.2.2.2.2 ∧ w.grownBy w' v.ownBlock ∧ Nxt w v v'
/-- a duo at work: its box, the box of the answer, its row -/
structure Bx (w0 : World) (base : Nat) (v0 : Value) (W : World) (g r : Nat) (s c s' c' : Int) (v : Value) (ls : Tri) : Prop where
  box : Blk W g (D5 s c s' c' v) 31
  res : Blk W r (D5 0 0 0 0 (.slice none 0 0)) 31
  own : Ot 66 base W v ls
  gr : w0.grownBy W v0.ownBlock
  nx : Nxt w0 v0 v
  hg : w0.heap.size ≤ g
  hr : w0.heap.size ≤ r
  ne : g ≠ r
  ng : v.ownBlock ≠ some g
  nr : v.ownBlock ≠ some r
  old : ∀ k, v0.ownBlock = some k → k < w0.heap.size
theorem Bx.start {w0 W : World} {base g r : Nat} {v0 : Value} {s c s' c' : Int} {ls : Tri} (h : Ot 66 base w0 v0 ls) (hb : Below w0.heap.size w0 W) (k : Blk W g (D5 s c s' c' v0) 31) (kr : Blk W r (D5 0 0 0 0 (.slice none 0 0)) 31) (hg : w0.heap.size ≤ g) (hr : w0.heap.size ≤ r) (hne : g ≠ r) : Bx w0 base v0 W g r s c s' c' v0 ls :=
  have ho : ∀ k, v0.ownBlock = some k → k < w0.heap.size := fun k e => (World.ownsRow.lt h k e).2
  ⟨k, kr, h.below hb, ⟨hb.os, hb.tape, hb.output, hb.size, fun j hj _ => hb.block j hj⟩, Nxt.refl _ _, hg, hr, hne, fun e => by have := ho _ e; omega, fun e => by have := ho _ e; omega, ho⟩
theorem grown_new {w0 W W' : World} {row : Option Nat} {g : Nat} (h : w0.grownBy W row) (h' : W.grownBy W' (some g)) (hg : w0.heap.size ≤ g) : w0.grownBy W' row :=
  ⟨h'.os.trans h.os, h'.tape.trans h.tape, h'.output.trans h.output, Nat.le_trans h.size h'.size, fun j hj hne => (h'.block j (Nat.lt_of_lt_of_le hj h.size) (fun e => by cases e; omega)).trans (h.block j hj hne)⟩

theorem Bx.set0 {w0 W : World} {base g r : Nat} {v0 v : Value} {s c s' c' : Int} {ls : Tri} (h : Bx w0 base v0 W g r s c s' c' v ls) (x : Int) : Bx w0 base v0 (W.setCell ⟨g, 0, none⟩ (.int .i64 x)) g r x c s' c' v ls :=
  ⟨h.box.set 0 (.int .i64 x), h.res.other _ _ (fun e => h.ne e.symm), h.own.keepB (grown_set _ _ _ _) h.ng, grown_new h.gr (grown_set _ _ _ _) h.hg, h.nx, h.hg, h.hr, h.ne, h.ng, h.nr, h.old⟩
theorem Bx.set1 {w0 W : World} {base g r : Nat} {v0 v : Value} {s c s' c' : Int} {ls : Tri} (h : Bx w0 base v0 W g r s c s' c' v ls) (x : Int) : Bx w0 base v0 (W.setCell ⟨g, 1, none⟩ (.int .i64 x)) g r s x s' c' v ls :=
  ⟨h.box.set 1 (.int .i64 x), h.res.other _ _ (fun e => h.ne e.symm), h.own.keepB (grown_set _ _ _ _) h.ng, grown_new h.gr (grown_set _ _ _ _) h.hg, h.nx, h.hg, h.hr, h.ne, h.ng, h.nr, h.old⟩
theorem Bx.set2 {w0 W : World} {base g r : Nat} {v0 v : Value} {s c s' c' : Int} {ls : Tri} (h : Bx w0 base v0 W g r s c s' c' v ls) (x : Int) : Bx w0 base v0 (W.setCell ⟨g, 2, none⟩ (.int .i64 x)) g r s c x c' v ls :=
  ⟨h.box.set 2 (.int .i64 x), h.res.other _ _ (fun e => h.ne e.symm), h.own.keepB (grown_set _ _ _ _) h.ng, grown_new h.gr (grown_set _ _ _ _) h.hg, h.nx, h.hg, h.hr, h.ne, h.ng, h.nr, h.old⟩
theorem Bx.set3 {w0 W : World} {base g r : Nat} {v0 v : Value} {s c s' c' : Int} {ls : Tri} (h : Bx w0 base v0 W g r s c s' c' v ls) (x : Int) : Bx w0 base v0 (W.setCell ⟨g, 3, none⟩ (.int .i64 x)) g r s c s' x v ls :=
  ⟨h.box.set 3 (.int .i64 x), h.res.other _ _ (fun e => h.ne e.symm), h.own.keepB (grown_set _ _ _ _) h.ng, grown_new h.gr (grown_set _ _ _ _) h.hg, h.nx, h.hg, h.hr, h.ne, h.ng, h.nr, h.old⟩

theorem Bx.below {w0 W W' : World} {base g r : Nat} {v0 v : Value} {s c s' c' : Int} {ls : Tri} (h : Bx w0 base v0 W g r s c s' c' v ls) (hb : Below W.heap.size W W') : Bx w0 base v0 W' g r s c s' c' v ls :=
  ⟨h.box.below hb h.box.lt, h.res.below hb h.res.lt, h.own.below hb, ⟨hb.os.trans h.gr.os, hb.tape.trans h.gr.tape, hb.output.trans h.gr.output, Nat.le_trans h.gr.size hb.size, fun j hj hne => (hb.block j (Nat.lt_of_lt_of_le hj h.gr.size)).trans (h.gr.block j hj hne)⟩, h.nx, h.hg, h.hr, h.ne, h.ng, h.nr, h.old⟩
theorem Bx.alloc {w0 W : World} {base g r : Nat} {v0 v : Value} {s c s' c' : Int} {ls : Tri} (h : Bx w0 base v0 W g r s c s' c' v ls) (o : Obj) : Bx w0 base v0 (W.alloc o) g r s c s' c' v ls := h.below ((Below.refl _ _).alloc (Nat.le_refl _) _)
/-- what the blocks of others are behind what was done to the row -/
theorem Bx.after {w0 W w3 : World} {base g r : Nat} {v0 v v' : Value} {s c s' c' : Int} {ls ls' : Tri} (h : Bx w0 base v0 W g r s c s' c' v ls) (ho : Ot 66 base w3 v' ls') (hg : W.grownBy w3 v.ownBlock) (hn : Nxt W v v') :
    Blk w3 g (D5 s c s' c' v) 31 ∧ Blk w3 r (D5 0 0 0 0 (.slice none 0 0)) 31 ∧ w0.grownBy w3 v0.ownBlock ∧ Nxt w0 v0 v' ∧ v'.ownBlock ≠ some g ∧ v'.ownBlock ≠ some r := by
  refine ⟨h.box.grown hg h.ng, h.res.grown hg h.nr, ?_, h.nx.trans hn h.gr.size, fun e => ?_, fun e => ?_⟩
  · refine ⟨hg.os.trans h.gr.os, hg.tape.trans h.gr.tape, hg.output.trans h.gr.output, Nat.le_trans h.gr.size hg.size, fun j hj hne => ?_⟩
    refine (hg.block j (Nat.lt_of_lt_of_le hj h.gr.size) fun e => ?_).trans (h.gr.block j hj hne)
    rcases h.nx j e.symm with h1 | h1
    · exact hne h1.symm
    · omega
  · rcases hn g e with h1 | h1
    · exact h.ng h1
    · have := h.box.lt; omega
  · rcases hn r e with h1 | h1
    · exact h.nr h1
    · have := h.res.lt; omega
/-- the row is another -/
theorem Bx.way {w0 W w3 : World} {base g r : Nat} {v0 v v' : Value} {s c s' c' : Int} {ls ls' : Tri} (h : Bx w0 base v0 W g r s c s' c' v ls) (ho : Ot 66 base w3 v' ls') (hg : W.grownBy w3 v.ownBlock) (hn : Nxt W v v') : Bx w0 base v0 (w3.setCell ⟨g, 4, none⟩ v') g r s c s' c' v' ls' := by
  obtain ⟨k1, k2, k3, k4, k5, k6⟩ := h.after ho hg hn
  exact ⟨k1.set 4 v', k2.other _ _ (fun e => h.ne e.symm), ho.keepB (grown_set _ _ _ _) k5, grown_new k3 (grown_set _ _ _ _) h.hg, k4, h.hg, h.hr, h.ne, k5, k6, h.old⟩
/-- the duo is another -/
theorem Bx.put {w0 W w3 : World} {base g r : Nat} {v0 v v' : Value} {s c s' c' : Int} {ls ls' : Tri} (h : Bx w0 base v0 W g r s c s' c' v ls) (ho : Ot 66 base w3 v' ls') (hg : W.grownBy w3 v.ownBlock) (hn : Nxt W v v') (x y x' y' : Int) : Bx w0 base v0 (st5 w3 g x y x' y' v') g r x y x' y' v' ls' := by
  obtain ⟨k1, k2, k3, k4, k5, k6⟩ := h.after ho hg hn
  exact ⟨put5 k1 x y x' y' v', k2.grown (grown_put5 ..) (fun e => h.ne (by cases e; rfl)), ho.keepB (grown_put5 ..) k5, grown_new k3 (grown_put5 ..) h.hg, k4, h.hg, h.hr, h.ne, k5, k6, h.old⟩
theorem nxt_app {W : World} {o : Obj} {v v' : Value} (hb : v'.ownBlock = v.ownBlock ∨ v'.ownBlock = some (W.heap.size + 1)) : Nxt (W.alloc o) v v' := fun k e => by
  rcases hb with h1 | h1
  · exact .inl (h1 ▸ e)
  · rw [h1] at e; right; cases e; simp
theorem Bx.app {w0 W w3 : World} {base g r : Nat} {v0 v v' : Value} {s c s' c' : Int} {ls ls' : Tri} {o : Obj} (h : Bx w0 base v0 W g r s c s' c' v ls) (ho : Ot 66 base w3 v' ls') (hg : (W.alloc o).grownBy w3 v.ownBlock) (hb : v'.ownBlock = v.ownBlock ∨ v'.ownBlock = some (W.heap.size + 1)) : Blk w3 g (D5 s c s' c' v) 31 ∧ Bx w0 base v0 (w3.setCell ⟨g, 4, none⟩ v') g r s c s' c' v' ls' :=
  ⟨((h.alloc o).after ho hg (nxt_app hb)).1, (h.alloc o).way ho hg (nxt_app hb)⟩
/-- the answer: the duo as it is -/
theorem Bx.ret {w0 W : World} {base g r : Nat} {v0 v : Value} {s c s' c' : Int} {ls : Tri} (h : Bx w0 base v0 W g r s c s' c' v ls) : ∀ W5, st5 W r s c s' c' v = W5 → Blk W5 r (D5 s c s' c' v) 31 ∧ ((∀ ok, DuR base w0 v0 (s, c, s', c', ls) ok (.returned (.tuple #[.agg (D5 s c s' c' v), .bool ok])) W5) ∧ DuS base w0 v0 (s, c, s', c', ls) (.returned (.agg (D5 s c s' c' v))) W5) := by
  rintro _ rfl
  have h1 := h.own.keepB (grown_put5 W r s c s' c' v) h.nr
  have h2 := grown_new h.gr (grown_put5 W r s c s' c' v) h.hr
  exact ⟨put5 h.res s c s' c' v, fun ok => ⟨v, rfl, h1, h2, h.nx⟩, v, rfl, h1, h2, h.nx⟩
theorem Bx.retA {w0 W : World} {base g r : Nat} {v0 v : Value} {s c s' c' : Int} {ls : Tri} (h : Bx w0 base v0 W g r s c s' c' v ls) (o : Obj) : ∀ W5, (st5 W r s c s' c' v).alloc o = W5 → Blk W5 r (D5 s c s' c' v) 31 ∧ ((∀ ok, DuR base w0 v0 (s, c, s', c', ls) ok (.returned (.tuple #[.agg (D5 s c s' c' v), .bool ok])) W5) ∧ DuS base w0 v0 (s, c, s', c', ls) (.returned (.agg (D5 s c s' c' v))) W5) := by
  rintro _ rfl
  have hb : Below (st5 W r s c s' c' v).heap.size (st5 W r s c s' c' v) ((st5 W r s c s' c' v).alloc o) := (Below.refl _ _).alloc (Nat.le_refl _) _
  have h1 := (h.own.keepB (grown_put5 W r s c s' c' v) h.nr).below hb
  have h2 := grown_new h.gr (grown_put5 W r s c s' c' v) h.hr
  have h3 : w0.grownBy ((st5 W r s c s' c' v).alloc o) v0.ownBlock := ⟨hb.os.trans h2.os, hb.tape.trans h2.tape, hb.output.trans h2.output, Nat.le_trans h2.size hb.size, fun j hj hne => (hb.block j (Nat.lt_of_lt_of_le hj h2.size)).trans (h2.block j hj hne)⟩
  exact ⟨(put5 h.res s c s' c' v).alloc _, fun ok => ⟨v, rfl, h1, h3, h.nx⟩, v, rfl, h1, h3, h.nx⟩
/-- the answer: another duo, which a function handed back -/
theorem Bx.hand {w0 W w3 : World} {base g r : Nat} {v0 v v' : Value} {s c s' c' : Int} {ls ls' : Tri} (h : Bx w0 base v0 W g r s c s' c' v ls) (ho : Ot 66 base w3 v' ls') (hg : W.grownBy w3 v.ownBlock) (hn : Nxt W v v') (x y x' y' : Int) : Blk w3 r (D5 0 0 0 0 (.slice none 0 0)) 31 ∧ ∀ W5, st5 w3 r x y x' y' v' = W5 → Blk W5 r (D5 x y x' y' v') 31 ∧ ((∀ ok, DuR base w0 v0 (x, y, x', y', ls') ok (.returned (.tuple #[.agg (D5 x y x' y' v'), .bool ok])) W5) ∧ DuS base w0 v0 (x, y, x', y', ls') (.returned (.agg (D5 x y x' y' v'))) W5) := by
  obtain ⟨k1, k2, k3, k4, k5, k6⟩ := h.after ho hg hn
  refine ⟨k2, ?_⟩
  rintro _ rfl
  have h1 := ho.keepB (grown_put5 w3 r x y x' y' v') k6
  have h2 := grown_new k3 (grown_put5 w3 r x y x' y' v') h.hr
  exact ⟨put5 k2 x y x' y' v', fun ok => ⟨v', rfl, h1, h2, k4⟩, v', rfl, h1, h2, k4⟩

end Go.Proofs.Ytljejjfhlpjlfaa

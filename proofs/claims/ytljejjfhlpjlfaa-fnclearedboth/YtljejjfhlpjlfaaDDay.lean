/- The events of a day drawn; a duo held against another; no condition. -/
import Derived.Test.YtljejjfhlpjlfaaDr6
import Derived.Test.YtljejjfhlpjlfaaAgr
import Derived.Test.YtljejjfhlpjlfaaSeI
import Derived.Test.YtljejjfhlpjlfaaAg
import Derived.Test.YtljejjfhlpjlfaaEvT
import Derived.Test.YtljejjfhlpjlfaaOkM
import Derived.Test.YtljejjfhlpjlfaaRuB
import Derived.DeepKeys
import Derived.Laws.StructEq
namespace Go.Proofs.Ytljejjfhlpjlfaa
open Go.RowKit Go.ChangeShapes Go.WideShapes Go.ChangeAt
set_option linter.unusedVariables false
set_option linter.unusedSimpArgs false
set_option maxRecDepth 8000
theorem day_c (v : Value) (zs : List Int) (w : World) (h : Rd .u8 w v zs) (hok : ∀ z ∈ zs, 0 ≤ z ∧ z ≤ 255) (hlen : zs.length ≤ 1048576) :
    Calls Try.prog 11 #[v] w fun e w' => ∃ v' es, e = .returned v' ∧ (es : Mvs).length ≤ 120 ∧ Op mf mg 35 w.heap.size w' v' es ∧ Below w.heap.size w w' := by
  have HR : Hid (Rd .u8 w v zs) := h
  have HK : Hid (∀ z ∈ zs, 0 ≤ z ∧ z ≤ 255) := hok
  obtain ⟨a, cap, rfl, h1, h2, h3⟩ := h
  clear h1 h2 h3 hok
  go_enter Try.func11, Try.ntmps11
  go_wp2_with (fail)
  refine (new_c _ zs _ HR.out HK.out hlen).mono ?_
  rintro e w1 ⟨g, rfl, d1, hg1, b1⟩
  have HD1 : Hid (Dr w1 g (.slice a zs.length cap) zs) := d1
  have HB1 : Hid (Below w.heap.size w w1) := b1
  clear d1 b1
  go_wp2_with (fail)
  refine (size_c _ zs 20 w1 HD1.out.rd (by decide) (by decide)).mono ?_
  rintro e w2 ⟨x, rfl, x2, x20, hw2⟩
  subst hw2
  go_wp2_with (fail)
  refine (below_c g _ zs (6 * x) w2 HD1.out (by omega)).mono ?_
  rintro e w3 ⟨y, rfl, y0, y1, -, d3, g3⟩
  have y2 : y < 6 * x := y1 (by omega)
  have HD3 : Hid (Dr w3 g (.slice a zs.length cap) zs) := d3
  have HB3 : Hid (Below w.heap.size w w3) := HB1.out.grown g3 HB1.out.size (fun k e => by cases e; exact hg1)
  clear d3 g3 y1
  go_wp2_with (fail)
  refine (drawEv_c g _ zs y w3 HD3.out y0 (by omega)).mono ?_
  rintro e w4 ⟨v4, es, rfl, hl, ho, hd, hg⟩
  have hb : Below w.heap.size w w4 := HB3.out.grown hg HB3.out.size (fun k e => by cases e; exact hg1)
  have hl2 : es.length ≤ 120 := by omega
  have HF : Hid (es.length ≤ 120 ∧ Op mf mg 35 w.heap.size w4 v4 es ∧ Below w.heap.size w w4) := ⟨hl2, ho.mono HB3.out.size, hb⟩
  clear hl ho hd hg hb hl2
  go_wp2
  go_ret
  exact ⟨_, _, rfl, HF.out⟩
theorem stood27 : Try.prog.stoodInHeld 27 = false := by kernel_rfl
theorem und27 : Try.prog.underlying 27 = some (.struct (Try.prog.fieldsOf 27)) := by kernel_rfl
theorem fields27 : (Try.prog.fieldsOf 27).toList.map (fun f => (f.name == "_", f.type, f.offset)) = [(false, 3, 0), (false, 3, 1)] := by kernel_rfl
theorem part0 (a b : Value) (w : World) : (part 3 #[a, b] 0).run Try.prog w = .ok a w := by kernel_rfl
theorem part1 (a b : Value) (w : World) : (part 3 #[a, b] 1).run Try.prog w = .ok b w := by kernel_rfl
theorem hpart0 (a b c d : Value) (w : World) : (part 27 #[a, b, c, d] (0 * 2)).run Try.prog w = .ok (.agg #[a, b]) w := by kernel_rfl
theorem hpart1 (a b c d : Value) (w : World) : (part 27 #[a, b, c, d] (1 * 2)).run Try.prog w = .ok (.agg #[c, d]) w := by kernel_rfl
theorem cells27 : Try.prog.cellsOf 27 = 2 := by kernel_rfl
theorem halfEq (x y : Int) (d : Nat) (w : World) : (Op.equalIn (d + 1 + 1) 27 (.agg (H2 x y)) (.agg (H2 x y))).run Try.prog w = .ok true w := by
  rw [run_equalIn_struct w (d + 1) 27 _ _ und27 stood27]
  have hf := fields27
  have hl : (Try.prog.fieldsOf 27).toList.length = 2 := by simpa using congrArg List.length hf
  revert hf hl
  generalize (Try.prog.fieldsOf 27).toList = fs
  intro hf hl
  match fs, hl, hf with
  | [f0, f1], _, hf =>
    simp only [List.map_cons, List.map_nil, List.cons.injEq, Prod.mk.injEq, and_true] at hf
    obtain ⟨⟨n0, t0, o0⟩, ⟨n1, t1, o1⟩⟩ := hf
    have e0 : f0.name ≠ "_" := by simpa using n0
    have e1 : f1.name ≠ "_" := by simpa using n1
    have hi : ∀ a b : Int, (Op.equalIn (d + 1) 3 (.int .i64 a) (.int .i64 b)).run Try.prog w = .ok (a == b) w := fun a b => run_equalIn_int w d 3 .i64 .i64 a b Try.underlying3
    simp only [Op.eqFields, e0, e1, ne_eq, not_false_eq_true, if_true, t0, t1, o0, o1, Sem.run_bind, part0, part1, Result.andThen_ok, hi]
    simp [part1, hi]
theorem hpart1' (a b c d : Value) (w : World) : (part 27 #[a, b, c, d] 2).run Try.prog w = .ok (.agg #[c, d]) w := by kernel_rfl
theorem halfEq9 (x y : Int) (w : World) : (Op.equalIn 9999 27 (.agg (H2 x y)) (.agg (H2 x y))).run Try.prog w = .ok true w := halfEq x y 9997 w
theorem halvesEq (a b c d : Int) (w : World) : (Op.equalIn 10000 28 (.agg (H4 a b c d)) (.agg (H4 a b c d))).run Try.prog w = .ok true w := by
  obtain ⟨i0, hi, -⟩ := info_parts (show (Try.prog.info? 27).map (fun i => (i.zero, i.size, i.bytes)) = some (some (.agg #[.int .i64 0, .int .i64 0]), 2, 16) by kernel_rfl)
  rw [show (10000 : Nat) = 9997 + 1 + 1 + 1 from rfl, run_equalIn_array w _ (H4 a b c d) (H4 a b c d) Try.underlying28 hi, cells27]
  simp only [show List.range 2 = [0, 1] from rfl, Op.eqItems, Sem.run_bind, hpart0, hpart1, Result.andThen_ok, halfEq]
  simp [hpart1', halfEq9, Op.eqItems]
theorem guard28 : Try.prog.eqGuardType Try.prog.depth 28 = false := by kernel_rfl
theorem halvesNeq {o : Oper} {a : Act} (x y : Operand) (ho : o.op = .binOp .neq 28 x y 28) (p q r t : Int) (hx : a.eval x = .agg (H4 p q r t)) (hy : a.eval y = .agg (H4 p q r t)) (w : World) :
    (execOp a.eval o).run Try.prog w = .ok (.value (.bool false)) w := by
  simp only [execOp, ho, hx, hy, Sem.run_bind, run_eqGuard_agg w _ _ _ _ _ _ guard28, Result.andThen_ok, run_neq_struct, halvesEq, Sem.run_pure, Bool.not_true]
theorem halvesWp {o : Oper} {a : Act} {w : World} {K : Act → World → Prop} {Q : Exit → Act → World → Prop} (x y : Operand) (ho : o.op = .binOp .neq 28 x y 28) (p q r t : Int) (hx : a.eval x = .agg (H4 p q r t)) (hy : a.eval y = .agg (H4 p q r t))
    (h : K (a.put o.dst (.bool false)) w) : o.wp Try.prog a w K Q := wp_val _ (halvesNeq x y ho p q r t hx hy w) h
/-- the law's duo: its box, its row, the events -/
structure Ai (w W : World) (g : Nat) (s c s' c' : Int) (V : Value) (ls : Tri) (ve : Value) (es : Mvs) : Prop where
  bel : Below w.heap.size w W
  lo : w.heap.size ≤ g
  box : Blk W g (D5 s c s' c' V) 31
  own : Ot 66 (g + 1) W V ls
  ev : Rp mf mg W ve es
  evb : ∀ k, ve.ownBlock = some k → k < g
theorem Ai.below {w W W' : World} {g : Nat} {s c s' c' : Int} {V : Value} {ls : Tri} {ve : Value} {es : Mvs} (h : Ai w W g s c s' c' V ls ve es) (hb : Below W.heap.size W W') : Ai w W' g s c s' c' V ls ve es :=
  ⟨belowCall h.bel hb h.bel.size, h.lo, h.box.below hb h.box.lt, h.own.below hb, h.ev.below hb, h.evb⟩
theorem Ai.put {w W : World} {g : Nat} {s c s' c' : Int} {V : Value} {ls : Tri} {ve : Value} {es : Mvs} (h : Ai w W g s c s' c' V ls ve es) {V' : Value} {l' : Tri} (ho : Ot 66 (g + 1) W V' l') (t1 t2 t3 t4 : Int) : Ai w (st5 W g t1 t2 t3 t4 V') g t1 t2 t3 t4 V' l' ve es :=
  ⟨h.bel.trans (grown_below (grown_put5 ..) h.bel.size (fun k e => by cases e; exact h.lo)), h.lo, put5 h.box _ _ _ _ _, ho.keepB (grown_put5 ..) (fun e => by have := (World.ownsRow.lt ho _ e).1; omega), h.ev.grown (grown_put5 ..) (.inr (by
    cases hv : ve.ownBlock with
    | none => exact .inl rfl
    | some k => exact .inr (fun e => by have := h.evb k hv; have := Option.some.inj e; omega))), h.evb⟩
/-- a duo beside it -/
structure Aj (W : World) (g : Nat) (s c s' c' : Int) (V : Value) (ls : Tri) : Prop where
  box : Blk W g (D5 s c s' c' V) 31
  rd : Rt W V ls
theorem Aj.below {W W' : World} {g : Nat} {s c s' c' : Int} {V : Value} {ls : Tri} (h : Aj W g s c s' c' V ls) (hb : Below W.heap.size W W') : Aj W' g s c s' c' V ls := ⟨h.box.below hb h.box.lt, h.rd.below hb⟩
end Go.Proofs.Ytljejjfhlpjlfaa

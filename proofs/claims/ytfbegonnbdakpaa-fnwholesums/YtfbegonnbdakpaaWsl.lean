/- Helpers of the law of whole sums; no condition. -/
import Derived.Test.YtfbegonnbdakpaaExc
namespace Go.Proofs.Ytfbegonnbdakpaa
open Go.RowKit Go.ChangeShapes Go.WideShapes Go.ChangeAt
set_option linter.unusedVariables false
set_option linter.unusedSimpArgs false
set_option maxRecDepth 8000
theorem part30_0 (a b : Value) (w : World) : (part 28 #[a, b] 0).run Try.prog w = .ok a w := by kernel_rfl
theorem part30_1 (a b : Value) (w : World) : (part 28 #[a, b] 1).run Try.prog w = .ok b w := by kernel_rfl
theorem guard30 : Try.prog.eqGuardType Try.prog.depth 30 = false := by kernel_rfl
theorem stood30 : Try.prog.stoodInHeld 30 = false := by kernel_rfl
theorem fields30 : (Try.prog.fieldsOf 30).toList.map (fun f => (f.name == "_", f.type, f.offset)) = [(false, 28, 0), (false, 28, 1)] := by kernel_rfl
theorem under30 : Try.prog.underlying 30 = some (.struct (Try.prog.fieldsOf 30)) := by kernel_rfl
theorem eqF (x : Nat) (h : fnan .f64 x = false) (w : World) (d : Nat) : (Op.equalIn (d + 1) 28 (.float .f64 x) (.float .f64 x)).run Try.prog w = .ok true w := by
  have ho := order_self h
  have hq : Op.floatEq .f64 x x = true := by
    unfold Op.floatEq
    first
      | (rw [ho]; rfl)
      | simp [ho]
  simp [Op.equalIn, run_underlying Try.underlying28, hq]
theorem narI_c (s t : Bool) (m n : Nat) (hm : m < 16777216) (hn : n < 16777216) (w : World) : Calls Try.prog 23 #[.agg #[.float .f64 (wN .f64 s m), .float .f64 (wN .f64 t n)]] w fun e w' => e = .returned (.agg #[.float .f32 (wN .f32 s m), .float .f32 (wN .f32 t n)]) ∧ Below w.heap.size w w' := by
  have hsf := storeF
  have hcv : ∀ w : World, (convert 78 77 (.complex .f64 (wN .f64 s m) (wN .f64 t n))).run Try.prog w = .ok (.complex .f32 (wN .f32 s m) (wN .f32 t n)) w := fun w => by
    simp [convert, run_underlying Try.underlying78, run_underlying Try.underlying77, Conv.complexToComplex, run_nar _ _ hm, run_nar _ _ hn]
  obtain ⟨x, hx⟩ : ∃ x, wN .f64 s m = x := ⟨_, rfl⟩
  obtain ⟨y, hy⟩ : ∃ y, wN .f64 t n = y := ⟨_, rfl⟩
  obtain ⟨p, hp⟩ : ∃ x, wN .f32 s m = x := ⟨_, rfl⟩
  obtain ⟨q, hq⟩ : ∃ y, wN .f32 t n = y := ⟨_, rfl⟩
  rw [hx, hy, hp, hq] at hcv
  rw [hx, hy, hp, hq]
  clear hx hy hp hq
  obtain ⟨W0, hW0⟩ : ∃ W, (w.alloc (Obj.cells #[.float .f64 x, .float .f64 y] 30)).alloc (Obj.cells #[.float .f32 0, .float .f32 0] 26) = W := ⟨_, rfl⟩
  have HW0 : Hid ((w.alloc (Obj.cells #[.float .f64 x, .float .f64 y] 30)).alloc (Obj.cells #[.float .f32 0, .float .f32 0] 26) = W0) := hW0
  have HB0 : Hid (Below w.heap.size w W0) := by rw [← hW0]; exact ((Below.refl _ _).alloc (Nat.le_refl _) _).alloc (by simp) _
  have HK0 : Hid (Blk W0 (w.heap.size + 1) #[.float .f32 0, .float .f32 0] 26) := by rw [← hW0]; exact Blk.newAt _ _ _ _ (by simp)
  clear hW0
  go_enter Try.func23, Try.ntmps23
  go_wp2_with (fail)
  rw [HW0.out]
  refine (inDouble_c x y _).mono ?_
  rintro e w1 ⟨rfl, b1⟩
  have HB1 : Hid (Below W0.heap.size W0 w1) := b1
  clear b1
  go_wp2_with (fail)
  refine (sampleOf_c _ _ _).mono ?_
  rintro e w2 ⟨rfl, b2⟩
  have HB2 : Hid (Below W0.heap.size W0 w2) := belowCall HB1.out b2 HB1.out.size
  have HK3 := HK0.out.below HB2.out HK0.out.lt
  have HK4 : Hid (Blk w2 (w.heap.size + 1) #[.float .f32 0, .float .f32 0] 26) := HK3
  have z0 := HK3.cell 0
  have z1 := HK3.cell 1
  have f0 := HK3.frozen 0
  have f1 := HK3.frozen 1
  simp at z0 z1
  clear b2 HK3
  go_wp2
  exact bodyPost_ret (results_cell_row rfl _ _ _ 26 _ (0, 0) _ rfl (Blk.set2 HK4.out _ _) Try.underlying26 rfl sz26) rfl ⟨rfl, below_set2 (belowCall HB0.out HB2.out HB0.out.size) _ (by omega) _ _⟩
theorem alike_c (x y : Nat) (hx : fnan .f32 x = false) (hy : fnan .f32 y = false) (w : World) : Calls Try.prog 24 #[.agg #[.float .f32 x, .float .f32 y], .agg #[.float .f32 x, .float .f32 y]] w fun e w' => e = .returned (.bool true) ∧ Below w.heap.size w w' := by
  have HB : Hid (Below w.heap.size w ((w.alloc (Obj.cells #[.float .f32 x, .float .f32 y] 26)).alloc (Obj.cells #[.float .f32 x, .float .f32 y] 26))) := ((Below.refl _ _).alloc (Nat.le_refl _) _).alloc (by simp) _
  have o1 := order_self hx
  have o2 := order_self hy
  clear hx hy
  go_enter Try.func24, Try.ntmps24
  go_wp2
  go_ret
  exact ⟨rfl, HB.out⟩
theorem widX_c (x y : Nat) (hx : fnan .f32 x = false) (hy : fnan .f32 y = false) (w : World) : Calls Try.prog 25 #[.agg #[.float .f32 x, .float .f32 y]] w fun e w' => e = .returned (.agg #[.float .f64 (wid x), .float .f64 (wid y)]) ∧ Below w.heap.size w w' := by
  refine (widI_c x y w).mono ?_
  rintro e w' ⟨a, b, rfl, ha, hb, bl⟩
  rw [fc_some hx] at ha
  rw [fc_some hy] at hb
  rw [fc_eq ha, fc_eq hb]
  exact ⟨rfl, bl⟩
theorem widY_c (x y : Nat) (hx : fnan .f32 x = false) (hy : fnan .f32 y = false) (w : World) : Calls Try.prog 31 #[.agg #[.float .f32 x, .float .f32 y]] w fun e w' => e = .returned (.agg #[.float .f64 (wid x), .float .f64 (wid y)]) ∧ Below w.heap.size w w' := by
  refine (widM_c x y w).mono ?_
  rintro e w' ⟨a, b, rfl, ha, hb, bl⟩
  rw [fc_some hx] at ha
  rw [fc_some hy] at hb
  rw [fc_eq ha, fc_eq hb]
  exact ⟨rfl, bl⟩
theorem eqW (x y : Nat) (hx : fnan .f64 x = false) (hy : fnan .f64 y = false) (w : World) : (Op.equalIn 10000 30 (.agg #[.float .f64 x, .float .f64 y]) (.agg #[.float .f64 x, .float .f64 y])).run Try.prog w = .ok true w := by
  have hf := fields30
  rw [show (10000 : Nat) = 9998 + 1 + 1 from rfl, run_equalIn_struct w _ 30 _ _ under30 stood30]
  generalize (Try.prog.fieldsOf 30).toList = L at hf ⊢
  obtain ⟨f0, f1, rfl⟩ : ∃ f0 f1, L = [f0, f1] := by
    have hl := congrArg List.length hf
    simp only [List.length_map, List.length_cons, List.length_nil] at hl
    match L, hl with
    | [a, b], _ => exact ⟨a, b, rfl⟩
  simp at hf
  obtain ⟨⟨n0, t0, o0⟩, n1, t1, o1⟩ := hf
  simp [Op.eqFields, n0, n1, t0, o0, t1, o1, part30_0, part30_1, eqF x hx, eqF y hy]
end Go.Proofs.Ytfbegonnbdakpaa

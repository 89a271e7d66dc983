/- What the two tables hold when a call begins; no condition. -/
import Derived.Test.YtgdejlofkjdkoaaDoorTon
import Derived.Test.YtgdejlofkjdkoaaDoorTie
import Derived.Test.YtgdejlofkjdkoaaDoorCards
import Derived.OpenVars
import Derived.LaidMore
import Derived.Stop.Joined
import Derived.LaidLaws
import Derived.SevenTiedAt
import Derived.ChangeVars
import Derived.OpenShut
namespace Go.Proofs.YtgdejlofkjdkoaaDoor
open Go.RowKit Go.ChangeShapes Go.WideShapes Go.ChangeAt
set_option linter.unusedVariables false
set_option linter.unusedSimpArgs false
set_option maxRecDepth 8000

open Go.WideElems
theorem cells3 : Tryd.prog.cellsOf 3 = 1 := by kernel_rfl
theorem cellsA4 : Tryd.prog.cellsOf 43 = 4 := by kernel_rfl
theorem g_rowSteps : Tryd.prog.globalNamed "loop.example/g00052/impl.rowSteps" = some 0 := by kernel_rfl
theorem t_rowSteps : (Tryd.prog.globals[0]?).map (·.type) = some 43 := by kernel_rfl
theorem of_rowSteps {W : World} {cs : Array Value} {fuel : Nat} {p : List MemPlace} (hv : W.var? Tryd.prog "loop.example/g00052/impl.rowSteps" = some cs) (hd : DataW.trod (fun _ => ()) Tryd.prog W 0 (fun _ => true) false fuel 43 cs.toList = some (Rows.laid_loop_example_g00052_impl_rowSteps, p)) : ∀ q : Nat, q < 4 → W.cell? ⟨0, q, none⟩ = some (.int .i64 (12 + 2 * q)) := by
  obtain ⟨xs, k, -, hxy, hl, hxl, hf⟩ := DataW.trod_array Tryd.underlying43 hd
  rw [cellsA4] at hl
  obtain ⟨l⟩ := cs
  simp only [Rows.laid_loop_example_g00052_impl_rowSteps, Prod.mk.injEq, DataW.agg.injEq] at hxy
  match xs, hxl, l, hl with
  | [x0, x1, x2, x3], _, [v0, v1, v2, v3], _ =>
    have r0 := hf 0 (by decide)
    have r1 := hf 1 (by decide)
    have r2 := hf 2 (by decide)
    have r3 := hf 3 (by decide)
    simp [cells3] at r0 r1 r2 r3
    obtain ⟨z0, t0, u0, -⟩ := DataW.trod_int Tryd.underlying3 r0
    obtain ⟨z1, t1, u1, -⟩ := DataW.trod_int Tryd.underlying3 r1
    obtain ⟨z2, t2, u2, -⟩ := DataW.trod_int Tryd.underlying3 r2
    obtain ⟨z3, t3, u3, -⟩ := DataW.trod_int Tryd.underlying3 r3
    simp at t0 t1 t2 t3
    subst t0 t1 t2 t3
    have hx := hxy.1
    rw [u0, u1, u2, u3] at hx
    simp at hx
    obtain ⟨rfl, rfl, rfl, rfl⟩ := hx
    have hcell : ∀ q, W.cell? ⟨0, q, none⟩ = _ := World.var?_cell g_rowSteps hv
    intro q hq
    match q, hq with
    | 0, _ => have := hcell 0; simpa using this
    | 1, _ => have := hcell 1; simpa using this
    | 2, _ => have := hcell 2; simpa using this
    | 3, _ => have := hcell 3; simpa using this
theorem g_columnSteps : Tryd.prog.globalNamed "loop.example/g00052/impl.columnSteps" = some 1 := by kernel_rfl
theorem t_columnSteps : (Tryd.prog.globals[1]?).map (·.type) = some 43 := by kernel_rfl
theorem of_columnSteps {W : World} {cs : Array Value} {fuel : Nat} {p : List MemPlace} (hv : W.var? Tryd.prog "loop.example/g00052/impl.columnSteps" = some cs) (hd : DataW.trod (fun _ => ()) Tryd.prog W 0 (fun _ => true) false fuel 43 cs.toList = some (Rows.laid_loop_example_g00052_impl_columnSteps, p)) : ∀ q : Nat, q < 4 → W.cell? ⟨1, q, none⟩ = some (.int .i64 (22 + 4 * q)) := by
  obtain ⟨xs, k, -, hxy, hl, hxl, hf⟩ := DataW.trod_array Tryd.underlying43 hd
  rw [cellsA4] at hl
  obtain ⟨l⟩ := cs
  simp only [Rows.laid_loop_example_g00052_impl_columnSteps, Prod.mk.injEq, DataW.agg.injEq] at hxy
  match xs, hxl, l, hl with
  | [x0, x1, x2, x3], _, [v0, v1, v2, v3], _ =>
    have r0 := hf 0 (by decide)
    have r1 := hf 1 (by decide)
    have r2 := hf 2 (by decide)
    have r3 := hf 3 (by decide)
    simp [cells3] at r0 r1 r2 r3
    obtain ⟨z0, t0, u0, -⟩ := DataW.trod_int Tryd.underlying3 r0
    obtain ⟨z1, t1, u1, -⟩ := DataW.trod_int Tryd.underlying3 r1
    obtain ⟨z2, t2, u2, -⟩ := DataW.trod_int Tryd.underlying3 r2
    obtain ⟨z3, t3, u3, -⟩ := DataW.trod_int Tryd.underlying3 r3
    simp at t0 t1 t2 t3
    subst t0 t1 t2 t3
    have hx := hxy.1
    rw [u0, u1, u2, u3] at hx
    simp at hx
    obtain ⟨rfl, rfl, rfl, rfl⟩ := hx
    have hcell : ∀ q, W.cell? ⟨1, q, none⟩ = _ := World.var?_cell g_columnSteps hv
    intro q hq
    match q, hq with
    | 0, _ => have := hcell 0; simpa using this
    | 1, _ => have := hcell 1; simpa using this
    | 2, _ => have := hcell 2; simpa using this
    | 3, _ => have := hcell 3; simpa using this

def laidC : List (String × DataW Unit) := [("loop.example/g00052/impl.rowSteps", Rows.laid_loop_example_g00052_impl_rowSteps), ("loop.example/g00052/impl.columnSteps", Rows.laid_loop_example_g00052_impl_columnSteps)]
theorem of_laidC {W : World} (h : laidMetH Tryd.prog laidC W) : RcG W := by
  rw [MakeChecks.laidMetH_plain _ _ _ (by kernel_rfl)] at h
  obtain ⟨ps, ⟨g0, t0, cs0, f0, p0, q0, hg0, ht0, hv0, hd0, ⟨g1, t1, cs1, f1, p1, q1, hg1, ht1, hv1, hd1, -, -⟩, -⟩, -, -⟩ := h
  obtain rfl := Option.some.inj (g_rowSteps.symm.trans hg0)
  obtain rfl := Option.some.inj (t_rowSteps.symm.trans ht0)
  obtain rfl := Option.some.inj (g_columnSteps.symm.trans hg1)
  obtain rfl := Option.some.inj (t_columnSteps.symm.trans ht1)
  exact ⟨of_rowSteps hv0 hd0, of_columnSteps hv1 hd1⟩
theorem door_metC (os : Os) (args : Array Value) : laidMetH Tryd.prog laidC ((World.doorLaid Tryd.prog 400 os).forCall (fun _ _ => 0) ⟨#[], args, []⟩).memory :=
  laidMetH_of_parts3 (fuel := 8) (laidMet_of_run' 8 (by kernel_rfl) (by kernel_rfl)) (by kernel_rfl) (by kernel_rfl)

end Go.Proofs.YtgdejlofkjdkoaaDoor

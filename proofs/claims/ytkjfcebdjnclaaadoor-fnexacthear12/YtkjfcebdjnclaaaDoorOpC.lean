/- What the table holds when a call begins, and coders opened; no condition. -/
import Derived.Test.YtkjfcebdjnclaaaDoorCbh
import Derived.Test.YtkjfcebdjnclaaaDoorOpp
import Derived.Test.YtkjfcebdjnclaaaDoorTie
import Derived.Test.YtkjfcebdjnclaaaDoorCards
import Derived.OpenVars
import Derived.LaidMore
import Derived.Stop.Joined
import Derived.LaidLaws
import Derived.SevenTiedAt
import Derived.ChangeVars
namespace Go.Proofs.YtkjfcebdjnclaaaDoor
open Go.RowKit Go.ChangeShapes Go.WideShapes Go.ChangeAt
set_option linter.unusedVariables false
set_option linter.unusedSimpArgs false
set_option maxRecDepth 8000

open Go.WideElems
theorem gCh : Tryd.prog.globalNamed "loop.example/g00052/impl.stepChanges" = some 0 := by kernel_rfl
theorem tCh : (Tryd.prog.globals[0]?).map (·.type) = some 111 := by kernel_rfl
theorem cellsA8 : Tryd.prog.cellsOf 111 = 8 := by kernel_rfl
theorem cellsLc : Tryd.prog.cellsOf 52 = 2 := by kernel_rfl
/-- what the variable reads as tells its cells -/
theorem ch_of_trod {W : World} {cs : Array Value} {fuel : Nat} {p : List MemPlace} (hv : W.var? Tryd.prog "loop.example/g00052/impl.stepChanges" = some cs) (hd : DataW.trod (fun _ => ()) Tryd.prog W 0 (fun _ => true) false fuel 111 cs.toList = some (Rows.laid_loop_example_g00052_impl_stepChanges, p)) : ChG W := by
  obtain ⟨xs, k, -, hxy, hl, hxl, hf⟩ := DataW.trod_array Tryd.underlying111 hd
  rw [cellsA8] at hl
  obtain ⟨l⟩ := cs
  simp only [Rows.laid_loop_example_g00052_impl_stepChanges, Prod.mk.injEq, DataW.agg.injEq] at hxy
  match xs, hxl, l, hl with
  | [x0, x1, x2, x3, x4, x5, x6, x7], _, [v0, v1, v2, v3, v4, v5, v6, v7], _ =>
    have r0 := hf 0 (by decide)
    have r1 := hf 1 (by decide)
    have r2 := hf 2 (by decide)
    have r3 := hf 3 (by decide)
    have r4 := hf 4 (by decide)
    have r5 := hf 5 (by decide)
    have r6 := hf 6 (by decide)
    have r7 := hf 7 (by decide)
    simp [cells3] at r0 r1 r2 r3 r4 r5 r6 r7
    obtain ⟨z0, t0, u0, -⟩ := DataW.trod_int Tryd.underlying3 r0
    obtain ⟨z1, t1, u1, -⟩ := DataW.trod_int Tryd.underlying3 r1
    obtain ⟨z2, t2, u2, -⟩ := DataW.trod_int Tryd.underlying3 r2
    obtain ⟨z3, t3, u3, -⟩ := DataW.trod_int Tryd.underlying3 r3
    obtain ⟨z4, t4, u4, -⟩ := DataW.trod_int Tryd.underlying3 r4
    obtain ⟨z5, t5, u5, -⟩ := DataW.trod_int Tryd.underlying3 r5
    obtain ⟨z6, t6, u6, -⟩ := DataW.trod_int Tryd.underlying3 r6
    obtain ⟨z7, t7, u7, -⟩ := DataW.trod_int Tryd.underlying3 r7
    simp at t0 t1 t2 t3 t4 t5 t6 t7
    subst t0 t1 t2 t3 t4 t5 t6 t7
    have hx := hxy.1
    rw [u0, u1, u2, u3, u4, u5, u6, u7] at hx
    simp at hx
    obtain ⟨rfl, rfl, rfl, rfl, rfl, rfl, rfl, rfl⟩ := hx
    have hcell : ∀ q, W.cell? ⟨0, q, none⟩ = _ := World.var?_cell gCh hv
    intro q hq
    match q, hq with
    | 0, _ => have := hcell 0; simpa [chF] using this
    | 1, _ => have := hcell 1; simpa [chF] using this
    | 2, _ => have := hcell 2; simpa [chF] using this
    | 3, _ => have := hcell 3; simpa [chF] using this
    | 4, _ => have := hcell 4; simpa [chF] using this
    | 5, _ => have := hcell 5; simpa [chF] using this
    | 6, _ => have := hcell 6; simpa [chF] using this
    | 7, _ => have := hcell 7; simpa [chF] using this
def laidC : List (String × DataW Unit) := [("loop.example/g00052/impl.stepChanges", Rows.laid_loop_example_g00052_impl_stepChanges)]
theorem of_laidC {W : World} (h : laidMetH Tryd.prog laidC W) : ChG W := by
  rw [MakeChecks.laidMetH_plain _ _ _ (by kernel_rfl)] at h
  obtain ⟨ps, ⟨g0, t0, cs0, f0, p0, q0, hg0, ht0, hv0, hd0, -, -⟩, -, -⟩ := h
  obtain rfl := Option.some.inj (gCh.symm.trans hg0)
  obtain rfl := Option.some.inj (tCh.symm.trans ht0)
  exact ch_of_trod hv0 hd0
theorem door_metC (os : Os) (args : Array Value) : laidMetH Tryd.prog laidC ((World.doorLaid Tryd.prog 400 os).forCall (fun _ _ => 0) ⟨#[], args, []⟩).memory :=
  laidMetH_of_parts3 (fuel := 8) (laidMet_of_run' 8 (by kernel_rfl) (by kernel_rfl)) (by kernel_rfl) (by kernel_rfl)
theorem openCoder {H : Type} {enc : TypeId × Value → H} {W : World} {base : Nat} {held : Bool} {v : Value} {d : DataW H} {p : List MemPlace} {r : Reach} {b0 : Nat} (hval : Value.okWide Tryd.prog W r b0 52 v) (h : DataW.Trod enc Tryd.prog W base (fun _ => true) held 52 v d p) : ∃ c : Int × Int, v = .agg (cdA c) := by
  obtain ⟨cells, rfl, hsz⟩ := okWide_struct (P := Tryd.prog) (t := 52) Tryd.underlying52 hval
  obtain ⟨fuel, hf⟩ := h
  obtain ⟨xs, k, -, -, hl, hxl, hx⟩ := DataW.trod_struct Tryd.underlying52 hf
  rw [cellsLc] at hsz
  obtain ⟨l⟩ := cells
  simp [Value.cells] at hl hsz
  match l, hsz with
  | [c0, c1], _ =>
    have g0 := hx 0 _ rfl
    have g1 := hx 1 _ rfl
    simp [cells3, Value.cells] at g0 g1
    rw [List.getElem?_eq_getElem (by rw [hxl]; decide)] at g0 g1
    obtain ⟨i0, f0, -⟩ := DataW.trod_int Tryd.underlying3 g0
    obtain ⟨i1, f1, -⟩ := DataW.trod_int Tryd.underlying3 g1
    simp at f0 f1
    subst f0 f1
    exact ⟨(i0, i1), rfl⟩

end Go.Proofs.YtkjfcebdjnclaaaDoor

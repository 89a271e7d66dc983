/- What the package's variables hold when a call begins; no condition. -/
import Derived.Test.YtikhfeafbckjlaaDoorFPath
import Derived.Test.YtikhfeafbckjlaaDoorOpenF
import Derived.Test.YtikhfeafbckjlaaDoorTie
import Derived.Test.YtikhfeafbckjlaaDoorCards
import Derived.OpenVars
import Derived.LaidMore
import Derived.Stop.Joined
import Derived.LaidLaws
import Derived.SevenTiedAt
import Derived.ChangeVars
namespace Go.Proofs.YtikhfeafbckjlaaDoor
open Go.RowKit Go.ChangeShapes Go.WideShapes Go.ChangeAt
set_option linter.unusedVariables false
set_option linter.unusedSimpArgs false
set_option maxRecDepth 8000
open Go.WideElems
theorem gNo : Tryd.prog.globalNamed "loop.example/g00052/impl.noPath" = some 0 := by kernel_rfl
theorem tNo : (Tryd.prog.globals[0]?).map (·.type) = some 35 := by kernel_rfl
theorem cells35 : Tryd.prog.cellsOf 35 = 3 := by kernel_rfl
/-- what the variable reads as tells its cells -/
theorem no_of_trod {W : World} {cs : Array Value} {fuel : Nat} {p : List MemPlace} (hv : W.var? Tryd.prog "loop.example/g00052/impl.noPath" = some cs) (hd : DataW.trod (fun _ => ()) Tryd.prog W 0 (fun _ => true) false fuel 35 cs.toList = some (Rows.laid_loop_example_g00052_impl_noPath, p)) : NoP W := by
  obtain ⟨xs, k, -, hxy, hl, hxl, hf⟩ := DataW.trod_struct Tryd.underlying35 hd
  rw [cells35] at hl
  obtain ⟨l⟩ := cs
  simp only [Rows.laid_loop_example_g00052_impl_noPath, Prod.mk.injEq, DataW.agg.injEq] at hxy
  match xs, hxl, l, hl with
  | [x0, x1, x2], _, [v0, v1, v2], _ =>
    have r0 := hf 0 _ rfl
    have r1 := hf 1 _ rfl
    have r2 := hf 2 _ rfl
    simp [cells3] at r0 r1 r2
    obtain ⟨z0, t0, u0, -⟩ := DataW.trod_int Tryd.underlying3 r0
    obtain ⟨z1, t1, u1, -⟩ := DataW.trod_int Tryd.underlying3 r1
    obtain ⟨z2, t2, u2, -⟩ := DataW.trod_int Tryd.underlying3 r2
    simp at t0 t1 t2
    subst t0 t1 t2
    have hx := hxy.1
    rw [u0, u1, u2] at hx
    simp at hx
    obtain ⟨rfl, rfl, rfl⟩ := hx
    have c0 := World.var?_cell gNo hv 0
    have c1 := World.var?_cell gNo hv 1
    have c2 := World.var?_cell gNo hv 2
    exact ⟨by simpa using c0, by simpa using c1, by simpa using c2⟩
def laid1 : List (String × DataW Unit) := [("loop.example/g00052/impl.noPath", Rows.laid_loop_example_g00052_impl_noPath)]
theorem of_laid1 {W : World} (h : laidMetH Tryd.prog laid1 W) : NoP W := by
  rw [MakeChecks.laidMetH_plain _ _ _ (by kernel_rfl)] at h
  obtain ⟨ps, ⟨g0, t0, cs0, f0, p0, q0, hg0, ht0, hv0, hd0, -, -⟩, -, -⟩ := h
  obtain rfl := Option.some.inj (gNo.symm.trans hg0)
  obtain rfl := Option.some.inj (tNo.symm.trans ht0)
  exact no_of_trod hv0 hd0
theorem door_met1 (os : Os) (args : Array Value) : laidMetH Tryd.prog laid1 ((World.doorLaid Tryd.prog 400 os).forCall (fun _ _ => 0) ⟨#[], args, []⟩).memory :=
  laidMetH_of_parts3 (fuel := 8) (laidMet_of_run' 8 (by kernel_rfl) (by kernel_rfl)) (by kernel_rfl) (by kernel_rfl)
end Go.Proofs.YtikhfeafbckjlaaDoor

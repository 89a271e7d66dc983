/- What both variables hold when a call begins: noPath and the library's table; no condition. -/
import Derived.Test.YtikhfeafbckjlaaDoorOpenV
import Derived.Test.YtikhfeafbckjlaaDoorFTz
namespace Go.Proofs.YtikhfeafbckjlaaDoor
open Go.RowKit Go.ChangeShapes Go.WideShapes Go.ChangeAt
set_option linter.unusedVariables false
set_option linter.unusedSimpArgs false
set_option maxRecDepth 8000
open Go.WideElems
theorem gTab : Tryd.prog.globalNamed "math/bits.deBruijn32tab" = some 1 := by kernel_rfl
theorem tTab : (Tryd.prog.globals[1]?).map (·.type) = some 99 := by kernel_rfl
theorem cells5 : Tryd.prog.cellsOf 5 = 1 := by kernel_rfl
theorem cells99 : Tryd.prog.cellsOf 99 = 32 := by kernel_rfl
theorem laidTab_eq : (Rows.laid_math_bits_deBruijn32tab : DataW Unit) = .agg (Lib.deBruijn32tab.map fun n : Nat => .lit (.int .u8 (n : Int))) := rfl
theorem tab_of_trod {W : World} {cs : Array Value} {fuel : Nat} {p : List MemPlace} (hv : W.var? Tryd.prog "math/bits.deBruijn32tab" = some cs) (hd : DataW.trod (fun _ => ()) Tryd.prog W 0 (fun _ => true) false fuel 99 cs.toList = some (Rows.laid_math_bits_deBruijn32tab, p)) : Tab W := by
  obtain ⟨xs, m1, -, hx1, hlen, hn, hel⟩ := DataW.trod_array Tryd.underlying99 hd
  rw [laidTab_eq] at hx1
  simp only [Prod.mk.injEq, DataW.agg.injEq] at hx1
  intro j hj
  have hj' : j < xs.length := by rw [hn]; exact hj
  have h0 := hel j hj
  rw [cells5, Nat.mul_one, List.getElem?_eq_getElem hj'] at h0
  obtain ⟨k, e1, e2, -⟩ := DataW.trod_int Tryd.underlying5 h0
  have hx := congrArg (fun l => l[j]?) hx1.1
  simp only [List.getElem?_map, List.getElem?_eq_getElem hj', Option.map_some] at hx
  have hl : Lib.deBruijn32tab.length = 32 := by decide
  rw [List.getElem?_eq_getElem (by rw [hl]; exact hj), e2] at hx
  simp only [Option.map_some, Option.some.injEq, DataW.lit.injEq, Lit.int.injEq, true_and] at hx
  have hc := World.var?_cell gTab hv j
  have hcl : j < cs.toList.length := by rw [hlen, cells99]; exact hj
  have e3 : cs[j]? = some (.int .u8 k) := by
    rw [List.drop_eq_getElem_cons hcl] at e1
    simp at e1
    have : j < cs.size := by simpa using hcl
    rw [Array.getElem?_eq_getElem this, e1]
  rw [hc, e3, ← hx]
  have : Lib.deBruijn32tab.getD j 0 = Lib.deBruijn32tab[j]'(by rw [hl]; exact hj) := by rw [List.getD_eq_getElem?_getD, List.getElem?_eq_getElem (by rw [hl]; exact hj)]; rfl
  rw [this]
def laid2 : List (String × DataW Unit) := [("math/bits.deBruijn32tab", Rows.laid_math_bits_deBruijn32tab), ("loop.example/g00052/impl.noPath", Rows.laid_loop_example_g00052_impl_noPath)]
theorem of_laid2 {W : World} (h : laidMetH Tryd.prog laid2 W) : NoP W ∧ Tab W := by
  rw [MakeChecks.laidMetH_plain _ _ _ (by kernel_rfl)] at h
  obtain ⟨ps, ⟨g0, t0, cs0, f0, p0, q0, hg0, ht0, hv0, hd0, ⟨g1, t1, cs1, f1, p1, q1, hg1, ht1, hv1, hd1, -, -⟩, -⟩, -, -⟩ := h
  obtain rfl := Option.some.inj (gTab.symm.trans hg0)
  obtain rfl := Option.some.inj (tTab.symm.trans ht0)
  obtain rfl := Option.some.inj (gNo.symm.trans hg1)
  obtain rfl := Option.some.inj (tNo.symm.trans ht1)
  exact ⟨no_of_trod hv1 hd1, tab_of_trod hv0 hd0⟩
theorem door_met2 (os : Os) (args : Array Value) : laidMetH Tryd.prog laid2 ((World.doorLaid Tryd.prog 400 os).forCall (fun _ _ => 0) ⟨#[], args, []⟩).memory :=
  laidMetH_of_parts3 (fuel := 8) (laidMet_of_run' 8 (by kernel_rfl) (by kernel_rfl)) (by kernel_rfl) (by kernel_rfl)
end Go.Proofs.YtikhfeafbckjlaaDoor

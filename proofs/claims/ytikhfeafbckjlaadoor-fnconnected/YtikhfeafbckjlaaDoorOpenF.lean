/- An argument that is a fabric, opened: it reads as three numbers and paths; no condition. -/
import Derived.Test.YtikhfeafbckjlaaDoorPth
import Derived.Deep.SlicePairs
import Derived.Test.YtikhfeafbckjlaaDoorFPath
import Derived.Test.YtikhfeafbckjlaaDoorTie
import Derived.Test.YtikhfeafbckjlaaDoorCards
import Derived.OpenVars
import Derived.LaidMore
import Derived.Stop.Joined
import Derived.LaidLaws
import Derived.SevenTiedAt
import Derived.ChangeVars
import Derived.Test.YtikhfeafbckjlaaDoorFTz
namespace Go.Proofs.YtikhfeafbckjlaaDoor
open Go.RowKit Go.ChangeShapes Go.WideShapes Go.ChangeAt
set_option linter.unusedVariables false
set_option linter.unusedSimpArgs false
set_option maxRecDepth 8000
theorem cells44 : Tryd.prog.cellsOf 96 = 3 := by kernel_rfl
theorem cells3 : Tryd.prog.cellsOf 3 = 1 := by kernel_rfl
theorem cells22 : Tryd.prog.cellsOf 41 = 1 := by kernel_rfl
theorem cells24 : Tryd.prog.cellsOf 43 = 4 := by kernel_rfl
theorem addr_add (b off : Nat) (k : Nat) : (⟨b, off, none⟩ : Addr).add k = ⟨b, off + k, none⟩ := by unfold Addr.add; split <;> simp_all
section
variable {H : Type} {enc : TypeId × Value → H} {W : World} {base : Nat} {held : Bool}
theorem openPaths {fuel : Nat} {v : Value} {x : DataW H × List MemPlace} (h : DataW.trod enc Tryd.prog W base (fun _ => true) held fuel 41 [v] = some x) : ∃ ls, Rt W v ls := by
  rcases Go.Deep.open_slice Tryd.underlying41 h with ⟨hcs, _⟩ | ⟨a, len, cap, m, n, D, Pl, hcs, _, hl, hm, hmm, _, hx⟩
  · simp at hcs; subst hcs
    exact ⟨[], none, 0, rfl, by simp, by simp, .inl rfl⟩
  · simp at hcs; subst hcs
    have hmc : m = cap := by simpa using hmm
    subst hmc
    have each : ∀ i, i < len → ∃ q : Int × Int × Int, W.cell? (a.add (i * 3)) = some (.int .i64 q.1) ∧ W.cell? (a.add (i * 3 + 1)) = some (.int .i64 q.2.1) ∧ W.cell? (a.add (i * 3 + 2)) = some (.int .i64 q.2.2) := by
      intro i hi
      obtain ⟨cs', g1, g2⟩ := hx i (by omega)
      rw [cells44] at g1
      obtain ⟨_, hlen, hcell⟩ := World.cells?_some g1
      obtain ⟨xs, k, hk, hxy, _, hxl, hf⟩ := DataW.trod_struct Tryd.underlying96 g2
      match xs, hxl, cs', hlen with
      | [y0, y1, y2], _, [v0, v1, v2], _ =>
        have r0 := hf 0 _ rfl
        have r1 := hf 1 _ rfl
        have r2 := hf 2 _ rfl
        simp [cells3] at r0 r1 r2
        have e0 := hcell 0 (by omega)
        have e1 := hcell 1 (by omega)
        have e2 := hcell 2 (by omega)
        rw [Go.Deep.add_add] at e0 e1 e2
        obtain ⟨z0, t0, -⟩ := DataW.trod_int Tryd.underlying3 r0
        obtain ⟨z1, t1, -⟩ := DataW.trod_int Tryd.underlying3 r1
        obtain ⟨z2, t2, -⟩ := DataW.trod_int Tryd.underlying3 r2
        simp at t0 t1 t2
        subst t0 t1 t2
        exact ⟨(z0, z1, z2), by simpa using e0, by simpa using e1, by simpa using e2⟩
    obtain ⟨q, hq⟩ := Go.Deep.choose_lt each
    refine ⟨(List.range len).map q, some a, m, by simp, by simpa using hl, hm, ?_⟩
    by_cases h0 : len = 0
    · left; subst h0; simp
    · right
      obtain ⟨b, off, spot⟩ := a
      have hspot : spot = none := by
        have := World.cell?_spot (hq 0 (by omega)).1
        simpa [Addr.add] using this
      subst hspot
      refine ⟨b, off, rfl, fun i hi => ?_⟩
      have hi' : i < len := by simpa using hi
      have := hq i hi'
      rw [addr_add, addr_add, addr_add] at this
      simpa [Nat.add_assoc] using this
theorem openFabric {v : Value} {d : DataW H} {p : List MemPlace} {r : Reach} {b0 : Nat} (hval : Value.okWide Tryd.prog W r b0 43 v) (h : DataW.Trod enc Tryd.prog W base (fun _ => true) held 43 v d p) : ∃ s q m sv ps, v = .agg (F4 s q m sv) ∧ Rt W sv ps := by
  obtain ⟨cells, rfl, hsz⟩ := okWide_struct (P := Tryd.prog) (t := 43) Tryd.underlying43 hval
  obtain ⟨fuel, hf⟩ := h
  obtain ⟨xs, k, -, -, hl, hxl, hx⟩ := DataW.trod_struct Tryd.underlying43 hf
  rw [cells24] at hsz
  obtain ⟨l⟩ := cells
  simp [Value.cells] at hl hsz
  match l, hsz with
  | [c0, c1, c2, c3], _ =>
    have g0 := hx 0 _ rfl
    have g1 := hx 1 _ rfl
    have g2 := hx 2 _ rfl
    have g3 := hx 3 _ rfl
    simp [cells3, cells22, Value.cells] at g0 g1 g2 g3
    rw [List.getElem?_eq_getElem (by rw [hxl]; decide)] at g0 g1 g2 g3
    obtain ⟨z0, e0, -⟩ := DataW.trod_int Tryd.underlying3 g0
    obtain ⟨z1, e1, -⟩ := DataW.trod_int Tryd.underlying3 g1
    obtain ⟨z2, e2, -⟩ := DataW.trod_int Tryd.underlying3 g2
    obtain ⟨ps, e3⟩ := openPaths g3
    simp at e0 e1 e2
    subst e0 e1 e2
    exact ⟨z0, z1, z2, c3, ps, rfl, e3⟩
end
end Go.Proofs.YtikhfeafbckjlaaDoor
namespace Go.Proofs.YtikhfeafbckjlaaDoor
open Go.RowKit Go.ChangeShapes Go.WideShapes Go.ChangeAt
set_option linter.unusedVariables false
set_option linter.unusedSimpArgs false
set_option maxRecDepth 8000
open Go.WideElems
theorem gNo : Tryd.prog.globalNamed "loop.example/g00052/impl.noPath" = some 0 := by kernel_rfl
theorem tNo : (Tryd.prog.globals[0]?).map (·.type) = some 35 := by kernel_rfl
theorem cells35 : Tryd.prog.cellsOf 35 = 3 := by kernel_rfl
/-- what the variable reads as tells its cells -/
theorem no_of_trod {W : World} {cs : Array Value} {fuel : Nat} {p : List MemPlace} (hv : W.var? Tryd.prog "loop.example/g00052/impl.noPath" = some cs) (hd : DataW.trod (fun _ => ()) Tryd.prog W 0 (fun _ => true) false fuel 35 cs.toList = some (Rows.laid_loop_example_g00052_impl_noPath, p)) : NoP W := by
  obtain ⟨xs, k, -, hxy, hl, hxl, hf⟩ := DataW.trod_struct Tryd.underlying35 hd
  rw [cells35] at hl
  obtain ⟨l⟩ := cs
  simp only [Rows.laid_loop_example_g00052_impl_noPath, Prod.mk.injEq, DataW.agg.injEq] at hxy
  match xs, hxl, l, hl with
  | [x0, x1, x2], _, [v0, v1, v2], _ =>
    have r0 := hf 0 _ rfl
    have r1 := hf 1 _ rfl
    have r2 := hf 2 _ rfl
    simp [cells3] at r0 r1 r2
    obtain ⟨z0, t0, u0, -⟩ := DataW.trod_int Tryd.underlying3 r0
    obtain ⟨z1, t1, u1, -⟩ := DataW.trod_int Tryd.underlying3 r1
    obtain ⟨z2, t2, u2, -⟩ := DataW.trod_int Tryd.underlying3 r2
    simp at t0 t1 t2
    subst t0 t1 t2
    have hx := hxy.1
    rw [u0, u1, u2] at hx
    simp at hx
    obtain ⟨rfl, rfl, rfl⟩ := hx
    have c0 := World.var?_cell gNo hv 0
    have c1 := World.var?_cell gNo hv 1
    have c2 := World.var?_cell gNo hv 2
    exact ⟨by simpa using c0, by simpa using c1, by simpa using c2⟩
def laid1 : List (String × DataW Unit) := [("loop.example/g00052/impl.noPath", Rows.laid_loop_example_g00052_impl_noPath)]
theorem of_laid1 {W : World} (h : laidMetH Tryd.prog laid1 W) : NoP W := by
  rw [MakeChecks.laidMetH_plain _ _ _ (by kernel_rfl)] at h
  obtain ⟨ps, ⟨g0, t0, cs0, f0, p0, q0, hg0, ht0, hv0, hd0, -, -⟩, -, -⟩ := h
  obtain rfl := Option.some.inj (gNo.symm.trans hg0)
  obtain rfl := Option.some.inj (tNo.symm.trans ht0)
  exact no_of_trod hv0 hd0
theorem door_met1 (os : Os) (args : Array Value) : laidMetH Tryd.prog laid1 ((World.doorLaid Tryd.prog 400 os).forCall (fun _ _ => 0) ⟨#[], args, []⟩).memory :=
  laidMetH_of_parts3 (fuel := 8) (laidMet_of_run' 8 (by kernel_rfl) (by kernel_rfl)) (by kernel_rfl) (by kernel_rfl)
end Go.Proofs.YtikhfeafbckjlaaDoor
namespace Go.Proofs.YtikhfeafbckjlaaDoor
open Go.RowKit Go.ChangeShapes Go.WideShapes Go.ChangeAt
set_option linter.unusedVariables false
set_option linter.unusedSimpArgs false
set_option maxRecDepth 8000
open Go.WideElems
theorem gTab : Tryd.prog.globalNamed "math/bits.deBruijn32tab" = some 1 := by kernel_rfl
theorem tTab : (Tryd.prog.globals[1]?).map (·.type) = some 99 := by kernel_rfl
theorem cells5 : Tryd.prog.cellsOf 5 = 1 := by kernel_rfl
theorem cells99 : Tryd.prog.cellsOf 99 = 32 := by kernel_rfl
theorem laidTab_eq : (Rows.laid_math_bits_deBruijn32tab : DataW Unit) = .agg (Lib.deBruijn32tab.map fun n : Nat => .lit (.int .u8 (n : Int))) := rfl
theorem tab_of_trod {W : World} {cs : Array Value} {fuel : Nat} {p : List MemPlace} (hv : W.var? Tryd.prog "math/bits.deBruijn32tab" = some cs) (hd : DataW.trod (fun _ => ()) Tryd.prog W 0 (fun _ => true) false fuel 99 cs.toList = some (Rows.laid_math_bits_deBruijn32tab, p)) : Tab W := by
  obtain ⟨xs, m1, -, hx1, hlen, hn, hel⟩ := DataW.trod_array Tryd.underlying99 hd
  rw [laidTab_eq] at hx1
  simp only [Prod.mk.injEq, DataW.agg.injEq] at hx1
  intro j hj
  have hj' : j < xs.length := by rw [hn]; exact hj
  have h0 := hel j hj
  rw [cells5, Nat.mul_one, List.getElem?_eq_getElem hj'] at h0
  obtain ⟨k, e1, e2, -⟩ := DataW.trod_int Tryd.underlying5 h0
  have hx := congrArg (fun l => l[j]?) hx1.1
  simp only [List.getElem?_map, List.getElem?_eq_getElem hj', Option.map_some] at hx
  have hl : Lib.deBruijn32tab.length = 32 := by decide
  rw [List.getElem?_eq_getElem (by rw [hl]; exact hj), e2] at hx
  simp only [Option.map_some, Option.some.injEq, DataW.lit.injEq, Lit.int.injEq, true_and] at hx
  have hc := World.var?_cell gTab hv j
  have hcl : j < cs.toList.length := by rw [hlen, cells99]; exact hj
  have e3 : cs[j]? = some (.int .u8 k) := by
    rw [List.drop_eq_getElem_cons hcl] at e1
    simp at e1
    have : j < cs.size := by simpa using hcl
    rw [Array.getElem?_eq_getElem this, e1]
  rw [hc, e3, ← hx]
  have : Lib.deBruijn32tab.getD j 0 = Lib.deBruijn32tab[j]'(by rw [hl]; exact hj) := by rw [List.getD_eq_getElem?_getD, List.getElem?_eq_getElem (by rw [hl]; exact hj)]; rfl
  rw [this]
def laid2 : List (String × DataW Unit) := [("math/bits.deBruijn32tab", Rows.laid_math_bits_deBruijn32tab), ("loop.example/g00052/impl.noPath", Rows.laid_loop_example_g00052_impl_noPath)]
theorem of_laid2 {W : World} (h : laidMetH Tryd.prog laid2 W) : NoP W ∧ Tab W := by
  rw [MakeChecks.laidMetH_plain _ _ _ (by kernel_rfl)] at h
  obtain ⟨ps, ⟨g0, t0, cs0, f0, p0, q0, hg0, ht0, hv0, hd0, ⟨g1, t1, cs1, f1, p1, q1, hg1, ht1, hv1, hd1, -, -⟩, -⟩, -, -⟩ := h
  obtain rfl := Option.some.inj (gTab.symm.trans hg0)
  obtain rfl := Option.some.inj (tTab.symm.trans ht0)
  obtain rfl := Option.some.inj (gNo.symm.trans hg1)
  obtain rfl := Option.some.inj (tNo.symm.trans ht1)
  exact ⟨no_of_trod hv1 hd1, tab_of_trod hv0 hd0⟩
theorem door_met2 (os : Os) (args : Array Value) : laidMetH Tryd.prog laid2 ((World.doorLaid Tryd.prog 400 os).forCall (fun _ _ => 0) ⟨#[], args, []⟩).memory :=
  laidMetH_of_parts3 (fuel := 8) (laidMet_of_run' 8 (by kernel_rfl) (by kernel_rfl)) (by kernel_rfl) (by kernel_rfl)
end Go.Proofs.YtikhfeafbckjlaaDoor

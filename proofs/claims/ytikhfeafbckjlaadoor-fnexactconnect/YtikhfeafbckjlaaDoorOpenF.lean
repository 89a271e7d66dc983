/- An argument that is a fabric, opened: it reads as three numbers and paths; no condition. -/
import Derived.Test.YtikhfeafbckjlaaDoorPth
import Derived.Deep.SlicePairs
namespace Go.Proofs.YtikhfeafbckjlaaDoor
open Go.RowKit Go.ChangeShapes Go.WideShapes Go.ChangeAt
set_option linter.unusedVariables false
set_option linter.unusedSimpArgs false
set_option maxRecDepth 8000
theorem cells44 : Tryd.prog.cellsOf 96 = 3 := by kernel_rfl
theorem cells3 : Tryd.prog.cellsOf 3 = 1 := by kernel_rfl
theorem cells22 : Tryd.prog.cellsOf 41 = 1 := by kernel_rfl
theorem cells24 : Tryd.prog.cellsOf 43 = 4 := by kernel_rfl
theorem addr_add (b off : Nat) (k : Nat) : (⟨b, off, none⟩ : Addr).add k = ⟨b, off + k, none⟩ := by unfold Addr.add; split <;> simp_all
section
variable {H : Type} {enc : TypeId × Value → H} {W : World} {base : Nat} {held : Bool}
theorem openPaths {fuel : Nat} {v : Value} {x : DataW H × List MemPlace} (h : DataW.trod enc Tryd.prog W base (fun _ => true) held fuel 41 [v] = some x) : ∃ ls, Rt W v ls := by
  rcases Go.Deep.open_slice Tryd.underlying41 h with ⟨hcs, _⟩ | ⟨a, len, cap, m, n, D, Pl, hcs, _, hl, hm, hmm, _, hx⟩
  · simp at hcs; subst hcs
    exact ⟨[], none, 0, rfl, by simp, by simp, .inl rfl⟩
  · simp at hcs; subst hcs
    have hmc : m = cap := by simpa using hmm
    subst hmc
    have each : ∀ i, i < len → ∃ q : Int × Int × Int, W.cell? (a.add (i * 3)) = some (.int .i64 q.1) ∧ W.cell? (a.add (i * 3 + 1)) = some (.int .i64 q.2.1) ∧ W.cell? (a.add (i * 3 + 2)) = some (.int .i64 q.2.2) := by
      intro i hi
      obtain ⟨cs', g1, g2⟩ := hx i (by omega)
      rw [cells44] at g1
      obtain ⟨_, hlen, hcell⟩ := World.cells?_some g1
      obtain ⟨xs, k, hk, hxy, _, hxl, hf⟩ := DataW.trod_struct Tryd.underlying96 g2
      match xs, hxl, cs', hlen with
      | [y0, y1, y2], _, [v0, v1, v2], _ =>
        have r0 := hf 0 _ rfl
        have r1 := hf 1 _ rfl
        have r2 := hf 2 _ rfl
        simp [cells3] at r0 r1 r2
        have e0 := hcell 0 (by omega)
        have e1 := hcell 1 (by omega)
        have e2 := hcell 2 (by omega)
        rw [Go.Deep.add_add] at e0 e1 e2
        obtain ⟨z0, t0, -⟩ := DataW.trod_int Tryd.underlying3 r0
        obtain ⟨z1, t1, -⟩ := DataW.trod_int Tryd.underlying3 r1
        obtain ⟨z2, t2, -⟩ := DataW.trod_int Tryd.underlying3 r2
        simp at t0 t1 t2
        subst t0 t1 t2
        exact ⟨(z0, z1, z2), by simpa using e0, by simpa using e1, by simpa using e2⟩
    obtain ⟨q, hq⟩ := Go.Deep.choose_lt each
    refine ⟨(List.range len).map q, some a, m, by simp, by simpa using hl, hm, ?_⟩
    by_cases h0 : len = 0
    · left; subst h0; simp
    · right
      obtain ⟨b, off, spot⟩ := a
      have hspot : spot = none := by
        have := World.cell?_spot (hq 0 (by omega)).1
        simpa [Addr.add] using this
      subst hspot
      refine ⟨b, off, rfl, fun i hi => ?_⟩
      have hi' : i < len := by simpa using hi
      have := hq i hi'
      rw [addr_add, addr_add, addr_add] at this
      simpa [Nat.add_assoc] using this
theorem openFabric {v : Value} {d : DataW H} {p : List MemPlace} {r : Reach} {b0 : Nat} (hval : Value.okWide Tryd.prog W r b0 43 v) (h : DataW.Trod enc Tryd.prog W base (fun _ => true) held 43 v d p) : ∃ s q m sv ps, v = .agg (F4 s q m sv) ∧ Rt W sv ps := by
  obtain ⟨cells, rfl, hsz⟩ := okWide_struct (P := Tryd.prog) (t := 43) Tryd.underlying43 hval
  obtain ⟨fuel, hf⟩ := h
  obtain ⟨xs, k, -, -, hl, hxl, hx⟩ := DataW.trod_struct Tryd.underlying43 hf
  rw [cells24] at hsz
  obtain ⟨l⟩ := cells
  simp [Value.cells] at hl hsz
  match l, hsz with
  | [c0, c1, c2, c3], _ =>
    have g0 := hx 0 _ rfl
    have g1 := hx 1 _ rfl
    have g2 := hx 2 _ rfl
    have g3 := hx 3 _ rfl
    simp [cells3, cells22, Value.cells] at g0 g1 g2 g3
    rw [List.getElem?_eq_getElem (by rw [hxl]; decide)] at g0 g1 g2 g3
    obtain ⟨z0, e0, -⟩ := DataW.trod_int Tryd.underlying3 g0
    obtain ⟨z1, e1, -⟩ := DataW.trod_int Tryd.underlying3 g1
    obtain ⟨z2, e2, -⟩ := DataW.trod_int Tryd.underlying3 g2
    obtain ⟨ps, e3⟩ := openPaths g3
    simp at e0 e1 e2
    subst e0 e1 e2
    exact ⟨z0, z1, z2, c3, ps, rfl, e3⟩
end
end Go.Proofs.YtikhfeafbckjlaaDoor

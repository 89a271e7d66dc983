/- An argument that is a duo, opened: it reads as four numbers and signals; no condition. -/
import Derived.Test.YtljejjfhlpjlfaaDuB
import Derived.Deep.SlicePairs
namespace Go.Proofs.Ytljejjfhlpjlfaa
open Go.RowKit Go.ChangeShapes Go.WideShapes Go.ChangeAt
set_option linter.unusedVariables false
set_option linter.unusedSimpArgs false
set_option maxRecDepth 8000
theorem cells93 : Try.prog.cellsOf 93 = 3 := by kernel_rfl
theorem cells3 : Try.prog.cellsOf 3 = 1 := by kernel_rfl
theorem cells42 : Try.prog.cellsOf 42 = 1 := by kernel_rfl
theorem cells44 : Try.prog.cellsOf 44 = 5 := by kernel_rfl
theorem cells41 : Try.prog.cellsOf 41 = 4 := by kernel_rfl
theorem cells40 : Try.prog.cellsOf 40 = 2 := by kernel_rfl
theorem cells49 : Try.prog.cellsOf 49 = 2 := by kernel_rfl
theorem addr_add (b off : Nat) (k : Nat) : (⟨b, off, none⟩ : Addr).add k = ⟨b, off + k, none⟩ := by unfold Addr.add; split <;> simp_all
section
variable {H : Type} {enc : TypeId × Value → H} {W : World} {base : Nat} {held : Bool}
theorem openSigs {fuel : Nat} {v : Value} {x : DataW H × List MemPlace} (h : DataW.trod enc Try.prog W base (fun _ => true) held fuel 42 [v] = some x) : ∃ ls, Rt W v ls := by
  rcases Go.Deep.open_slice Try.underlying42 h with ⟨hcs, _⟩ | ⟨a, len, cap, m, n, D, Pl, hcs, _, hl, hm, hmm, _, hx⟩
  · simp at hcs; subst hcs
    exact ⟨[], none, 0, rfl, by simp, by simp, .inl rfl⟩
  · simp at hcs; subst hcs
    have hmc : m = cap := by simpa using hmm
    subst hmc
    have each : ∀ i, i < len → ∃ q : Int × Int × Int, W.cell? (a.add (i * 3)) = some (.int .i64 q.1) ∧ W.cell? (a.add (i * 3 + 1)) = some (.int .i64 q.2.1) ∧ W.cell? (a.add (i * 3 + 2)) = some (.int .i64 q.2.2) := by
      intro i hi
      obtain ⟨cs', g1, g2⟩ := hx i (by omega)
      rw [cells93] at g1
      obtain ⟨_, hlen, hcell⟩ := World.cells?_some g1
      obtain ⟨xs, k, hk, hxy, _, hxl, hf⟩ := DataW.trod_struct Try.underlying93 g2
      match xs, hxl, cs', hlen with
      | [y0, y1, y2], _, [v0, v1, v2], _ =>
        have r0 := hf 0 _ rfl
        have r1 := hf 1 _ rfl
        have r2 := hf 2 _ rfl
        simp [cells3] at r0 r1 r2
        have e0 := hcell 0 (by omega)
        have e1 := hcell 1 (by omega)
        have e2 := hcell 2 (by omega)
        rw [Go.Deep.add_add] at e0 e1 e2
        obtain ⟨z0, t0, -⟩ := DataW.trod_int Try.underlying3 r0
        obtain ⟨z1, t1, -⟩ := DataW.trod_int Try.underlying3 r1
        obtain ⟨z2, t2, -⟩ := DataW.trod_int Try.underlying3 r2
        simp at t0 t1 t2
        subst t0 t1 t2
        exact ⟨(z0, z1, z2), by simpa using e0, by simpa using e1, by simpa using e2⟩
    obtain ⟨q, hq⟩ := Go.Deep.choose_lt each
    refine ⟨(List.range len).map q, some a, m, by simp, by simpa using hl, hm, ?_⟩
    by_cases h0 : len = 0
    · left; subst h0; simp
    · right
      obtain ⟨b, off, spot⟩ := a
      have hspot : spot = none := by
        have := World.cell?_spot (hq 0 (by omega)).1
        simpa [Addr.add] using this
      subst hspot
      refine ⟨b, off, rfl, fun i hi => ?_⟩
      have hi' : i < len := by simpa using hi
      have := hq i hi'
      rw [addr_add, addr_add, addr_add] at this
      simpa [Nat.add_assoc] using this

theorem openDuo {v : Value} {d : DataW H} {p : List MemPlace} {r : Reach} {b0 : Nat} (hval : Value.okWide Try.prog W r b0 44 v) (h : DataW.Trod enc Try.prog W base (fun _ => true) held 44 v d p) : ∃ s c s' c' sv ps, v = .agg (D5 s c s' c' sv) ∧ Rt W sv ps := by
  obtain ⟨cells, rfl, hsz⟩ := okWide_struct (P := Try.prog) (t := 44) Try.underlying44 hval
  obtain ⟨fuel, hf⟩ := h
  obtain ⟨xs, k, -, -, hl, hxl, hx⟩ := DataW.trod_struct Try.underlying44 hf
  rw [cells44] at hsz
  obtain ⟨l⟩ := cells
  simp [Value.cells] at hl hsz
  match l, hsz with
  | [c0, c1, c2, c3, c4], _ =>
    have g0 := hx 0 _ rfl
    have g1 := hx 1 _ rfl
    simp [cells41, cells42, Value.cells] at g0 g1
    rw [List.getElem?_eq_getElem (by rw [hxl]; decide)] at g0 g1
    obtain ⟨ps, e4⟩ := openSigs g1
    obtain ⟨ys, m, -, -, hl2, hyl, hy⟩ := DataW.trod_array Try.underlying41 g0
    have a0 := hy 0 (by decide)
    have a1 := hy 1 (by decide)
    simp [cells40] at a0 a1
    rw [List.getElem?_eq_getElem (by rw [hyl]; decide)] at a0 a1
    obtain ⟨zs0, k0, -, -, -, hz0, hf0⟩ := DataW.trod_struct Try.underlying40 a0
    obtain ⟨zs1, k1, -, -, -, hz1, hf1⟩ := DataW.trod_struct Try.underlying40 a1
    have p0 := hf0 0 _ rfl
    have p1 := hf0 1 _ rfl
    have p2 := hf1 0 _ rfl
    have p3 := hf1 1 _ rfl
    simp [cells3] at p0 p1 p2 p3
    rw [List.getElem?_eq_getElem (by rw [hz0]; decide)] at p0 p1
    rw [List.getElem?_eq_getElem (by rw [hz1]; decide)] at p2 p3
    obtain ⟨z0, e0, -⟩ := DataW.trod_int Try.underlying3 p0
    obtain ⟨z1, e1, -⟩ := DataW.trod_int Try.underlying3 p1
    obtain ⟨z2, e2, -⟩ := DataW.trod_int Try.underlying3 p2
    obtain ⟨z3, e3, -⟩ := DataW.trod_int Try.underlying3 p3
    simp at e0 e1 e2 e3
    subst e0 e1 e2 e3
    exact ⟨z0, z1, z2, z3, c4, ps, rfl, e4⟩
end
end Go.Proofs.Ytljejjfhlpjlfaa

/- An argument that is a trunk, opened; no condition. -/
import Derived.Test.YtkehcalijamhjaaTrB
import Derived.Deep.SlicePairs
namespace Go.Proofs.Ytkehcalijamhjaa
open Go.RowKit Go.ChangeShapes Go.WideShapes Go.ChangeAt
set_option linter.unusedVariables false
set_option linter.unusedSimpArgs false
set_option maxRecDepth 8000
theorem cells105 : Try.prog.cellsOf 105 = 2 := by kernel_rfl
theorem cells3 : Try.prog.cellsOf 3 = 1 := by kernel_rfl
theorem cells27 : Try.prog.cellsOf 27 = 1 := by kernel_rfl
theorem cells42 : Try.prog.cellsOf 42 = 1 := by kernel_rfl
theorem cells28 : Try.prog.cellsOf 28 = 2 := by kernel_rfl
theorem cells29 : Try.prog.cellsOf 29 = 2 := by kernel_rfl
theorem cells43 : Try.prog.cellsOf 43 = 2 := by kernel_rfl
theorem cells45 : Try.prog.cellsOf 45 = 6 := by kernel_rfl
theorem addr_add (b off : Nat) (k : Nat) : (⟨b, off, none⟩ : Addr).add k = ⟨b, off + k, none⟩ := by unfold Addr.add; split <;> simp_all
section
variable {H : Type} {enc : TypeId × Value → H} {W : World} {base : Nat} {held : Bool}
theorem openNotes {fuel : Nat} {v : Value} {x : DataW H × List MemPlace} (h : DataW.trod enc Try.prog W base (fun _ => true) held fuel 42 [v] = some x) : ∃ ls, Rp mf mg W v ls := by
  rcases Go.Deep.open_slice Try.underlying42 h with ⟨hcs, _⟩ | ⟨a, len, cap, m, n, D, Pl, hcs, _, hl, hm, hmm, _, hx⟩
  · simp at hcs; subst hcs
    exact ⟨[], none, 0, rfl, by simp, by simp, .inl rfl⟩
  · simp at hcs; subst hcs
    have hmc : m = cap := by simpa using hmm
    subst hmc
    have each : ∀ i, i < len → ∃ q : Int × Int, W.cell? (a.add (i * 2)) = some (.int .i64 q.1) ∧ W.cell? (a.add (i * 2 + 1)) = some (.int .i64 q.2) := by
      intro i hi
      obtain ⟨cs', g1, g2⟩ := hx i (by omega)
      rw [cells105] at g1
      obtain ⟨_, hlen, hcell⟩ := World.cells?_some g1
      obtain ⟨xs, k, hk, hxy, _, hxl, hf⟩ := DataW.trod_struct Try.underlying105 g2
      match xs, hxl, cs', hlen with
      | [y0, y1], _, [v0, v1], _ =>
        have r0 := hf 0 _ rfl
        have r1 := hf 1 _ rfl
        simp [cells3] at r0 r1
        have e0 := hcell 0 (by omega)
        have e1 := hcell 1 (by omega)
        rw [Go.Deep.add_add] at e0 e1
        obtain ⟨z0, t0, -⟩ := DataW.trod_int Try.underlying3 r0
        obtain ⟨z1, t1, -⟩ := DataW.trod_int Try.underlying3 r1
        simp at t0 t1
        subst t0 t1
        exact ⟨(z0, z1), by simpa using e0, by simpa using e1⟩
    obtain ⟨q, hq⟩ := Go.Deep.choose_lt each
    refine ⟨(List.range len).map q, some a, m, by simp, by simpa using hl, hm, ?_⟩
    by_cases h0 : len = 0
    · left; subst h0; simp
    · right
      obtain ⟨b, off, spot⟩ := a
      have hspot : spot = none := by
        have := World.cell?_spot (hq 0 (by omega)).1
        simpa [Addr.add] using this
      subst hspot
      refine ⟨b, off, rfl, fun i hi => ?_⟩
      have hi' : i < len := by simpa using hi
      have := hq i hi'
      rw [addr_add, addr_add] at this
      simpa [Nat.add_assoc] using this
theorem openInts {fuel : Nat} {v : Value} {x : DataW H × List MemPlace} (h : DataW.trod enc Try.prog W base (fun _ => true) held fuel 27 [v] = some x) : ∃ zs, Rd .i64 W v zs := by
  rcases open_ints Try.underlying27 Try.underlying3 (by kernel_rfl) h with ⟨hcs, _⟩ | ⟨x, l, c, zs, hcs, _, hl, hm, hz, _, hcell, hwz⟩
  · simp at hcs
    subst hcs
    exact ⟨[], ⟨none, 0, rfl, by simp, by simp, .inl rfl⟩⟩
  · simp at hcs
    subst hcs
    have hz : zs.length = c := by simpa using hz
    have hlen : (zs.take l).length = l := by simp; omega
    refine ⟨zs.take l, ⟨_, c, by rw [hlen], by omega, hm, ?_⟩⟩
    by_cases h0 : l = 0
    · left; subst h0; simp
    · right
      obtain ⟨b, off, spot⟩ := x
      have hc := hcell 0 (by omega)
      have hspot : spot = none := by simpa [Addr.add] using World.cell?_spot hc
      subst hspot
      refine ⟨b, off, rfl, fun i hi => ?_⟩
      have := hcell i (by omega)
      rw [addr_add] at this
      rw [this]
      simp [List.getElem?_take, show i < l by omega]
theorem openTrunk {v : Value} {d : DataW H} {p : List MemPlace} {r : Reach} {b0 : Nat} (hval : Value.okWide Try.prog W r b0 45 v) (h : DataW.Trod enc Try.prog W base (fun _ => true) held 45 v d p) : ∃ c0 c1 w0 w1 l0 l1 z0 z1 n0 n1, v = .agg (T6 c0 c1 l0 l1 w0 w1) ∧ Rk W c0 c1 w0 w1 z0 z1 n0 n1 := by
  obtain ⟨cells, rfl, hsz⟩ := okWide_struct (P := Try.prog) (t := 45) Try.underlying45 hval
  obtain ⟨fuel, hf⟩ := h
  obtain ⟨xs, k, -, -, hl, hxl, hx⟩ := DataW.trod_struct Try.underlying45 hf
  rw [cells45] at hsz
  obtain ⟨l⟩ := cells
  simp [Value.cells] at hl hsz
  match l, hsz with
  | [c0, c1, c2, c3, c4, c5], _ =>
    have g0 := hx 0 _ rfl
    have g1 := hx 1 _ rfl
    have g2 := hx 2 _ rfl
    simp [cells28, cells29, cells43, Value.cells] at g0 g1 g2
    rw [List.getElem?_eq_getElem (by rw [hxl]; decide)] at g0 g1 g2
    obtain ⟨ys0, m0, -, -, hl0, hy0, hz0⟩ := DataW.trod_array Try.underlying28 g0
    obtain ⟨ys1, m1, -, -, hl1, hy1, hz1⟩ := DataW.trod_array Try.underlying29 g1
    obtain ⟨ys2, m2, -, -, hl2, hy2, hz2⟩ := DataW.trod_array Try.underlying43 g2
    have a0 := hz0 0 (by decide)
    have a1 := hz0 1 (by decide)
    have b0 := hz1 0 (by decide)
    have b1 := hz1 1 (by decide)
    have d0 := hz2 0 (by decide)
    have d1 := hz2 1 (by decide)
    simp [cells27, cells3, cells42] at a0 a1 b0 b1 d0 d1
    rw [List.getElem?_eq_getElem (by rw [hy0]; decide)] at a0 a1
    rw [List.getElem?_eq_getElem (by rw [hy1]; decide)] at b0 b1
    rw [List.getElem?_eq_getElem (by rw [hy2]; decide)] at d0 d1
    obtain ⟨z0, e0⟩ := openInts a0
    obtain ⟨z1, e1⟩ := openInts a1
    obtain ⟨n0, e2⟩ := openNotes d0
    obtain ⟨n1, e3⟩ := openNotes d1
    obtain ⟨i0, f0, -⟩ := DataW.trod_int Try.underlying3 b0
    obtain ⟨i1, f1, -⟩ := DataW.trod_int Try.underlying3 b1
    simp at f0 f1
    subst f0 f1
    exact ⟨c0, c1, c4, c5, i0, i1, z0, z1, n0, n1, rfl, ⟨e0, e1, e2, e3⟩⟩
end
end Go.Proofs.Ytkehcalijamhjaa

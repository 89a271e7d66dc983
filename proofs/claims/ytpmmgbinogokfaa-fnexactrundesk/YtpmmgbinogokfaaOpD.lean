/- Arguments that are desks and ops, opened; no condition. -/
import Derived.Test.YtpmmgbinogokfaaDkB
import Derived.Deep.SlicePairs
namespace Go.Proofs.Ytpmmgbinogokfaa
open Go.RowKit Go.ChangeShapes Go.WideShapes Go.ChangeAt
set_option linter.unusedVariables false
set_option linter.unusedSimpArgs false
set_option maxRecDepth 8000
theorem cells3 : Try.prog.cellsOf 3 = 1 := by kernel_rfl
theorem addr_add (b off : Nat) (k : Nat) : (⟨b, off, none⟩ : Addr).add k = ⟨b, off + k, none⟩ := by unfold Addr.add; split <;> simp_all
section
variable {H : Type} {enc : TypeId × Value → H} {W : World} {base : Nat} {held : Bool}
theorem cells118 : Try.prog.cellsOf 118 = 3 := by kernel_rfl
theorem openAg {fuel : Nat} {v : Value} {x : DataW H × List MemPlace} (h : DataW.trod enc Try.prog W base (fun _ => true) held fuel 45 [v] = some x) : ∃ ls : List Ag, Rg 3 agC W v ls := by
  rcases Go.Deep.open_slice Try.underlying45 h with ⟨hcs, _⟩ | ⟨a, len, cap, m, n, D, Pl, hcs, _, hl, hm, hmm, _, hx⟩
  · simp at hcs; subst hcs
    exact ⟨[], none, 0, rfl, by simp, by simp, .inl rfl⟩
  · simp at hcs; subst hcs
    have hmc : m = cap := by simpa using hmm
    subst hmc
    have each : ∀ i, i < len → ∃ q : Ag, W.cell? (a.add (i * 3)) = some (.int .i64 q.1) ∧ W.cell? (a.add (i * 3 + 1)) = some (.int .i64 q.2.1) ∧ W.cell? (a.add (i * 3 + 2)) = some (.int .i64 q.2.2) := by
      intro i hi
      obtain ⟨cs', g1, g2⟩ := hx i (by omega)
      rw [cells118] at g1
      obtain ⟨_, hlen, hcell⟩ := World.cells?_some g1
      obtain ⟨xs, k, hk, hxy, _, hxl, hf⟩ := DataW.trod_struct Try.underlying118 g2
      match xs, hxl, cs', hlen with
      | [y0, y1, y2], _, [v0, v1, v2], _ =>
        have r0 := hf 0 _ rfl
        have r1 := hf 1 _ rfl
        have r2 := hf 2 _ rfl
        simp [cells3] at r0 r1 r2
        have e0 := hcell 0 (by omega)
        have e1 := hcell 1 (by omega)
        have e2 := hcell 2 (by omega)
        rw [Go.Deep.add_add] at e0 e1 e2
        obtain ⟨z0, t0, -⟩ := DataW.trod_int Try.underlying3 r0
        obtain ⟨z1, t1, -⟩ := DataW.trod_int Try.underlying3 r1
        obtain ⟨z2, t2, -⟩ := DataW.trod_int Try.underlying3 r2
        simp at t0 t1 t2
        subst t0 t1 t2
        exact ⟨(z0, z1, z2), by simpa using e0, by simpa using e1, by simpa using e2⟩
    obtain ⟨q, hq⟩ := Go.Deep.choose_lt each
    refine ⟨(List.range len).map q, some a, m, by simp, by simpa using hl, hm, ?_⟩
    by_cases h0 : len = 0
    · left; subst h0; simp
    · right
      obtain ⟨b, off, spot⟩ := a
      have hspot : spot = none := by
        have := World.cell?_spot (hq 0 (by omega)).1
        simpa [Addr.add] using this
      subst hspot
      refine ⟨b, off, rfl, fun i hi => ?_⟩
      have hi' : i < len := by simpa using hi
      have := hq i hi'
      rw [addr_add, addr_add, addr_add] at this
      simp only [← Nat.add_assoc] at this
      obtain ⟨c0, c1, c2⟩ := this
      intro j u hu
      simp only [List.getElem_map, List.getElem_range] at hu
      match j, hu with
      | 0, hu => simp at hu; subst hu; exact c0
      | 1, hu => simp at hu; subst hu; exact c1
      | 2, hu => simp at hu; subst hu; exact c2
      | j + 3, hu => simp at hu
theorem cells120 : Try.prog.cellsOf 120 = 4 := by kernel_rfl
theorem openWt {fuel : Nat} {v : Value} {x : DataW H × List MemPlace} (h : DataW.trod enc Try.prog W base (fun _ => true) held fuel 46 [v] = some x) : ∃ ls : List Wt, Rg 4 wtC W v ls := by
  rcases Go.Deep.open_slice Try.underlying46 h with ⟨hcs, _⟩ | ⟨a, len, cap, m, n, D, Pl, hcs, _, hl, hm, hmm, _, hx⟩
  · simp at hcs; subst hcs
    exact ⟨[], none, 0, rfl, by simp, by simp, .inl rfl⟩
  · simp at hcs; subst hcs
    have hmc : m = cap := by simpa using hmm
    subst hmc
    have each : ∀ i, i < len → ∃ q : Wt, W.cell? (a.add (i * 4)) = some (.int .i64 q.1) ∧ W.cell? (a.add (i * 4 + 1)) = some (.int .i64 q.2.1) ∧ W.cell? (a.add (i * 4 + 2)) = some (.int .i64 q.2.2.1) ∧ W.cell? (a.add (i * 4 + 3)) = some (.int .i64 q.2.2.2) := by
      intro i hi
      obtain ⟨cs', g1, g2⟩ := hx i (by omega)
      rw [cells120] at g1
      obtain ⟨_, hlen, hcell⟩ := World.cells?_some g1
      obtain ⟨xs, k, hk, hxy, _, hxl, hf⟩ := DataW.trod_struct Try.underlying120 g2
      match xs, hxl, cs', hlen with
      | [y0, y1, y2, y3], _, [v0, v1, v2, v3], _ =>
        have r0 := hf 0 _ rfl
        have r1 := hf 1 _ rfl
        have r2 := hf 2 _ rfl
        have r3 := hf 3 _ rfl
        simp [cells3] at r0 r1 r2 r3
        have e0 := hcell 0 (by omega)
        have e1 := hcell 1 (by omega)
        have e2 := hcell 2 (by omega)
        have e3 := hcell 3 (by omega)
        rw [Go.Deep.add_add] at e0 e1 e2 e3
        obtain ⟨z0, t0, -⟩ := DataW.trod_int Try.underlying3 r0
        obtain ⟨z1, t1, -⟩ := DataW.trod_int Try.underlying3 r1
        obtain ⟨z2, t2, -⟩ := DataW.trod_int Try.underlying3 r2
        obtain ⟨z3, t3, -⟩ := DataW.trod_int Try.underlying3 r3
        simp at t0 t1 t2 t3
        subst t0 t1 t2 t3
        exact ⟨(z0, z1, z2, z3), by simpa using e0, by simpa using e1, by simpa using e2, by simpa using e3⟩
    obtain ⟨q, hq⟩ := Go.Deep.choose_lt each
    refine ⟨(List.range len).map q, some a, m, by simp, by simpa using hl, hm, ?_⟩
    by_cases h0 : len = 0
    · left; subst h0; simp
    · right
      obtain ⟨b, off, spot⟩ := a
      have hspot : spot = none := by
        have := World.cell?_spot (hq 0 (by omega)).1
        simpa [Addr.add] using this
      subst hspot
      refine ⟨b, off, rfl, fun i hi => ?_⟩
      have hi' : i < len := by simpa using hi
      have := hq i hi'
      rw [addr_add, addr_add, addr_add, addr_add] at this
      simp only [← Nat.add_assoc] at this
      obtain ⟨c0, c1, c2, c3⟩ := this
      intro j u hu
      simp only [List.getElem_map, List.getElem_range] at hu
      match j, hu with
      | 0, hu => simp at hu; subst hu; exact c0
      | 1, hu => simp at hu; subst hu; exact c1
      | 2, hu => simp at hu; subst hu; exact c2
      | 3, hu => simp at hu; subst hu; exact c3
      | j + 4, hu => simp at hu
theorem cells53 : Try.prog.cellsOf 53 = 5 := by kernel_rfl
theorem openDo {fuel : Nat} {v : Value} {x : DataW H × List MemPlace} (h : DataW.trod enc Try.prog W base (fun _ => true) held fuel 58 [v] = some x) : ∃ ls : List Do, Rg 5 doC W v ls := by
  rcases Go.Deep.open_slice Try.underlying58 h with ⟨hcs, _⟩ | ⟨a, len, cap, m, n, D, Pl, hcs, _, hl, hm, hmm, _, hx⟩
  · simp at hcs; subst hcs
    exact ⟨[], none, 0, rfl, by simp, by simp, .inl rfl⟩
  · simp at hcs; subst hcs
    have hmc : m = cap := by simpa using hmm
    subst hmc
    have each : ∀ i, i < len → ∃ q : Do, W.cell? (a.add (i * 5)) = some (.int .i64 q.1) ∧ W.cell? (a.add (i * 5 + 1)) = some (.int .i64 q.2.1) ∧ W.cell? (a.add (i * 5 + 2)) = some (.int .i64 q.2.2.1) ∧ W.cell? (a.add (i * 5 + 3)) = some (.int .i64 q.2.2.2.1) ∧ W.cell? (a.add (i * 5 + 4)) = some (.int .i64 q.2.2.2.2) := by
      intro i hi
      obtain ⟨cs', g1, g2⟩ := hx i (by omega)
      rw [cells53] at g1
      obtain ⟨_, hlen, hcell⟩ := World.cells?_some g1
      obtain ⟨xs, k, hk, hxy, _, hxl, hf⟩ := DataW.trod_struct Try.underlying53 g2
      match xs, hxl, cs', hlen with
      | [y0, y1, y2, y3, y4], _, [v0, v1, v2, v3, v4], _ =>
        have r0 := hf 0 _ rfl
        have r1 := hf 1 _ rfl
        have r2 := hf 2 _ rfl
        have r3 := hf 3 _ rfl
        have r4 := hf 4 _ rfl
        simp [cells3] at r0 r1 r2 r3 r4
        have e0 := hcell 0 (by omega)
        have e1 := hcell 1 (by omega)
        have e2 := hcell 2 (by omega)
        have e3 := hcell 3 (by omega)
        have e4 := hcell 4 (by omega)
        rw [Go.Deep.add_add] at e0 e1 e2 e3 e4
        obtain ⟨z0, t0, -⟩ := DataW.trod_int Try.underlying3 r0
        obtain ⟨z1, t1, -⟩ := DataW.trod_int Try.underlying3 r1
        obtain ⟨z2, t2, -⟩ := DataW.trod_int Try.underlying3 r2
        obtain ⟨z3, t3, -⟩ := DataW.trod_int Try.underlying3 r3
        obtain ⟨z4, t4, -⟩ := DataW.trod_int Try.underlying3 r4
        simp at t0 t1 t2 t3 t4
        subst t0 t1 t2 t3 t4
        exact ⟨(z0, z1, z2, z3, z4), by simpa using e0, by simpa using e1, by simpa using e2, by simpa using e3, by simpa using e4⟩
    obtain ⟨q, hq⟩ := Go.Deep.choose_lt each
    refine ⟨(List.range len).map q, some a, m, by simp, by simpa using hl, hm, ?_⟩
    by_cases h0 : len = 0
    · left; subst h0; simp
    · right
      obtain ⟨b, off, spot⟩ := a
      have hspot : spot = none := by
        have := World.cell?_spot (hq 0 (by omega)).1
        simpa [Addr.add] using this
      subst hspot
      refine ⟨b, off, rfl, fun i hi => ?_⟩
      have hi' : i < len := by simpa using hi
      have := hq i hi'
      rw [addr_add, addr_add, addr_add, addr_add, addr_add] at this
      simp only [← Nat.add_assoc] at this
      obtain ⟨c0, c1, c2, c3, c4⟩ := this
      intro j u hu
      simp only [List.getElem_map, List.getElem_range] at hu
      match j, hu with
      | 0, hu => simp at hu; subst hu; exact c0
      | 1, hu => simp at hu; subst hu; exact c1
      | 2, hu => simp at hu; subst hu; exact c2
      | 3, hu => simp at hu; subst hu; exact c3
      | 4, hu => simp at hu; subst hu; exact c4
      | j + 5, hu => simp at hu
theorem cells48 : Try.prog.cellsOf 48 = 4 := by kernel_rfl
theorem cells45 : Try.prog.cellsOf 45 = 1 := by kernel_rfl
theorem cells46 : Try.prog.cellsOf 46 = 1 := by kernel_rfl
theorem openDesk {v : Value} {d : DataW H} {p : List MemPlace} {r : Reach} {b0 : Nat} (hval : Value.okWide Try.prog W r b0 48 v) (h : DataW.Trod enc Try.prog W base (fun _ => true) held 48 v d p) : ∃ n g va vq gs qs, v = .agg (D4 n va vq g) ∧ Rg 3 agC W va gs ∧ Rg 4 wtC W vq qs := by
  obtain ⟨cells, rfl, hsz⟩ := okWide_struct (P := Try.prog) (t := 48) Try.underlying48 hval
  obtain ⟨fuel, hf⟩ := h
  obtain ⟨xs, k, -, -, hl, hxl, hx⟩ := DataW.trod_struct Try.underlying48 hf
  rw [cells48] at hsz
  obtain ⟨l⟩ := cells
  simp [Value.cells] at hl hsz
  match l, hsz with
  | [c0, c1, c2, c3], _ =>
    have g0 := hx 0 _ rfl
    have g1 := hx 1 _ rfl
    have g2 := hx 2 _ rfl
    have g3 := hx 3 _ rfl
    simp [cells3, cells45, cells46, Value.cells] at g0 g1 g2 g3
    rw [List.getElem?_eq_getElem (by rw [hxl]; decide)] at g0 g1 g2 g3
    obtain ⟨gs, e1⟩ := openAg g1
    obtain ⟨qs, e2⟩ := openWt g2
    obtain ⟨i0, f0, -⟩ := DataW.trod_int Try.underlying3 g0
    obtain ⟨i3, f3, -⟩ := DataW.trod_int Try.underlying3 g3
    simp at f0 f3
    subst f0 f3
    exact ⟨i0, i3, c1, c2, gs, qs, rfl, e1, e2⟩
theorem openDop {v : Value} {d : DataW H} {p : List MemPlace} {r : Reach} {b0 : Nat} (hval : Value.okWide Try.prog W r b0 53 v) (h : DataW.Trod enc Try.prog W base (fun _ => true) held 53 v d p) : ∃ x0 x1 x2 x3 x4 : Int, v = .agg #[.int .i64 x0, .int .i64 x1, .int .i64 x2, .int .i64 x3, .int .i64 x4] := by
  obtain ⟨cells, rfl, hsz⟩ := okWide_struct (P := Try.prog) (t := 53) Try.underlying53 hval
  obtain ⟨fuel, hf⟩ := h
  obtain ⟨xs, k, -, -, hl, hxl, hx⟩ := DataW.trod_struct Try.underlying53 hf
  rw [cells53] at hsz
  obtain ⟨l⟩ := cells
  simp [Value.cells] at hl hsz
  match l, hsz with
  | [c0, c1, c2, c3, c4], _ =>
    have g0 := hx 0 _ rfl
    have g1 := hx 1 _ rfl
    have g2 := hx 2 _ rfl
    have g3 := hx 3 _ rfl
    have g4 := hx 4 _ rfl
    simp [cells3, Value.cells] at g0 g1 g2 g3 g4
    rw [List.getElem?_eq_getElem (by rw [hxl]; decide)] at g0 g1 g2 g3 g4
    obtain ⟨i0, f0, -⟩ := DataW.trod_int Try.underlying3 g0
    obtain ⟨i1, f1, -⟩ := DataW.trod_int Try.underlying3 g1
    obtain ⟨i2, f2, -⟩ := DataW.trod_int Try.underlying3 g2
    obtain ⟨i3, f3, -⟩ := DataW.trod_int Try.underlying3 g3
    obtain ⟨i4, f4, -⟩ := DataW.trod_int Try.underlying3 g4
    simp at f0 f1 f2 f3 f4
    subst f0 f1 f2 f3 f4
    exact ⟨i0, i1, i2, i3, i4, rfl⟩
end
end Go.Proofs.Ytpmmgbinogokfaa

/- Arguments that are books and talks, opened; no condition. -/
import Derived.Test.YtmfmlbiplagmiaaDoorBkh
import Derived.Test.YtmfmlbiplagmiaaDoorOpen
import Derived.Deep.SlicePairs
namespace Go.Proofs.YtmfmlbiplagmiaaDoor
open Go.RowKit Go.ChangeShapes Go.WideShapes Go.ChangeAt
set_option linter.unusedVariables false
set_option linter.unusedSimpArgs false
set_option maxRecDepth 8000

theorem cells3 : Tryd.prog.cellsOf 3 = 1 := by kernel_rfl
theorem addr_add (b off : Nat) (k : Nat) : (⟨b, off, none⟩ : Addr).add k = ⟨b, off + k, none⟩ := by unfold Addr.add; split <;> simp_all
section
variable {H : Type} {enc : TypeId × Value → H} {W : World} {base : Nat} {held : Bool}
theorem cellsTk : Tryd.prog.cellsOf 52 = 3 := by kernel_rfl
theorem openTk {fuel : Nat} {v : Value} {x : DataW H × List MemPlace} (h : DataW.trod enc Tryd.prog W base (fun _ => true) held fuel 42 [v] = some x) : ∃ ls : List Tk, Rg 3 tkC W v ls := by
  rcases Go.Deep.open_slice Tryd.underlying42 h with ⟨hcs, _⟩ | ⟨a, len, cap, m, n, D, Pl, hcs, _, hl, hm, hmm, _, hx⟩
  · simp at hcs; subst hcs
    exact ⟨[], none, 0, rfl, by simp, by simp, .inl rfl⟩
  · simp at hcs; subst hcs
    have hmc : m = cap := by simpa using hmm
    subst hmc
    have each : ∀ i, i < len → ∃ q : Tk, W.cell? (a.add (i * 3)) = some (.int .i64 q.1) ∧ W.cell? (a.add (i * 3 + 1)) = some (.int .i64 q.2.1) ∧ W.cell? (a.add (i * 3 + 2)) = some (.int .i64 q.2.2) := by
      intro i hi
      obtain ⟨cs', g1, g2⟩ := hx i (by omega)
      rw [cellsTk] at g1
      obtain ⟨_, hlen, hcell⟩ := World.cells?_some g1
      obtain ⟨xs, k, hk, hxy, _, hxl, hf⟩ := DataW.trod_struct Tryd.underlying52 g2
      match xs, hxl, cs', hlen with
      | [y0, y1, y2], _, [v0, v1, v2], _ =>
        have r0 := hf 0 _ rfl
        have r1 := hf 1 _ rfl
        have r2 := hf 2 _ rfl
        simp [cells3] at r0 r1 r2
        have e0 := hcell 0 (by omega)
        have e1 := hcell 1 (by omega)
        have e2 := hcell 2 (by omega)
        rw [Go.Deep.add_add] at e0 e1 e2
        obtain ⟨z0, t0, -⟩ := DataW.trod_int Tryd.underlying3 r0
        obtain ⟨z1, t1, -⟩ := DataW.trod_int Tryd.underlying3 r1
        obtain ⟨z2, t2, -⟩ := DataW.trod_int Tryd.underlying3 r2
        simp at t0 t1 t2
        subst t0 t1 t2
        exact ⟨(z0, z1, z2), by simpa using e0, by simpa using e1, by simpa using e2⟩
    obtain ⟨q, hq⟩ := Go.Deep.choose_lt each
    refine ⟨(List.range len).map q, some a, m, by simp, by simpa using hl, hm, ?_⟩
    by_cases h0 : len = 0
    · left; subst h0; simp
    · right
      obtain ⟨b, off, spot⟩ := a
      have hspot : spot = none := by
        have := World.cell?_spot (hq 0 (by omega)).1
        simpa [Addr.add] using this
      subst hspot
      refine ⟨b, off, rfl, fun i hi => ?_⟩
      have hi' : i < len := by simpa using hi
      have := hq i hi'
      rw [addr_add, addr_add, addr_add] at this
      simp only [← Nat.add_assoc] at this
      obtain ⟨c0, c1, c2⟩ := this
      intro j u hu
      simp only [List.getElem_map, List.getElem_range] at hu
      match j, hu with
      | 0, hu => simp at hu; subst hu; exact c0
      | 1, hu => simp at hu; subst hu; exact c1
      | 2, hu => simp at hu; subst hu; exact c2
      | j + 3, hu => simp at hu

theorem cellsBk : Tryd.prog.cellsOf 44 = 3 := by kernel_rfl
theorem cellsTs : Tryd.prog.cellsOf 42 = 1 := by kernel_rfl
theorem cellsIs : Tryd.prog.cellsOf 25 = 1 := by kernel_rfl
theorem openInts {fuel : Nat} {v : Value} {x : DataW H × List MemPlace} (h : DataW.trod enc Tryd.prog W base (fun _ => true) held fuel 25 [v] = some x) : ∃ zs, Rd .i64 W v zs := by
  rcases Go.Deep.open_slice Tryd.underlying25 h with ⟨hcs, _⟩ | ⟨a, len, cap, m, n, D, Pl, hcs, _⟩
  · simp at hcs; subst hcs
    exact ⟨[], none, 0, rfl, by simp, by simp, .inl rfl⟩
  · simp at hcs; subst hcs
    obtain ⟨d, p⟩ := x
    obtain ⟨zs, h1, -⟩ := openRow (a := some a) (len := len) (cap := cap) (d := d) (p := p) Tryd.underlying25 Tryd.underlying3 cells3 ⟨fuel, h⟩
    exact ⟨zs, h1⟩
theorem openBook {v : Value} {d : DataW H} {p : List MemPlace} {r : Reach} {b0 : Nat} (hval : Value.okWide Tryd.prog W r b0 44 v) (h : DataW.Trod enc Tryd.prog W base (fun _ => true) held 44 v d p) : ∃ va vl vc ts ls cs, v = .agg (B3 va vl vc) ∧ Rbk W va vl vc ts ls cs := by
  obtain ⟨cells, rfl, hsz⟩ := okWide_struct (P := Tryd.prog) (t := 44) Tryd.underlying44 hval
  obtain ⟨fuel, hf⟩ := h
  obtain ⟨xs, k, -, -, hl, hxl, hx⟩ := DataW.trod_struct Tryd.underlying44 hf
  rw [cellsBk] at hsz
  obtain ⟨l⟩ := cells
  simp [Value.cells] at hl hsz
  match l, hsz with
  | [c0, c1, c2], _ =>
    have g0 := hx 0 _ rfl
    have g1 := hx 1 _ rfl
    have g2 := hx 2 _ rfl
    simp [cellsTs, cellsIs, Value.cells] at g0 g1 g2
    rw [List.getElem?_eq_getElem (by rw [hxl]; decide)] at g0 g1 g2
    obtain ⟨ts, e0⟩ := openTk g0
    obtain ⟨ls, e1⟩ := openInts g1
    obtain ⟨cs, e2⟩ := openInts g2
    exact ⟨c0, c1, c2, ts, ls, cs, rfl, e0, e1, e2⟩
theorem openTalk {v : Value} {d : DataW H} {p : List MemPlace} {r : Reach} {b0 : Nat} (hval : Value.okWide Tryd.prog W r b0 52 v) (h : DataW.Trod enc Tryd.prog W base (fun _ => true) held 52 v d p) : ∃ x0 x1 x2 : Int, v = .agg #[.int .i64 x0, .int .i64 x1, .int .i64 x2] := by
  obtain ⟨cells, rfl, hsz⟩ := okWide_struct (P := Tryd.prog) (t := 52) Tryd.underlying52 hval
  obtain ⟨fuel, hf⟩ := h
  obtain ⟨xs, k, -, -, hl, hxl, hx⟩ := DataW.trod_struct Tryd.underlying52 hf
  rw [cellsTk] at hsz
  obtain ⟨l⟩ := cells
  simp [Value.cells] at hl hsz
  match l, hsz with
  | [c0, c1, c2], _ =>
    have g0 := hx 0 _ rfl
    have g1 := hx 1 _ rfl
    have g2 := hx 2 _ rfl
    simp [cells3, Value.cells] at g0 g1 g2
    rw [List.getElem?_eq_getElem (by rw [hxl]; decide)] at g0 g1 g2
    obtain ⟨i0, f0, -⟩ := DataW.trod_int Tryd.underlying3 g0
    obtain ⟨i1, f1, -⟩ := DataW.trod_int Tryd.underlying3 g1
    obtain ⟨i2, f2, -⟩ := DataW.trod_int Tryd.underlying3 g2
    simp at f0 f1 f2
    subst f0 f1 f2
    exact ⟨i0, i1, i2, rfl⟩
end

end Go.Proofs.YtmfmlbiplagmiaaDoor

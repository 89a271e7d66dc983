/- An argument that is a link, opened; no condition. -/
import Derived.Test.YtejoopdpelcpeaaLkD
import Derived.Deep.SlicePairs
namespace Go.Proofs.Ytejoopdpelcpeaa
open Go.RowKit Go.ChangeShapes Go.WideShapes Go.ChangeAt
set_option linter.unusedVariables false
set_option linter.unusedSimpArgs false
set_option maxRecDepth 8000
theorem cells173 : Try.prog.cellsOf 173 = 3 := by kernel_rfl
theorem cells3 : Try.prog.cellsOf 3 = 1 := by kernel_rfl
theorem cells9 : Try.prog.cellsOf 9 = 1 := by kernel_rfl
theorem cells24 : Try.prog.cellsOf 24 = 1 := by kernel_rfl
theorem cells43 : Try.prog.cellsOf 43 = 1 := by kernel_rfl
theorem cells44 : Try.prog.cellsOf 44 = 2 := by kernel_rfl
theorem cells45 : Try.prog.cellsOf 45 = 4 := by kernel_rfl
theorem cells41 : Try.prog.cellsOf 41 = 5 := by kernel_rfl
theorem cells42 : Try.prog.cellsOf 42 = 10 := by kernel_rfl
theorem cells47 : Try.prog.cellsOf 47 = 15 := by kernel_rfl
theorem addr_add (b off : Nat) (k : Nat) : (⟨b, off, none⟩ : Addr).add k = ⟨b, off + k, none⟩ := by unfold Addr.add; split <;> simp_all
section
variable {H : Type} {enc : TypeId × Value → H} {W : World} {base : Nat} {held : Bool}
theorem openTexts {fuel : Nat} {v : Value} {x : DataW H × List MemPlace} (h : DataW.trod enc Try.prog W base (fun _ => true) held fuel 24 [v] = some x) : ∃ ls, Rx W v ls ∧ ∀ r ∈ ls, r.size ≤ maxLen := by
  rcases Go.Deep.open_slice Try.underlying24 h with ⟨hcs, _⟩ | ⟨a, len, cap, m, n, D, Pl, hcs, _, hl, hm, hmm, _, hx⟩
  · simp at hcs; subst hcs
    exact ⟨[], ⟨none, 0, rfl, by simp, by simp, .inl rfl⟩, by simp⟩
  · simp at hcs; subst hcs
    have hmc : m = cap := by simpa using hmm
    subst hmc
    have each : ∀ i, i < len → ∃ q : ByteArray, W.cell? (a.add i) = some (.string q) ∧ q.size ≤ maxLen := by
      intro i hi
      obtain ⟨cs', g1, g2⟩ := hx i (by omega)
      rw [cells9] at g1
      obtain ⟨_, hlen, hcell⟩ := World.cells?_some g1
      match cs', hlen with
      | [v0], _ =>
        have e0 := hcell 0 (by omega)
        rw [Go.Deep.add_add] at e0
        obtain ⟨z0, t0, -, s0⟩ := DataW.trod_string Try.underlying9 g2
        simp at t0
        subst t0
        exact ⟨z0, by simpa using e0, s0⟩
    obtain ⟨q, hq⟩ := Go.Deep.choose_lt each
    refine ⟨(List.range len).map q, ⟨some a, m, by simp, by simpa using hl, hm, ?_⟩, fun r hr => ?_⟩
    · by_cases h0 : len = 0
      · left; subst h0; simp
      · right
        obtain ⟨b, off, spot⟩ := a
        have hspot : spot = none := by
          have := World.cell?_spot (hq 0 (by omega)).1
          simpa [Addr.add] using this
        subst hspot
        refine ⟨b, off, rfl, fun i hi => ?_⟩
        have hi' : i < len := by simpa using hi
        have := (hq i hi').1
        rw [addr_add] at this
        simpa [Nat.add_assoc] using this
    · obtain ⟨i, hi, rfl⟩ := List.mem_map.1 hr
      exact (hq i (List.mem_range.1 hi)).2
theorem openUnits {fuel : Nat} {v : Value} {x : DataW H × List MemPlace} (h : DataW.trod enc Try.prog W base (fun _ => true) held fuel 43 [v] = some x) : ∃ ls, Ru W v ls ∧ ∀ r ∈ ls, r.dat.size ≤ maxLen := by
  rcases Go.Deep.open_slice Try.underlying43 h with ⟨hcs, _⟩ | ⟨a, len, cap, m, n, D, Pl, hcs, _, hl, hm, hmm, _, hx⟩
  · simp at hcs; subst hcs
    exact ⟨[], ⟨none, 0, rfl, by simp, by simp, .inl rfl⟩, by simp⟩
  · simp at hcs; subst hcs
    have hmc : m = cap := by simpa using hmm
    subst hmc
    have each : ∀ i, i < len → ∃ q : Un, (W.cell? (a.add (i * 3)) = some (.int .i64 q.ack) ∧ W.cell? (a.add (i * 3 + 1)) = some (.int .i64 q.seq) ∧ W.cell? (a.add (i * 3 + 2)) = some (.string q.dat)) ∧ q.dat.size ≤ maxLen := by
      intro i hi
      obtain ⟨cs', g1, g2⟩ := hx i (by omega)
      rw [cells173] at g1
      obtain ⟨_, hlen, hcell⟩ := World.cells?_some g1
      obtain ⟨xs, k, hk, hxy, _, hxl, hf⟩ := DataW.trod_struct Try.underlying173 g2
      match xs, hxl, cs', hlen with
      | [y0, y1, y2], _, [v0, v1, v2], _ =>
        have r0 := hf 0 _ rfl
        have r1 := hf 1 _ rfl
        have r2 := hf 2 _ rfl
        simp [cells3, cells9] at r0 r1 r2
        have e0 := hcell 0 (by omega)
        have e1 := hcell 1 (by omega)
        have e2 := hcell 2 (by omega)
        rw [Go.Deep.add_add] at e0 e1 e2
        obtain ⟨z0, t0, -⟩ := DataW.trod_int Try.underlying3 r0
        obtain ⟨z1, t1, -⟩ := DataW.trod_int Try.underlying3 r1
        obtain ⟨z2, t2, -, s2⟩ := DataW.trod_string Try.underlying9 r2
        simp at t0 t1 t2
        subst t0 t1 t2
        exact ⟨⟨z0, z1, z2⟩, ⟨by simpa using e0, by simpa using e1, by simpa using e2⟩, s2⟩
    obtain ⟨q, hq⟩ := Go.Deep.choose_lt each
    refine ⟨(List.range len).map q, ⟨some a, m, by simp, by simpa using hl, hm, ?_⟩, fun r hr => ?_⟩
    · by_cases h0 : len = 0
      · left; subst h0; simp
      · right
        obtain ⟨b, off, spot⟩ := a
        have hspot : spot = none := by
          have := World.cell?_spot (hq 0 (by omega)).1.1
          simpa [Addr.add] using this
        subst hspot
        refine ⟨b, off, rfl, fun i hi => ?_⟩
        have hi' : i < len := by simpa using hi
        have := (hq i hi').1
        rw [addr_add, addr_add, addr_add] at this
        simpa [Nat.add_assoc] using this
    · obtain ⟨i, hi, rfl⟩ := List.mem_map.1 hr
      exact (hq i (List.mem_range.1 hi)).2
theorem openEnd {fuel : Nat} {c0 c1 c2 c3 c4 : Value} {x : DataW H × List MemPlace} (h : DataW.trod enc Try.prog W base (fun _ => true) held fuel 41 [c0, c1, c2, c3, c4] = some x) : ∃ s a t zo zi, (c1 = .int .i64 s ∧ c2 = .int .i64 a ∧ c3 = .int .i64 t) ∧ (Rx W c0 zo ∧ ∀ r ∈ zo, r.size ≤ maxLen) ∧ (Rx W c4 zi ∧ ∀ r ∈ zi, r.size ≤ maxLen) := by
  obtain ⟨xs, k, -, -, hl, hxl, hx⟩ := DataW.trod_struct Try.underlying41 h
  have g0 := hx 0 _ rfl
  have g1 := hx 1 _ rfl
  have g2 := hx 2 _ rfl
  have g3 := hx 3 _ rfl
  have g4 := hx 4 _ rfl
  simp [cells24, cells3] at g0 g1 g2 g3 g4
  rw [List.getElem?_eq_getElem (by rw [hxl]; decide)] at g0 g1 g2 g3 g4
  obtain ⟨zo, e0⟩ := openTexts g0
  obtain ⟨zi, e4⟩ := openTexts g4
  obtain ⟨i1, f1, -⟩ := DataW.trod_int Try.underlying3 g1
  obtain ⟨i2, f2, -⟩ := DataW.trod_int Try.underlying3 g2
  obtain ⟨i3, f3, -⟩ := DataW.trod_int Try.underlying3 g3
  simp at f1 f2 f3
  exact ⟨i1, i2, i3, zo, zi, ⟨f1, f2, f3⟩, e0, e4⟩
theorem openPair {fuel : Nat} {c0 c1 : Value} {x : DataW H × List MemPlace} (h : DataW.trod enc Try.prog W base (fun _ => true) held fuel 44 [c0, c1] = some x) : ∃ l0 l1, (Ru W c0 l0 ∧ ∀ r ∈ l0, r.dat.size ≤ maxLen) ∧ (Ru W c1 l1 ∧ ∀ r ∈ l1, r.dat.size ≤ maxLen) := by
  obtain ⟨ys, m, -, -, hl, hy, hz⟩ := DataW.trod_array Try.underlying44 h
  have a0 := hz 0 (by decide)
  have a1 := hz 1 (by decide)
  simp [cells43] at a0 a1
  rw [List.getElem?_eq_getElem (by rw [hy]; decide)] at a0 a1
  obtain ⟨l0, e0⟩ := openUnits a0
  obtain ⟨l1, e1⟩ := openUnits a1
  exact ⟨l0, l1, e0, e1⟩
theorem openLink {v : Value} {d : DataW H} {p : List MemPlace} {r : Reach} {b0 : Nat} (hval : Value.okWide Try.prog W r b0 47 v) (h : DataW.Trod enc Try.prog W base (fun _ => true) held 47 v d p) : ∃ vo0 vi0 vo1 vi1 v00 v01 v10 v11 s0 a0 t0 s1 a1 t1 u zo0 zi0 zo1 zi1 l00 l01 l10 l11, v = .agg (L15 vo0 vi0 vo1 vi1 v00 v01 v10 v11 s0 a0 t0 s1 a1 t1 u) ∧ Rl W vo0 vi0 vo1 vi1 v00 v01 v10 v11 zo0 zi0 zo1 zi1 l00 l01 l10 l11 ∧ Sl15 zo0 zi0 zo1 zi1 l00 l01 l10 l11 maxLen := by
  obtain ⟨cells, rfl, hsz⟩ := okWide_struct (P := Try.prog) (t := 47) Try.underlying47 hval
  obtain ⟨fuel, hf⟩ := h
  obtain ⟨xs, k, -, -, hl, hxl, hx⟩ := DataW.trod_struct Try.underlying47 hf
  rw [cells47] at hsz
  obtain ⟨l⟩ := cells
  simp [Value.cells] at hl hsz
  match l, hsz with
  | [c0, c1, c2, c3, c4, c5, c6, c7, c8, c9, c10, c11, c12, c13, c14], _ =>
    have g0 := hx 0 _ rfl
    have g1 := hx 1 _ rfl
    have g2 := hx 2 _ rfl
    simp [cells42, cells45, cells3, Value.cells] at g0 g1 g2
    rw [List.getElem?_eq_getElem (by rw [hxl]; decide)] at g0 g1 g2
    obtain ⟨ys0, m0, -, -, hl0, hy0, hz0⟩ := DataW.trod_array Try.underlying42 g0
    obtain ⟨ys1, m1, -, -, hl1, hy1, hz1⟩ := DataW.trod_array Try.underlying45 g1
    have a0 := hz0 0 (by decide)
    have a1 := hz0 1 (by decide)
    have b0 := hz1 0 (by decide)
    have b1 := hz1 1 (by decide)
    simp [cells41, cells44] at a0 a1 b0 b1
    rw [List.getElem?_eq_getElem (by rw [hy0]; decide)] at a0 a1
    rw [List.getElem?_eq_getElem (by rw [hy1]; decide)] at b0 b1
    obtain ⟨s0, k0, t0, zo0, zi0, ⟨rfl, rfl, rfl⟩, e0, e1⟩ := openEnd a0
    obtain ⟨s1, k1, t1, zo1, zi1, ⟨rfl, rfl, rfl⟩, e2, e3⟩ := openEnd a1
    obtain ⟨l00, l01, e4, e5⟩ := openPair b0
    obtain ⟨l10, l11, e6, e7⟩ := openPair b1
    obtain ⟨u, f, -⟩ := DataW.trod_int Try.underlying3 g2
    simp at f
    subst f
    exact ⟨c0, c4, c5, c9, c10, c11, c12, c13, s0, k0, t0, s1, k1, t1, u, zo0, zi0, zo1, zi1, l00, l01, l10, l11, rfl, ⟨e0.1, e1.1, e2.1, e3.1, e4.1, e5.1, e6.1, e7.1⟩, ⟨e0.2, e1.2, e2.2, e3.2, e4.2, e5.2, e6.2, e7.2⟩⟩
end
end Go.Proofs.Ytejoopdpelcpeaa

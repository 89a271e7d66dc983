/- An argument that is a panel, opened: it reads as a number and calls with their legs; no condition. -/
import Derived.Test.YtcbeaimpmjljjaaPanE
import Derived.Deep.SlicePairs
import Derived.Test.YtcbeaimpmjljjaaSl
namespace Go.Proofs.Ytcbeaimpmjljjaa
open Go.RowKit Go.ChangeShapes Go.WideShapes Go.ChangeAt
set_option linter.unusedVariables false
set_option linter.unusedSimpArgs false
set_option maxRecDepth 8000
theorem cells169 : Try.prog.cellsOf 169 = 2 := by kernel_rfl
theorem cells135 : Try.prog.cellsOf 135 = 2 := by kernel_rfl
theorem cells3 : Try.prog.cellsOf 3 = 1 := by kernel_rfl
theorem cells4 : Try.prog.cellsOf 4 = 1 := by kernel_rfl
theorem cells133 : Try.prog.cellsOf 133 = 1 := by kernel_rfl
theorem cells53 : Try.prog.cellsOf 53 = 1 := by kernel_rfl
theorem cells55 : Try.prog.cellsOf 55 = 2 := by kernel_rfl
theorem addr_add (b off : Nat) (k : Nat) : (⟨b, off, none⟩ : Addr).add k = ⟨b, off + k, none⟩ := by unfold Addr.add; split <;> simp_all
section
variable {H : Type} {enc : TypeId × Value → H} {W : World} {base : Nat} {held : Bool}
theorem openLegs {fuel : Nat} {v : Value} {x : DataW H × List MemPlace} (h : DataW.trod enc Try.prog W base (fun _ => true) held fuel 133 [v] = some x) : ∃ ls, Rp lf lg W v ls := by
  rcases Go.Deep.open_slice_pairs Try.underlying133 Try.underlying169 cells169 rfl rfl cells3 cells4 h with ⟨hcs, _⟩ | ⟨a, len, cap, m, n, V0, V1, D0, D1, P0, P1, hcs, _, hl, hm, hmm, _, hx⟩
  · simp at hcs; subst hcs
    exact ⟨[], none, 0, rfl, by simp, by simp, .inl rfl⟩
  · simp at hcs; subst hcs
    have hmc : m = cap := by simpa using hmm
    subst hmc
    have each : ∀ i, i < len → ∃ q : Int × Bool, V0 i = .int .i64 q.1 ∧ V1 i = .bool q.2 := by
      intro i hi
      obtain ⟨h1, h2, h3, h4⟩ := hx i (by omega)
      obtain ⟨z, e0, -⟩ := DataW.trod_int Try.underlying3 h3
      obtain ⟨b, e1, -⟩ := DataW.trod_bool Try.underlying4 h4
      exact ⟨(z, b), by simpa using e0, by simpa using e1⟩
    obtain ⟨q, hq⟩ := Go.Deep.choose_lt each
    refine ⟨(List.range len).map q, some a, m, by simp, by simpa using hl, hm, ?_⟩
    by_cases h0 : len = 0
    · left; subst h0; simp
    · right
      obtain ⟨b, off, spot⟩ := a
      have hspot : spot = none := by
        have := World.cell?_spot (hx 0 (by omega)).1
        simpa [Addr.add] using this
      subst hspot
      refine ⟨b, off, rfl, fun i hi => ?_⟩
      have hi' : i < len := by simpa using hi
      obtain ⟨h1, h2, -⟩ := hx i (by omega)
      rw [addr_add] at h1 h2
      have := hq i hi'
      refine ⟨?_, ?_⟩
      · rw [h1]; simp [lf, this.1]
      · rw [Nat.add_assoc, h2]; simp [lg, this.2]
theorem openCalls {fuel : Nat} {v : Value} {x : DataW H × List MemPlace} (h : DataW.trod enc Try.prog W base (fun _ => true) held fuel 53 [v] = some x) : ∃ cs, RdC W v cs := by
  rcases Go.Deep.open_slice_pairs Try.underlying53 Try.underlying135 cells135 rfl rfl cells4 cells133 h with ⟨hcs, _⟩ | ⟨a, len, cap, m, n, V0, V1, D0, D1, P0, P1, hcs, _, hl, hm, hmm, _, hx⟩
  · simp at hcs; subst hcs
    exact ⟨[], [], rfl, ⟨none, 0, rfl, by simp, by simp, .inl rfl⟩, fun i hi => by simp at hi⟩
  · simp at hcs; subst hcs
    have hmc : m = cap := by simpa using hmm
    subst hmc
    have each : ∀ i, i < len → ∃ q : Bool × List (Int × Bool), V0 i = .bool q.1 ∧ Rp lf lg W (V1 i) q.2 := by
      intro i hi
      obtain ⟨h1, h2, h3, h4⟩ := hx i (by omega)
      obtain ⟨b, e0, -⟩ := DataW.trod_bool Try.underlying4 h3
      obtain ⟨ls, e1⟩ := openLegs h4
      exact ⟨(b, ls), by simpa using e0, e1⟩
    obtain ⟨q, hq⟩ := Go.Deep.choose_lt each
    refine ⟨(List.range len).map q, (List.range len).map fun i => (V0 i, V1 i), by simp, ⟨some a, m, by simp, by simpa using hl, hm, ?_⟩, fun i hi hi' => ?_⟩
    · by_cases h0 : len = 0
      · left; subst h0; simp
      · right
        obtain ⟨b, off, spot⟩ := a
        have hspot : spot = none := by
          have := World.cell?_spot (hx 0 (by omega)).1
          simpa [Addr.add] using this
        subst hspot
        refine ⟨b, off, rfl, fun i hi => ?_⟩
        have hi' : i < len := by simpa using hi
        obtain ⟨h1, h2, -⟩ := hx i (by omega)
        rw [addr_add] at h1 h2
        refine ⟨?_, ?_⟩
        · rw [h1]; simp
        · rw [Nat.add_assoc, h2]; simp
    · have hi2 : i < len := by simpa using hi
      simpa using hq i hi2
theorem openPanel {v : Value} {d : DataW H} {p : List MemPlace} {r : Reach} {b0 : Nat} (hval : Value.okWide Try.prog W r b0 55 v) (h : DataW.Trod enc Try.prog W base (fun _ => true) held 55 v d p) : ∃ n sv cs, v = .agg #[.int .i64 n, sv] ∧ RdC W sv cs := by
  obtain ⟨cells, rfl, hsz⟩ := okWide_struct (P := Try.prog) (t := 55) Try.underlying55 hval
  obtain ⟨fuel, hf⟩ := h
  obtain ⟨xs, k, -, -, hl, hxl, hx⟩ := DataW.trod_struct Try.underlying55 hf
  rw [cells55] at hsz
  obtain ⟨l⟩ := cells
  simp [Value.cells] at hl hsz
  match l, hsz with
  | [c0, c1], _ =>
    have g0 := hx 0 _ rfl
    have g1 := hx 1 _ rfl
    simp [cells3, cells53, Value.cells] at g0 g1
    rw [List.getElem?_eq_getElem (by rw [hxl]; decide)] at g0 g1
    obtain ⟨z, e0, -⟩ := DataW.trod_int Try.underlying3 g0
    obtain ⟨cs, e1⟩ := openCalls g1
    exact ⟨z, c1, cs, by simpa using e0, e1⟩
end
end Go.Proofs.Ytcbeaimpmjljjaa
namespace Go.Proofs.Ytcbeaimpmjljjaa
open Go.RowKit Go.ChangeShapes Go.WideShapes Go.ChangeAt
set_option linter.unusedVariables false
set_option linter.unusedSimpArgs false
theorem openRow {H : Type} {enc : TypeId × Value → H} {W : World} {base : Nat} {held : Bool} {T E : TypeId} {k : IntKind} {a : Option Addr} {len cap : Nat} {d : DataW H} {p : List MemPlace}
    (hT : Try.prog.underlying T = some (.slice E)) (hE : Try.prog.underlying E = some (.int k)) (hce : Try.prog.cellsOf E = 1)
    (h : DataW.Trod enc Try.prog W base (fun _ => true) held T (.slice a len cap) d p) : ∃ zs, Rd k W (.slice a len cap) zs ∧ ∀ z ∈ zs, (Lit.int k z).wf = true := by
  obtain ⟨fuel, hf⟩ := h
  rcases open_ints hT hE hce hf with ⟨hcs, _⟩ | ⟨x, l, c, zs, hcs, _, hl, hm, hz, _, hcell, hwz⟩
  · simp [Value.cells] at hcs
    obtain ⟨rfl, rfl, rfl⟩ := hcs
    exact ⟨[], ⟨none, 0, rfl, by simp, by simp, .inl rfl⟩, by simp⟩
  · simp [Value.cells] at hcs
    obtain ⟨rfl, rfl, rfl⟩ := hcs
    have hz : zs.length = cap := by simpa using hz
    have hlen : (zs.take len).length = len := by simp; omega
    refine ⟨zs.take len, ⟨_, cap, by rw [hlen], by omega, hm, ?_⟩, fun z hz => hwz z (List.mem_of_mem_take hz)⟩
    by_cases h0 : len = 0
    · left; subst h0; simp
    · right
      obtain ⟨b, off, spot⟩ := x
      have hc := hcell 0 (by omega)
      have hspot : spot = none := by simpa [Addr.add] using World.cell?_spot hc
      subst hspot
      refine ⟨b, off, rfl, fun i hi => ?_⟩
      have := hcell i (by omega)
      have hadd : (⟨b, off, none⟩ : Addr).add i = ⟨b, off + i, none⟩ := by unfold Addr.add; split <;> simp_all
      rw [hadd] at this
      rw [this]
      simp [List.getElem?_take, show i < len by omega]
end Go.Proofs.Ytcbeaimpmjljjaa

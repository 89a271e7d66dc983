/- Arguments of packets and players, opened; no condition. -/
import Derived.Test.YtkjfcebdjnclaaaDoorPlo
import Derived.Deep.SlicePairs
import Derived.Deep.Strs
namespace Go.Proofs.YtkjfcebdjnclaaaDoor
open Go.RowKit Go.ChangeShapes Go.WideShapes Go.ChangeAt
set_option linter.unusedVariables false
set_option linter.unusedSimpArgs false
set_option maxRecDepth 8000

theorem cellsLp : Tryd.prog.cellsOf 105 = 18 := by kernel_rfl
theorem cells3 : Tryd.prog.cellsOf 3 = 1 := by kernel_rfl
theorem cellsLs : Tryd.prog.cellsOf 61 = 1 := by kernel_rfl
theorem cellsLpl : Tryd.prog.cellsOf 63 = 6 := by kernel_rfl
theorem addr_add (b off : Nat) (k : Nat) : (⟨b, off, none⟩ : Addr).add k = ⟨b, off + k, none⟩ := by unfold Addr.add; split <;> simp_all
/-- the bytes of a frame are bytes -/
def PkBy (k : Pk) : Prop := ∀ i, i < 16 → 0 ≤ k.f i ∧ k.f i ≤ 255
instance : Inhabited Pk := ⟨zPk⟩
section
variable {H : Type} {enc : TypeId × Value → H} {W : World} {base : Nat} {held : Bool}
theorem openFrame {fuel : Nat} {cs : List Value} {x : DataW H × List MemPlace} (h : DataW.trod enc Tryd.prog W base (fun _ => true) held fuel 32 cs = some x) (hl : cs.length = 16) : ∃ f : Nat → Int, cs = frF f ∧ ∀ i, i < 16 → 0 ≤ f i ∧ f i ≤ 255 := by
  obtain ⟨xs, m, _, _, _, hxl, hx⟩ := DataW.trod_array Tryd.underlying32 h
  have key : ∀ i, i < 16 → ∃ z : Int, cs[i]? = some (.int .u8 z) ∧ 0 ≤ z ∧ z ≤ 255 := by
    intro i hi
    have := hx i hi
    rw [List.getElem?_eq_getElem (by omega), cellsB] at this
    obtain ⟨z, e0, e1, wz⟩ := DataW.trod_int Tryd.underlying5 this
    refine ⟨z, ?_, bounds_u8 wz⟩
    have e3 : ((cs.drop (i * 1)).take 1)[0]? = some (.int .u8 z) := by rw [e0]; rfl
    simpa using e3
  obtain ⟨f, hf⟩ := Go.Deep.choose_lt key
  refine ⟨f, ?_, fun i hi => (hf i hi).2⟩
  apply List.ext_getElem?
  intro i
  by_cases hi : i < 16
  · rw [frF_at f i hi]; exact (hf i hi).1
  · rw [List.getElem?_eq_none (by omega), List.getElem?_eq_none (by rw [frF_len]; omega)]
theorem openPk1 {fuel : Nat} {cs : List Value} {x : DataW H × List MemPlace} (h : DataW.trod enc Tryd.prog W base (fun _ => true) held fuel 105 cs = some x) (hl : cs.length = 18) : ∃ k : Pk, cs = pkC k ∧ PkBy k := by
  obtain ⟨y0, y1, y2, n, -, -, h0, h1, h2⟩ := Go.Deep.trod_struct3 Tryd.underlying105 h
  simp only [cells3, cellsF] at h0 h1 h2
  obtain ⟨z0, t0, -⟩ := DataW.trod_int Tryd.underlying3 h0
  obtain ⟨z1, t1, -⟩ := DataW.trod_int Tryd.underlying3 h1
  obtain ⟨f, t2, hb⟩ := openFrame h2 (by simp; omega)
  have hlf := congrArg List.length t2
  match cs, hl with
  | a :: b :: r, hl =>
    simp at t0 t1 t2
    rw [List.take_of_length_le (by simp at hl; omega)] at t2
    subst t0 t1 t2
    exact ⟨⟨z0, z1, f⟩, rfl, hb⟩
theorem openPks {fuel : Nat} {v : Value} {x : DataW H × List MemPlace} (h : DataW.trod enc Tryd.prog W base (fun _ => true) held fuel 61 [v] = some x) : ∃ ls, Rg 18 pkC W v ls ∧ ∀ k ∈ ls, PkBy k := by
  rcases Go.Deep.open_slice Tryd.underlying61 h with ⟨hcs, _⟩ | ⟨a, len, cap, m, n, D, Pl, hcs, _, hl, hm, hmm, _, hx⟩
  · simp at hcs; subst hcs
    exact ⟨[], ⟨none, 0, rfl, by simp, by simp, .inl rfl⟩, by simp⟩
  · simp at hcs; subst hcs
    have hmc : m = cap := by simpa using hmm
    subst hmc
    have each : ∀ i, i < len → ∃ k : Pk, (∀ j u, (pkC k)[j]? = some u → W.cell? ((a.add (i * 18)).add j) = some u) ∧ PkBy k := by
      intro i hi
      obtain ⟨cs', g1, g2⟩ := hx i (by omega)
      rw [cellsLp] at g1
      obtain ⟨_, hlen, hcell⟩ := World.cells?_some g1
      obtain ⟨k, rfl, hb⟩ := openPk1 g2 hlen
      refine ⟨k, fun j u hu => ?_, hb⟩
      have hj : j < 18 := by have := (List.getElem?_eq_some_iff.1 hu).1; rw [pkC_len] at this; exact this
      rw [← hu, ← hcell j hj]

    obtain ⟨q, hq⟩ := Go.Deep.choose_lt each
    refine ⟨(List.range len).map q, ⟨some a, m, by simp, by simpa using hl, hm, ?_⟩, ?_⟩
    · by_cases h0 : len = 0
      · left; subst h0; simp
      · right
        obtain ⟨b, off, spot⟩ := a
        have hspot : spot = none := by
          have := World.cell?_spot ((hq 0 (by omega)).1 0 _ rfl)
          simpa [Addr.add] using this
        subst hspot
        refine ⟨b, off, rfl, fun i hi => ?_⟩
        have hi' : i < len := by simpa using hi
        intro j u hu
        have := (hq i hi').1 j u (by simpa using hu)
        rw [addr_add, addr_add] at this
        exact this
    · intro k hk
      obtain ⟨i, hi, rfl⟩ := List.mem_map.1 hk
      exact (hq i (by simpa using hi)).2
theorem openPlayer {v : Value} {d : DataW H} {p : List MemPlace} {r : Reach} {b0 : Nat} (hval : Value.okWide Tryd.prog W r b0 63 v) (h : DataW.Trod enc Tryd.prog W base (fun _ => true) held 63 v d p) : ∃ pl sv ls, v = .agg (plA pl sv) ∧ Rg 18 pkC W sv ls ∧ ∀ k ∈ ls, PkBy k := by
  obtain ⟨cells, rfl, hsz⟩ := okWide_struct (P := Tryd.prog) (t := 63) Tryd.underlying63 hval
  obtain ⟨fuel, hf⟩ := h
  obtain ⟨xs, k, -, -, hl, hxl, hx⟩ := DataW.trod_struct Tryd.underlying63 hf
  rw [cellsLpl] at hsz
  obtain ⟨l⟩ := cells
  simp [Value.cells] at hl hsz
  match l, hsz with
  | [c0, c1, c2, c3, c4, c5], _ =>
    have g0 := hx 0 _ rfl
    have g1 := hx 1 _ rfl
    have g2 := hx 2 _ rfl
    have g3 := hx 3 _ rfl
    have g4 := hx 4 _ rfl
    have g5 := hx 5 _ rfl
    simp [cells3, cellsLs, Value.cells] at g0 g1 g2 g3 g4 g5
    rw [List.getElem?_eq_getElem (by rw [hxl]; decide)] at g0 g1 g2 g3 g4 g5
    obtain ⟨i0, f0, -⟩ := DataW.trod_int Tryd.underlying3 g0
    obtain ⟨i1, f1, -⟩ := DataW.trod_int Tryd.underlying3 g1
    obtain ⟨i2, f2, -⟩ := DataW.trod_int Tryd.underlying3 g2
    obtain ⟨i3, f3, -⟩ := DataW.trod_int Tryd.underlying3 g3
    obtain ⟨i4, f4, -⟩ := DataW.trod_int Tryd.underlying3 g4
    obtain ⟨ls, e5, hb⟩ := openPks g5
    simp at f0 f1 f2 f3 f4
    subst f0 f1 f2 f3 f4
    exact ⟨⟨i0, i1, i2, i3, i4⟩, c5, ls, rfl, e5, hb⟩
end

end Go.Proofs.YtkjfcebdjnclaaaDoor

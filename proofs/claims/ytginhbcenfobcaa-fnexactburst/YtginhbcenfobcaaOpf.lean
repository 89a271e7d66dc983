/- Arguments of samples and wide ones, opened; no condition. -/
import Derived.Test.YtginhbcenfobcaaSmp
import Derived.Test.YtginhbcenfobcaaFlt
import Derived.Deep.SlicePairs
import Derived.Deep.Strs
namespace Go.Proofs.Ytginhbcenfobcaa
open Go.RowKit Go.ChangeShapes Go.WideShapes Go.ChangeAt
set_option linter.unusedVariables false
set_option linter.unusedSimpArgs false
set_option maxRecDepth 8000
theorem cells24 : Try.prog.cellsOf 25 = 1 := by kernel_rfl
theorem cells28 : Try.prog.cellsOf 36 = 1 := by kernel_rfl
theorem cells50 : Try.prog.cellsOf 52 = 2 := by kernel_rfl
theorem trod_float {H : Type} {enc : TypeId × Value → H} {P : Program} {W : World} {base : Nat} {sp : Nat → Bool} {held : Bool} {fuel : Nat} {t : TypeId} {k : FloatKind} {v : Value} {x : DataW H × List MemPlace} (ht : P.underlying t = some (.float k)) (h : DataW.trod enc P W base sp held fuel t [v] = some x) : ∃ b, v = .float k b := by
  cases fuel with
  | zero => simp [DataW.trod] at h
  | succ n =>
    simp only [DataW.trod, ht] at h
    cases v <;> simp at h
    rename_i k' b
    refine ⟨b, ?_⟩
    first
      | (obtain ⟨h1, _⟩ := h; obtain ⟨h2, _⟩ := h1; rw [h2])
      | skip
/-- a sample's cells -/
def smC (k : Nat × Nat) : List Value := [.float .f32 k.1, .float .f32 k.2]
theorem smC_len (k : Nat × Nat) : (smC k).length = 2 := rfl
theorem addr_add (b off : Nat) (k : Nat) : (⟨b, off, none⟩ : Addr).add k = ⟨b, off + k, none⟩ := by unfold Addr.add; split <;> simp_all
section
variable {H : Type} {enc : TypeId × Value → H} {W : World} {base : Nat} {held : Bool}
theorem openSm {v : Value} {d : DataW H} {p : List MemPlace} {r : Reach} {b0 : Nat} (hval : Value.okWide Try.prog W r b0 52 v) (h : DataW.Trod enc Try.prog W base (fun _ => true) held 52 v d p) : ∃ a b, v = .agg #[.float .f32 a, .float .f32 b] := by
  obtain ⟨cells, rfl, hsz⟩ := okWide_struct (P := Try.prog) (t := 52) Try.underlying52 hval
  obtain ⟨fuel, hf⟩ := h
  obtain ⟨xs, m, -, -, hl, hxl, hx⟩ := DataW.trod_struct Try.underlying52 hf
  rw [cells50] at hsz
  obtain ⟨l⟩ := cells
  simp [Value.cells] at hl hsz
  match l, hsz with
  | [c0, c1], _ =>
    have g0 := hx 0 _ rfl
    have g1 := hx 1 _ rfl
    simp [cells24, Value.cells] at g0 g1
    rw [List.getElem?_eq_getElem (by rw [hxl]; decide)] at g0 g1
    obtain ⟨b0, rfl⟩ := trod_float Try.underlying25 g0
    obtain ⟨b1, rfl⟩ := trod_float Try.underlying25 g1
    exact ⟨b0, b1, rfl⟩
theorem openSm1 {fuel : Nat} {cs : List Value} {x : DataW H × List MemPlace} (h : DataW.trod enc Try.prog W base (fun _ => true) held fuel 52 cs = some x) (hl : cs.length = 2) : ∃ k : Nat × Nat, cs = smC k := by
  obtain ⟨xs, m, -, -, hl', hxl, hx⟩ := DataW.trod_struct Try.underlying52 h
  match cs, hl with
  | [c0, c1], _ =>
    have g0 := hx 0 _ rfl
    have g1 := hx 1 _ rfl
    simp [cells24] at g0 g1
    rw [List.getElem?_eq_getElem (by rw [hxl]; decide)] at g0 g1
    obtain ⟨b0, rfl⟩ := trod_float Try.underlying25 g0
    obtain ⟨b1, rfl⟩ := trod_float Try.underlying25 g1
    exact ⟨(b0, b1), rfl⟩
theorem openSms {fuel : Nat} {v : Value} {x : DataW H × List MemPlace} (h : DataW.trod enc Try.prog W base (fun _ => true) held fuel 51 [v] = some x) : ∃ ls, Rg 2 smC W v ls := by
  rcases Go.Deep.open_slice Try.underlying51 h with ⟨hcs, _⟩ | ⟨a, len, cap, m, n, D, Pl, hcs, _, hl, hm, hmm, _, hx⟩
  · simp at hcs; subst hcs
    exact ⟨[], none, 0, rfl, by simp, by simp, .inl rfl⟩
  · simp at hcs; subst hcs
    have hmc : m = cap := by simpa using hmm
    subst hmc
    have each : ∀ i, i < len → ∃ k : Nat × Nat, (∀ j u, (smC k)[j]? = some u → W.cell? ((a.add (i * 2)).add j) = some u) := by
      intro i hi
      obtain ⟨cs', g1, g2⟩ := hx i (by omega)
      rw [cells50] at g1
      obtain ⟨_, hlen, hcell⟩ := World.cells?_some g1
      obtain ⟨k, rfl⟩ := openSm1 g2 hlen
      refine ⟨k, fun j u hu => ?_⟩
      have hj : j < 2 := by have := (List.getElem?_eq_some_iff.1 hu).1; rw [smC_len] at this; exact this
      rw [← hu, ← hcell j hj]
    obtain ⟨q, hq⟩ := Go.Deep.choose_lt each
    refine ⟨(List.range len).map q, some a, m, by simp, by simpa using hl, hm, ?_⟩
    by_cases h0 : len = 0
    · left; subst h0; simp
    · right
      obtain ⟨b, off, spot⟩ := a
      have hspot : spot = none := by
        have := World.cell?_spot ((hq 0 (by omega)) 0 _ rfl)
        simpa [Addr.add] using this
      subst hspot
      refine ⟨b, off, rfl, fun i hi => ?_⟩
      have hi' : i < len := by simpa using hi
      intro j u hu
      have := (hq i hi') j u (by simpa using hu)
      rw [addr_add, addr_add] at this
      exact this
end

end Go.Proofs.Ytginhbcenfobcaa
